/- Read off the code by the clean reading. -/
import Derived.Test.YtmgelikgcfjhhaaGreatClnEk
import Derived.Test.YtmgelikgcfjhhaaGreatClnQc
set_option linter.unusedVariables false
set_option linter.unusedSimpArgs false
set_option linter.deprecated false
set_option maxRecDepth 100000
namespace Go.Proofs.YtmgelikgcfjhhaaGreat
open Go.ChangeShapes Go.WideShapes Go.ChangeAt Go.RowKit Go.Cln
namespace ae
set_option linter.unusedVariables false
noncomputable section
def conjL : Prop → List Prop → Prop
  | a, [] => a
  | a, p :: l => conjL (a ∧ p) l
theorem conjL_all : ∀ {l : List Prop} {a : Prop}, a → (∀ p ∈ l, p) → conjL a l
  | [], _, ha, _ => ha
  | p :: l, _, ha, h => conjL_all (l := l) ⟨ha, h p (by simp)⟩ fun q hq => h q (by simp [hq])
def cD (b : Nat → Int) (i : Nat) : Int := orI .u8 (w8 (b i * 2 ^ 1)) ((b (i + 1)).fdiv (2 ^ 7))
def rD (b : Nat → Int) (i : Nat) : Int := w8 (w8 (b i * 2) + w8 ((b (i + 1)).tdiv 128))
def cT (b : Nat → Int) (i : Nat) : Int := if i < 15 then cD b i else xr8 (w8 (b i * 2 ^ 1)) 135
def cF (b : Nat → Int) (i : Nat) : Int := if i < 15 then cD b i else w8 (b i * 2 ^ 1)
def rT (b : Nat → Int) (i : Nat) : Int := if i < 15 then rD b i else xr8 (w8 (b i * 2)) 135
def rF (b : Nat → Int) (i : Nat) : Int := if i < 15 then rD b i else w8 (b i * 2)
def q24T (b : Nat → Int) : Prop := conjL True ((((andI .u8 (b 0) 128 == 128) = true) : Prop) :: ((List.range 15).map fun i => (andI .u8 (b (i + 1)) 0 == 0) = true))
def o24T : List (Option Bool) := nn 145 ++ List.replicate 16 (some true)
def o24F : List (Option Bool) := nn 145 ++ [some false]
def o26T : List (Option Bool) := nn 111 ++ [some true]
def o26F : List (Option Bool) := nn 111 ++ [some false]
theorem run24T (b : Nat → Int) : ((mk Tryz.prog Given.nothing 300).call 122 [row16 b] (St.start 0 .leaf o24T)).map (fun r => (r.1, r.2.obl)) = some (row16 (cT b), q24T b) := by kernel_rfl
theorem run24F (b : Nat → Int) : ((mk Tryz.prog Given.nothing 300).call 122 [row16 b] (St.start 0 .leaf o24F)).map (fun r => (r.1, r.2.obl)) = some (row16 (cF b), True ∧ (andI .u8 (b 0) 128 == 128) = false) := by kernel_rfl
theorem run26T (b : Nat → Int) : ((mk Tryz.prog Given.nothing 300).call 93 [row16 b] (St.start 0 .leaf o26T)).map (fun r => (r.1, r.2.obl)) = some (row16 (rT b), True ∧ decide (b 0 ≥ 128) = true) := by kernel_rfl
theorem run26F (b : Nat → Int) : ((mk Tryz.prog Given.nothing 300).call 93 [row16 b] (St.start 0 .leaf o26F)).map (fun r => (r.1, r.2.obl)) = some (row16 (rF b), True ∧ decide (b 0 ≥ 128) = false) := by kernel_rfl
theorem and128 : ∀ n : Fin 256, (andI .u8 (n.val : Int) 128 == 128) = decide ((n.val : Int) ≥ 128) := by decide +kernel
theorem and0 : ∀ n : Fin 256, (andI .u8 (n.val : Int) 0 == 0) = true := by decide +kernel
theorem byteD : ∀ n : Fin 256, ∀ c : Fin 2, orI .u8 (w8 ((n.val : Int) * 2 ^ 1)) (c.val : Int) = w8 (w8 ((n.val : Int) * 2) + (c.val : Int)) := by decide +kernel
def dF (b : Nat → Int) (i : Nat) : Int := if b 0 ≥ 128 then rT b i else rF b i
theorem cD_eq {b : Nat → Int} (hb : B16 b) {i : Nat} (hi : i < 15) : cD b i = rD b i := by
  obtain ⟨n, hn⟩ := fin_of (hb i (by omega)).1 (hb i (by omega)).2
  have h1 := hb (i + 1) (by omega)
  unfold cD rD
  have c : (b (i + 1)).fdiv (2 ^ 7) = b (i + 1) / 128 := Int.fdiv_eq_ediv_of_nonneg _ (by decide)
  have d : w8 ((b (i + 1)).tdiv 128) = b (i + 1) / 128 := by rw [Int.tdiv_eq_ediv_of_nonneg h1.1]; unfold w8; rw [IntKind.wrap_u8]; omega
  have f : b (i + 1) / 128 = (((⟨(b (i + 1) / 128).toNat, by omega⟩ : Fin 2).val : Nat) : Int) := by show _ = (((b (i + 1) / 128).toNat : Nat) : Int); omega
  rw [c, d, f, hn]
  exact byteD n _
theorem row16_congr {f g : Nat → Int} (h : ∀ j, j < 16 → f j = g j) : row16 f = row16 g := by
  have := R16_congr h
  exact congrArg (fun l => Value.agg l.toArray) this
theorem dF_in {b : Nat → Int} : B16 (dF b) := fun i _ => by
  unfold dF
  split
  · unfold rT; split; exact w8_in _; exact xr8_in _ _
  · unfold rF; split; exact w8_in _; exact w8_in _
theorem dbl24 (b : Nat → Int) (hb : B16 b) (W : World) : Calls Tryz.prog 122 #[row16 b] W fun e w' => e = .returned (row16 (dF b)) ∧ Below W.heap.size W w' := by
  obtain ⟨n0, h0⟩ := fin_of (hb 0 (by decide)).1 (hb 0 (by decide)).2
  have ha := and128 n0
  rw [← h0] at ha
  by_cases hc : b 0 ≥ 128
  · have := ranF pg (GivenOk.nothing _) (run24T b) (conjL_all trivial fun p hp => by
      rcases List.mem_cons.1 hp with rfl | hp
      · rw [ha]; simpa using hc
      · simp only [List.mem_map, List.mem_range] at hp
        obtain ⟨i, hi, rfl⟩ := hp
        obtain ⟨n, hn⟩ := fin_of (hb (i + 1) (by omega)).1 (hb (i + 1) (by omega)).2
        rw [hn]; exact and0 n) rfl rfl W
    have e : row16 (cT b) = row16 (dF b) := row16_congr fun j hj => by
      unfold dF cT rT
      rw [if_pos hc]
      split
      · exact cD_eq hb (by omega)
      · rfl
    rw [e] at this; exact this
  · have := ranF pg (GivenOk.nothing _) (run24F b) ⟨trivial, by rw [ha]; simpa using hc⟩ rfl rfl W
    have e : row16 (cF b) = row16 (dF b) := row16_congr fun j hj => by
      unfold dF cF rF
      rw [if_neg hc]
      split
      · exact cD_eq hb (by omega)
      · rfl
    rw [e] at this; exact this
theorem dbl26 (b : Nat → Int) (W : World) : Calls Tryz.prog 93 #[row16 b] W fun e w' => e = .returned (row16 (dF b)) ∧ Below W.heap.size W w' := by
  by_cases hc : b 0 ≥ 128
  · have := ranF pg (GivenOk.nothing _) (run26T b) ⟨trivial, by simpa using hc⟩ rfl rfl W
    have e : row16 (rT b) = row16 (dF b) := row16_congr fun j hj => by unfold dF; rw [if_pos hc]
    rw [e] at this; exact this
  · have := ranF pg (GivenOk.nothing _) (run26F b) ⟨trivial, by simpa using hc⟩ rfl rfl W
    have e : row16 (rF b) = row16 (dF b) := row16_congr fun j hj => by unfold dF; rw [if_neg hc]
    rw [e] at this; exact this
end
end ae
end Go.Proofs.YtmgelikgcfjhhaaGreat
namespace Go.Proofs.YtmgelikgcfjhhaaGreat
open Go.ChangeShapes Go.WideShapes Go.ChangeAt Go.RowKit Go.Cln
namespace ae
set_option linter.unusedVariables false
noncomputable section
structure CT where
  ks : LV → Nat → Int
  mkb : LV → LV → Nat → Int
  db : LV → Nat → Int
  rm : List Int → LV → Nat → Int
  bs : LV → Prop
  bk : List Int → Prop
def CT0 : CT := ⟨fun x => ksF BOX (intAt x), fun ks x => mkF BOX (intAt ks) (intAt x), fun x => dF (intAt x), fun K x => mkF BOX (ksF BOX (keyOf K)) (intAt x), fun x => B16 (intAt x), fun K => K.length = 16 ∧ B16 (keyOf K)⟩
def R176 (f : Nat → Int) : LV := rowV .u8 176 f
def FC (T : CT) (f : FuncId) (args : List Value) (s : St) : Option Inst := match args with
  | [.agg x] => if is16 x then
      (if f == 151 then some (flI [.agg x] (.agg (R176 (T.ks x.toList)).toArray) (T = CT0 ∧ T.bs x.toList))
      else if f == 122 then some (flI [.agg x] (row16 (T.db x.toList)) (T = CT0 ∧ T.bs x.toList))
      else if f == 93 then some (flI [.agg x] (row16 (T.db x.toList)) (T = CT0)) else none) else none
  | [.pointer (some ⟨c, 0, none⟩), .agg x] => if f == 121 then (match s.heap.get c with
    | some (.cells (.lit l) _) => match l.drop 176 with
      | [.bool true] => if isN 176 (l.take 176).toArray && is16 x then some ⟨[(c, 0)], 1, [some (.cells (.lit l) 228)], [P0 0 0, .agg x], .tuple #[row16 (T.mkb (l.take 176) x.toList), .int .i64 0], some (.cells (.lit l) 228) :: List.replicate 86 none, T = CT0⟩ else none
      | _ => none
    | _ => none) else none
  | [.slice (some ⟨b, o, none⟩) 16 c, .agg x] => if f == 73 then (if is16 x then match s.heap.get b with
    | some (.cells (.ints .u8 K) _) => some ⟨[(b, o)], 1, hK ((K.drop o).take 16), [.slice (some ⟨0, 0, none⟩) 16 c, .agg x], row16 (T.rm ((K.drop o).take 16) x.toList), hK' ((K.drop o).take 16), T = CT0 ∧ T.bk ((K.drop o).take 16)⟩
    | _ => none else none) else none
  | _ => none
theorem fit_win {s : St} {b o k : Nat} {L : List Int} {tb t2 : TypeId} {g : Option Nat} {n c : Nat} {i : Inst} {vs : List Value} (hb : s.heap.get b = some (.cells (.ints .u8 L) tb)) (hw : i.win = [(b, o)]) (hh : i.heap = [some (.cells (.ints .u8 ((L.drop o).take k)) t2)]) (ha : i.args = .slice (some ⟨0, 0, g⟩) n c :: vs) (hf : vs.all flat1 = true) :
    Fits s i (.slice (some ⟨b, o, g⟩) n c :: vs) := by
  refine ⟨?_, fun j pp ob h1 h2 => ?_⟩
  · rw [ha]
    have e1 : i.nu s.next 0 = b := by unfold Inst.nu; rw [hw]; rfl
    have e2 : i.del 0 = o := by unfold Inst.del; rw [hw]; rfl
    show Value.slice (some ⟨b, o, g⟩) n c :: vs = Value.slice (some ⟨i.nu s.next 0, addO (i.del 0) 0, g⟩) n c :: vs.map (mv (i.nu s.next) i.del)
    rw [e1, e2, addO_eq, mv_flats _ _ hf]; rfl
  · rw [hw] at h1
    rw [hh] at h2
    rcases j with _ | j
    · simp only [List.getElem?_cons_zero, Option.some.injEq] at h1 h2
      subst h1; subst h2
      exact ⟨_, hb, fit_ints⟩
    · simp at h1
theorem fit_obj {s : St} {b : Nat} {l : LV} {tb t2 : TypeId} {i : Inst} {vs : List Value} (hb : s.heap.get b = some (.cells (.lit l) tb)) (hw : i.win = [(b, 0)]) (hh : i.heap = [some (.cells (.lit l) t2)]) (ha : i.args = P0 0 0 :: vs) (hf : vs.all flat1 = true) (hl : l.all flat0 = true) :
    Fits s i (P0 b 0 :: vs) := by
  refine ⟨?_, fun j pp ob h1 h2 => ?_⟩
  · rw [ha]
    have e1 : i.nu s.next 0 = b := by unfold Inst.nu; rw [hw]; rfl
    have e2 : i.del 0 = 0 := by unfold Inst.del; rw [hw]; rfl
    show P0 b 0 :: vs = Value.pointer (some ⟨i.nu s.next 0, addO (i.del 0) 0, none⟩) :: vs.map (mv (i.nu s.next) i.del)
    rw [e1, e2, addO_eq, mv_flats _ _ hf]; rfl
  · rw [hw] at h1
    rw [hh] at h2
    rcases j with _ | j
    · simp only [List.getElem?_cons_zero, Option.some.injEq] at h1 h2
      subst h1; subst h2
      exact ⟨_, hb, fit_flat (fun x v hv => by rw [Nat.zero_add]; exact hv) hl⟩
    · simp at h1
theorem all_flat0 {n : Nat} {x : LV} (h : x.all (isKind .u8) = true) : x.all flat0 = true :=
  List.all_eq_true.2 fun v hv => by
    have := List.all_eq_true.1 h v hv
    revert this
    cases v <;> intro this <;> first | rfl | (simp [isKind] at this)
theorem FC_ok (T : CT) (f : FuncId) (args : List Value) (s : St) (i : Inst) (h : FC T f args s = some i) : Fits s i args ∧ (i.ask → CallOk Tryz.prog f i.args i.s0 i.val i.s1) := by
  unfold FC at h
  split at h
  · rename_i x
    split at h
    · rename_i hc
      have ex := is16_row hc
      have hfl : ([.agg x] : List Value).all flat1 = true := by rw [ex]; rfl
      split at h
      · rename_i hf
        have hf' : f = 151 := by simpa using hf
        subst hf'; cases h
        refine flI_ok hfl rfl fun hT W => ?_
        obtain ⟨rfl, hb⟩ := hT
        have := ks_ok (intAt x.toList) hb W
        unfold row16 at this
        rw [← ex] at this; exact this
      · split at h
        · rename_i hf
          have hf' : f = 122 := by simpa using hf
          subst hf'; cases h
          refine flI_ok hfl rfl fun hT W => ?_
          obtain ⟨rfl, hb⟩ := hT
          have := dbl24 (intAt x.toList) hb W
          unfold row16 at this
          rw [← ex] at this; exact this
        · split at h
          · rename_i hf
            have hf' : f = 93 := by simpa using hf
            subst hf'; cases h
            refine flI_ok hfl rfl fun hT W => ?_
            subst hT
            have := dbl26 (intAt x.toList) W
            unfold row16 at this
            rw [← ex] at this; exact this
          · cases h
    · cases h
  · rename_i c x
    split at h
    · rename_i hf
      have hf' : f = 121 := by simpa using hf
      subst hf'
      split at h
      · rename_i l tb hb
        split at h
        · rename_i hd
          split at h
          · rename_i hc
            rw [Bool.and_eq_true] at hc
            have ek := isN_row hc.1
            have ex := is16_row hc.2
            have el : l = R176 (intAt (l.take 176)) ++ [.bool true] := by
              have : l.take 176 = rowV .u8 176 (intAt (l.take 176)) := by
                have := congrArg Array.toList ek
                simpa using this
              conv => lhs; rw [← List.take_append_drop 176 l, hd, this]
              rfl
            have hl : l.all flat0 = true := by
              rw [el, List.all_append, Bool.and_eq_true]
              refine ⟨?_, rfl⟩
              exact all_flat0 (n := 0) (List.all_eq_true.2 fun v hv => by
                unfold R176 rowV at hv
                rw [famList_eq] at hv
                obtain ⟨j, _, rfl⟩ := List.mem_map.1 hv
                rfl)
            cases h
            refine ⟨fit_obj hb rfl rfl rfl (by rw [ex]; rfl) hl, fun hT => ?_⟩
            cases hT
            have := mk_ok (intAt (l.take 176)) (intAt x.toList)
            unfold hC' hC at this
            rw [show rowV .u8 176 (intAt (l.take 176)) ++ [Value.bool true] = l from el.symm] at this
            unfold row16 at this
            rw [← ex] at this
            exact this
          · cases h
        · cases h
      · cases h
    · cases h
  · rename_i b o c x
    split at h
    · rename_i hf
      have hf' : f = 73 := by simpa using hf
      subst hf'
      split at h
      · rename_i hc
        have ex := is16_row hc
        split at h
        · rename_i K tb hb
          cases h
          refine ⟨fit_win hb rfl rfl rfl (by rw [ex]; rfl), fun hT => ?_⟩
          obtain ⟨rfl, h1, h2⟩ := hT
          have := ref_ok ((K.drop o).take 16) c (intAt x.toList) h1 h2
          unfold row16 at this
          rw [← ex] at this; exact this
        · cases h
      · cases h
    · cases h
  · cases h
def KCm (T : CT) : Given := Given.frames Given.nothing (FC T)
theorem KCm_ok (T : CT) : GivenOk Tryz.prog (KCm T) := (GivenOk.nothing _).frames (FC_ok T)
end
end ae
end Go.Proofs.YtmgelikgcfjhhaaGreat
namespace Go.Proofs.YtmgelikgcfjhhaaGreat
open Go.ChangeShapes Go.WideShapes Go.ChangeAt Go.RowKit Go.Cln
namespace ae
set_option linter.unusedVariables false
noncomputable section
def Z16 : LV := R16 fun _ => 0
def kRw (K : List Int) : LV := R16 (keyOf K)
def eL (T : CT) (K : List Int) : LV := R16 (T.mkb (R176 (T.ks (kRw K))) Z16)
def eR (T : CT) (K : List Int) : LV := R16 (T.rm K Z16)
def p10 (T : CT) (K : List Int) : Prop := ((((True ∧ 0 + 16 ≤ K.length) ∧ (T = CT0 ∧ T.bs (kRw K))) ∧ T = CT0) ∧ (T = CT0 ∧ T.bs (eL T K))) ∧ (T = CT0 ∧ T.bs (R16 (T.db (eL T K))))
def p12 (T : CT) (K : List Int) : Prop := ((True ∧ (T = CT0 ∧ T.bk K)) ∧ T = CT0) ∧ T = CT0
def hKn (n : Nat) (K : List Int) : List (Option Ob) := hK K ++ List.replicate n none
theorem runB12 (T : CT) (K : List Int) (c : Nat) : ((mk Tryz.prog (KCm T) 200).call 71 [.slice (some ⟨0, 0, none⟩) 16 c] (smSt 1 (hK K) [])).map (fun r => (r.1, r.2.obl, r.2.next, keepL (true :: List.replicate 73 false) r.2.heap.get 0)) = some (.tuple #[row16 (T.db (R16 (T.rm ((K.drop 0).take 16) Z16))), row16 (T.db (R16 (T.db (R16 (T.rm ((K.drop 0).take 16) Z16)))))], p12 T ((K.drop 0).take 16), (hKn 73 K).length, hKn 73 K) := by kernel_rfl
end
end ae
end Go.Proofs.YtmgelikgcfjhhaaGreat
namespace Go.Proofs.YtmgelikgcfjhhaaGreat
open Go.ChangeShapes Go.WideShapes Go.ChangeAt Go.RowKit Go.Cln
namespace ae
set_option linter.unusedVariables false
noncomputable section
theorem subF_congr {B : List Int} {s s' : Nat → Int} (h : ∀ j, j < 16 → s j = s' j) {j : Nat} (hj : j < 16) : subF B s j = subF B s' j := by unfold subF; rw [h j hj]
theorem shi_congr {s s' : Nat → Int} (h : ∀ j, j < 16 → s j = s' j) (j : Nat) : shiF s j = shiF s' j := by unfold shiF; rw [h _ (by omega)]
theorem mix_congr {s s' : Nat → Int} (h : ∀ j, j < 16 → s j = s' j) {j : Nat} (hj : j < 16) : mixF s j = mixF s' j := by
  unfold mixF
  rw [h j hj, h _ (by omega), h _ (by omega), h _ (by omega), h _ (by omega), h _ (by omega)]
theorem stF_congr {B : List Int} {ks ks' b b' : Nat → Int} (hk : ∀ j, j < 176 → ks j = ks' j) (hb : ∀ j, j < 16 → b j = b' j) : ∀ n, n ≤ 9 → ∀ j, j < 16 → stF B ks b n j = stF B ks' b' n j
  | 0, _, j, hj => by
    show xr8 (b j) (ks (16 * 0 + j)) = xr8 (b' j) (ks' (16 * 0 + j))
    rw [hb j hj, hk _ (by omega)]
  | n + 1, hn, j, hj => by
    show xr8 (mixF (shiF (subF B (stF B ks b n))) j) (ks (16 * (n + 1) + j)) = xr8 (mixF (shiF (subF B (stF B ks' b' n))) j) (ks' (16 * (n + 1) + j))
    rw [hk _ (by omega), mix_congr (fun j _ => shi_congr (fun j hj => subF_congr (stF_congr hk hb n (by omega)) hj) j) hj]
theorem mkF_congr {B : List Int} {ks ks' b b' : Nat → Int} (hk : ∀ j, j < 176 → ks j = ks' j) (hb : ∀ j, j < 16 → b j = b' j) : ∀ j, j < 16 → mkF B ks b j = mkF B ks' b' j := fun j hj => by
  show xr8 (shiF (subF B (stF B ks b 9)) j) (ks (16 * 10 + j)) = xr8 (shiF (subF B (stF B ks' b' 9)) j) (ks' (16 * 10 + j))
  rw [hk _ (by omega), shi_congr (fun j hj => subF_congr (stF_congr hk hb 9 (by omega)) hj) j]
theorem at176 {f : Nat → Int} {j : Nat} (h : j < 176) : intAt (R176 f) j = f j := intAt_row h
theorem kr_congr {B : List Int} {k k' : Nat → Int} (h : ∀ j, j < 16 → k j = k' j) : ∀ n, ∀ j, j < 16 → kr B k n j = kr B k' n j
  | 0, j, hj => h j hj
  | n + 1, j, hj => by
    have ih := kr_congr (B := B) h n
    have hc : ∀ c r, c < 4 → r < 4 → col B (pw n) (kr B k n) c r = col B (pw n) (kr B k' n) c r := by
      intro c
      induction c with
      | zero =>
        intro r _ hr
        show X8 (kc B (pw n) (kr B k n) r) (kr B k n r) = X8 (kc B (pw n) (kr B k' n) r) (kr B k' n r)
        have hx : ∀ j, j < 16 → bx B (kr B k n) j = bx B (kr B k' n) j := fun j hj => by unfold bx; rw [ih j hj]
        have hk : kc B (pw n) (kr B k n) r = kc B (pw n) (kr B k' n) r := by
          unfold kc
          split
          · rw [hx 13 (by decide)]
          · exact hx 14 (by decide)
          · exact hx 15 (by decide)
          · exact hx 12 (by decide)
        rw [hk, ih r (by omega)]
      | succ c ihc =>
        intro r hc hr
        show X8 (col B (pw n) (kr B k n) c r) (kr B k n (4 * (c + 1) + r)) = X8 (col B (pw n) (kr B k' n) c r) (kr B k' n (4 * (c + 1) + r))
        rw [ihc r (by omega) hr, ih _ (by omega)]
    exact hc _ _ (by omega) (by omega)
theorem ksF_congr {B : List Int} {k k' : Nat → Int} (h : ∀ j, j < 16 → k j = k' j) (j : Nat) : ksF B k j = ksF B k' j := kr_congr h _ _ (by omega)
def enc (K : List Int) (x : Nat → Int) : Nat → Int := mkF BOX (ksF BOX (keyOf K)) x
def fst (K : List Int) : Nat → Int := dF (enc K fun _ => 0)
def snd (K : List Int) : Nat → Int := dF (fst K)
theorem rT_congr {b b' : Nat → Int} (h : ∀ j, j < 16 → b j = b' j) {j : Nat} (hj : j < 16) : dF b j = dF b' j := by
  unfold dF rT rF rD
  rw [h 0 (by decide), h j hj]
  split
  · split
    · rw [h (j + 1) (by omega)]
    · rfl
  · split
    · rw [h (j + 1) (by omega)]
    · rfl
theorem db_at (f : Nat → Int) : R16 (dF (intAt (R16 f))) = R16 (dF f) := R16_congr fun j hj => rT_congr (fun j hj => at16 hj) hj
theorem eL_eq (K : List Int) : eL CT0 K = R16 (enc K fun _ => 0) := by
  show R16 (mkF BOX (intAt (R176 (ksF BOX (intAt (R16 (keyOf K)))))) (intAt (R16 fun _ => 0))) = _
  refine R16_congr fun j hj => ?_
  refine mkF_congr (fun j hj => ?_) (fun j hj => at16 hj) j hj
  rw [at176 hj, ksF_congr (fun j hj => at16 hj)]
theorem rm_at (K : List Int) (x : Nat → Int) : R16 (CT0.rm K (R16 x)) = R16 (enc K x) := by
  show R16 (mkF BOX (ksF BOX (keyOf K)) (intAt (R16 x))) = _
  exact R16_congr fun j hj => mkF_congr (fun _ _ => rfl) (fun j hj => at16 hj) j hj
theorem row_of {f g : Nat → Int} (h : R16 f = R16 g) : row16 f = row16 g := congrArg (fun l : LV => Value.agg l.toArray) h
theorem enc_in (K : List Int) (x : Nat → Int) : B16 (enc K x) := mkF_in _ _ _
theorem bs_at {f : Nat → Int} (h : B16 f) : CT0.bs (R16 f) := fun j hj => by rw [at16 hj]; exact h j hj
def OkK (K : List Int) : Prop := K.length = 16 ∧ B16 (keyOf K)
theorem take16 {K : List Int} (h : OkK K) : (K.drop 0).take 16 = K := List.take_of_length_le (by rw [List.drop_zero, h.1]; exact Nat.le_refl _)
theorem rblocks_ok (K : List Int) (c : Nat) (h : OkK K) : CallOk Tryz.prog 71 [.slice (some ⟨0, 0, none⟩) 16 c] (smSt 1 (hK K) []) (.tuple #[row16 (fst K), row16 (snd K)]) (smSt 1 (hKn 73 K) []) := by
  have := frame_by pg (KCm_ok CT0) _ (runB12 CT0 K c) (by rw [take16 h]; exact ⟨⟨⟨trivial, rfl, h⟩, rfl⟩, rfl⟩) (by rfl) rfl
  rw [take16 h] at this
  have e1 : row16 (CT0.db (R16 (CT0.rm K Z16))) = row16 (fst K) := row_of (by
    show R16 (dF (intAt (R16 (CT0.rm K (R16 fun _ => 0))))) = _
    rw [rm_at, db_at]; rfl)
  have e2 : row16 (CT0.db (R16 (CT0.db (R16 (CT0.rm K Z16))))) = row16 (snd K) := row_of (by
    show R16 (dF (intAt (R16 (dF (intAt (R16 (CT0.rm K (R16 fun _ => 0)))))))) = _
    rw [rm_at, db_at (enc K fun _ => 0), db_at]; rfl)
  rw [e1, e2] at this; exact this
end
end ae
end Go.Proofs.YtmgelikgcfjhhaaGreat
namespace Go.Proofs.YtmgelikgcfjhhaaGreat
open Go.ChangeShapes Go.WideShapes Go.ChangeAt Go.RowKit Go.Cln
namespace ae
set_option linter.unusedVariables false
noncomputable section
def EH (L : List Int) (ks f1 f2 x : Nat → Int) (A : List Int) (o n c : Nat) : Nat → Option Ob := fun i => match i with
  | 0 => some (.cells (.ints .u8 L) 5)
  | 1 => some (.cells (.lit (rowV .u8 176 ks ++ [.bool true])) 228)
  | 2 => some (.cells (.lit (.pointer (some ⟨1, 0, none⟩) :: (rowV .u8 16 f1 ++ (rowV .u8 16 f2 ++ (rowV .u8 16 x ++ [.slice none 0 0]))))) 161)
  | 3 => some (.cells (.lit ([.pointer (some ⟨2, 0, none⟩)])) 129)
  | 5 => some (.cells (.ints .u8 A) 5)
  | 6 => some (.cells (.lit [.slice (some ⟨5, o, some 1⟩) n c]) 23)
  | 7 => some (.marks)
  | 8 => some (.loop ⟨.ready, none, [.pointer (some ⟨2, 0, none⟩), junk, .pointer (some ⟨3, 0, none⟩), undef, .int .i64 0, undef, undef, .pointer (some ⟨2, 0, none⟩), .bool false, .pointer (some ⟨2, 0, none⟩), .pointer (some ⟨2, 0, none⟩), .pointer (some ⟨2, 49, none⟩)] ++ J 4 ++ [.func (.func 123) #[] #[.pointer (some ⟨6, 0, none⟩)]] ++ U 25, #[17, 18], (rngAt Tryz.prog 75 0).2.1, (rngAt Tryz.prog 75 0).2.2, 7⟩)
  | _ => none
def E (L : List Int) (ks f1 f2 x : Nat → Int) (A : List Int) (o n c : Nat) : St := ⟨[.func (.yield 8) #[] #[], .pointer (some ⟨6, 0, none⟩)] ++ U 19, [], Tr.rebuild (EH L ks f1 f2 x A o n c) 9, 9, 2, [], fun _ => false, True, []⟩
def RH (L : List Int) (ks f1 f2 x : Nat → Int) (A : List Int) (o n c : Nat) : Nat → Option Ob := fun i => match i with
  | 0 => some (.cells (.ints .u8 L) 5)
  | 1 => some (.cells (.lit (rowV .u8 176 ks ++ [.bool true])) 228)
  | 2 => some (.cells (.lit (.pointer (some ⟨1, 0, none⟩) :: (rowV .u8 16 f1 ++ (rowV .u8 16 f2 ++ (rowV .u8 16 x ++ [.slice none 0 0]))))) 161)
  | 3 => some (.cells (.lit ([.pointer (some ⟨2, 0, none⟩)])) 129)
  | 5 => some (.cells (.ints .u8 A) 5)
  | 6 => some (.cells (.lit [.slice (some ⟨5, o, some 1⟩) n c]) 23)
  | 7 => some (.marks)
  | 8 => some (.loop ⟨.ready, none, [.pointer (some ⟨2, 0, none⟩), junk, .pointer (some ⟨3, 0, none⟩), undef, .int .i64 0, undef, undef, .pointer (some ⟨2, 0, none⟩), .bool false, .pointer (some ⟨2, 0, none⟩), .pointer (some ⟨2, 0, none⟩), .pointer (some ⟨2, 49, none⟩)] ++ J 4 ++ [.func (.func 123) #[] #[.pointer (some ⟨6, 0, none⟩)]] ++ U 25, #[17, 18], (rngAt Tryz.prog 75 0).2.1, (rngAt Tryz.prog 75 0).2.2, 7⟩)
  | _ => none
def R (L : List Int) (ks f1 f2 x : Nat → Int) (A : List Int) (o n c : Nat) : St := ⟨[.func (.yield 8) #[] #[], .pointer (some ⟨6, 0, none⟩), undef, .int .i64 16, junk, junk, .bool true, junk, junk, .int .i64 16, .func (.yield 8) #[] #[]] ++ J 3 ++ [.int .i64 16, junk, .bool true, .bool false, junk, .int .i64 16, junk], [], Tr.rebuild (RH L ks f1 f2 x A o n c) 9, 9, 2, [], fun _ => false, True, []⟩
def XH (L : List Int) (ks f1 f2 x : Nat → Int) (A : List Int) (o n : Nat) : Nat → Option Ob := fun i => match i with
  | 0 => some (.cells (.ints .u8 L) 5)
  | 1 => some (.cells (.lit (rowV .u8 176 ks ++ [.bool true])) 228)
  | 2 => some (.cells (.lit (.pointer (some ⟨1, 0, none⟩) :: (rowV .u8 16 f1 ++ (rowV .u8 16 f2 ++ (rowV .u8 16 x ++ [.slice (some ⟨10, 0, some 1⟩) (0 + n) (0 + n)]))))) 161)
  | 3 => some (.cells (.lit ([.pointer (some ⟨2, 0, none⟩)])) 129)
  | 5 => some (.cells (.ints .u8 A) 5)
  | 6 => some (.cells (.lit [junk]) 23)
  | 7 => some (.marks)
  | 8 => some (.loop ⟨.done, some (.exit 0), [.pointer (some ⟨2, 0, none⟩), junk, .pointer (some ⟨3, 0, none⟩), undef, .int .i64 0, undef, undef, .pointer (some ⟨2, 0, none⟩), .bool false, .pointer (some ⟨2, 0, none⟩), .pointer (some ⟨2, 0, none⟩), .pointer (some ⟨2, 49, none⟩)] ++ J 4 ++ [.func (.func 123) #[] #[.pointer (some ⟨6, 0, none⟩)]] ++ U 25, #[17, 18], (rngAt Tryz.prog 75 0).2.1, (rngAt Tryz.prog 75 0).2.2, 7⟩)
  | 10 => some (.cells (.ints .u8 ((A.drop o).take n)) 5)
  | _ => none
def X (L : List Int) (ks f1 f2 x : Nat → Int) (A : List Int) (o n : Nat) : St := ⟨[.func (.yield 8) #[] #[], .pointer (some ⟨6, 0, none⟩), undef] ++ J 18, [], Tr.rebuild (XH L ks f1 f2 x A o n) 11, 11, 2, [], fun _ => false, True, []⟩
noncomputable def bW : Code := loopB Tryz.prog 123 0
abbrev UX := LV → LV → Nat → Int
def U0 : UX := fun x y => keyF (intAt x) (intAt y)
theorem run35 (b k : Nat → Int) : ((mk Tryz.prog Given.nothing 200).call 101 [row16 b, row16 k, .func (.func 102) #[] #[]] (St.start 0 .leaf [])).map (fun r => (r.1, r.2.obl)) = some (row16 (keyF b k), True) := by kernel_rfl
def FW (U : UX) (T : CT) (f : FuncId) (args : List Value) (s : St) : Option Inst := if f == 101 then (match args with
  | [.agg x, .agg y, .func (.func 102) ⟨[]⟩ ⟨[]⟩] => if is16 x && is16 y then some (flI [.agg x, .agg y, .func (.func 102) ⟨[]⟩ ⟨[]⟩] (row16 (U x.toList y.toList)) (U = U0)) else none
  | _ => none) else if f == 121 || f == 73 || f == 122 || f == 93 || f == 151 then FC T f args s else none
theorem FW_ok (U : UX) (T : CT) (f : FuncId) (args : List Value) (s : St) (i : Inst) (h : FW U T f args s = some i) : Fits s i args ∧ (i.ask → CallOk Tryz.prog f i.args i.s0 i.val i.s1) := by
  unfold FW at h
  split at h
  · rename_i hf
    have hf' : f = 101 := by simpa using hf
    subst hf'
    split at h
    · rename_i x y
      split at h
      · rename_i hc
        rw [Bool.and_eq_true] at hc
        have ex := is16_row hc.1
        have ey := is16_row hc.2
        cases h
        refine flI_ok (by rw [ex, ey]; rfl) rfl fun hT W => ?_
        subst hT
        have := ranF pg (GivenOk.nothing _) (run35 (intAt x.toList) (intAt y.toList)) trivial rfl rfl W
        unfold row16 at this
        rw [← ex, ← ey] at this; exact this
      · cases h
    · cases h
  · split at h
    · exact FC_ok T f args s i h
    · cases h
def KW (U : UX) (T : CT) : Given := { Given.frames Given.nothing (FW U T) with fits := true }
theorem KW_ok (U : UX) (T : CT) : GivenOk Tryz.prog (KW U T) := frames_fits ((GivenOk.nothing _).frames (FW_ok U T)) true
def bRow (A : List Int) (o : Nat) : LV := famList (fun j => Value.int .u8 (A.getD j 0)) o 16
def chx (U : UX) (T : CT) (ks x : Nat → Int) (A : List Int) (o : Nat) : Nat → Int := T.mkb (R176 ks) (R16 (U (R16 x) (bRow A o)))
end
end ae
end Go.Proofs.YtmgelikgcfjhhaaGreat
namespace Go.Proofs.YtmgelikgcfjhhaaGreat
open Go.ChangeShapes Go.WideShapes Go.ChangeAt Go.RowKit Go.Cln
namespace ae
set_option linter.unusedVariables false
noncomputable section
def pS (U : UX) (T : CT) (A : List Int) (o n c : Nat) : Prop := (((((((True ∧ decide ((n : Int) > 0) = true) ∧ decide ((16 : Int) < (n : Int)) = true) ∧ (0 ≤ (16 : Int) ∧ (16 : Int) ≤ (c : Int) ∧ (0 : Int) ≤ 0 ∧ (0 : Int) ≤ 16)) ∧ decide ((n : Int) > 16) = true) ∧ o + 16 ≤ A.length) ∧ U = U0) ∧ T = CT0) ∧ (0 ≤ (n : Int) ∧ (n : Int) ≤ (c : Int) ∧ (0 : Int) ≤ 16 ∧ (16 : Int) ≤ (n : Int))
def pD (A : List Int) (o n c : Nat) : Prop := (((((True ∧ decide ((n : Int) > 0) = true) ∧ decide ((16 : Int) < (n : Int)) = false) ∧ (0 ≤ (n : Int) ∧ (n : Int) ≤ (c : Int) ∧ (0 : Int) ≤ 0 ∧ (0 : Int) ≤ (n : Int))) ∧ decide ((n : Int) > 16) = false) ∧ decide (0 + n ≤ 0) = false) ∧ (o + n ≤ A.length ∧ 0 + 0 ≤ 0 ∧ (0 + n) * 1 ≤ mostBytes ∧ 0 + n ≤ mostBytes)
def oS : List (Option Bool) := [some true, some true, some true, some true, none, some true, none, some true]
def oD : List (Option Bool) := [some true, some false, some true, some false, none, some false]
theorem wE (U : UX) (T : CT) (L : List Int) (ks f1 f2 x : Nat → Int) (A : List Int) (o n c : Nat) (x0 : Nat → Int) (o0 n0 c0 : Nat) (rd : Option Nat) (hp : pS U T A o n c) :
    Step Tryz.prog rd (E L ks f1 f2 x0 A o0 n0 c0) bW (E L ks f1 f2 x A o n c) (fun e s => e = .normal ∧ s = R L ks f1 f2 (chx U T ks x A o) A (o + 16) (n - 16) (c - 16)) :=
  Step.std pg (KW_ok U T) (n := 200) (f := 123) (σ := []) (o := oS) (n1 := 100) (g := RH L ks f1 f2 (chx U T ks x A o) A (o + 16) (n - 16) (c - 16)) (by kernel_rfl) hp (Nat.le_refl _) rfl (by kernel_rfl)
theorem wR (U : UX) (T : CT) (L : List Int) (ks f1 f2 x : Nat → Int) (A : List Int) (o n c : Nat) (x0 : Nat → Int) (o0 n0 c0 : Nat) (rd : Option Nat) (hp : pS U T A o n c) :
    Step Tryz.prog rd (E L ks f1 f2 x0 A o0 n0 c0) bW (R L ks f1 f2 x A o n c) (fun e s => e = .normal ∧ s = R L ks f1 f2 (chx U T ks x A o) A (o + 16) (n - 16) (c - 16)) :=
  Step.std pg (KW_ok U T) (n := 200) (f := 123) (σ := []) (o := oS) (n1 := 100) (g := RH L ks f1 f2 (chx U T ks x A o) A (o + 16) (n - 16) (c - 16)) (by kernel_rfl) hp (Nat.le_refl _) rfl (by kernel_rfl)
theorem wX (U : UX) (T : CT) (L : List Int) (ks f1 f2 x : Nat → Int) (A : List Int) (o n c : Nat) (x0 : Nat → Int) (o0 n0 c0 : Nat) (rd : Option Nat) (hp : pD A o n c) :
    Step Tryz.prog rd (E L ks f1 f2 x0 A o0 n0 c0) bW (R L ks f1 f2 x A o n c) (fun e s => e = .ret ∧ s = X L ks f1 f2 x A o n) :=
  Step.std pg (KW_ok U T) (n := 200) (f := 123) (σ := []) (o := oD) (n1 := 11) (g := XH L ks f1 f2 x A o n) (by kernel_rfl) hp (Nat.le_refl _) rfl (by kernel_rfl)
def wch (ks : Nat → Int) (A : List Int) : Nat → Nat → (Nat → Int) → Nat → Int
  | 0, o, x => x
  | q + 1, o, x => wch ks A q (o + 16) (chx U0 CT0 ks x A o)
theorem wch_succ (ks : Nat → Int) (A : List Int) : ∀ (q o : Nat) (x : Nat → Int), wch ks A (q + 1) o x = chx U0 CT0 ks (wch ks A q o x) A (o + 16 * q)
  | 0, o, x => rfl
  | q + 1, o, x => by
    show wch ks A (q + 1) (o + 16) (chx U0 CT0 ks x A o) = _
    rw [wch_succ ks A q (o + 16) _]
    show chx U0 CT0 ks (wch ks A (q + 1) o x) A (o + 16 + 16 * q) = _
    rw [show o + 16 + 16 * q = o + 16 * (q + 1) by omega]
theorem loopWr (L : List Int) (ks f1 f2 x : Nat → Int) (A : List Int) (o c q r : Nat) (hq : 0 < q) (h0 : 0 < r) (h1 : r ≤ 16) (hc : 16 * q + r ≤ c) (hA : o + (16 * q + r) ≤ A.length) (hm : A.length ≤ 1000000) (rd : Option Nat) :
    CodeOk Tryz.prog rd (.loop bW) (E L ks f1 f2 x A o (16 * q + r) c) .ret (X L ks f1 f2 (wch ks A q o x) A (o + 16 * q) r) := by
  refine CodeOk.of_step (Step.loop (fun k s => (k = q ∧ s = E L ks f1 f2 x A o (16 * q + r) c) ∨ ∃ i, 0 < i ∧ i ≤ q ∧ k = q - i ∧ s = R L ks f1 f2 (wch ks A i o x) A (o + 16 * i) (16 * q + r - 16 * i) (c - 16 * i)) ?_ q _ (.inl ⟨rfl, rfl⟩))
  have ps : ∀ i, i < q → pS U0 CT0 A (o + 16 * i) (16 * q + r - 16 * i) (c - 16 * i) := fun i hi => by
    refine ⟨⟨⟨⟨⟨⟨⟨⟨trivial, ?_⟩, ?_⟩, ?_⟩, ?_⟩, by omega⟩, rfl⟩, rfl⟩, ?_⟩
    · rw [decide_eq_true_eq]; omega
    · rw [decide_eq_true_eq]; omega
    · omega
    · rw [decide_eq_true_eq]; omega
    · omega
  rintro k s (⟨rfl, rfl⟩ | ⟨i, hi0, hi, rfl, rfl⟩)
  · refine (wE U0 CT0 L ks f1 f2 x A o (16 * k + r) c x o (16 * k + r) c rd (ps 0 hq)).mono ?_
    rintro e s ⟨rfl, rfl⟩
    exact .inl ⟨rfl, k - 1, by omega, .inr ⟨1, by omega, by omega, rfl, rfl⟩⟩
  · rcases Nat.lt_or_ge i q with h | h
    · refine (wR U0 CT0 L ks f1 f2 (wch ks A i o x) A (o + 16 * i) (16 * q + r - 16 * i) (c - 16 * i) x o (16 * q + r) c rd (ps i h)).mono ?_
      rintro e s ⟨rfl, rfl⟩
      refine .inl ⟨rfl, q - (i + 1), by omega, .inr ⟨i + 1, by omega, by omega, rfl, ?_⟩⟩
      rw [wch_succ, show o + 16 * i + 16 = o + 16 * (i + 1) by omega, show 16 * q + r - 16 * i - 16 = 16 * q + r - 16 * (i + 1) by omega, show c - 16 * i - 16 = c - 16 * (i + 1) by omega]
    · obtain rfl : i = q := by omega
      have e : 16 * i + r - 16 * i = r := by omega
      rw [e]
      refine (wX U0 CT0 L ks f1 f2 (wch ks A i o x) A (o + 16 * i) r (c - 16 * i) x o (16 * i + r) c rd ?_).mono ?_
      · refine ⟨⟨⟨⟨⟨⟨trivial, ?_⟩, ?_⟩, by omega⟩, ?_⟩, ?_⟩, by omega, by omega, by unfold mostBytes; omega, by unfold mostBytes; omega⟩
        · rw [decide_eq_true_eq]; omega
        · rw [decide_eq_false_iff_not]; omega
        · rw [decide_eq_false_iff_not]; omega
        · rw [decide_eq_false_iff_not]; omega
      · rintro e s ⟨rfl, rfl⟩
        exact .inr ⟨(by intro x; cases x), rfl, rfl⟩
def askW (S : St) (f : FuncId) (c : Code) (_ : St) : Option Ask2 := if f == 123 then some ⟨⟨[], [], [(8, [1, 12, 13, 14, 15])], [4]⟩, .ret, fun _ => S⟩ else none
def KA (U : UX) (T : CT) (S : St) : Given := Given.asking2 (KW U T) Tryz.prog (askW S)
theorem KA_ok (U : UX) (T : CT) (S : St) : GivenOk Tryz.prog (KA U T S) := GivenOk.asking2 (KW_ok U T) _
def hMac (L : List Int) (ks f1 f2 x : Nat → Int) (left : Value) : List (Option Ob) := [some (.cells (.ints .u8 L) 5), some (.cells (.lit (rowV .u8 176 ks ++ [.bool true])) 228), some (.cells (.lit (.pointer (some ⟨1, 0, none⟩) :: (rowV .u8 16 f1 ++ (rowV .u8 16 f2 ++ (rowV .u8 16 x ++ [left]))))) 161)]
def sl (b q : Nat) (g : Option Nat) (n c : Nat) : Value := .slice (some ⟨b, q, g⟩) n c
end
end ae
end Go.Proofs.YtmgelikgcfjhhaaGreat
namespace Go.Proofs.YtmgelikgcfjhhaaGreat
open Go.ChangeShapes Go.WideShapes Go.ChangeAt Go.RowKit Go.Cln
namespace ae
set_option linter.unusedVariables false
noncomputable section
def zN (n : Nat) : Nat := (IntKind.i64.wrap ((nI 0) + (nI n))).toNat
def hcc (L : List Int) (q : Nat) (g : Option Nat) (n c : Nat) : List (Option Ob) := [some (.cells (.lit [.slice none 0 0, sl 1 q g n c]) 23), some (.cells (.ints .u8 L) 5)]
def hcd (L : List Int) (q : Nat) (g : Option Nat) (n c : Nat) : List (Option Ob) := hcc L q g n c ++ [some (.cells (.ints .u8 (layI (layI (List.replicate (zN n) 0) 0 []) 0 ((L.drop q).take n))) 5)]
def oCCn : List (Option Bool) := [none, none, none, none, none, none, none, some true, none, none, none, none, none, some true, some true, some true, some true, none, none, none, none, none, none, some true]
def pCCn (L : List Int) (q : Nat) (n : Nat) (c : Nat) : Prop := ((((((((True ∧ ((IntKind.i64.wrap ((nI 0) + (nI n))) = ((nI 0) + (nI n)))) ∧ ((IntKind.i64.wrap ((nI 0) + (nI n))) = ((nI 0) + (nI n)))) ∧ ((decide (0 < ((nI 0) + (nI n)))) = true)) ∧ ((1 ≤ (IntKind.i64.wrap ((nI 0) + (nI n)))) ∧ ((((IntKind.i64.wrap ((nI 0) + (nI n))).toNat * 1) ≤ mostBytes) ∧ ((IntKind.i64.wrap ((nI 0) + (nI n))).toNat ≤ mostBytes)))) ∧ ((0 ≤ (nI 0)) ∧ (((nI 0) ≤ (nI (IntKind.i64.wrap ((nI 0) + (nI n))).toNat)) ∧ (((0 : Int) ≤ 0) ∧ (0 ≤ (nI 0)))))) ∧ ((0 = 0) ∧ (0 ≤ (List.replicate (IntKind.i64.wrap ((nI 0) + (nI n))).toNat (0 : Int)).length))) ∧ ((decide ((0 + n) ≤ (IntKind.i64.wrap ((nI 0) + (nI n))).toNat)) = true)) ∧ (((q + n) ≤ L.length) ∧ ((0 + n) ≤ (layI (List.replicate (IntKind.i64.wrap ((nI 0) + (nI n))).toNat (0 : Int)) 0 []).length)))
theorem runCCn (L : List Int) (q : Nat) (n : Nat) (c : Nat) : ((mk Tryz.prog { Given.nothing with fits := true } 200).call 64 [sl 0 0 none 2 2] (smSt 2 [some (.cells (.lit [.slice none 0 0, sl 1 q none n c]) 23), some (.cells (.ints .u8 L) 5)] oCCn)).map (fun r => (r.1, r.2.obl, r.2.next, keepL [true, true, true] r.2.heap.get 0)) = some (sl 2 0 (some 1) (0 + n) (zN n), pCCn L q n c, ((hcd L q none n c)).length, (hcd L q none n c)) := by kernel_rfl
def oCC1 : List (Option Bool) := [none, none, none, none, none, none, none, some true, none, none, none, none, none, some true, some true, some true, some true, none, none, none, none, none, none, some true]
def pCC1 (L : List Int) (q : Nat) (n : Nat) (c : Nat) : Prop := ((((((((True ∧ ((IntKind.i64.wrap ((nI 0) + (nI n))) = ((nI 0) + (nI n)))) ∧ ((IntKind.i64.wrap ((nI 0) + (nI n))) = ((nI 0) + (nI n)))) ∧ ((decide (0 < ((nI 0) + (nI n)))) = true)) ∧ ((1 ≤ (IntKind.i64.wrap ((nI 0) + (nI n)))) ∧ ((((IntKind.i64.wrap ((nI 0) + (nI n))).toNat * 1) ≤ mostBytes) ∧ ((IntKind.i64.wrap ((nI 0) + (nI n))).toNat ≤ mostBytes)))) ∧ ((0 ≤ (nI 0)) ∧ (((nI 0) ≤ (nI (IntKind.i64.wrap ((nI 0) + (nI n))).toNat)) ∧ (((0 : Int) ≤ 0) ∧ (0 ≤ (nI 0)))))) ∧ ((0 = 0) ∧ (0 ≤ (List.replicate (IntKind.i64.wrap ((nI 0) + (nI n))).toNat (0 : Int)).length))) ∧ ((decide ((0 + n) ≤ (IntKind.i64.wrap ((nI 0) + (nI n))).toNat)) = true)) ∧ (((q + n) ≤ L.length) ∧ ((0 + n) ≤ (layI (List.replicate (IntKind.i64.wrap ((nI 0) + (nI n))).toNat (0 : Int)) 0 []).length)))
theorem runCC1 (L : List Int) (q : Nat) (n : Nat) (c : Nat) : ((mk Tryz.prog { Given.nothing with fits := true } 200).call 64 [sl 0 0 none 2 2] (smSt 2 [some (.cells (.lit [.slice none 0 0, sl 1 q (some 1) n c]) 23), some (.cells (.ints .u8 L) 5)] oCC1)).map (fun r => (r.1, r.2.obl, r.2.next, keepL [true, true, true] r.2.heap.get 0)) = some (sl 2 0 (some 1) (0 + n) (zN n), pCC1 L q n c, ((hcd L q (some 1) n c)).length, (hcd L q (some 1) n c)) := by kernel_rfl
theorem zN_eq {n : Nat} (h : n ≤ 1000000) : zN n = n := by
  unfold zN
  have : IntKind.i64.wrap ((nI 0) + (nI n)) = (n : Int) := by rw [IntKind.wrap_i64]; simp only [nI]; omega
  rw [this]; rfl
theorem lay0 {X : List Int} {n : Nat} (h : X.length = n) : layI (layI (List.replicate n 0) 0 []) 0 X = X := by
  unfold layI
  simp [h]
theorem pCC_ok {L : List Int} {q n c : Nat} (h0 : 0 < n) (h1 : n ≤ 1000000) (h2 : q + n ≤ L.length) : pCCn L q n c := by
  unfold pCCn
  have e : IntKind.i64.wrap ((nI 0) + (nI n)) = (n : Int) := by rw [IntKind.wrap_i64]; simp only [nI]; omega
  rw [e]
  have l0 : (List.replicate ((n : Int)).toNat (0 : Int)).length = n := by simp
  have l1 : (layI (List.replicate ((n : Int)).toNat (0 : Int)) 0 []).length = n := by unfold layI; simp
  rw [l1, l0]
  simp only [decide_eq_true_eq, nI, mostBytes]
  repeat' apply And.intro
  all_goals first | trivial | omega
theorem pCC1_ok {L : List Int} {q n c : Nat} (h0 : 0 < n) (h1 : n ≤ 1000000) (h2 : q + n ≤ L.length) : pCC1 L q n c := pCC_ok (c := c) h0 h1 h2
def hce (L : List Int) (q : Nat) (g : Option Nat) (n c : Nat) : List (Option Ob) := hcc L q g n c ++ [some (.cells (.ints .u8 ((L.drop q).take n)) 5)]
theorem Kf_ok : GivenOk Tryz.prog { Given.nothing with fits := true } := frames_fits (GivenOk.nothing _) true
theorem cc_ok {L : List Int} {q n c : Nat} {g : Option Nat} (hg : g = none ∨ g = some 1) (h0 : 0 < n) (h1 : n ≤ 1000000) (h2 : q + n ≤ L.length) : CallOk Tryz.prog 64 [sl 0 0 none 2 2] (smSt 2 (hcc L q g n c) []) (sl 2 0 (some 1) n n) (smSt 2 (hce L q g n c) []) := by
  have e1 : layI (layI (List.replicate (zN n) 0) 0 []) 0 ((L.drop q).take n) = (L.drop q).take n := by
    rw [zN_eq h1]; exact lay0 (by simp; omega)
  have e2 : hcd L q g n c = hce L q g n c := by unfold hcd hce; rw [e1]
  have e3 : sl 2 0 (some 1) (0 + n) (zN n) = sl 2 0 (some 1) n n := by rw [zN_eq h1, Nat.zero_add]
  rcases hg with rfl | rfl
  · have := frame_by pg Kf_ok _ (runCCn L q n c) (pCC_ok h0 h1 h2) (by rfl) rfl
    rw [e2, e3] at this; exact this
  · have := frame_by pg Kf_ok _ (runCC1 L q n c) (pCC1_ok h0 h1 h2) (by rfl) rfl
    rw [e2, e3] at this; exact this
def hcf (L : List Int) (g : Option Nat) (n c : Nat) : List (Option Ob) := hcc L 0 g n c ++ [some (.cells (.ints .u8 L) 5)]
theorem hcf_eq {L : List Int} {g : Option Nat} {n c : Nat} (h : L.length = n) : hce L 0 g n c = hcf L g n c := by
  unfold hce hcf
  rw [List.drop_zero, List.take_of_length_le (by omega)]
def gOk (g : Option Nat) : Bool := match g with
  | none => true
  | some 1 => true
  | _ => false
theorem gOk_iff {g : Option Nat} (h : gOk g = true) : g = none ∨ g = some 1 := by
  unfold gOk at h
  split at h
  · exact .inl rfl
  · exact .inr rfl
  · cases h
def FK (f : FuncId) (args : List Value) (s : St) : Option Inst := if f == 64 then (match args with
  | [.slice (some ⟨k, 0, none⟩) 2 2] => (match s.heap.get k with
    | some (.cells (.lit [.slice none 0 0, .slice (some ⟨b, q, g⟩) n c]) _) => (match s.heap.get b with
      | some (.cells (.ints .u8 L) _) => if gOk g then some ⟨[(k, 0), (b, q)], 2, hcc ((L.drop q).take n) 0 g n c, [sl 0 0 none 2 2], sl 2 0 (some 1) n n, hcf ((L.drop q).take n) g n c, 0 < n ∧ n ≤ 1000000 ∧ ((L.drop q).take n).length = n⟩ else none
      | _ => none)
    | _ => none)
  | _ => none) else none
theorem FK_ok (f : FuncId) (args : List Value) (s : St) (i : Inst) (h : FK f args s = some i) : Fits s i args ∧ (i.ask → CallOk Tryz.prog f i.args i.s0 i.val i.s1) := by
  unfold FK at h
  split at h
  · rename_i hf
    have hf' : f = 64 := by simpa using hf
    subst hf'
    split at h
    · rename_i k
      split at h
      · rename_i b q g n c tk hk
        split at h
        · rename_i L tb hb
          split at h
          · rename_i hg
            cases h
            refine ⟨⟨?_, fun j pp ob h1 h2 => ?_⟩, fun ⟨a1, a2, a3⟩ => by
              have := cc_ok (L := (L.drop q).take n) (q := 0) (c := c) (gOk_iff hg) a1 a2 (by omega)
              rw [hcf_eq a3] at this; exact this⟩
            · show [Value.slice (some ⟨k, 0, none⟩) 2 2] = [Value.slice (some ⟨k, addO 0 0, none⟩) 2 2]
              rw [addO_eq]
            · rcases j with _ | _ | j
              · simp only [List.getElem?_cons_zero, Option.some.injEq] at h1
                simp only [hcc, List.getElem?_cons_zero, Option.some.injEq] at h2
                subst h1; subst h2
                refine ⟨_, hk, fun x v hv => ?_⟩
                rcases x with _ | _ | x
                · simp only [Cells.get, List.getElem?_cons_zero, Option.some.injEq] at hv
                  subst hv; exact ⟨_, rfl, rfl, rfl⟩
                · simp only [Cells.get, Nat.zero_add, List.getElem?_cons_succ, List.getElem?_cons_zero, Option.some.injEq] at hv
                  subst hv
                  refine ⟨_, rfl, ?_, rfl⟩
                  show Value.slice (some ⟨b, q, g⟩) n c = Value.slice (some ⟨b, addO q 0, g⟩) n c
                  rw [addO_eq]; rfl
                · simp [Cells.get] at hv
              · simp only [Nat.zero_add, List.getElem?_cons_succ, List.getElem?_cons_zero, Option.some.injEq] at h1
                simp only [hcc, Nat.zero_add, List.getElem?_cons_succ, List.getElem?_cons_zero, Option.some.injEq] at h2
                subst h1; subst h2
                exact ⟨_, hb, fit_ints⟩
              · simp at h1
          · cases h
        · cases h
      · cases h
    · cases h
  · cases h
end
end ae
end Go.Proofs.YtmgelikgcfjhhaaGreat
namespace Go.Proofs.YtmgelikgcfjhhaaGreat
open Go.ChangeShapes Go.WideShapes Go.ChangeAt Go.RowKit Go.Cln
namespace ae
set_option linter.unusedVariables false
noncomputable section
def KV (U : UX) (T : CT) : Given := { Given.frames (Given.frames Given.nothing (FW U T)) FK with fits := true }
theorem KV_ok (U : UX) (T : CT) : GivenOk Tryz.prog (KV U T) := frames_fits (((GivenOk.nothing _).frames (FW_ok U T)).frames FK_ok) true
def KVA (U : UX) (T : CT) (S : St) : Given := Given.asking2 (KV U T) Tryz.prog (askW S)
theorem KVA_ok (U : UX) (T : CT) (S : St) : GivenOk Tryz.prog (KVA U T S) := GivenOk.asking2 (KV_ok U T) _
def a30 (L : List Int) (q n : Nat) : Prop := 0 < n ∧ n ≤ 1000000 ∧ ((L.drop q).take n).length = n
def hMx (L : List Int) (ks f1 f2 x : Nat → Int) (A : List Int) (o r : Nat) : List (Option Ob) := hMac L ks f1 f2 x (sl 10 0 (some 1) (0 + r) (0 + r)) ++ (List.replicate 7 none ++ [some (.cells (.ints .u8 ((A.drop o).take r)) 5)])
def ks11 : List Bool := [true, true, true, false, false, false, false, false, false, false, true]
def pB (L : List Int) (q n : Nat) : Prop := ((((((True ∧ a30 L q n) ∧ decide ((n : Int) > 0) = true) ∧ decide ((16 : Int) < (n : Int)) = false) ∧ (0 ≤ (n : Int) ∧ (n : Int) ≤ (n : Int) ∧ (0 : Int) ≤ 0 ∧ (0 : Int) ≤ (n : Int))) ∧ decide ((n : Int) > 16) = false) ∧ decide (0 + n ≤ 0) = false) ∧ (0 + n ≤ ((L.drop q).take n).length ∧ 0 + 0 ≤ 0 ∧ (0 + n) * 1 ≤ mostBytes ∧ 0 + n ≤ mostBytes)
theorem wCn (U : UX) (T : CT) (L : List Int) (ks f1 f2 x : Nat → Int) (q n c : Nat) (x' : Nat → Int) (o' r : Nat) : ((mk Tryz.prog (KVA U T (X L ks f1 f2 x' ((L.drop q).take n) o' r)) 200).call 75 [P0 2 0, sl 0 q none n c] (smSt 2 (hMac L ks f1 f2 x (.slice none 0 0)) [])).map (fun r => (r.1, r.2.obl, r.2.next, keepL ks11 r.2.heap.get 0)) = some (.int .i64 0, (True ∧ a30 L q n) ∧ (∀ rd, CodeOk Tryz.prog rd (.loop bW) (E L ks f1 f2 x ((L.drop q).take n) 0 n n) .ret (X L ks f1 f2 x' ((L.drop q).take n) o' r)), (hMx L ks f1 f2 x' ((L.drop q).take n) o' r).length, hMx L ks f1 f2 x' ((L.drop q).take n) o' r) := by kernel_rfl
theorem wBn (U : UX) (T : CT) (L : List Int) (ks f1 f2 x : Nat → Int) (q n c : Nat) : ((mk Tryz.prog (KV U T) 200).call 75 [P0 2 0, sl 0 q none n c] (smSt 2 (hMac L ks f1 f2 x (.slice none 0 0)) (nn 8 ++ oD))).map (fun r => (r.1, r.2.obl, r.2.next, keepL ks11 r.2.heap.get 0)) = some (.int .i64 0, pB L q n, (hMx L ks f1 f2 x ((L.drop q).take n) 0 n).length, hMx L ks f1 f2 x ((L.drop q).take n) 0 n) := by kernel_rfl
theorem wC1 (U : UX) (T : CT) (L : List Int) (ks f1 f2 x : Nat → Int) (q n c : Nat) (x' : Nat → Int) (o' r : Nat) : ((mk Tryz.prog (KVA U T (X L ks f1 f2 x' ((L.drop q).take n) o' r)) 200).call 75 [P0 2 0, sl 0 q (some 1) n c] (smSt 2 (hMac L ks f1 f2 x (.slice none 0 0)) [])).map (fun r => (r.1, r.2.obl, r.2.next, keepL ks11 r.2.heap.get 0)) = some (.int .i64 0, (True ∧ a30 L q n) ∧ (∀ rd, CodeOk Tryz.prog rd (.loop bW) (E L ks f1 f2 x ((L.drop q).take n) 0 n n) .ret (X L ks f1 f2 x' ((L.drop q).take n) o' r)), (hMx L ks f1 f2 x' ((L.drop q).take n) o' r).length, hMx L ks f1 f2 x' ((L.drop q).take n) o' r) := by kernel_rfl
theorem wB1 (U : UX) (T : CT) (L : List Int) (ks f1 f2 x : Nat → Int) (q n c : Nat) : ((mk Tryz.prog (KV U T) 200).call 75 [P0 2 0, sl 0 q (some 1) n c] (smSt 2 (hMac L ks f1 f2 x (.slice none 0 0)) (nn 8 ++ oD))).map (fun r => (r.1, r.2.obl, r.2.next, keepL ks11 r.2.heap.get 0)) = some (.int .i64 0, pB L q n, (hMx L ks f1 f2 x ((L.drop q).take n) 0 n).length, hMx L ks f1 f2 x ((L.drop q).take n) 0 n) := by kernel_rfl
theorem write_ok (L : List Int) (ks f1 f2 x : Nat → Int) (q c Q r : Nat) (g : Option Nat) (hg : g = none ∨ g = some 1) (h0 : 0 < r) (h1 : r ≤ 16) (hn : 16 * Q + r ≤ 1000000) (hc : 16 * Q + r ≤ c) (hL : ((L.drop q).take (16 * Q + r)).length = 16 * Q + r) :
    CallOk Tryz.prog 75 [P0 2 0, sl 0 q g (16 * Q + r) c] (smSt 2 (hMac L ks f1 f2 x (.slice none 0 0)) []) (.int .i64 0) (smSt 2 (hMx L ks f1 f2 (wch ks ((L.drop q).take (16 * Q + r)) Q 0 x) ((L.drop q).take (16 * Q + r)) (0 + 16 * Q) r) []) := by
  have a : a30 L q (16 * Q + r) := ⟨by omega, hn, hL⟩
  by_cases hQ : Q = 0
  · subst hQ
    have e : 16 * 0 + r = r := by omega
    rw [e] at a hL hc ⊢
    have hp : pB L q r := by
      refine ⟨⟨⟨⟨⟨⟨⟨trivial, a⟩, ?_⟩, ?_⟩, by omega⟩, ?_⟩, ?_⟩, by omega, by omega, by unfold mostBytes; omega, by unfold mostBytes; omega⟩
      · rw [decide_eq_true_eq]; omega
      · rw [decide_eq_false_iff_not]; omega
      · rw [decide_eq_false_iff_not]; omega
      · rw [decide_eq_false_iff_not]; omega
    rcases hg with rfl | rfl
    · exact frame_by pg (KV_ok U0 CT0) _ (wBn U0 CT0 L ks f1 f2 x q r c) hp (by rfl) rfl
    · exact frame_by pg (KV_ok U0 CT0) _ (wB1 U0 CT0 L ks f1 f2 x q r c) hp (by rfl) rfl
  · have hl := fun rd => loopWr L ks f1 f2 x ((L.drop q).take (16 * Q + r)) 0 (16 * Q + r) Q r (by omega) h0 h1 (Nat.le_refl _) (by omega) (by omega) rd
    rcases hg with rfl | rfl
    · exact frame_by pg (KVA_ok U0 CT0 _) _ (wCn U0 CT0 L ks f1 f2 x q (16 * Q + r) c (wch ks ((L.drop q).take (16 * Q + r)) Q 0 x) (0 + 16 * Q) r) ⟨⟨trivial, a⟩, hl⟩ (by rfl) rfl
    · exact frame_by pg (KVA_ok U0 CT0 _) _ (wC1 U0 CT0 L ks f1 f2 x q (16 * Q + r) c (wch ks ((L.drop q).take (16 * Q + r)) Q 0 x) (0 + 16 * Q) r) ⟨⟨trivial, a⟩, hl⟩ (by rfl) rfl
end
end ae
end Go.Proofs.YtmgelikgcfjhhaaGreat
