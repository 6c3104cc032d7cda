/- Read off the code by the clean reading. -/
import Derived.Test.YtmgelikgcfjhhaaGreatClnYa
set_option linter.unusedVariables false
set_option linter.unusedSimpArgs false
set_option linter.deprecated false
set_option maxRecDepth 100000
namespace Go.Proofs.YtmgelikgcfjhhaaGreat
open Go.ChangeShapes Go.WideShapes Go.ChangeAt Go.RowKit Go.Cln
namespace km
set_option linter.unusedVariables false
noncomputable section
abbrev KT := List Int → List Int → List Int
theorem fit3 {s : St} {a : Int} {b o z q n c m d : Nat} {g g2 : Option Nat} {i : Inst} {k w : Option Ob} (hw : i.win = [(b, o), (z, q)]) (hh : i.heap = [k, w]) (ha : i.args = [.int .i64 a, sl 0 g n c, sl 1 g2 m d]) (hk : okW s b o n k) (hz : okW s z q m w) :
    Fits s i [.int .i64 a, .slice (some ⟨b, o, g⟩) n c, .slice (some ⟨z, q, g2⟩) m d] := by
  have e0 : i.nu s.next 0 = b := by unfold Inst.nu; rw [hw]; rfl
  have e2 : i.nu s.next 1 = z := by unfold Inst.nu; rw [hw]; rfl
  have d0 : i.del 0 = o := by unfold Inst.del; rw [hw]; rfl
  have d2 : i.del 1 = q := by unfold Inst.del; rw [hw]; rfl
  refine ⟨?_, fun j pp ob h1 h2 => ?_⟩
  · rw [ha]
    show [Value.int .i64 a, .slice (some ⟨b, o, g⟩) n c, .slice (some ⟨z, q, g2⟩) m d] = [Value.int .i64 a, .slice (some ⟨i.nu s.next 0, addO (i.del 0) 0, g⟩) n c, .slice (some ⟨i.nu s.next 1, addO (i.del 1) 0, g2⟩) m d]
    rw [e0, e2, d0, d2, addO_eq, addO_eq]; rfl
  · rw [hw] at h1
    rw [hh] at h2
    rcases j with _ | _ | j
    · simp only [List.getElem?_cons_zero, Option.some.injEq] at h1 h2
      subst h1
      obtain ⟨K, T, e, hb⟩ := hk ob h2
      cases e; exact fit_bI hb
    · simp only [Nat.zero_add, List.getElem?_cons_succ, List.getElem?_cons_zero, Option.some.injEq] at h1 h2
      subst h1
      obtain ⟨M, T, e, hb⟩ := hz ob h2
      cases e; exact fit_bI hb
    · simp at h1
def FY (F0 : FuncId) (al : Int) (B len : Nat) (ty : TypeId) (K0 : KT) (ok : List Int → Nat → List Int → Prop) (KF : KT) (f : FuncId) (args : List Value) (s : St) : Option Inst := if f == F0 then (match args with
  | [.int .i64 a, .slice (some ⟨b, o, g⟩) n c, .slice (some ⟨z, q, g2⟩) 20 d] => if a == al then (match blockI s .u8 b with
    | some (K, _) => (match blockI s .u8 z with
      | some (M, _) => some ⟨[(b, o), (z, q)], 2, h2 (wd K o n) (wd M q 20), [.int .i64 al, sl 0 g n c, sl 1 g2 20 d], .tuple #[sl B none len len, .int .i64 0], h2 (wd K o n) (wd M q 20) ++ (List.replicate (B - 2) none ++ [kN (KF (wd K o n) (wd M q 20)) ty]), KF = K0 ∧ ok (wd K o n) n (wd M q 20) ∧ n ≤ c ∧ 20 ≤ d⟩
      | none => none)
    | none => none) else none
  | _ => none) else none
theorem FY_ok {F0 : FuncId} {al : Int} {B len : Nat} {ty : TypeId} {K0 : KT} {ok : List Int → Nat → List Int → Prop} {KF : KT}
    (hC : ∀ K M n c d, ok K n M → n ≤ c → CallOk Tryz.prog F0 [.int .i64 al, sl 0 none n c, sl 1 none 20 d] (smSt 2 (h2 K M) []) (.tuple #[sl B none len len, .int .i64 0]) (smSt 2 (h2 K M ++ (List.replicate (B - 2) none ++ [kN (K0 K M) ty])) []))
    (f : FuncId) (args : List Value) (s : St) (i : Inst) (h : FY F0 al B len ty K0 ok KF f args s = some i) : Fits s i args ∧ (i.ask → CallOk Tryz.prog f i.args i.s0 i.val i.s1) := by
  unfold FY at h
  split at h
  · rename_i hf
    have hf' : f = F0 := by simpa using hf
    subst hf'
    split at h
    · rename_i a b o g n c z q g2 d
      split at h
      · rename_i hal
        have hal' : a = al := by simpa using hal
        subst hal'
        split at h
        · rename_i K tk hb
          split at h
          · rename_i M tm hz
            cases h
            refine ⟨fit3 rfl rfl rfl (okW.row hb) (okW.row hz), fun ha => ?_⟩
            obtain ⟨rfl, ha, hc, hd⟩ := ha
            exact CallOk.grows g [.int .i64 a] [sl 1 g2 20 d] (fun c' hc' => CallOk.grows g2 [.int .i64 a, sl 0 none n c'] [] (fun d' _ => hC _ _ n c' d' ha hc') d hd) c hc
          · cases h
        · cases h
      · cases h
    · cases h
  · cases h
def KY1 (KF : KT) : Given := { Given.frames (Given.frames (Given.frames Given.nothing (FW 21)) (FY 22 1 130 20 88 key1 ok1 KF)) (FY 23 1 347 20 88 key1 ok1 KF) with fits := true }
theorem KY1_ok (KF : KT) : GivenOk Tryz.prog (KY1 KF) := frames_fits ((((GivenOk.nothing _).frames (FW_ok known6)).frames (FY_ok y22_1)).frames (FY_ok y23_1)) true
def KY2 (KF : KT) : Given := { Given.frames (Given.frames (Given.frames Given.nothing (FW 21)) (FY 22 2 215 16 91 key2 ok2 KF)) (FY 23 2 158 16 91 key2 ok2 KF) with fits := true }
theorem KY2_ok (KF : KT) : GivenOk Tryz.prog (KY2 KF) := frames_fits ((((GivenOk.nothing _).frames (FW_ok known6)).frames (FY_ok y22_2)).frames (FY_ok y23_2)) true
def KY3 (KF : KT) : Given := { Given.frames (Given.frames (Given.frames Given.nothing (FW 21)) (FY 22 2 414 16 91 key3 ok3 KF)) (FY 23 2 306 16 91 key3 ok3 KF) with fits := true }
theorem KY3_ok (KF : KT) : GivenOk Tryz.prog (KY3 KF) := frames_fits ((((GivenOk.nothing _).frames (FW_ok known6)).frames (FY_ok y22_3)).frames (FY_ok y23_3)) true
def KW : Given := { Given.frames Given.nothing (FW 21) with fits := true }
theorem KW_ok : GivenOk Tryz.prog KW := frames_fits ((GivenOk.nothing _).frames (FW_ok known6)) true
def lk (a b c d e f : Int) : Value := .agg #[.int .u32 a, .int .u32 b, .int .u16 c, .int .u16 d, .int .u32 e, .int .u32 f]
def rF (G : Given) (fn : FuncId) (al x l : Value) (h : List (Option Ob)) (o : List (Option Bool)) : Option (Value × St) := (mk Tryz.prog G 300).call fn [al, x, l] (smSt h.length h o)
end
end km
end Go.Proofs.YtmgelikgcfjhhaaGreat
namespace Go.Proofs.YtmgelikgcfjhhaaGreat
open Go.ChangeShapes Go.WideShapes Go.ChangeAt Go.RowKit Go.Cln
namespace km
set_option linter.unusedVariables false
noncomputable section
abbrev w8 (x : Int) : Int := IntKind.u8.wrap x
def q4 (x : Int) : List Int := [w8 (((x.fdiv 256).fdiv 256).fdiv 256), w8 ((x.fdiv 256).fdiv 256), w8 (x.fdiv 256), w8 x]
def q2 (x : Int) : List Int := [w8 (x.fdiv 256), w8 x]
def d4 (x : Int) : List Int := [w8 (IntKind.u32.wrap (x.tdiv 16777216)), w8 ((IntKind.u32.wrap (x.tdiv 65536)).tmod 256), w8 ((IntKind.u32.wrap (x.tdiv 256)).tmod 256), w8 (x.tmod 256)]
def d2 (x : Int) : List Int := [w8 (IntKind.u16.wrap (x.tdiv 256)), w8 (x.tmod 256)]
abbrev CT := Int → Int → Int → Int → Int → Int → List Int
def cxc : CT := fun a b p q e f => q4 a ++ (q4 b ++ (q2 p ++ (q2 q ++ (q4 e ++ q4 f))))
def cxd : CT := fun a b p q e f => d4 a ++ (d4 b ++ (d2 p ++ (d2 q ++ (d4 e ++ d4 f))))
theorem wrap8 (x : Int) : w8 x = x % 256 := by show IntKind.u8.wrap x = _; rfl
theorem wrap32 (x : Int) : IntKind.u32.wrap x = x % 4294967296 := rfl
theorem wrap16 (x : Int) : IntKind.u16.wrap x = x % 65536 := rfl
theorem w8_in (x : Int) : 0 ≤ w8 x ∧ w8 x < 256 := by rw [wrap8]; omega
theorem q4_eq {x : Int} (h0 : 0 ≤ x) (h1 : x < 4294967296) : d4 x = q4 x := by
  unfold d4 q4
  simp only [wrap8, wrap32, Int.tdiv_eq_ediv_of_nonneg h0, Int.fdiv_eq_ediv_of_nonneg _ (show (0 : Int) ≤ 256 by omega)]
  have t1 : ((x / 65536) % 4294967296).tmod 256 = ((x / 65536) % 4294967296) % 256 := Int.tmod_eq_emod_of_nonneg (by omega)
  have t2 : ((x / 256) % 4294967296).tmod 256 = ((x / 256) % 4294967296) % 256 := Int.tmod_eq_emod_of_nonneg (by omega)
  have t3 : x.tmod 256 = x % 256 := Int.tmod_eq_emod_of_nonneg h0
  rw [t1, t2, t3]
  congr 1
  · omega
  · congr 1
    · omega
    · congr 1
      · omega
      · congr 1; omega
theorem q2_eq {x : Int} (h0 : 0 ≤ x) (h1 : x < 65536) : d2 x = q2 x := by
  unfold d2 q2
  simp only [wrap8, wrap16, Int.tdiv_eq_ediv_of_nonneg h0, Int.fdiv_eq_ediv_of_nonneg _ (show (0 : Int) ≤ 256 by omega)]
  have t3 : x.tmod 256 = x % 256 := Int.tmod_eq_emod_of_nonneg h0
  rw [t3]
  congr 1
  · omega
  · congr 1; omega
def rng (a b p q e f : Int) : Prop := ((0 ≤ a ∧ a < 4294967296) ∧ (0 ≤ b ∧ b < 4294967296)) ∧ ((0 ≤ p ∧ p < 65536) ∧ (0 ≤ q ∧ q < 65536)) ∧ ((0 ≤ e ∧ e < 4294967296) ∧ (0 ≤ f ∧ f < 4294967296))
theorem cx_eq {a b p q e f : Int} (h : rng a b p q e f) : cxd a b p q e f = cxc a b p q e f := by
  obtain ⟨⟨h1, h2⟩, ⟨h3, h4⟩, h5, h6⟩ := h
  unfold cxd cxc
  rw [q4_eq h1.1 h1.2, q4_eq h2.1 h2.2, q2_eq h3.1 h3.2, q2_eq h4.1 h4.2, q4_eq h5.1 h5.2, q4_eq h6.1 h6.2]
theorem cx_len (a b p q e f : Int) : (cxc a b p q e f).length = 20 := rfl
theorem cx_byt (a b p q e f : Int) : hx.Byt (cxc a b p q e f) := fun x hx => by
  unfold cxc q4 q2 at hx
  simp only [List.mem_append, List.mem_cons, List.not_mem_nil, or_false] at hx
  rcases hx with (h | h | h | h) | (h | h | h | h) | (h | h) | (h | h) | (h | h | h | h) | (h | h | h | h) <;> (rw [h]; exact w8_in _)
theorem r50 (a b p q e f : Int) : ((mk Tryz.prog KW 300).call 50 [lk a b p q e f] (smSt 0 [] [])).map (fun r => (r.1, r.2.obl, r.2.next, keepL (List.replicate 42 false ++ [true]) r.2.heap.get 0)) = some (sl 42 (some 1) 20 20, True, (List.replicate 42 none ++ [kB (cxc a b p q e f) 5]).length, List.replicate 42 none ++ [kB (cxc a b p q e f) 5]) := by kernel_rfl
theorem r53 (a b p q e f : Int) : ((mk Tryz.prog KW 300).call 53 [lk a b p q e f] (smSt 0 [] [])).map (fun r => (r.1, r.2.obl, r.2.next, keepL (List.replicate 9 false ++ [true]) r.2.heap.get 0)) = some (sl 9 (some 1) 20 20, True, (List.replicate 9 none ++ [kB (cxd a b p q e f) 5]).length, List.replicate 9 none ++ [kB (cxd a b p q e f) 5]) := by kernel_rfl
theorem y50 (a b p q e f : Int) : CallOk Tryz.prog 50 [lk a b p q e f] (smSt 0 [] []) (sl 42 (some 1) 20 20) (smSt 0 (List.replicate 42 none ++ [kN (cxc a b p q e f) 5]) []) :=
  CallOk.last (by simp) (by simp) (by simp) (by simp) (by simp) (frame_by ae.pg KW_ok _ (r50 a b p q e f) trivial (by rfl) rfl)
theorem y53 (a b p q e f : Int) (h : rng a b p q e f) : CallOk Tryz.prog 53 [lk a b p q e f] (smSt 0 [] []) (sl 9 (some 1) 20 20) (smSt 0 (List.replicate 9 none ++ [kN (cxc a b p q e f) 5]) []) := by
  have := CallOk.last (by simp) (by simp) (by simp) (by simp) (by simp) (frame_by ae.pg KW_ok _ (r53 a b p q e f) trivial (by rfl) rfl)
  rw [cx_eq h] at this; exact this
def FX (F0 : FuncId) (B : Nat) (CX : CT) (f : FuncId) (args : List Value) (_ : St) : Option Inst := if f == F0 then (match args with
  | [.agg ⟨[.int .u32 a, .int .u32 b, .int .u16 p, .int .u16 q, .int .u32 e, .int .u32 h]⟩] => some ⟨[], 0, [], [lk a b p q e h], sl B (some 1) 20 20, List.replicate B none ++ [kN (CX a b p q e h) 5], CX = cxc ∧ rng a b p q e h⟩
  | _ => none) else none
theorem FX_ok {F0 : FuncId} {B : Nat} {CX : CT} (hC : ∀ a b p q e f, rng a b p q e f → CallOk Tryz.prog F0 [lk a b p q e f] (smSt 0 [] []) (sl B (some 1) 20 20) (smSt 0 (List.replicate B none ++ [kN (cxc a b p q e f) 5]) []))
    (f : FuncId) (args : List Value) (s : St) (i : Inst) (h : FX F0 B CX f args s = some i) : Fits s i args ∧ (i.ask → CallOk Tryz.prog f i.args i.s0 i.val i.s1) := by
  unfold FX at h
  split at h
  · rename_i hf
    have hf' : f = F0 := by simpa using hf
    subst hf'
    split at h
    · cases h
      refine ⟨⟨rfl, fun j p ob hp ho => by simp at hp⟩, fun ha => ?_⟩
      obtain ⟨rfl, hr⟩ := ha
      exact hC _ _ _ _ _ _ hr
    · cases h
  · cases h
def KX (G : Given) (CX : CT) : Given := Given.frames (Given.frames G (FX 50 42 CX)) (FX 53 9 CX)
theorem KX_ok {G : Given} (h : GivenOk Tryz.prog G) (CX : CT) : GivenOk Tryz.prog (KX G CX) := (h.frames (FX_ok fun a b p q e f _ => y50 a b p q e f)).frames (FX_ok y53)
end
end km
end Go.Proofs.YtmgelikgcfjhhaaGreat
namespace Go.Proofs.YtmgelikgcfjhhaaGreat
open Go.ChangeShapes Go.WideShapes Go.ChangeAt Go.RowKit Go.Cln
namespace km
set_option linter.unusedVariables false
noncomputable section
def upN (X : List Int) : Nat → List Int
  | 0 => X
  | i + 1 => (upN X i).set (0 + i * 1) (IntKind.u8.wrap ((upN X i).getD (0 + i * 1) 0 + 1))
def pU (X : List Int) (p : Prop) : Nat → Prop
  | 0 => p
  | i + 1 => (pU X p i ∧ 0 + i * 1 < (upN X i).length) ∧ 0 + i * 1 + 1 ≤ (upN X i).length
theorem upN_len (X : List Int) : ∀ i, (upN X i).length = X.length
  | 0 => rfl
  | i + 1 => by show ((upN X i).set _ _).length = _; rw [List.length_set]; exact upN_len X i
theorem pU_ok {X : List Int} {p : Prop} {L : Nat} (hX : 0 + 0 + L ≤ X.length) (hp : p) : ∀ i, i ≤ L → pU X p i
  | 0, _ => hp
  | i + 1, h => ⟨⟨pU_ok hX hp i (by omega), by rw [upN_len]; omega⟩, by rw [upN_len]; omega⟩
def oF1s : List (Option Bool) := [none, none, some false, none, none, none, none, none, none, none, none, none, none, none, none, none, none, none, none, none, none, none, none, none, none, none, none, none, none, none, none, none, none, none, none, none, none, some true, none, none, none, none, none, none, none, some true, none, none, none, none, none, none, none, some true, none, none, none, none, none, none, none, some false, none, none, none, none, none, none, none, some true, none, none, some true, none, none, none, some true, none, none, some true, none, none, none, some true, none, none, some true, none, none, none, some true, none, none, some true, none, none, none, some true, none, none, some true, none, none, none, some true, none, none, some true, none, none, none, some true, none, none, some true, none, none, none, some true, none, none, some true, none, none, none, some true, none, none, some true, none, none, none, some true, none, none, some true, none, none, none, some true, none, none, some true, none, none, none, some true, none, none, some true, none, none, none, some true, none, none, some true, none, none, none, some true, none, none, some true, none, none, none, some true, none, none, some true, none, none, none, some true, none, none, some true, none, none, none, some true, none, none, some true, none, none, none, some true, none, none, some true, none, none, none, some true, none, none, some true, none, none, none, some true, none, none, some true, none, none, none, none, none, none, none, none, none, none, some true, none, none, none, none, none, none, none, none, none, some true]
def pF1s (KF : KT) (CX : CT) (K : List Int) (n : Nat) (c : Nat) (a b p q e f : Int) : Prop := ((((((((pU (KF (wd K 0 n) (wd (CX a b p q e f) 0 20)) (((((((((((((((((((((((((((((True ∧ decide ((n : Int) > 300) = false) ∧ (CX = cxc ∧ rng a b p q e 0)) ∧ (KF = key1 ∧ ok1 (wd K 0 n) n (wd (CX a b p q e 0) 0 20) ∧ n ≤ c ∧ 20 ≤ 20)) ∧ (CX = cxc ∧ rng b a q p f 0)) ∧ (KF = key1 ∧ ok1 (wd K 0 n) n (wd (CX b a q p f 0) 0 20) ∧ n ≤ c ∧ 20 ≤ 20)) ∧ (CX = cxc ∧ rng a b p q e f)) ∧ (KF = key1 ∧ ok1 (wd K 0 n) n (wd (CX a b p q e f) 0 20) ∧ n ≤ c ∧ 20 ≤ 20)) ∧ (CX = cxc ∧ rng b a q p f e)) ∧ (KF = key1 ∧ ok1 (wd K 0 n) n (wd (CX b a q p f e) 0 20) ∧ n ≤ c ∧ 20 ≤ 20)) ∧ (CX = cxc ∧ rng a b p q e 0)) ∧ (KF = key1 ∧ ok1 (wd K 0 n) n (wd (CX a b p q e 0) 0 20) ∧ n ≤ c ∧ 20 ≤ 20)) ∧ (CX = cxc ∧ rng b a q p f 0)) ∧ (KF = key1 ∧ ok1 (wd K 0 n) n (wd (CX b a q p f 0) 0 20) ∧ n ≤ c ∧ 20 ≤ 20)) ∧ (CX = cxc ∧ rng a b p q e f)) ∧ (KF = key1 ∧ ok1 (wd K 0 n) n (wd (CX a b p q e f) 0 20) ∧ n ≤ c ∧ 20 ≤ 20)) ∧ (CX = cxc ∧ rng b a q p f e)) ∧ (KF = key1 ∧ ok1 (wd K 0 n) n (wd (CX b a q p f e) 0 20) ∧ n ≤ c ∧ 20 ≤ 20)) ∧ 0 + 0 + 20 ≤ (KF (wd K 0 n) (wd (CX a b p q e 0) 0 20)).length) ∧ 0 + 0 + 20 ≤ (KF (wd K 0 n) (wd (CX a b p q e 0) 0 20)).length) ∧ ((bytesI (List.take 20 (KF (wd K 0 n) (wd (CX a b p q e 0) 0 20)))).toList == (bytesI (List.take 20 (KF (wd K 0 n) (wd (CX a b p q e 0) 0 20)))).toList) = true) ∧ 0 + 0 + 20 ≤ (KF (wd K 0 n) (wd (CX b a q p f 0) 0 20)).length) ∧ 0 + 0 + 20 ≤ (KF (wd K 0 n) (wd (CX b a q p f 0) 0 20)).length) ∧ ((bytesI (List.take 20 (KF (wd K 0 n) (wd (CX b a q p f 0) 0 20)))).toList == (bytesI (List.take 20 (KF (wd K 0 n) (wd (CX b a q p f 0) 0 20)))).toList) = true) ∧ 0 + 0 + 20 ≤ (KF (wd K 0 n) (wd (CX a b p q e f) 0 20)).length) ∧ 0 + 0 + 20 ≤ (KF (wd K 0 n) (wd (CX a b p q e f) 0 20)).length) ∧ ((bytesI (List.take 20 (KF (wd K 0 n) (wd (CX a b p q e f) 0 20)))).toList == (bytesI (List.take 20 (KF (wd K 0 n) (wd (CX a b p q e f) 0 20)))).toList) = true) ∧ 0 + 0 + 20 ≤ (KF (wd K 0 n) (wd (CX b a q p f e) 0 20)).length) ∧ 0 + 0 + 20 ≤ (KF (wd K 0 n) (wd (CX b a q p f e) 0 20)).length) ∧ (!((bytesI (List.take 20 (KF (wd K 0 n) (wd (CX b a q p f e) 0 20)))).toList == (bytesI (List.take 20 (KF (wd K 0 n) (wd (CX b a q p f e) 0 20)))).toList)) = false) 20) ∧ 0 + 0 + 20 ≤ (KF (wd K 0 n) (wd (CX b a q p f e) 0 20)).length) ∧ 0 + 0 + 20 ≤ (KF (wd K 0 n) (wd (CX b a q p f e) 0 20)).length) ∧ ((bytesI (List.take 20 (KF (wd K 0 n) (wd (CX b a q p f e) 0 20)))).toList == (bytesI (List.take 20 (KF (wd K 0 n) (wd (CX b a q p f e) 0 20)))).toList) = true) ∧ 0 + 0 + 20 ≤ (KF (wd K 0 n) (wd (CX a b p q e 0) 0 20)).length) ∧ 0 + 0 + 20 ≤ (KF (wd K 0 n) (wd (CX a b p q e 0) 0 20)).length) ∧ ((bytesI (List.take 20 (KF (wd K 0 n) (wd (CX a b p q e 0) 0 20)))).toList == (bytesI (List.take 20 (KF (wd K 0 n) (wd (CX a b p q e 0) 0 20)))).toList) = true) ∧ True)
theorem runF1s (KF : KT) (CX : CT) (K : List Int) (n : Nat) (c : Nat) (a b p q e f : Int) : (rF (KX (KY1 KF) CX) 8 (.int .i64 1) (sl 0 none n c) (lk a b p q e f) [ae.oI K] oF1s).map (fun r => (r.1, r.2.obl)) = some (.bool true, pF1s KF CX K n c a b p q e f) := by kernel_rfl
def oF2k : List (Option Bool) := [none, none, none, none, none, none, none, none, none, none, none, none, none, none, none, none, none, none, none, none, none, none, none, none, none, none, none, none, none, none, none, none, none, none, none, none, none, some true, none, none, none, none, none, none, none, some true, none, none, none, none, none, none, none, some true, none, none, none, none, none, none, none, some false, none, none, none, none, none, none, none, some true, none, none, some true, none, none, none, some true, none, none, some true, none, none, none, some true, none, none, some true, none, none, none, some true, none, none, some true, none, none, none, some true, none, none, some true, none, none, none, some true, none, none, some true, none, none, none, some true, none, none, some true, none, none, none, some true, none, none, some true, none, none, none, some true, none, none, some true, none, none, none, some true, none, none, some true, none, none, none, some true, none, none, some true, none, none, none, some true, none, none, some true, none, none, none, some true, none, none, some true, none, none, none, some true, none, none, some true, none, none, none, some true, none, none, some true, none, none, none, some true, none, none, some true, none, none, none, none, none, none, none, none, none, none, some true, none, none, none, none, none, none, none, none, none, some true]
def pF2k (KF : KT) (CX : CT) (K : List Int) (c : Nat) (a b p q e f : Int) : Prop := ((((((((pU (KF (wd K 0 16) (wd (CX a b p q e f) 0 20)) ((((((((((((((((((((((((((((True ∧ (CX = cxc ∧ rng a b p q e 0)) ∧ (KF = key2 ∧ ok2 (wd K 0 16) 16 (wd (CX a b p q e 0) 0 20) ∧ 16 ≤ c ∧ 20 ≤ 20)) ∧ (CX = cxc ∧ rng b a q p f 0)) ∧ (KF = key2 ∧ ok2 (wd K 0 16) 16 (wd (CX b a q p f 0) 0 20) ∧ 16 ≤ c ∧ 20 ≤ 20)) ∧ (CX = cxc ∧ rng a b p q e f)) ∧ (KF = key2 ∧ ok2 (wd K 0 16) 16 (wd (CX a b p q e f) 0 20) ∧ 16 ≤ c ∧ 20 ≤ 20)) ∧ (CX = cxc ∧ rng b a q p f e)) ∧ (KF = key2 ∧ ok2 (wd K 0 16) 16 (wd (CX b a q p f e) 0 20) ∧ 16 ≤ c ∧ 20 ≤ 20)) ∧ (CX = cxc ∧ rng a b p q e 0)) ∧ (KF = key2 ∧ ok2 (wd K 0 16) 16 (wd (CX a b p q e 0) 0 20) ∧ 16 ≤ c ∧ 20 ≤ 20)) ∧ (CX = cxc ∧ rng b a q p f 0)) ∧ (KF = key2 ∧ ok2 (wd K 0 16) 16 (wd (CX b a q p f 0) 0 20) ∧ 16 ≤ c ∧ 20 ≤ 20)) ∧ (CX = cxc ∧ rng a b p q e f)) ∧ (KF = key2 ∧ ok2 (wd K 0 16) 16 (wd (CX a b p q e f) 0 20) ∧ 16 ≤ c ∧ 20 ≤ 20)) ∧ (CX = cxc ∧ rng b a q p f e)) ∧ (KF = key2 ∧ ok2 (wd K 0 16) 16 (wd (CX b a q p f e) 0 20) ∧ 16 ≤ c ∧ 20 ≤ 20)) ∧ 0 + 0 + 16 ≤ (KF (wd K 0 16) (wd (CX a b p q e 0) 0 20)).length) ∧ 0 + 0 + 16 ≤ (KF (wd K 0 16) (wd (CX a b p q e 0) 0 20)).length) ∧ ((bytesI (List.take 16 (KF (wd K 0 16) (wd (CX a b p q e 0) 0 20)))).toList == (bytesI (List.take 16 (KF (wd K 0 16) (wd (CX a b p q e 0) 0 20)))).toList) = true) ∧ 0 + 0 + 16 ≤ (KF (wd K 0 16) (wd (CX b a q p f 0) 0 20)).length) ∧ 0 + 0 + 16 ≤ (KF (wd K 0 16) (wd (CX b a q p f 0) 0 20)).length) ∧ ((bytesI (List.take 16 (KF (wd K 0 16) (wd (CX b a q p f 0) 0 20)))).toList == (bytesI (List.take 16 (KF (wd K 0 16) (wd (CX b a q p f 0) 0 20)))).toList) = true) ∧ 0 + 0 + 16 ≤ (KF (wd K 0 16) (wd (CX a b p q e f) 0 20)).length) ∧ 0 + 0 + 16 ≤ (KF (wd K 0 16) (wd (CX a b p q e f) 0 20)).length) ∧ ((bytesI (List.take 16 (KF (wd K 0 16) (wd (CX a b p q e f) 0 20)))).toList == (bytesI (List.take 16 (KF (wd K 0 16) (wd (CX a b p q e f) 0 20)))).toList) = true) ∧ 0 + 0 + 16 ≤ (KF (wd K 0 16) (wd (CX b a q p f e) 0 20)).length) ∧ 0 + 0 + 16 ≤ (KF (wd K 0 16) (wd (CX b a q p f e) 0 20)).length) ∧ (!((bytesI (List.take 16 (KF (wd K 0 16) (wd (CX b a q p f e) 0 20)))).toList == (bytesI (List.take 16 (KF (wd K 0 16) (wd (CX b a q p f e) 0 20)))).toList)) = false) 16) ∧ 0 + 0 + 16 ≤ (KF (wd K 0 16) (wd (CX b a q p f e) 0 20)).length) ∧ 0 + 0 + 16 ≤ (KF (wd K 0 16) (wd (CX b a q p f e) 0 20)).length) ∧ ((bytesI (List.take 16 (KF (wd K 0 16) (wd (CX b a q p f e) 0 20)))).toList == (bytesI (List.take 16 (KF (wd K 0 16) (wd (CX b a q p f e) 0 20)))).toList) = true) ∧ 0 + 0 + 16 ≤ (KF (wd K 0 16) (wd (CX a b p q e 0) 0 20)).length) ∧ 0 + 0 + 16 ≤ (KF (wd K 0 16) (wd (CX a b p q e 0) 0 20)).length) ∧ ((bytesI (List.take 16 (KF (wd K 0 16) (wd (CX a b p q e 0) 0 20)))).toList == (bytesI (List.take 16 (KF (wd K 0 16) (wd (CX a b p q e 0) 0 20)))).toList) = true) ∧ True)
theorem runF2k (KF : KT) (CX : CT) (K : List Int) (c : Nat) (a b p q e f : Int) : (rF (KX (KY2 KF) CX) 8 (.int .i64 2) (sl 0 none 16 c) (lk a b p q e f) [ae.oI K] oF2k).map (fun r => (r.1, r.2.obl)) = some (.bool true, pF2k KF CX K c a b p q e f) := by kernel_rfl
def oF2s : List (Option Bool) := [none, none, some false, none, none, none, none, none, none, none, none, none, none, none, none, none, none, none, none, none, none, none, none, none, none, none, none, none, none, none, none, none, none, none, none, none, none, some true, none, none, none, none, none, none, none, some true, none, none, none, none, none, none, none, some true, none, none, none, none, none, none, none, some false, none, none, none, none, none, none, none, some true, none, none, some true, none, none, none, some true, none, none, some true, none, none, none, some true, none, none, some true, none, none, none, some true, none, none, some true, none, none, none, some true, none, none, some true, none, none, none, some true, none, none, some true, none, none, none, some true, none, none, some true, none, none, none, some true, none, none, some true, none, none, none, some true, none, none, some true, none, none, none, some true, none, none, some true, none, none, none, some true, none, none, some true, none, none, none, some true, none, none, some true, none, none, none, some true, none, none, some true, none, none, none, some true, none, none, some true, none, none, none, some true, none, none, some true, none, none, none, some true, none, none, some true, none, none, none, none, none, none, none, none, none, none, some true, none, none, none, none, none, none, none, none, none, some true]
def pF2s (KF : KT) (CX : CT) (K : List Int) (n : Nat) (c : Nat) (a b p q e f : Int) : Prop := ((((((((pU (KF (wd K 0 n) (wd (CX a b p q e f) 0 20)) (((((((((((((((((((((((((((((True ∧ decide ((n : Int) > 300) = false) ∧ (CX = cxc ∧ rng a b p q e 0)) ∧ (KF = key3 ∧ ok3 (wd K 0 n) n (wd (CX a b p q e 0) 0 20) ∧ n ≤ c ∧ 20 ≤ 20)) ∧ (CX = cxc ∧ rng b a q p f 0)) ∧ (KF = key3 ∧ ok3 (wd K 0 n) n (wd (CX b a q p f 0) 0 20) ∧ n ≤ c ∧ 20 ≤ 20)) ∧ (CX = cxc ∧ rng a b p q e f)) ∧ (KF = key3 ∧ ok3 (wd K 0 n) n (wd (CX a b p q e f) 0 20) ∧ n ≤ c ∧ 20 ≤ 20)) ∧ (CX = cxc ∧ rng b a q p f e)) ∧ (KF = key3 ∧ ok3 (wd K 0 n) n (wd (CX b a q p f e) 0 20) ∧ n ≤ c ∧ 20 ≤ 20)) ∧ (CX = cxc ∧ rng a b p q e 0)) ∧ (KF = key3 ∧ ok3 (wd K 0 n) n (wd (CX a b p q e 0) 0 20) ∧ n ≤ c ∧ 20 ≤ 20)) ∧ (CX = cxc ∧ rng b a q p f 0)) ∧ (KF = key3 ∧ ok3 (wd K 0 n) n (wd (CX b a q p f 0) 0 20) ∧ n ≤ c ∧ 20 ≤ 20)) ∧ (CX = cxc ∧ rng a b p q e f)) ∧ (KF = key3 ∧ ok3 (wd K 0 n) n (wd (CX a b p q e f) 0 20) ∧ n ≤ c ∧ 20 ≤ 20)) ∧ (CX = cxc ∧ rng b a q p f e)) ∧ (KF = key3 ∧ ok3 (wd K 0 n) n (wd (CX b a q p f e) 0 20) ∧ n ≤ c ∧ 20 ≤ 20)) ∧ 0 + 0 + 16 ≤ (KF (wd K 0 n) (wd (CX a b p q e 0) 0 20)).length) ∧ 0 + 0 + 16 ≤ (KF (wd K 0 n) (wd (CX a b p q e 0) 0 20)).length) ∧ ((bytesI (List.take 16 (KF (wd K 0 n) (wd (CX a b p q e 0) 0 20)))).toList == (bytesI (List.take 16 (KF (wd K 0 n) (wd (CX a b p q e 0) 0 20)))).toList) = true) ∧ 0 + 0 + 16 ≤ (KF (wd K 0 n) (wd (CX b a q p f 0) 0 20)).length) ∧ 0 + 0 + 16 ≤ (KF (wd K 0 n) (wd (CX b a q p f 0) 0 20)).length) ∧ ((bytesI (List.take 16 (KF (wd K 0 n) (wd (CX b a q p f 0) 0 20)))).toList == (bytesI (List.take 16 (KF (wd K 0 n) (wd (CX b a q p f 0) 0 20)))).toList) = true) ∧ 0 + 0 + 16 ≤ (KF (wd K 0 n) (wd (CX a b p q e f) 0 20)).length) ∧ 0 + 0 + 16 ≤ (KF (wd K 0 n) (wd (CX a b p q e f) 0 20)).length) ∧ ((bytesI (List.take 16 (KF (wd K 0 n) (wd (CX a b p q e f) 0 20)))).toList == (bytesI (List.take 16 (KF (wd K 0 n) (wd (CX a b p q e f) 0 20)))).toList) = true) ∧ 0 + 0 + 16 ≤ (KF (wd K 0 n) (wd (CX b a q p f e) 0 20)).length) ∧ 0 + 0 + 16 ≤ (KF (wd K 0 n) (wd (CX b a q p f e) 0 20)).length) ∧ (!((bytesI (List.take 16 (KF (wd K 0 n) (wd (CX b a q p f e) 0 20)))).toList == (bytesI (List.take 16 (KF (wd K 0 n) (wd (CX b a q p f e) 0 20)))).toList)) = false) 16) ∧ 0 + 0 + 16 ≤ (KF (wd K 0 n) (wd (CX b a q p f e) 0 20)).length) ∧ 0 + 0 + 16 ≤ (KF (wd K 0 n) (wd (CX b a q p f e) 0 20)).length) ∧ ((bytesI (List.take 16 (KF (wd K 0 n) (wd (CX b a q p f e) 0 20)))).toList == (bytesI (List.take 16 (KF (wd K 0 n) (wd (CX b a q p f e) 0 20)))).toList) = true) ∧ 0 + 0 + 16 ≤ (KF (wd K 0 n) (wd (CX a b p q e 0) 0 20)).length) ∧ 0 + 0 + 16 ≤ (KF (wd K 0 n) (wd (CX a b p q e 0) 0 20)).length) ∧ ((bytesI (List.take 16 (KF (wd K 0 n) (wd (CX a b p q e 0) 0 20)))).toList == (bytesI (List.take 16 (KF (wd K 0 n) (wd (CX a b p q e 0) 0 20)))).toList) = true) ∧ True)
theorem runF2s (KF : KT) (CX : CT) (K : List Int) (n : Nat) (c : Nat) (a b p q e f : Int) : (rF (KX (KY3 KF) CX) 8 (.int .i64 2) (sl 0 none n c) (lk a b p q e f) [ae.oI K] oF2s).map (fun r => (r.1, r.2.obl)) = some (.bool true, pF2s KF CX K n c a b p q e f) := by kernel_rfl
noncomputable def oFon : List (Option Bool) := [none, none, none, none, none, none, none, none, none, some false, some false, none, none, none, none, none, none, none, none, some false, some false]
noncomputable def pFon (CX : CT) (A : Int) (a : Int) (b : Int) (p : Int) (q : Int) (e : Int) (f : Int) : Prop := (((((((True ∧ ((CX = cxc) ∧ (rng a b p q e 0))) ∧ ((decide (A = 1)) = false)) ∧ ((decide (A = 2)) = false)) ∧ ((CX = cxc) ∧ (rng a b p q e 0))) ∧ ((decide (A = 1)) = false)) ∧ ((decide (A = 2)) = false)) ∧ True)
theorem runFon (CX : CT) (A : Int) (a : Int) (b : Int) (p : Int) (q : Int) (e : Int) (f : Int) : (rF (KX KW CX) 8 (.int .i64 A) (.slice none 0 0) (lk a b p q e f) [] oFon).map (fun r => (r.1, r.2.obl)) = some (.bool true, pFon CX A a b p q e f) := by kernel_rfl
noncomputable def oFoi : List (Option Bool) := [none, none, some false, none, none, none, none, none, none, some false, some false, none, none, none, none, none, none, none, none, some false, some false]
noncomputable def pFoi (CX : CT) (A : Int) (n : Nat) (c : Nat) (a : Int) (b : Int) (p : Int) (q : Int) (e : Int) (f : Int) : Prop := ((((((((True ∧ ((decide (300 < (nI n))) = false)) ∧ ((CX = cxc) ∧ (rng a b p q e 0))) ∧ ((decide (A = 1)) = false)) ∧ ((decide (A = 2)) = false)) ∧ ((CX = cxc) ∧ (rng a b p q e 0))) ∧ ((decide (A = 1)) = false)) ∧ ((decide (A = 2)) = false)) ∧ True)
theorem runFoi (CX : CT) (A : Int) (n : Nat) (c : Nat) (a : Int) (b : Int) (p : Int) (q : Int) (e : Int) (f : Int) : (rF (KX KW CX) 8 (.int .i64 A) (sl 0 none n c) (lk a b p q e f) [none] oFoi).map (fun r => (r.1, r.2.obl)) = some (.bool true, pFoi CX A n c a b p q e f) := by kernel_rfl
noncomputable def oF1n : List (Option Bool) := []
noncomputable def pF1n (CX : CT) (a : Int) (b : Int) (p : Int) (q : Int) (e : Int) (f : Int) : Prop := (((True ∧ ((CX = cxc) ∧ (rng a b p q e 0))) ∧ ((CX = cxc) ∧ (rng a b p q e 0))) ∧ True)
theorem runF1n (CX : CT) (a : Int) (b : Int) (p : Int) (q : Int) (e : Int) (f : Int) : (rF (KX KW CX) 8 (.int .i64 1) (.slice none 0 0) (lk a b p q e f) [] oF1n).map (fun r => (r.1, r.2.obl)) = some (.bool true, pF1n CX a b p q e f) := by kernel_rfl
noncomputable def oF1z : List (Option Bool) := []
noncomputable def pF1z (CX : CT) (c : Nat) (a : Int) (b : Int) (p : Int) (q : Int) (e : Int) (f : Int) : Prop := (((True ∧ ((CX = cxc) ∧ (rng a b p q e 0))) ∧ ((CX = cxc) ∧ (rng a b p q e 0))) ∧ True)
theorem runF1z (CX : CT) (c : Nat) (a : Int) (b : Int) (p : Int) (q : Int) (e : Int) (f : Int) : (rF (KX KW CX) 8 (.int .i64 1) (sl 0 none 0 c) (lk a b p q e f) [none] oF1z).map (fun r => (r.1, r.2.obl)) = some (.bool true, pF1z CX c a b p q e f) := by kernel_rfl
noncomputable def oF1l : List (Option Bool) := [none, none, some false, none, none, none, none, none, none, none, none, none, some true, none, none, none, none, none, some true, none, none, none, none, none, none, some true, none, none, none, none, none, some true]
noncomputable def pF1l (CX : CT) (n : Nat) (c : Nat) (a : Int) (b : Int) (p : Int) (q : Int) (e : Int) (f : Int) : Prop := ((((((((True ∧ ((decide (300 < (nI n))) = false)) ∧ ((CX = cxc) ∧ (rng a b p q e 0))) ∧ ((decide (0 < (nI n))) = true)) ∧ ((!(decide ((nI n) ≤ 80))) = true)) ∧ ((CX = cxc) ∧ (rng a b p q e 0))) ∧ ((decide (1 ≤ (nI n))) = true)) ∧ ((!(decide ((nI n) ≤ 80))) = true)) ∧ True)
theorem runF1l (CX : CT) (n : Nat) (c : Nat) (a : Int) (b : Int) (p : Int) (q : Int) (e : Int) (f : Int) : (rF (KX KW CX) 8 (.int .i64 1) (sl 0 none n c) (lk a b p q e f) [none] oF1l).map (fun r => (r.1, r.2.obl)) = some (.bool true, pF1l CX n c a b p q e f) := by kernel_rfl
noncomputable def oF2n : List (Option Bool) := []
noncomputable def pF2n (CX : CT) (a : Int) (b : Int) (p : Int) (q : Int) (e : Int) (f : Int) : Prop := (((True ∧ ((CX = cxc) ∧ (rng a b p q e 0))) ∧ ((CX = cxc) ∧ (rng a b p q e 0))) ∧ True)
theorem runF2n (CX : CT) (a : Int) (b : Int) (p : Int) (q : Int) (e : Int) (f : Int) : (rF (KX KW CX) 8 (.int .i64 2) (.slice none 0 0) (lk a b p q e f) [] oF2n).map (fun r => (r.1, r.2.obl)) = some (.bool true, pF2n CX a b p q e f) := by kernel_rfl
noncomputable def oF2z : List (Option Bool) := []
noncomputable def pF2z (CX : CT) (c : Nat) (a : Int) (b : Int) (p : Int) (q : Int) (e : Int) (f : Int) : Prop := (((True ∧ ((CX = cxc) ∧ (rng a b p q e 0))) ∧ ((CX = cxc) ∧ (rng a b p q e 0))) ∧ True)
theorem runF2z (CX : CT) (c : Nat) (a : Int) (b : Int) (p : Int) (q : Int) (e : Int) (f : Int) : (rF (KX KW CX) 8 (.int .i64 2) (sl 0 none 0 c) (lk a b p q e f) [none] oF2z).map (fun r => (r.1, r.2.obl)) = some (.bool true, pF2z CX c a b p q e f) := by kernel_rfl
noncomputable def oF2l : List (Option Bool) := [none, none, some false, none, none, none, none, none, none, none, none, none, none, some true, none, none, none, none, none, some true, none, none, none, none, none, none, none, some true, none, none, none, none, none, some true]
noncomputable def pF2l (CX : CT) (n : Nat) (c : Nat) (a : Int) (b : Int) (p : Int) (q : Int) (e : Int) (f : Int) : Prop := ((((((((True ∧ ((decide (300 < (nI n))) = false)) ∧ ((CX = cxc) ∧ (rng a b p q e 0))) ∧ ((decide (0 < (nI n))) = true)) ∧ ((!(decide ((nI n) ≤ 80))) = true)) ∧ ((CX = cxc) ∧ (rng a b p q e 0))) ∧ ((decide (1 ≤ (nI n))) = true)) ∧ ((!(decide ((nI n) ≤ 80))) = true)) ∧ True)
theorem runF2l (CX : CT) (n : Nat) (c : Nat) (a : Int) (b : Int) (p : Int) (q : Int) (e : Int) (f : Int) : (rF (KX KW CX) 8 (.int .i64 2) (sl 0 none n c) (lk a b p q e f) [none] oF2l).map (fun r => (r.1, r.2.obl)) = some (.bool true, pF2l CX n c a b p q e f) := by kernel_rfl
noncomputable def oFob : List (Option Bool) := [none, none, some true]
noncomputable def pFob (CX : CT) (A : Int) (n : Nat) (c : Nat) (a : Int) (b : Int) (p : Int) (q : Int) (e : Int) (f : Int) : Prop := ((True ∧ ((decide (300 < (nI n))) = true)) ∧ True)
theorem runFob (CX : CT) (A : Int) (n : Nat) (c : Nat) (a : Int) (b : Int) (p : Int) (q : Int) (e : Int) (f : Int) : (rF (KX KW CX) 8 (.int .i64 A) (sl 0 none n c) (lk a b p q e f) [none] oFob).map (fun r => (r.1, r.2.obl)) = some (.bool true, pFob CX A n c a b p q e f) := by kernel_rfl
end
end km
end Go.Proofs.YtmgelikgcfjhhaaGreat
namespace Go.Proofs.YtmgelikgcfjhhaaGreat
open Go.ChangeShapes Go.WideShapes Go.ChangeAt Go.RowKit Go.Cln
namespace km
set_option linter.unusedVariables false
noncomputable section
theorem key1_le (K M : List Int) : 0 + 0 + 20 ≤ (key1 K M).length := by
  have : (key1 K M).length = 20 := hd.ot_len _
  omega
theorem key2_le (K M : List Int) : 0 + 0 + 16 ≤ (key2 K M).length := by
  have : (key2 K M).length = 16 := bs_len _
  omega
theorem key3_le (K M : List Int) : 0 + 0 + 16 ≤ (key3 K M).length := key2_le _ _
theorem wf32 {a : Int} (h : (Lit.int .u32 a).wf = true) : 0 ≤ a ∧ a < 4294967296 := by
  have h : IntKind.u32.min ≤ a ∧ a ≤ IntKind.u32.max := by simpa [Lit.wf] using h
  have m1 : IntKind.u32.min = 0 := by decide
  have m2 : IntKind.u32.max = 4294967295 := by decide
  omega
theorem wf16 {a : Int} (h : (Lit.int .u16 a).wf = true) : 0 ≤ a ∧ a < 65536 := by
  have h : IntKind.u16.min ≤ a ∧ a ≤ IntKind.u16.max := by simpa [Lit.wf] using h
  have m1 : IntKind.u16.min = 0 := by decide
  have m2 : IntKind.u16.max = 65535 := by decide
  omega
theorem nD' {n k : Nat} (h : k < n) : (!(decide ((n : Int) ≤ (k : Int)))) = true := by rw [decide_eq_false (by omega)]; rfl
theorem iN {a b : Int} (h : a ≠ b) : decide (a = b) = false := decide_eq_false h
theorem pF1s_ok {K : List Int} {n : Nat} {c : Nat} {a b p q e f : Int} (bK : hx.Byt K) (hK : K.length = n) (p0 : 0 < n) (p1 : n ≤ 80) (hc : n ≤ c) (hr2 : rng a b p q e f) : pF1s key1 cxc K n c a b p q e f := by
  have hr0 : rng a b p q e 0 := ⟨hr2.1, hr2.2.1, hr2.2.2.1, by omega⟩
  have hr3 : rng b a q p f e := ⟨⟨hr2.1.2, hr2.1.1⟩, ⟨hr2.2.1.2, hr2.2.1.1⟩, hr2.2.2.2, hr2.2.2.1⟩
  have hr1 : rng b a q p f 0 := ⟨⟨hr2.1.2, hr2.1.1⟩, ⟨hr2.2.1.2, hr2.2.1.1⟩, hr2.2.2.2, by omega⟩
  have hk : ∀ a b p q e f, ok1 (wd K 0 n) n (wd (cxc a b p q e f) 0 20) := fun a b p q e f => ⟨by rw [wdM hK]; exact bK, by rw [wdM hK, hK], p0, p1, by rw [wdM (cx_len _ _ _ _ _ _)]; exact cx_byt _ _ _ _ _ _, by rw [wdM (cx_len _ _ _ _ _ _)]; exact cx_len _ _ _ _ _ _⟩
  exact ⟨⟨⟨⟨⟨⟨⟨(pU_ok (key1_le _ _) ⟨⟨⟨⟨⟨⟨⟨⟨⟨⟨⟨⟨⟨⟨⟨⟨⟨⟨⟨⟨⟨⟨⟨⟨⟨⟨⟨⟨⟨trivial, decide_eq_false (show ¬ ((n : Int) > 300) by omega)⟩, ⟨rfl, hr0⟩⟩, ⟨rfl, hk _ _ _ _ _ _, hc, Nat.le_refl _⟩⟩, ⟨rfl, hr1⟩⟩, ⟨rfl, hk _ _ _ _ _ _, hc, Nat.le_refl _⟩⟩, ⟨rfl, hr2⟩⟩, ⟨rfl, hk _ _ _ _ _ _, hc, Nat.le_refl _⟩⟩, ⟨rfl, hr3⟩⟩, ⟨rfl, hk _ _ _ _ _ _, hc, Nat.le_refl _⟩⟩, ⟨rfl, hr0⟩⟩, ⟨rfl, hk _ _ _ _ _ _, hc, Nat.le_refl _⟩⟩, ⟨rfl, hr1⟩⟩, ⟨rfl, hk _ _ _ _ _ _, hc, Nat.le_refl _⟩⟩, ⟨rfl, hr2⟩⟩, ⟨rfl, hk _ _ _ _ _ _, hc, Nat.le_refl _⟩⟩, ⟨rfl, hr3⟩⟩, ⟨rfl, hk _ _ _ _ _ _, hc, Nat.le_refl _⟩⟩, key1_le _ _⟩, key1_le _ _⟩, yB rfl⟩, key1_le _ _⟩, key1_le _ _⟩, yB rfl⟩, key1_le _ _⟩, key1_le _ _⟩, yB rfl⟩, key1_le _ _⟩, key1_le _ _⟩, nB rfl⟩ 20 (Nat.le_refl _)), key1_le _ _⟩, key1_le _ _⟩, yB rfl⟩, key1_le _ _⟩, key1_le _ _⟩, yB rfl⟩, trivial⟩
theorem pF2k_ok {K : List Int} {c : Nat} {a b p q e f : Int} (bK : hx.Byt K) (hK : K.length = 16) (hc : 16 ≤ c) (hr2 : rng a b p q e f) : pF2k key2 cxc K c a b p q e f := by
  have hr0 : rng a b p q e 0 := ⟨hr2.1, hr2.2.1, hr2.2.2.1, by omega⟩
  have hr3 : rng b a q p f e := ⟨⟨hr2.1.2, hr2.1.1⟩, ⟨hr2.2.1.2, hr2.2.1.1⟩, hr2.2.2.2, hr2.2.2.1⟩
  have hr1 : rng b a q p f 0 := ⟨⟨hr2.1.2, hr2.1.1⟩, ⟨hr2.2.1.2, hr2.2.1.1⟩, hr2.2.2.2, by omega⟩
  have hk : ∀ a b p q e f, ok2 (wd K 0 16) 16 (wd (cxc a b p q e f) 0 20) := fun a b p q e f => ⟨rfl, by rw [wdM hK]; exact ⟨hK, keyIn bK⟩, by rw [wdM (cx_len _ _ _ _ _ _)]; exact cx_len _ _ _ _ _ _⟩
  exact ⟨⟨⟨⟨⟨⟨⟨(pU_ok (key2_le _ _) ⟨⟨⟨⟨⟨⟨⟨⟨⟨⟨⟨⟨⟨⟨⟨⟨⟨⟨⟨⟨⟨⟨⟨⟨⟨⟨⟨⟨trivial, ⟨rfl, hr0⟩⟩, ⟨rfl, hk _ _ _ _ _ _, hc, Nat.le_refl _⟩⟩, ⟨rfl, hr1⟩⟩, ⟨rfl, hk _ _ _ _ _ _, hc, Nat.le_refl _⟩⟩, ⟨rfl, hr2⟩⟩, ⟨rfl, hk _ _ _ _ _ _, hc, Nat.le_refl _⟩⟩, ⟨rfl, hr3⟩⟩, ⟨rfl, hk _ _ _ _ _ _, hc, Nat.le_refl _⟩⟩, ⟨rfl, hr0⟩⟩, ⟨rfl, hk _ _ _ _ _ _, hc, Nat.le_refl _⟩⟩, ⟨rfl, hr1⟩⟩, ⟨rfl, hk _ _ _ _ _ _, hc, Nat.le_refl _⟩⟩, ⟨rfl, hr2⟩⟩, ⟨rfl, hk _ _ _ _ _ _, hc, Nat.le_refl _⟩⟩, ⟨rfl, hr3⟩⟩, ⟨rfl, hk _ _ _ _ _ _, hc, Nat.le_refl _⟩⟩, key2_le _ _⟩, key2_le _ _⟩, yB rfl⟩, key2_le _ _⟩, key2_le _ _⟩, yB rfl⟩, key2_le _ _⟩, key2_le _ _⟩, yB rfl⟩, key2_le _ _⟩, key2_le _ _⟩, nB rfl⟩ 16 (Nat.le_refl _)), key2_le _ _⟩, key2_le _ _⟩, yB rfl⟩, key2_le _ _⟩, key2_le _ _⟩, yB rfl⟩, trivial⟩
theorem pF2s_ok {K : List Int} {n : Nat} {c : Nat} {a b p q e f : Int} (hK : K.length = n) (p0 : 0 < n) (p1 : n ≤ 80) (h16 : n ≠ 16) (hc : n ≤ c) (hr2 : rng a b p q e f) : pF2s key3 cxc K n c a b p q e f := by
  have hr0 : rng a b p q e 0 := ⟨hr2.1, hr2.2.1, hr2.2.2.1, by omega⟩
  have hr3 : rng b a q p f e := ⟨⟨hr2.1.2, hr2.1.1⟩, ⟨hr2.2.1.2, hr2.2.1.1⟩, hr2.2.2.2, hr2.2.2.1⟩
  have hr1 : rng b a q p f 0 := ⟨⟨hr2.1.2, hr2.1.1⟩, ⟨hr2.2.1.2, hr2.2.1.1⟩, hr2.2.2.2, by omega⟩
  have hk : ∀ a b p q e f, ok3 (wd K 0 n) n (wd (cxc a b p q e f) 0 20) := fun a b p q e f => ⟨by rw [wdM hK, hK], p0, p1, h16, by rw [wdM (cx_len _ _ _ _ _ _)]; exact cx_len _ _ _ _ _ _⟩
  exact ⟨⟨⟨⟨⟨⟨⟨(pU_ok (key3_le _ _) ⟨⟨⟨⟨⟨⟨⟨⟨⟨⟨⟨⟨⟨⟨⟨⟨⟨⟨⟨⟨⟨⟨⟨⟨⟨⟨⟨⟨⟨trivial, decide_eq_false (show ¬ ((n : Int) > 300) by omega)⟩, ⟨rfl, hr0⟩⟩, ⟨rfl, hk _ _ _ _ _ _, hc, Nat.le_refl _⟩⟩, ⟨rfl, hr1⟩⟩, ⟨rfl, hk _ _ _ _ _ _, hc, Nat.le_refl _⟩⟩, ⟨rfl, hr2⟩⟩, ⟨rfl, hk _ _ _ _ _ _, hc, Nat.le_refl _⟩⟩, ⟨rfl, hr3⟩⟩, ⟨rfl, hk _ _ _ _ _ _, hc, Nat.le_refl _⟩⟩, ⟨rfl, hr0⟩⟩, ⟨rfl, hk _ _ _ _ _ _, hc, Nat.le_refl _⟩⟩, ⟨rfl, hr1⟩⟩, ⟨rfl, hk _ _ _ _ _ _, hc, Nat.le_refl _⟩⟩, ⟨rfl, hr2⟩⟩, ⟨rfl, hk _ _ _ _ _ _, hc, Nat.le_refl _⟩⟩, ⟨rfl, hr3⟩⟩, ⟨rfl, hk _ _ _ _ _ _, hc, Nat.le_refl _⟩⟩, key3_le _ _⟩, key3_le _ _⟩, yB rfl⟩, key3_le _ _⟩, key3_le _ _⟩, yB rfl⟩, key3_le _ _⟩, key3_le _ _⟩, yB rfl⟩, key3_le _ _⟩, key3_le _ _⟩, nB rfl⟩ 16 (Nat.le_refl _)), key3_le _ _⟩, key3_le _ _⟩, yB rfl⟩, key3_le _ _⟩, key3_le _ _⟩, yB rfl⟩, trivial⟩
theorem pFon_ok {A : Int} {a : Int} {b : Int} {p : Int} {q : Int} {e : Int} {f : Int} (hr2 : rng a b p q e f) (h1 : A ≠ 1) (h2 : A ≠ 2) : pFon cxc A a b p q e f := by
  have hr0 : rng a b p q e 0 := ⟨hr2.1, hr2.2.1, hr2.2.2.1, by omega⟩
  have hr1 : rng b a q p f 0 := ⟨⟨hr2.1.2, hr2.1.1⟩, ⟨hr2.2.1.2, hr2.2.1.1⟩, hr2.2.2.2, by omega⟩
  obtain ⟨⟨⟨x1, x2⟩, x3, x4⟩, ⟨⟨x5, x6⟩, x7, x8⟩, ⟨x9, x10⟩, x11, x12⟩ := hr2
  unfold pFon
  simp only [nI, iN h1, iN h2, decide_true, and_true, true_and, and_self]
  try repeat' apply And.intro
  all_goals first | trivial | assumption | rfl | (simp only [decide_eq_true_eq, decide_eq_false_iff_not]; omega) | exact nD' p0 | omega
theorem pFoi_ok {A : Int} {n : Nat} {c : Nat} {a : Int} {b : Int} {p : Int} {q : Int} {e : Int} {f : Int} (hr2 : rng a b p q e f) (h1 : A ≠ 1) (h2 : A ≠ 2) (p1 : n ≤ 300) : pFoi cxc A n c a b p q e f := by
  have hr0 : rng a b p q e 0 := ⟨hr2.1, hr2.2.1, hr2.2.2.1, by omega⟩
  have hr1 : rng b a q p f 0 := ⟨⟨hr2.1.2, hr2.1.1⟩, ⟨hr2.2.1.2, hr2.2.1.1⟩, hr2.2.2.2, by omega⟩
  obtain ⟨⟨⟨x1, x2⟩, x3, x4⟩, ⟨⟨x5, x6⟩, x7, x8⟩, ⟨x9, x10⟩, x11, x12⟩ := hr2
  unfold pFoi
  simp only [nI, iN h1, iN h2, decide_true, and_true, true_and, and_self]
  try repeat' apply And.intro
  all_goals first | trivial | assumption | rfl | (simp only [decide_eq_true_eq, decide_eq_false_iff_not]; omega) | exact nD' p0 | omega
theorem pF1n_ok {a : Int} {b : Int} {p : Int} {q : Int} {e : Int} {f : Int} (hr2 : rng a b p q e f) : pF1n cxc a b p q e f := by
  have hr0 : rng a b p q e 0 := ⟨hr2.1, hr2.2.1, hr2.2.2.1, by omega⟩
  have hr1 : rng b a q p f 0 := ⟨⟨hr2.1.2, hr2.1.1⟩, ⟨hr2.2.1.2, hr2.2.1.1⟩, hr2.2.2.2, by omega⟩
  obtain ⟨⟨⟨x1, x2⟩, x3, x4⟩, ⟨⟨x5, x6⟩, x7, x8⟩, ⟨x9, x10⟩, x11, x12⟩ := hr2
  unfold pF1n
  simp only [nI, decide_true, and_true, true_and, and_self]
  try repeat' apply And.intro
  all_goals first | trivial | assumption | rfl | (simp only [decide_eq_true_eq, decide_eq_false_iff_not]; omega) | exact nD' p0 | omega
theorem pF1z_ok {c : Nat} {a : Int} {b : Int} {p : Int} {q : Int} {e : Int} {f : Int} (hr2 : rng a b p q e f) : pF1z cxc c a b p q e f := by
  have hr0 : rng a b p q e 0 := ⟨hr2.1, hr2.2.1, hr2.2.2.1, by omega⟩
  have hr1 : rng b a q p f 0 := ⟨⟨hr2.1.2, hr2.1.1⟩, ⟨hr2.2.1.2, hr2.2.1.1⟩, hr2.2.2.2, by omega⟩
  obtain ⟨⟨⟨x1, x2⟩, x3, x4⟩, ⟨⟨x5, x6⟩, x7, x8⟩, ⟨x9, x10⟩, x11, x12⟩ := hr2
  unfold pF1z
  simp only [nI, decide_true, and_true, true_and, and_self]
  try repeat' apply And.intro
  all_goals first | trivial | assumption | rfl | (simp only [decide_eq_true_eq, decide_eq_false_iff_not]; omega) | exact nD' p0 | omega
theorem pF1l_ok {n : Nat} {c : Nat} {a : Int} {b : Int} {p : Int} {q : Int} {e : Int} {f : Int} (hr2 : rng a b p q e f) (p0 : 80 < n) (p1 : n ≤ 300) : pF1l cxc n c a b p q e f := by
  have hr0 : rng a b p q e 0 := ⟨hr2.1, hr2.2.1, hr2.2.2.1, by omega⟩
  have hr1 : rng b a q p f 0 := ⟨⟨hr2.1.2, hr2.1.1⟩, ⟨hr2.2.1.2, hr2.2.1.1⟩, hr2.2.2.2, by omega⟩
  obtain ⟨⟨⟨x1, x2⟩, x3, x4⟩, ⟨⟨x5, x6⟩, x7, x8⟩, ⟨x9, x10⟩, x11, x12⟩ := hr2
  unfold pF1l
  simp only [nI, nD' (n := n) (k := 80) p0, show ((80 : Nat) : Int) = 80 from rfl, decide_true, and_true, true_and, and_self]
  try repeat' apply And.intro
  all_goals first | trivial | assumption | rfl | (simp only [decide_eq_true_eq, decide_eq_false_iff_not]; omega) | exact nD' p0 | omega
theorem pF2n_ok {a : Int} {b : Int} {p : Int} {q : Int} {e : Int} {f : Int} (hr2 : rng a b p q e f) : pF2n cxc a b p q e f := by
  have hr0 : rng a b p q e 0 := ⟨hr2.1, hr2.2.1, hr2.2.2.1, by omega⟩
  have hr1 : rng b a q p f 0 := ⟨⟨hr2.1.2, hr2.1.1⟩, ⟨hr2.2.1.2, hr2.2.1.1⟩, hr2.2.2.2, by omega⟩
  obtain ⟨⟨⟨x1, x2⟩, x3, x4⟩, ⟨⟨x5, x6⟩, x7, x8⟩, ⟨x9, x10⟩, x11, x12⟩ := hr2
  unfold pF2n
  simp only [nI, decide_true, and_true, true_and, and_self]
  try repeat' apply And.intro
  all_goals first | trivial | assumption | rfl | (simp only [decide_eq_true_eq, decide_eq_false_iff_not]; omega) | exact nD' p0 | omega
theorem pF2z_ok {c : Nat} {a : Int} {b : Int} {p : Int} {q : Int} {e : Int} {f : Int} (hr2 : rng a b p q e f) : pF2z cxc c a b p q e f := by
  have hr0 : rng a b p q e 0 := ⟨hr2.1, hr2.2.1, hr2.2.2.1, by omega⟩
  have hr1 : rng b a q p f 0 := ⟨⟨hr2.1.2, hr2.1.1⟩, ⟨hr2.2.1.2, hr2.2.1.1⟩, hr2.2.2.2, by omega⟩
  obtain ⟨⟨⟨x1, x2⟩, x3, x4⟩, ⟨⟨x5, x6⟩, x7, x8⟩, ⟨x9, x10⟩, x11, x12⟩ := hr2
  unfold pF2z
  simp only [nI, decide_true, and_true, true_and, and_self]
  try repeat' apply And.intro
  all_goals first | trivial | assumption | rfl | (simp only [decide_eq_true_eq, decide_eq_false_iff_not]; omega) | exact nD' p0 | omega
theorem pF2l_ok {n : Nat} {c : Nat} {a : Int} {b : Int} {p : Int} {q : Int} {e : Int} {f : Int} (hr2 : rng a b p q e f) (p0 : 80 < n) (p1 : n ≤ 300) : pF2l cxc n c a b p q e f := by
  have hr0 : rng a b p q e 0 := ⟨hr2.1, hr2.2.1, hr2.2.2.1, by omega⟩
  have hr1 : rng b a q p f 0 := ⟨⟨hr2.1.2, hr2.1.1⟩, ⟨hr2.2.1.2, hr2.2.1.1⟩, hr2.2.2.2, by omega⟩
  obtain ⟨⟨⟨x1, x2⟩, x3, x4⟩, ⟨⟨x5, x6⟩, x7, x8⟩, ⟨x9, x10⟩, x11, x12⟩ := hr2
  unfold pF2l
  simp only [nI, nD' (n := n) (k := 80) p0, show ((80 : Nat) : Int) = 80 from rfl, decide_true, and_true, true_and, and_self]
  try repeat' apply And.intro
  all_goals first | trivial | assumption | rfl | (simp only [decide_eq_true_eq, decide_eq_false_iff_not]; omega) | exact nD' p0 | omega
theorem kdfFours1 (W : World)
    (a1 : Option Addr) (n1 c1 : Nat) (s1 : (a1 = none ∧ n1 = 0 ∧ c1 = 0) ∨ ∃ b o, a1 = some ⟨b, o, none⟩ ∧ n1 ≤ c1 ∧ (c1 : Int) ≤ 9223372036854775807)
    (z1 : n1 = 0 ∨ ∃ (b o : Nat) (L : List Int), a1 = some ⟨b, o, none⟩ ∧ L.length = n1 ∧ (∀ x ∈ L, (Lit.int .u8 x).wf = true) ∧ HasCells W b o (L.map (Value.int .u8))) (a b p q e f : Int) (hr2 : rng a b p q e f) :
    Calls Tryz.prog 8 #[.int .i64 1, .slice a1 n1 c1, .agg #[.int .u32 a, .int .u32 b, .int .u16 p, .int .u16 q, .int .u32 e, .int .u32 f]] W fun e w' => e = .returned (.bool true) ∧ Below W.heap.size W w' := by
  rcases cameIn 300 s1 z1 with ⟨rfl, rfl, rfl⟩ | ⟨b1, o1, rfl, hc, _, rfl | ⟨p1, q1, K, l1, hK, bK, kK⟩ | g1⟩
  · exact ranG ae.pg (KX_ok KW_ok cxc) (ρ := pl ⟨0, 0, 0⟩ ⟨0, 0, 0⟩) (runF1n cxc a b p q e f) (pF1n_ok hr2) rfl (start_hs (l := []) (orc := oF1n) (by simp) ok0) (VL.cons (.same rfl) (VL.cons (.same rfl) (VL.cons (.of_flat rfl) VL.nil)))
  · exact ranG ae.pg (KX_ok KW_ok cxc) (ρ := pl ⟨b1, o1, 0⟩ ⟨0, 0, 0⟩) (runF1z cxc c1 a b p q e f) (pF1z_ok hr2) rfl (start_hs (l := [none]) (orc := oF1z) (by simp) (Go.Cln.ok1 trivial)) (VL.cons (.same rfl) (VL.cons (vr_at (by simp) (len := 0) rfl hc) (VL.cons (.of_flat rfl) VL.nil)))
  · rcases Nat.lt_or_ge 80 n1 with h80 | h80
    · exact ranG ae.pg (KX_ok KW_ok cxc) (ρ := pl ⟨b1, o1, 0⟩ ⟨0, 0, 0⟩) (runF1l cxc n1 c1 a b p q e f) (pF1l_ok hr2 h80 q1) rfl (start_hs (l := [none]) (orc := oF1l) (by simp) (Go.Cln.ok1 trivial)) (VL.cons (.same rfl) (VL.cons (vr_at (by simp) (len := 0) rfl hc) (VL.cons (.of_flat rfl) VL.nil)))
    · exact ranG ae.pg (KX_ok (KY1_ok key1) cxc) (ρ := pl ⟨b1, o1, l1⟩ ⟨0, 0, 0⟩) (runF1s key1 cxc K n1 c1 a b p q e f) (pF1s_ok bK hK p1 h80 hc hr2) rfl (start_hs (l := [ae.oI K]) (orc := oF1s) (by simp) (Go.Cln.ok1 kK)) (VL.cons (.same rfl) (VL.cons (vr_at (by simp) (len := l1) rfl hc) (VL.cons (.of_flat rfl) VL.nil)))
  · exact ranG ae.pg (KX_ok KW_ok cxc) (ρ := pl ⟨b1, o1, 0⟩ ⟨0, 0, 0⟩) (runFob cxc 1 n1 c1 a b p q e f) (⟨⟨trivial, decide_eq_true (show 300 < (n1 : Int) by omega)⟩, trivial⟩) rfl (start_hs (l := [none]) (orc := oFob) (by simp) (Go.Cln.ok1 trivial)) (VL.cons (.same rfl) (VL.cons (vr_at (by simp) (len := 0) rfl hc) (VL.cons (.of_flat rfl) VL.nil)))
theorem kdfFours2 (W : World)
    (a1 : Option Addr) (n1 c1 : Nat) (s1 : (a1 = none ∧ n1 = 0 ∧ c1 = 0) ∨ ∃ b o, a1 = some ⟨b, o, none⟩ ∧ n1 ≤ c1 ∧ (c1 : Int) ≤ 9223372036854775807)
    (z1 : n1 = 0 ∨ ∃ (b o : Nat) (L : List Int), a1 = some ⟨b, o, none⟩ ∧ L.length = n1 ∧ (∀ x ∈ L, (Lit.int .u8 x).wf = true) ∧ HasCells W b o (L.map (Value.int .u8))) (a b p q e f : Int) (hr2 : rng a b p q e f) :
    Calls Tryz.prog 8 #[.int .i64 2, .slice a1 n1 c1, .agg #[.int .u32 a, .int .u32 b, .int .u16 p, .int .u16 q, .int .u32 e, .int .u32 f]] W fun e w' => e = .returned (.bool true) ∧ Below W.heap.size W w' := by
  rcases cameIn 300 s1 z1 with ⟨rfl, rfl, rfl⟩ | ⟨b1, o1, rfl, hc, _, rfl | ⟨p1, q1, K, l1, hK, bK, kK⟩ | g1⟩
  · exact ranG ae.pg (KX_ok KW_ok cxc) (ρ := pl ⟨0, 0, 0⟩ ⟨0, 0, 0⟩) (runF2n cxc a b p q e f) (pF2n_ok hr2) rfl (start_hs (l := []) (orc := oF2n) (by simp) ok0) (VL.cons (.same rfl) (VL.cons (.same rfl) (VL.cons (.of_flat rfl) VL.nil)))
  · exact ranG ae.pg (KX_ok KW_ok cxc) (ρ := pl ⟨b1, o1, 0⟩ ⟨0, 0, 0⟩) (runF2z cxc c1 a b p q e f) (pF2z_ok hr2) rfl (start_hs (l := [none]) (orc := oF2z) (by simp) (Go.Cln.ok1 trivial)) (VL.cons (.same rfl) (VL.cons (vr_at (by simp) (len := 0) rfl hc) (VL.cons (.of_flat rfl) VL.nil)))
  · rcases Nat.lt_or_ge 80 n1 with h80 | h80
    · exact ranG ae.pg (KX_ok KW_ok cxc) (ρ := pl ⟨b1, o1, 0⟩ ⟨0, 0, 0⟩) (runF2l cxc n1 c1 a b p q e f) (pF2l_ok hr2 h80 q1) rfl (start_hs (l := [none]) (orc := oF2l) (by simp) (Go.Cln.ok1 trivial)) (VL.cons (.same rfl) (VL.cons (vr_at (by simp) (len := 0) rfl hc) (VL.cons (.of_flat rfl) VL.nil)))
    · by_cases h16 : n1 = 16
      · subst h16
        · exact ranG ae.pg (KX_ok (KY2_ok key2) cxc) (ρ := pl ⟨b1, o1, l1⟩ ⟨0, 0, 0⟩) (runF2k key2 cxc K c1 a b p q e f) (pF2k_ok bK hK hc hr2) rfl (start_hs (l := [ae.oI K]) (orc := oF2k) (by simp) (Go.Cln.ok1 kK)) (VL.cons (.same rfl) (VL.cons (vr_at (by simp) (len := l1) rfl hc) (VL.cons (.of_flat rfl) VL.nil)))
      · exact ranG ae.pg (KX_ok (KY3_ok key3) cxc) (ρ := pl ⟨b1, o1, l1⟩ ⟨0, 0, 0⟩) (runF2s key3 cxc K n1 c1 a b p q e f) (pF2s_ok hK p1 h80 h16 hc hr2) rfl (start_hs (l := [ae.oI K]) (orc := oF2s) (by simp) (Go.Cln.ok1 kK)) (VL.cons (.same rfl) (VL.cons (vr_at (by simp) (len := l1) rfl hc) (VL.cons (.of_flat rfl) VL.nil)))
  · exact ranG ae.pg (KX_ok KW_ok cxc) (ρ := pl ⟨b1, o1, 0⟩ ⟨0, 0, 0⟩) (runFob cxc 2 n1 c1 a b p q e f) (⟨⟨trivial, decide_eq_true (show 300 < (n1 : Int) by omega)⟩, trivial⟩) rfl (start_hs (l := [none]) (orc := oFob) (by simp) (Go.Cln.ok1 trivial)) (VL.cons (.same rfl) (VL.cons (vr_at (by simp) (len := 0) rfl hc) (VL.cons (.of_flat rfl) VL.nil)))
theorem kdfFourso (W : World) (A : Int) (h1 : A ≠ 1) (h2 : A ≠ 2)
    (a1 : Option Addr) (n1 c1 : Nat) (s1 : (a1 = none ∧ n1 = 0 ∧ c1 = 0) ∨ ∃ b o, a1 = some ⟨b, o, none⟩ ∧ n1 ≤ c1 ∧ (c1 : Int) ≤ 9223372036854775807)
    (z1 : n1 = 0 ∨ ∃ (b o : Nat) (L : List Int), a1 = some ⟨b, o, none⟩ ∧ L.length = n1 ∧ (∀ x ∈ L, (Lit.int .u8 x).wf = true) ∧ HasCells W b o (L.map (Value.int .u8))) (a b p q e f : Int) (hr2 : rng a b p q e f) :
    Calls Tryz.prog 8 #[.int .i64 A, .slice a1 n1 c1, .agg #[.int .u32 a, .int .u32 b, .int .u16 p, .int .u16 q, .int .u32 e, .int .u32 f]] W fun e w' => e = .returned (.bool true) ∧ Below W.heap.size W w' := by
  rcases cameIn 300 s1 z1 with ⟨rfl, rfl, rfl⟩ | ⟨b1, o1, rfl, hc, _, rfl | ⟨p1, q1, K, l1, hK, bK, kK⟩ | g1⟩
  · exact ranG ae.pg (KX_ok KW_ok cxc) (ρ := pl ⟨0, 0, 0⟩ ⟨0, 0, 0⟩) (runFon cxc A a b p q e f) (pFon_ok hr2 h1 h2) rfl (start_hs (l := []) (orc := oFon) (by simp) ok0) (VL.cons (.same rfl) (VL.cons (.same rfl) (VL.cons (.of_flat rfl) VL.nil)))
  · exact ranG ae.pg (KX_ok KW_ok cxc) (ρ := pl ⟨b1, o1, 0⟩ ⟨0, 0, 0⟩) (runFoi cxc A 0 c1 a b p q e f) (pFoi_ok hr2 h1 h2 (by omega)) rfl (start_hs (l := [none]) (orc := oFoi) (by simp) (Go.Cln.ok1 trivial)) (VL.cons (.same rfl) (VL.cons (vr_at (by simp) (len := 0) rfl hc) (VL.cons (.of_flat rfl) VL.nil)))
  · exact ranG ae.pg (KX_ok KW_ok cxc) (ρ := pl ⟨b1, o1, 0⟩ ⟨0, 0, 0⟩) (runFoi cxc A n1 c1 a b p q e f) (pFoi_ok hr2 h1 h2 q1) rfl (start_hs (l := [none]) (orc := oFoi) (by simp) (Go.Cln.ok1 trivial)) (VL.cons (.same rfl) (VL.cons (vr_at (by simp) (len := 0) rfl hc) (VL.cons (.of_flat rfl) VL.nil)))
  · exact ranG ae.pg (KX_ok KW_ok cxc) (ρ := pl ⟨b1, o1, 0⟩ ⟨0, 0, 0⟩) (runFob cxc A n1 c1 a b p q e f) (⟨⟨trivial, decide_eq_true (show 300 < (n1 : Int) by omega)⟩, trivial⟩) rfl (start_hs (l := [none]) (orc := oFob) (by simp) (Go.Cln.ok1 trivial)) (VL.cons (.same rfl) (VL.cons (vr_at (by simp) (len := 0) rfl hc) (VL.cons (.of_flat rfl) VL.nil)))
theorem kdfFours (W : World) (a0 : Int) (w0 : (Lit.int .i64 a0).wf = true) (a1 : Option Addr) (n1 c1 : Nat) (s1 : (a1 = none ∧ n1 = 0 ∧ c1 = 0) ∨ ∃ b o, a1 = some ⟨b, o, none⟩ ∧ n1 ≤ c1 ∧ (c1 : Int) ≤ 9223372036854775807)
    (z1 : n1 = 0 ∨ ∃ (b o : Nat) (L : List Int), a1 = some ⟨b, o, none⟩ ∧ L.length = n1 ∧ (∀ x ∈ L, (Lit.int .u8 x).wf = true) ∧ HasCells W b o (L.map (Value.int .u8))) (a : Int) (wa : (Lit.int .u32 a).wf = true) (b : Int) (wb : (Lit.int .u32 b).wf = true) (p : Int) (wp : (Lit.int .u16 p).wf = true) (q : Int) (wq : (Lit.int .u16 q).wf = true) (e : Int) (we : (Lit.int .u32 e).wf = true) (f : Int) (wf : (Lit.int .u32 f).wf = true) :
    Calls Tryz.prog 8 #[.int .i64 a0, .slice a1 n1 c1, .agg #[.int .u32 a, .int .u32 b, .int .u16 p, .int .u16 q, .int .u32 e, .int .u32 f]] W fun e w' => e = .returned (.bool true) ∧ Below W.heap.size W w' := by
  have hr : rng a b p q e f := ⟨⟨wf32 wa, wf32 wb⟩, ⟨wf16 wp, wf16 wq⟩, wf32 we, wf32 wf⟩
  by_cases h1 : a0 = 1
  · subst h1; exact kdfFours1 W a1 n1 c1 s1 z1 a b p q e f hr
  · by_cases h2 : a0 = 2
    · subst h2; exact kdfFours2 W a1 n1 c1 s1 z1 a b p q e f hr
    · exact kdfFourso W a0 h1 h2 a1 n1 c1 s1 z1 a b p q e f hr
end
end km
end Go.Proofs.YtmgelikgcfjhhaaGreat
