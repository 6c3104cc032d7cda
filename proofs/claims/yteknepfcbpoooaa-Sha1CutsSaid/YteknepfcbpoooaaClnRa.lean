/- Read off the code by the clean reading. -/
import Derived.Test.YteknepfcbpoooaaClnWa
import Derived.Test.YteknepfcbpoooaaClnQa
import Derived.IntWalk
set_option linter.unusedVariables false
set_option linter.unusedSimpArgs false
set_option linter.deprecated false
set_option maxRecDepth 100000
namespace Go.Proofs.Yteknepfcbpoooaa
open Go.ChangeShapes Go.WideShapes Go.ChangeAt Go.RowKit Go.Cln
namespace sw
noncomputable section
def roll (n : Nat) (w : Int) : Int := match n with
  | 0 => w
  | n + 1 => w32 (w32 (roll n w * 2) + w32 ((roll n w).tdiv 2147483648))
theorem roll1 (w : Int) : ((mk Try.prog Given.nothing 100).call 29 [.int .u32 w, .int .i64 1] (St.start 0 .leaf [])).map (fun r => (r.1, r.2.obl)) = some (.int .u32 (roll 1 w), True) := by kernel_rfl
theorem roll5 (w : Int) : ((mk Try.prog Given.nothing 100).call 29 [.int .u32 w, .int .i64 5] (St.start 0 .leaf [])).map (fun r => (r.1, r.2.obl)) = some (.int .u32 (roll 5 w), True) := by kernel_rfl
theorem roll30 (w : Int) : ((mk Try.prog Given.nothing 100).call 29 [.int .u32 w, .int .i64 30] (St.start 0 .leaf [])).map (fun r => (r.1, r.2.obl)) = some (.int .u32 (roll 30 w), True) := by kernel_rfl
theorem root2 : ((mk Try.prog Given.nothing 100).call 30 [.int .u64 2] (St.start 0 .leaf [])).map (fun r => (r.1, r.2.obl)) = some (.int .u32 1518500249, True) := by kernel_rfl
theorem root3 : ((mk Try.prog Given.nothing 100).call 30 [.int .u64 3] (St.start 0 .leaf [])).map (fun r => (r.1, r.2.obl)) = some (.int .u32 1859775393, True) := by kernel_rfl
theorem root5 : ((mk Try.prog Given.nothing 100).call 30 [.int .u64 5] (St.start 0 .leaf [])).map (fun r => (r.1, r.2.obl)) = some (.int .u32 2400959708, True) := by kernel_rfl
theorem root10 : ((mk Try.prog Given.nothing 100).call 30 [.int .u64 10] (St.start 0 .leaf [])).map (fun r => (r.1, r.2.obl)) = some (.int .u32 3395469782, True) := by kernel_rfl
end
end sw
end Go.Proofs.Yteknepfcbpoooaa
namespace Go.Proofs.Yteknepfcbpoooaa
open Go.ChangeShapes Go.WideShapes Go.ChangeAt Go.RowKit Go.Cln
namespace sw
noncomputable section
def FR (f : FuncId) (args : List Value) : Option Value :=
  if f == 29 then match args with
    | [.int .u32 w, .int .i64 n] => if n = 1 then some (.int .u32 (roll 1 w)) else if n = 5 then some (.int .u32 (roll 5 w)) else if n = 30 then some (.int .u32 (roll 30 w)) else none
    | _ => none
  else if f == 30 then match args with
    | [.int .u64 n] => if n = 2 then some (.int .u32 1518500249) else if n = 3 then some (.int .u32 1859775393) else if n = 5 then some (.int .u32 2400959708) else if n = 10 then some (.int .u32 3395469782) else none
    | _ => none
  else none
theorem FR_ok : GivenOk Try.prog (Given.calls FR) := GivenOk.calls fun f args v h => by
  have N0 := GivenOk.nothing Try.prog
  unfold FR at h
  split at h
  · rename_i hf
    have hf' : f = 29 := by simpa using hf
    subst hf'
    split at h
    · rename_i w n
      split at h
      · rename_i e; subst e; cases h; exact ⟨rfl, rfl, fun W => ranF pg N0 (roll1 w) trivial rfl rfl W⟩
      · split at h
        · rename_i e; subst e; cases h; exact ⟨rfl, rfl, fun W => ranF pg N0 (roll5 w) trivial rfl rfl W⟩
        · split at h
          · rename_i e; subst e; cases h; exact ⟨rfl, rfl, fun W => ranF pg N0 (roll30 w) trivial rfl rfl W⟩
          · cases h
    · cases h
  · split at h
    · rename_i hf
      have hf' : f = 30 := by simpa using hf
      subst hf'
      split at h
      · rename_i n
        split at h
        · rename_i e; subst e; cases h; exact ⟨rfl, rfl, fun W => ranF pg N0 root2 trivial rfl rfl W⟩
        · split at h
          · rename_i e; subst e; cases h; exact ⟨rfl, rfl, fun W => ranF pg N0 root3 trivial rfl rfl W⟩
          · split at h
            · rename_i e; subst e; cases h; exact ⟨rfl, rfl, fun W => ranF pg N0 root5 trivial rfl rfl W⟩
            · split at h
              · rename_i e; subst e; cases h; exact ⟨rfl, rfl, fun W => ranF pg N0 root10 trivial rfl rfl W⟩
              · cases h
      · cases h
    · cases h
def hR (s : N5) (b : Nat → Int) (x : Nat → Option Ob) : Nat → Option Ob := fun i => match i with
  | 0 => some (.cells (.fam 64 fun j => .int .u8 (b j)) 22)
  | 1 => some (.cells (.lit s.row) 31)
  | 2 => some (.cells (.lit (N5.row ⟨0, 0, 0, 0, 0⟩)) 31)
  | i => x i
def famW (N : Nat) (g : Nat → Int) : Ob := .cells (.fam N fun j => .int .u32 (g j)) 30
def mkR (s : N5) (b : Nat → Int) (c : Nat) (x : Nat → Option Ob) (nx : Nat) (t : List Value) : St :=
  ⟨.agg s.row.toArray :: .slice (some ⟨0, 0, none⟩) 64 c :: P0 1 0 :: undef :: P0 2 0 :: t, [], Tr.rebuild (hR s b x) nx, nx, 1, [], fun _ => false, True, []⟩
def gs (k N : Nat) : Value := .slice (some ⟨k, 0, some 1⟩) N N
def EA (s : N5) (b : Nat → Int) (c : Nat) : St := mkR s b c (fun _ => none) 3 (.slice none 0 0 :: .int .i64 0 :: U 173)
def xK (k : Nat) (ob : Ob) : Nat → Option Ob := fun i => if i = k then some ob else none
def RA (s : N5) (b : Nat → Int) (c : Nat) (N : Nat) (i : Int) (g : Nat → Int) : St := mkR s b c (xK 3 (famW N g)) 4 (gs 3 N :: .int .i64 i :: (U 7 ++ (J 40 ++ U 126)))
def EB (s : N5) (b : Nat → Int) (c : Nat) (g : Nat → Int) : St := mkR s b c (xK 3 (famW 16 g)) 4 (gs 3 16 :: .int .i64 16 :: .int .i64 16 :: (U 6 ++ (J 40 ++ U 126)))
def RB2 (s : N5) (b : Nat → Int) (c : Nat) (N : Nat) (i : Int) (g : Nat → Int) : St := mkR s b c (xK 4 (famW N g)) 5 (gs 4 N :: .int .i64 16 :: .int .i64 i :: (U 6 ++ (J 40 ++ (J 31 ++ U 95))))
theorem obR {s : N5} {b : Nat → Int} {x : Nat → Option Ob} {i : Nat} {o : Ob} {st : St} {σ : Nat → Nat} (hi : i < 3) (h : hR s b x i = some o) : ObV st σ o o := by
  match i, h with
  | 0, h => cases h; exact ObV.famEq fun _ _ => rfl
  | 1, h => cases h; exact ObV.lit rfl rfl
  | 2, h => cases h; exact ObV.lit rfl rfl
  | n + 3, h => omega
theorem viewR {k m nx : Nat} {s : N5} {b : Nat → Int} {c : Nat} {ob o1 : Ob} {t : List Value} {s0 s1 : St} (h0 : s0.next ≤ k ∧ 3 ≤ s0.next) (hk : 3 ≤ k ∧ nx = k + 1) (hm : nx ≤ m) (h0r : s0.roB = 1 ∧ s0.ro = []) (hnx : nx ≤ 1000000) (hr : s1.roB = 1) (hro : s1.ro = []) (hhd : s1.hid = fun _ => false) (hd : s1.defers = [])
    (ht : maskD s1.tmps (mkR s b c (xK k ob) nx t).tmps = (mkR s b c (xK k ob) nx t).tmps.map (ren (slot k m))) (hto : (mkR s b c (xK k ob) nx t).tmps.all (okV (mkR s b c (xK k ob) nx t)) = true)
    (hh : (List.range 3).map s1.heap.get = (List.range 3).map (hR s b fun _ => none)) (hkm : s1.heap.get m = some o1) (hob : ObV (mkR s b c (xK k ob) nx t) (slot k m) o1 ob) : View s0 s1 (mkR s b c (xK k ob) nx t) (slot k m) := by
  have low : ∀ j, j < 3 → hR s b (xK k ob) j = hR s b (fun _ => none) j := fun j hj => by
    match j, hj with
    | 0, _ => rfl
    | 1, _ => rfl
    | 2, _ => rfl
  have get : ∀ j, j < 3 → s1.heap.get j = hR s b (xK k ob) j := fun j hj => by
    have := congrArg (fun l => l[j]?) hh
    rw [low j hj]
    simpa [List.getElem?_map, List.getElem?_range hj] using this
  have high : ∀ j, 3 ≤ j → hR s b (xK k ob) j = xK k ob j := fun j hj => by
    obtain ⟨i, rfl⟩ : ∃ i, j = i + 3 := ⟨j - 3, by omega⟩
    rfl
  refine View.slot (f := hR s b (xK k ob)) (n := nx) rfl hnx rfl hr.symm hro.symm hhd.symm ht hto (by rw [hd]; rfl) rfl (fun j hj => ?_) (by omega) h0.1 hm (fun j hj hmay => ?_) (fun j o hj h => ?_)
  · simp [okB, mkR, hj]
  · have : j < 1 := by simpa [St.may, h0r.1, h0r.2] using hmay
    exact (get j (by omega)).symm
  · by_cases e : j < 3
    · rw [show slot k m j = j by unfold slot; rw [if_neg (by omega)], get j e]
      exact ⟨o, h, obR e h⟩
    · have e2 : j = k := by
        rw [high j (by omega)] at h
        unfold xK at h
        split at h
        · assumption
        · cases h
      subst e2
      rw [high j (by omega)] at h
      unfold xK at h
      rw [if_pos rfl] at h
      cases h
      rw [show slot j m j = m by unfold slot; rw [if_pos rfl]]
      exact ⟨o1, hkm, hob⟩
theorem viewR0 {k nx : Nat} {s : N5} {b : Nat → Int} {c : Nat} {ob o1 : Ob} {t : List Value} {s0 s1 : St} (h0 : s0.next ≤ nx) (hk : 3 ≤ k ∧ nx = k + 1) (h0r : s0.roB = 1 ∧ s0.ro = []) (hnx : nx ≤ 1000000) (hn : s1.next = nx) (hr : s1.roB = 1) (hro : s1.ro = []) (hhd : s1.hid = fun _ => false) (hd : s1.defers = [])
    (ht : maskD s1.tmps (mkR s b c (xK k ob) nx t).tmps = (mkR s b c (xK k ob) nx t).tmps.map (ren id)) (hto : (mkR s b c (xK k ob) nx t).tmps.all (okV (mkR s b c (xK k ob) nx t)) = true)
    (hh : (List.range 3).map s1.heap.get = (List.range 3).map (hR s b fun _ => none)) (hkm : s1.heap.get k = some o1) (hob : ObV (mkR s b c (xK k ob) nx t) id o1 ob) : View s0 s1 (mkR s b c (xK k ob) nx t) id := by
  have low : ∀ j, j < 3 → hR s b (xK k ob) j = hR s b (fun _ => none) j := fun j hj => by
    match j, hj with
    | 0, _ => rfl
    | 1, _ => rfl
    | 2, _ => rfl
  have get : ∀ j, j < 3 → s1.heap.get j = hR s b (xK k ob) j := fun j hj => by
    have := congrArg (fun l => l[j]?) hh
    rw [low j hj]
    simpa [List.getElem?_map, List.getElem?_range hj] using this
  have high : ∀ j, 3 ≤ j → hR s b (xK k ob) j = xK k ob j := fun j hj => by
    obtain ⟨i, rfl⟩ : ∃ i, j = i + 3 := ⟨j - 3, by omega⟩
    rfl
  refine View.plain (f := hR s b (xK k ob)) (n := nx) rfl hnx rfl hn hr.symm hro.symm hhd.symm ht hto (by rw [hd]; rfl) rfl (fun j hj => ?_) h0 (fun j hj hmay => ?_) (fun j o hj h => ?_)
  · simp [okB, mkR, hj]
  · have : j < 1 := by simpa [St.may, h0r.1, h0r.2] using hmay
    exact (get j (by omega)).symm
  · by_cases e : j < 3
    · rw [get j e]; exact ⟨o, h, obR e h⟩
    · have e2 : j = k := by
        rw [high j (by omega)] at h
        unfold xK at h
        split at h
        · assumption
        · cases h
      subst e2
      rw [high j (by omega)] at h
      unfold xK at h
      rw [if_pos rfl] at h
      cases h
      exact ⟨o1, hkm, hob⟩
def waE (b : Nat → Int) (p q r t : Nat) : Int := w32 (w32 (w32 (w32 (w32 (b p) * 16777216) + w32 (w32 (b q) * 65536)) + w32 (w32 (b r) * 256)) + w32 (b t))
def wa (b : Nat → Int) (j : Nat) : Int := waE b (4 * j) (4 * j + 1) (4 * j + 2) (4 * j + 3)
def i4 (i k : Int) : Int := IntKind.i64.wrap (IntKind.i64.wrap (4 * i) + k)
def in64 (x : Int) : Prop := 0 ≤ x ∧ x < ((64 : Nat) : Int)
def pA (N : Nat) (i : Int) : Prop := (((((((((((True ∧ decide (i < 16) = true) ∧ in64 (IntKind.i64.wrap (4 * i))) ∧ ix (IntKind.i64.wrap (4 * i)) < 64) ∧ in64 (i4 i 1)) ∧ ix (i4 i 1) < 64) ∧ in64 (i4 i 2)) ∧ ix (i4 i 2) < 64) ∧ in64 (i4 i 3)) ∧ ix (i4 i 3) < 64) ∧ (N < N + 1 ∧ (N + 1) * 4 ≤ mostBytes ∧ N + 1 ≤ mostBytes)) ∧ 0 + N * 1 ≤ N)
noncomputable def bodyA : Code := loopB Try.prog 15 0
def orA : List (Option Bool) := List.replicate 9 (some true) ++ [some false, none, some false, none, some true]
theorem stepEA (s : N5) (b : Nat → Int) (c : Nat) (rd : Option Nat) : Step Try.prog rd (EA s b c) bodyA (EA s b c) (fun e x => e = .normal ∧ x = RA s b c 1 1 (fun _ => wa b 0)) :=
  Step.exec pg FR_ok (n := 100) (f := 15) (p := True) (o := []) (by kernel_rfl) trivial (Nat.le_refl _) (viewR (k := 3) (m := 4) ⟨Nat.le_refl 3, Nat.le_refl 3⟩ ⟨by decide, rfl⟩ (by decide) ⟨rfl, rfl⟩ (by decide) (by kernel_rfl) (by kernel_rfl) (by kernel_rfl) (by kernel_rfl) (by kernel_rfl) (by kernel_rfl) (by kernel_rfl)
    (o1 := .cells (.lit [.int .u32 (wa b 0)]) 30) (by kernel_rfl) (.litFam (n := 1) (g := fun _ => wa b 0) fun j hj => by rw [Nat.lt_one_iff.1 hj]; rfl))
theorem stepRA (s : N5) (b : Nat → Int) (c N : Nat) (i : Int) (g : Nat → Int) (rd : Option Nat) (hp : pA N i) : Step Try.prog rd (EA s b c) bodyA (RA s b c N i g) (fun e x => e = .normal ∧ x = RA s b c (N + 1) (IntKind.i64.wrap (i + 1)) (fun j => if j < N then g j else waE b (ix (IntKind.i64.wrap (4 * i))) (ix (i4 i 1)) (ix (i4 i 2)) (ix (i4 i 3)))) :=
  Step.exec pg FR_ok (n := 100) (f := 15) (p := pA N i) (o := orA) (by kernel_rfl) hp (show 3 ≤ 4 by decide) (viewR (k := 3) (m := 5) ⟨Nat.le_refl 3, Nat.le_refl 3⟩ ⟨by decide, rfl⟩ (by decide) ⟨rfl, rfl⟩ (by decide) (by kernel_rfl) (by kernel_rfl) (by kernel_rfl) (by kernel_rfl) (by kernel_rfl) (by kernel_rfl) (by kernel_rfl)
    (o1 := .cells (.lit (famList (fun j => .int .u32 (g j)) 0 (N * 1) ++ [.int .u32 (waE b (ix (IntKind.i64.wrap (4 * i))) (ix (i4 i 1)) (ix (i4 i 2)) (ix (i4 i 3)))])) 30) (by kernel_rfl) (.grow (fun j hj => if_pos hj) (if_neg (Nat.lt_irrefl N))))
theorem stepXA (s : N5) (b : Nat → Int) (c : Nat) (g g' : Nat → Int) (rd : Option Nat) (hg : ∀ j, j < 16 → g' j = g j) : Step Try.prog rd (EA s b c) bodyA (RA s b c 16 16 g) (fun e x => e = .exit 0 ∧ x = RA s b c 16 16 g') :=
  Step.exec pg FR_ok (n := 100) (f := 15) (p := True) (o := []) (by kernel_rfl) trivial (show 3 ≤ 4 by decide) (viewR0 (k := 3) (show 3 ≤ 4 by decide) ⟨by decide, rfl⟩ ⟨rfl, rfl⟩ (by decide) (by kernel_rfl) (by kernel_rfl) (by kernel_rfl) (by kernel_rfl) (by kernel_rfl) (by kernel_rfl) (by kernel_rfl) (by kernel_rfl)
    (o1 := famW 16 g) (by kernel_rfl) (.famEq hg))
theorem loopA (s : N5) (b : Nat → Int) (c : Nat) (rd : Option Nat) : CodeOk Try.prog rd (.loop bodyA) (EA s b c) (.exit 0) (RA s b c 16 16 (wa b)) := by
  refine CodeOk.of_step (Step.loop (fun k x => (k = 17 ∧ x = EA s b c) ∨ ∃ N g, 1 ≤ N ∧ N ≤ 16 ∧ k = 16 - N ∧ (∀ j, j < N → g j = wa b j) ∧ x = RA s b c N (N : Int) g) ?_ 17 _ (.inl ⟨rfl, rfl⟩))
  rintro k x (⟨rfl, rfl⟩ | ⟨N, g, h1, h2, rfl, h3, rfl⟩)
  · refine (stepEA s b c rd).mono ?_
    rintro e x ⟨rfl, rfl⟩
    exact .inl ⟨rfl, 15, by omega, .inr ⟨1, _, by omega, by omega, rfl, (fun j hj => by rw [Nat.lt_one_iff.1 hj]), rfl⟩⟩
  · by_cases e16 : N = 16
    · subst e16
      refine (stepXA s b c g (wa b) rd fun j hj => (h3 j hj).symm).mono ?_
      rintro e x ⟨rfl, rfl⟩
      exact .inr ⟨(by intro x; cases x), rfl, rfl⟩
    · have e0 : IntKind.i64.wrap (4 * (N : Int)) = ((4 * N : Nat) : Int) := by rw [IntKind.wrap_i64]; omega
      have ek : ∀ k : Nat, k ≤ 3 → i4 (N : Int) (k : Int) = ((4 * N + k : Nat) : Int) := fun k hk => by unfold i4; rw [e0, IntKind.wrap_i64]; omega
      refine (stepRA s b c N _ g rd ?_).mono ?_
      · unfold pA in64 ix mostBytes
        have e1' : i4 (N : Int) 1 = ((4 * N + 1 : Nat) : Int) := ek 1 (by omega)
        have e2' : i4 (N : Int) 2 = ((4 * N + 2 : Nat) : Int) := ek 2 (by omega)
        have e3' : i4 (N : Int) 3 = ((4 * N + 3 : Nat) : Int) := ek 3 (by omega)
        rw [e0, e1', e2', e3']
        refine ⟨⟨⟨⟨⟨⟨⟨⟨⟨⟨⟨trivial, ?_⟩, ?_⟩, ?_⟩, ?_⟩, ?_⟩, ?_⟩, ?_⟩, ?_⟩, ?_⟩, ?_⟩, ?_⟩ <;> first | (rw [decide_eq_true_eq]; omega) | omega
      · rintro e x ⟨rfl, rfl⟩
        have ew : IntKind.i64.wrap ((N : Int) + 1) = ((N + 1 : Nat) : Int) := by rw [IntKind.wrap_i64]; omega
        rw [ew]
        refine .inl ⟨rfl, 16 - (N + 1), by omega, .inr ⟨N + 1, _, by omega, by omega, rfl, fun j hj => ?_, rfl⟩⟩
        by_cases e : j < N
        · rw [if_pos e]; exact h3 j e
        · have : j = N := by omega
          subst this
          rw [if_neg e, e0, show i4 (j : Int) 1 = ((4 * j + 1 : Nat) : Int) from ek 1 (by omega), show i4 (j : Int) 2 = ((4 * j + 2 : Nat) : Int) from ek 2 (by omega), show i4 (j : Int) 3 = ((4 * j + 3 : Nat) : Int) from ek 3 (by omega)]
          unfold wa ix
          simp only [Int.toNat_natCast, Nat.zero_add, Nat.mul_one]
end
end sw
end Go.Proofs.Yteknepfcbpoooaa
namespace Go.Proofs.Yteknepfcbpoooaa
open Go.ChangeShapes Go.WideShapes Go.ChangeAt Go.RowKit Go.Cln
namespace sw
theorem bvInt {x : Int} (h0 : 0 ≤ x) (h1 : x < 4294967296) : (BitVec.ofInt 32 x).toNat = x.toNat := by
  rw [BitVec.toNat_ofInt]; congr 1; exact Int.emod_eq_of_lt h0 (by simpa using h1)
theorem orI_or {a b : Int} (ha : 0 ≤ a ∧ a < 4294967296) (hb : 0 ≤ b ∧ b < 4294967296) : orI .u32 a b = ((a.toNat ||| b.toNat : Nat) : Int) := by
  unfold orI
  show IntKind.u32.wrap (((BitVec.ofInt 32 a ||| BitVec.ofInt 32 b).toNat : Nat) : Int) = _
  rw [BitVec.toNat_or, bvInt ha.1 ha.2, bvInt hb.1 hb.2, IntKind.wrap_u32]
  have : a.toNat ||| b.toNat < 2 ^ 32 := Nat.or_lt_two_pow (by omega) (by omega)
  omega
theorem xr_in (a b : Int) : 0 ≤ xr a b ∧ xr a b < 4294967296 := by
  unfold xr xorI; rw [IntKind.wrap_u32]; omega
theorem w32_in (a : Int) : 0 ≤ w32 a ∧ w32 a < 4294967296 := by unfold w32; rw [IntKind.wrap_u32]; omega
theorem or_add {a b s : Nat} (hb : b < 2 ^ s) : 2 ^ s * a ||| b = 2 ^ s * a + b := (Nat.two_pow_add_eq_or_of_lt hb a).symm
theorem w32_eq (x : Int) : w32 x = x % 4294967296 := by unfold w32; rw [IntKind.wrap_u32]
def rol (n : Nat) (x : Int) : Int := (x * 2 ^ n) % 4294967296 + x / 2 ^ (32 - n)
theorem rs0 {x : Int} (h0 : 0 ≤ x) (h1 : x < 4294967296) (h : roll 0 x = rol 0 x) : roll 1 x = rol 1 x := by
  show w32 (w32 (roll 0 x * 2) + w32 ((roll 0 x).tdiv 2147483648)) = _
  rw [h]
  have hy : ∃ q t u : Int, 0 ≤ q ∧ q < 1 ∧ 0 ≤ t ∧ t ≤ 1 ∧ 0 ≤ u ∧ u < 2147483648 ∧ x = 4294967296 * q + 2147483648 * t + u := ⟨x / 4294967296, (x / 2147483648) % 2, x % 2147483648, by omega, by omega, by omega, by omega, by omega, by omega, by omega⟩
  obtain ⟨q, t, u, q0, q1, t0, t1, u0, u1, hx⟩ := hy
  have e : rol 0 x = 2147483648 * t + 1 * u + q := by
    show (x * 1) % 4294967296 + x / 4294967296 = _
    have e1 : (x * 1) % 4294967296 = 2147483648 * t + 1 * u := by omega
    have e2 : x / 4294967296 = q := by omega
    rw [e1, e2]
  have e' : rol 1 x = 2 * u + (2 * q + t) := by
    show (x * 2) % 4294967296 + x / 2147483648 = _
    have e1 : (x * 2) % 4294967296 = 2 * u := by omega
    have e2 : x / 2147483648 = 2 * q + t := by omega
    rw [e1, e2]
  rw [e', e, Int.tdiv_eq_ediv_of_nonneg (by omega), w32_eq, w32_eq, w32_eq]
  have e3 : (2147483648 * t + 1 * u + q) / 2147483648 = t := by omega
  have e4 : (2147483648 * t + 1 * u + q) * 2 % 4294967296 = 2 * u + 2 * q := by omega
  rw [e3, e4]
  omega
theorem rs1 {x : Int} (h0 : 0 ≤ x) (h1 : x < 4294967296) (h : roll 1 x = rol 1 x) : roll 2 x = rol 2 x := by
  show w32 (w32 (roll 1 x * 2) + w32 ((roll 1 x).tdiv 2147483648)) = _
  rw [h]
  have hy : ∃ q t u : Int, 0 ≤ q ∧ q < 2 ∧ 0 ≤ t ∧ t ≤ 1 ∧ 0 ≤ u ∧ u < 1073741824 ∧ x = 2147483648 * q + 1073741824 * t + u := ⟨x / 2147483648, (x / 1073741824) % 2, x % 1073741824, by omega, by omega, by omega, by omega, by omega, by omega, by omega⟩
  obtain ⟨q, t, u, q0, q1, t0, t1, u0, u1, hx⟩ := hy
  have e : rol 1 x = 2147483648 * t + 2 * u + q := by
    show (x * 2) % 4294967296 + x / 2147483648 = _
    have e1 : (x * 2) % 4294967296 = 2147483648 * t + 2 * u := by omega
    have e2 : x / 2147483648 = q := by omega
    rw [e1, e2]
  have e' : rol 2 x = 4 * u + (2 * q + t) := by
    show (x * 4) % 4294967296 + x / 1073741824 = _
    have e1 : (x * 4) % 4294967296 = 4 * u := by omega
    have e2 : x / 1073741824 = 2 * q + t := by omega
    rw [e1, e2]
  rw [e', e, Int.tdiv_eq_ediv_of_nonneg (by omega), w32_eq, w32_eq, w32_eq]
  have e3 : (2147483648 * t + 2 * u + q) / 2147483648 = t := by omega
  have e4 : (2147483648 * t + 2 * u + q) * 2 % 4294967296 = 4 * u + 2 * q := by omega
  rw [e3, e4]
  omega
theorem rs2 {x : Int} (h0 : 0 ≤ x) (h1 : x < 4294967296) (h : roll 2 x = rol 2 x) : roll 3 x = rol 3 x := by
  show w32 (w32 (roll 2 x * 2) + w32 ((roll 2 x).tdiv 2147483648)) = _
  rw [h]
  have hy : ∃ q t u : Int, 0 ≤ q ∧ q < 4 ∧ 0 ≤ t ∧ t ≤ 1 ∧ 0 ≤ u ∧ u < 536870912 ∧ x = 1073741824 * q + 536870912 * t + u := ⟨x / 1073741824, (x / 536870912) % 2, x % 536870912, by omega, by omega, by omega, by omega, by omega, by omega, by omega⟩
  obtain ⟨q, t, u, q0, q1, t0, t1, u0, u1, hx⟩ := hy
  have e : rol 2 x = 2147483648 * t + 4 * u + q := by
    show (x * 4) % 4294967296 + x / 1073741824 = _
    have e1 : (x * 4) % 4294967296 = 2147483648 * t + 4 * u := by omega
    have e2 : x / 1073741824 = q := by omega
    rw [e1, e2]
  have e' : rol 3 x = 8 * u + (2 * q + t) := by
    show (x * 8) % 4294967296 + x / 536870912 = _
    have e1 : (x * 8) % 4294967296 = 8 * u := by omega
    have e2 : x / 536870912 = 2 * q + t := by omega
    rw [e1, e2]
  rw [e', e, Int.tdiv_eq_ediv_of_nonneg (by omega), w32_eq, w32_eq, w32_eq]
  have e3 : (2147483648 * t + 4 * u + q) / 2147483648 = t := by omega
  have e4 : (2147483648 * t + 4 * u + q) * 2 % 4294967296 = 8 * u + 2 * q := by omega
  rw [e3, e4]
  omega
theorem rs3 {x : Int} (h0 : 0 ≤ x) (h1 : x < 4294967296) (h : roll 3 x = rol 3 x) : roll 4 x = rol 4 x := by
  show w32 (w32 (roll 3 x * 2) + w32 ((roll 3 x).tdiv 2147483648)) = _
  rw [h]
  have hy : ∃ q t u : Int, 0 ≤ q ∧ q < 8 ∧ 0 ≤ t ∧ t ≤ 1 ∧ 0 ≤ u ∧ u < 268435456 ∧ x = 536870912 * q + 268435456 * t + u := ⟨x / 536870912, (x / 268435456) % 2, x % 268435456, by omega, by omega, by omega, by omega, by omega, by omega, by omega⟩
  obtain ⟨q, t, u, q0, q1, t0, t1, u0, u1, hx⟩ := hy
  have e : rol 3 x = 2147483648 * t + 8 * u + q := by
    show (x * 8) % 4294967296 + x / 536870912 = _
    have e1 : (x * 8) % 4294967296 = 2147483648 * t + 8 * u := by omega
    have e2 : x / 536870912 = q := by omega
    rw [e1, e2]
  have e' : rol 4 x = 16 * u + (2 * q + t) := by
    show (x * 16) % 4294967296 + x / 268435456 = _
    have e1 : (x * 16) % 4294967296 = 16 * u := by omega
    have e2 : x / 268435456 = 2 * q + t := by omega
    rw [e1, e2]
  rw [e', e, Int.tdiv_eq_ediv_of_nonneg (by omega), w32_eq, w32_eq, w32_eq]
  have e3 : (2147483648 * t + 8 * u + q) / 2147483648 = t := by omega
  have e4 : (2147483648 * t + 8 * u + q) * 2 % 4294967296 = 16 * u + 2 * q := by omega
  rw [e3, e4]
  omega
theorem rs4 {x : Int} (h0 : 0 ≤ x) (h1 : x < 4294967296) (h : roll 4 x = rol 4 x) : roll 5 x = rol 5 x := by
  show w32 (w32 (roll 4 x * 2) + w32 ((roll 4 x).tdiv 2147483648)) = _
  rw [h]
  have hy : ∃ q t u : Int, 0 ≤ q ∧ q < 16 ∧ 0 ≤ t ∧ t ≤ 1 ∧ 0 ≤ u ∧ u < 134217728 ∧ x = 268435456 * q + 134217728 * t + u := ⟨x / 268435456, (x / 134217728) % 2, x % 134217728, by omega, by omega, by omega, by omega, by omega, by omega, by omega⟩
  obtain ⟨q, t, u, q0, q1, t0, t1, u0, u1, hx⟩ := hy
  have e : rol 4 x = 2147483648 * t + 16 * u + q := by
    show (x * 16) % 4294967296 + x / 268435456 = _
    have e1 : (x * 16) % 4294967296 = 2147483648 * t + 16 * u := by omega
    have e2 : x / 268435456 = q := by omega
    rw [e1, e2]
  have e' : rol 5 x = 32 * u + (2 * q + t) := by
    show (x * 32) % 4294967296 + x / 134217728 = _
    have e1 : (x * 32) % 4294967296 = 32 * u := by omega
    have e2 : x / 134217728 = 2 * q + t := by omega
    rw [e1, e2]
  rw [e', e, Int.tdiv_eq_ediv_of_nonneg (by omega), w32_eq, w32_eq, w32_eq]
  have e3 : (2147483648 * t + 16 * u + q) / 2147483648 = t := by omega
  have e4 : (2147483648 * t + 16 * u + q) * 2 % 4294967296 = 32 * u + 2 * q := by omega
  rw [e3, e4]
  omega
theorem rs5 {x : Int} (h0 : 0 ≤ x) (h1 : x < 4294967296) (h : roll 5 x = rol 5 x) : roll 6 x = rol 6 x := by
  show w32 (w32 (roll 5 x * 2) + w32 ((roll 5 x).tdiv 2147483648)) = _
  rw [h]
  have hy : ∃ q t u : Int, 0 ≤ q ∧ q < 32 ∧ 0 ≤ t ∧ t ≤ 1 ∧ 0 ≤ u ∧ u < 67108864 ∧ x = 134217728 * q + 67108864 * t + u := ⟨x / 134217728, (x / 67108864) % 2, x % 67108864, by omega, by omega, by omega, by omega, by omega, by omega, by omega⟩
  obtain ⟨q, t, u, q0, q1, t0, t1, u0, u1, hx⟩ := hy
  have e : rol 5 x = 2147483648 * t + 32 * u + q := by
    show (x * 32) % 4294967296 + x / 134217728 = _
    have e1 : (x * 32) % 4294967296 = 2147483648 * t + 32 * u := by omega
    have e2 : x / 134217728 = q := by omega
    rw [e1, e2]
  have e' : rol 6 x = 64 * u + (2 * q + t) := by
    show (x * 64) % 4294967296 + x / 67108864 = _
    have e1 : (x * 64) % 4294967296 = 64 * u := by omega
    have e2 : x / 67108864 = 2 * q + t := by omega
    rw [e1, e2]
  rw [e', e, Int.tdiv_eq_ediv_of_nonneg (by omega), w32_eq, w32_eq, w32_eq]
  have e3 : (2147483648 * t + 32 * u + q) / 2147483648 = t := by omega
  have e4 : (2147483648 * t + 32 * u + q) * 2 % 4294967296 = 64 * u + 2 * q := by omega
  rw [e3, e4]
  omega
theorem rs6 {x : Int} (h0 : 0 ≤ x) (h1 : x < 4294967296) (h : roll 6 x = rol 6 x) : roll 7 x = rol 7 x := by
  show w32 (w32 (roll 6 x * 2) + w32 ((roll 6 x).tdiv 2147483648)) = _
  rw [h]
  have hy : ∃ q t u : Int, 0 ≤ q ∧ q < 64 ∧ 0 ≤ t ∧ t ≤ 1 ∧ 0 ≤ u ∧ u < 33554432 ∧ x = 67108864 * q + 33554432 * t + u := ⟨x / 67108864, (x / 33554432) % 2, x % 33554432, by omega, by omega, by omega, by omega, by omega, by omega, by omega⟩
  obtain ⟨q, t, u, q0, q1, t0, t1, u0, u1, hx⟩ := hy
  have e : rol 6 x = 2147483648 * t + 64 * u + q := by
    show (x * 64) % 4294967296 + x / 67108864 = _
    have e1 : (x * 64) % 4294967296 = 2147483648 * t + 64 * u := by omega
    have e2 : x / 67108864 = q := by omega
    rw [e1, e2]
  have e' : rol 7 x = 128 * u + (2 * q + t) := by
    show (x * 128) % 4294967296 + x / 33554432 = _
    have e1 : (x * 128) % 4294967296 = 128 * u := by omega
    have e2 : x / 33554432 = 2 * q + t := by omega
    rw [e1, e2]
  rw [e', e, Int.tdiv_eq_ediv_of_nonneg (by omega), w32_eq, w32_eq, w32_eq]
  have e3 : (2147483648 * t + 64 * u + q) / 2147483648 = t := by omega
  have e4 : (2147483648 * t + 64 * u + q) * 2 % 4294967296 = 128 * u + 2 * q := by omega
  rw [e3, e4]
  omega
theorem rs7 {x : Int} (h0 : 0 ≤ x) (h1 : x < 4294967296) (h : roll 7 x = rol 7 x) : roll 8 x = rol 8 x := by
  show w32 (w32 (roll 7 x * 2) + w32 ((roll 7 x).tdiv 2147483648)) = _
  rw [h]
  have hy : ∃ q t u : Int, 0 ≤ q ∧ q < 128 ∧ 0 ≤ t ∧ t ≤ 1 ∧ 0 ≤ u ∧ u < 16777216 ∧ x = 33554432 * q + 16777216 * t + u := ⟨x / 33554432, (x / 16777216) % 2, x % 16777216, by omega, by omega, by omega, by omega, by omega, by omega, by omega⟩
  obtain ⟨q, t, u, q0, q1, t0, t1, u0, u1, hx⟩ := hy
  have e : rol 7 x = 2147483648 * t + 128 * u + q := by
    show (x * 128) % 4294967296 + x / 33554432 = _
    have e1 : (x * 128) % 4294967296 = 2147483648 * t + 128 * u := by omega
    have e2 : x / 33554432 = q := by omega
    rw [e1, e2]
  have e' : rol 8 x = 256 * u + (2 * q + t) := by
    show (x * 256) % 4294967296 + x / 16777216 = _
    have e1 : (x * 256) % 4294967296 = 256 * u := by omega
    have e2 : x / 16777216 = 2 * q + t := by omega
    rw [e1, e2]
  rw [e', e, Int.tdiv_eq_ediv_of_nonneg (by omega), w32_eq, w32_eq, w32_eq]
  have e3 : (2147483648 * t + 128 * u + q) / 2147483648 = t := by omega
  have e4 : (2147483648 * t + 128 * u + q) * 2 % 4294967296 = 256 * u + 2 * q := by omega
  rw [e3, e4]
  omega
theorem rs8 {x : Int} (h0 : 0 ≤ x) (h1 : x < 4294967296) (h : roll 8 x = rol 8 x) : roll 9 x = rol 9 x := by
  show w32 (w32 (roll 8 x * 2) + w32 ((roll 8 x).tdiv 2147483648)) = _
  rw [h]
  have hy : ∃ q t u : Int, 0 ≤ q ∧ q < 256 ∧ 0 ≤ t ∧ t ≤ 1 ∧ 0 ≤ u ∧ u < 8388608 ∧ x = 16777216 * q + 8388608 * t + u := ⟨x / 16777216, (x / 8388608) % 2, x % 8388608, by omega, by omega, by omega, by omega, by omega, by omega, by omega⟩
  obtain ⟨q, t, u, q0, q1, t0, t1, u0, u1, hx⟩ := hy
  have e : rol 8 x = 2147483648 * t + 256 * u + q := by
    show (x * 256) % 4294967296 + x / 16777216 = _
    have e1 : (x * 256) % 4294967296 = 2147483648 * t + 256 * u := by omega
    have e2 : x / 16777216 = q := by omega
    rw [e1, e2]
  have e' : rol 9 x = 512 * u + (2 * q + t) := by
    show (x * 512) % 4294967296 + x / 8388608 = _
    have e1 : (x * 512) % 4294967296 = 512 * u := by omega
    have e2 : x / 8388608 = 2 * q + t := by omega
    rw [e1, e2]
  rw [e', e, Int.tdiv_eq_ediv_of_nonneg (by omega), w32_eq, w32_eq, w32_eq]
  have e3 : (2147483648 * t + 256 * u + q) / 2147483648 = t := by omega
  have e4 : (2147483648 * t + 256 * u + q) * 2 % 4294967296 = 512 * u + 2 * q := by omega
  rw [e3, e4]
  omega
theorem rs9 {x : Int} (h0 : 0 ≤ x) (h1 : x < 4294967296) (h : roll 9 x = rol 9 x) : roll 10 x = rol 10 x := by
  show w32 (w32 (roll 9 x * 2) + w32 ((roll 9 x).tdiv 2147483648)) = _
  rw [h]
  have hy : ∃ q t u : Int, 0 ≤ q ∧ q < 512 ∧ 0 ≤ t ∧ t ≤ 1 ∧ 0 ≤ u ∧ u < 4194304 ∧ x = 8388608 * q + 4194304 * t + u := ⟨x / 8388608, (x / 4194304) % 2, x % 4194304, by omega, by omega, by omega, by omega, by omega, by omega, by omega⟩
  obtain ⟨q, t, u, q0, q1, t0, t1, u0, u1, hx⟩ := hy
  have e : rol 9 x = 2147483648 * t + 512 * u + q := by
    show (x * 512) % 4294967296 + x / 8388608 = _
    have e1 : (x * 512) % 4294967296 = 2147483648 * t + 512 * u := by omega
    have e2 : x / 8388608 = q := by omega
    rw [e1, e2]
  have e' : rol 10 x = 1024 * u + (2 * q + t) := by
    show (x * 1024) % 4294967296 + x / 4194304 = _
    have e1 : (x * 1024) % 4294967296 = 1024 * u := by omega
    have e2 : x / 4194304 = 2 * q + t := by omega
    rw [e1, e2]
  rw [e', e, Int.tdiv_eq_ediv_of_nonneg (by omega), w32_eq, w32_eq, w32_eq]
  have e3 : (2147483648 * t + 512 * u + q) / 2147483648 = t := by omega
  have e4 : (2147483648 * t + 512 * u + q) * 2 % 4294967296 = 1024 * u + 2 * q := by omega
  rw [e3, e4]
  omega
theorem rs10 {x : Int} (h0 : 0 ≤ x) (h1 : x < 4294967296) (h : roll 10 x = rol 10 x) : roll 11 x = rol 11 x := by
  show w32 (w32 (roll 10 x * 2) + w32 ((roll 10 x).tdiv 2147483648)) = _
  rw [h]
  have hy : ∃ q t u : Int, 0 ≤ q ∧ q < 1024 ∧ 0 ≤ t ∧ t ≤ 1 ∧ 0 ≤ u ∧ u < 2097152 ∧ x = 4194304 * q + 2097152 * t + u := ⟨x / 4194304, (x / 2097152) % 2, x % 2097152, by omega, by omega, by omega, by omega, by omega, by omega, by omega⟩
  obtain ⟨q, t, u, q0, q1, t0, t1, u0, u1, hx⟩ := hy
  have e : rol 10 x = 2147483648 * t + 1024 * u + q := by
    show (x * 1024) % 4294967296 + x / 4194304 = _
    have e1 : (x * 1024) % 4294967296 = 2147483648 * t + 1024 * u := by omega
    have e2 : x / 4194304 = q := by omega
    rw [e1, e2]
  have e' : rol 11 x = 2048 * u + (2 * q + t) := by
    show (x * 2048) % 4294967296 + x / 2097152 = _
    have e1 : (x * 2048) % 4294967296 = 2048 * u := by omega
    have e2 : x / 2097152 = 2 * q + t := by omega
    rw [e1, e2]
  rw [e', e, Int.tdiv_eq_ediv_of_nonneg (by omega), w32_eq, w32_eq, w32_eq]
  have e3 : (2147483648 * t + 1024 * u + q) / 2147483648 = t := by omega
  have e4 : (2147483648 * t + 1024 * u + q) * 2 % 4294967296 = 2048 * u + 2 * q := by omega
  rw [e3, e4]
  omega
theorem rs11 {x : Int} (h0 : 0 ≤ x) (h1 : x < 4294967296) (h : roll 11 x = rol 11 x) : roll 12 x = rol 12 x := by
  show w32 (w32 (roll 11 x * 2) + w32 ((roll 11 x).tdiv 2147483648)) = _
  rw [h]
  have hy : ∃ q t u : Int, 0 ≤ q ∧ q < 2048 ∧ 0 ≤ t ∧ t ≤ 1 ∧ 0 ≤ u ∧ u < 1048576 ∧ x = 2097152 * q + 1048576 * t + u := ⟨x / 2097152, (x / 1048576) % 2, x % 1048576, by omega, by omega, by omega, by omega, by omega, by omega, by omega⟩
  obtain ⟨q, t, u, q0, q1, t0, t1, u0, u1, hx⟩ := hy
  have e : rol 11 x = 2147483648 * t + 2048 * u + q := by
    show (x * 2048) % 4294967296 + x / 2097152 = _
    have e1 : (x * 2048) % 4294967296 = 2147483648 * t + 2048 * u := by omega
    have e2 : x / 2097152 = q := by omega
    rw [e1, e2]
  have e' : rol 12 x = 4096 * u + (2 * q + t) := by
    show (x * 4096) % 4294967296 + x / 1048576 = _
    have e1 : (x * 4096) % 4294967296 = 4096 * u := by omega
    have e2 : x / 1048576 = 2 * q + t := by omega
    rw [e1, e2]
  rw [e', e, Int.tdiv_eq_ediv_of_nonneg (by omega), w32_eq, w32_eq, w32_eq]
  have e3 : (2147483648 * t + 2048 * u + q) / 2147483648 = t := by omega
  have e4 : (2147483648 * t + 2048 * u + q) * 2 % 4294967296 = 4096 * u + 2 * q := by omega
  rw [e3, e4]
  omega
theorem rs12 {x : Int} (h0 : 0 ≤ x) (h1 : x < 4294967296) (h : roll 12 x = rol 12 x) : roll 13 x = rol 13 x := by
  show w32 (w32 (roll 12 x * 2) + w32 ((roll 12 x).tdiv 2147483648)) = _
  rw [h]
  have hy : ∃ q t u : Int, 0 ≤ q ∧ q < 4096 ∧ 0 ≤ t ∧ t ≤ 1 ∧ 0 ≤ u ∧ u < 524288 ∧ x = 1048576 * q + 524288 * t + u := ⟨x / 1048576, (x / 524288) % 2, x % 524288, by omega, by omega, by omega, by omega, by omega, by omega, by omega⟩
  obtain ⟨q, t, u, q0, q1, t0, t1, u0, u1, hx⟩ := hy
  have e : rol 12 x = 2147483648 * t + 4096 * u + q := by
    show (x * 4096) % 4294967296 + x / 1048576 = _
    have e1 : (x * 4096) % 4294967296 = 2147483648 * t + 4096 * u := by omega
    have e2 : x / 1048576 = q := by omega
    rw [e1, e2]
  have e' : rol 13 x = 8192 * u + (2 * q + t) := by
    show (x * 8192) % 4294967296 + x / 524288 = _
    have e1 : (x * 8192) % 4294967296 = 8192 * u := by omega
    have e2 : x / 524288 = 2 * q + t := by omega
    rw [e1, e2]
  rw [e', e, Int.tdiv_eq_ediv_of_nonneg (by omega), w32_eq, w32_eq, w32_eq]
  have e3 : (2147483648 * t + 4096 * u + q) / 2147483648 = t := by omega
  have e4 : (2147483648 * t + 4096 * u + q) * 2 % 4294967296 = 8192 * u + 2 * q := by omega
  rw [e3, e4]
  omega
theorem rs13 {x : Int} (h0 : 0 ≤ x) (h1 : x < 4294967296) (h : roll 13 x = rol 13 x) : roll 14 x = rol 14 x := by
  show w32 (w32 (roll 13 x * 2) + w32 ((roll 13 x).tdiv 2147483648)) = _
  rw [h]
  have hy : ∃ q t u : Int, 0 ≤ q ∧ q < 8192 ∧ 0 ≤ t ∧ t ≤ 1 ∧ 0 ≤ u ∧ u < 262144 ∧ x = 524288 * q + 262144 * t + u := ⟨x / 524288, (x / 262144) % 2, x % 262144, by omega, by omega, by omega, by omega, by omega, by omega, by omega⟩
  obtain ⟨q, t, u, q0, q1, t0, t1, u0, u1, hx⟩ := hy
  have e : rol 13 x = 2147483648 * t + 8192 * u + q := by
    show (x * 8192) % 4294967296 + x / 524288 = _
    have e1 : (x * 8192) % 4294967296 = 2147483648 * t + 8192 * u := by omega
    have e2 : x / 524288 = q := by omega
    rw [e1, e2]
  have e' : rol 14 x = 16384 * u + (2 * q + t) := by
    show (x * 16384) % 4294967296 + x / 262144 = _
    have e1 : (x * 16384) % 4294967296 = 16384 * u := by omega
    have e2 : x / 262144 = 2 * q + t := by omega
    rw [e1, e2]
  rw [e', e, Int.tdiv_eq_ediv_of_nonneg (by omega), w32_eq, w32_eq, w32_eq]
  have e3 : (2147483648 * t + 8192 * u + q) / 2147483648 = t := by omega
  have e4 : (2147483648 * t + 8192 * u + q) * 2 % 4294967296 = 16384 * u + 2 * q := by omega
  rw [e3, e4]
  omega
theorem rs14 {x : Int} (h0 : 0 ≤ x) (h1 : x < 4294967296) (h : roll 14 x = rol 14 x) : roll 15 x = rol 15 x := by
  show w32 (w32 (roll 14 x * 2) + w32 ((roll 14 x).tdiv 2147483648)) = _
  rw [h]
  have hy : ∃ q t u : Int, 0 ≤ q ∧ q < 16384 ∧ 0 ≤ t ∧ t ≤ 1 ∧ 0 ≤ u ∧ u < 131072 ∧ x = 262144 * q + 131072 * t + u := ⟨x / 262144, (x / 131072) % 2, x % 131072, by omega, by omega, by omega, by omega, by omega, by omega, by omega⟩
  obtain ⟨q, t, u, q0, q1, t0, t1, u0, u1, hx⟩ := hy
  have e : rol 14 x = 2147483648 * t + 16384 * u + q := by
    show (x * 16384) % 4294967296 + x / 262144 = _
    have e1 : (x * 16384) % 4294967296 = 2147483648 * t + 16384 * u := by omega
    have e2 : x / 262144 = q := by omega
    rw [e1, e2]
  have e' : rol 15 x = 32768 * u + (2 * q + t) := by
    show (x * 32768) % 4294967296 + x / 131072 = _
    have e1 : (x * 32768) % 4294967296 = 32768 * u := by omega
    have e2 : x / 131072 = 2 * q + t := by omega
    rw [e1, e2]
  rw [e', e, Int.tdiv_eq_ediv_of_nonneg (by omega), w32_eq, w32_eq, w32_eq]
  have e3 : (2147483648 * t + 16384 * u + q) / 2147483648 = t := by omega
  have e4 : (2147483648 * t + 16384 * u + q) * 2 % 4294967296 = 32768 * u + 2 * q := by omega
  rw [e3, e4]
  omega
theorem rs15 {x : Int} (h0 : 0 ≤ x) (h1 : x < 4294967296) (h : roll 15 x = rol 15 x) : roll 16 x = rol 16 x := by
  show w32 (w32 (roll 15 x * 2) + w32 ((roll 15 x).tdiv 2147483648)) = _
  rw [h]
  have hy : ∃ q t u : Int, 0 ≤ q ∧ q < 32768 ∧ 0 ≤ t ∧ t ≤ 1 ∧ 0 ≤ u ∧ u < 65536 ∧ x = 131072 * q + 65536 * t + u := ⟨x / 131072, (x / 65536) % 2, x % 65536, by omega, by omega, by omega, by omega, by omega, by omega, by omega⟩
  obtain ⟨q, t, u, q0, q1, t0, t1, u0, u1, hx⟩ := hy
  have e : rol 15 x = 2147483648 * t + 32768 * u + q := by
    show (x * 32768) % 4294967296 + x / 131072 = _
    have e1 : (x * 32768) % 4294967296 = 2147483648 * t + 32768 * u := by omega
    have e2 : x / 131072 = q := by omega
    rw [e1, e2]
  have e' : rol 16 x = 65536 * u + (2 * q + t) := by
    show (x * 65536) % 4294967296 + x / 65536 = _
    have e1 : (x * 65536) % 4294967296 = 65536 * u := by omega
    have e2 : x / 65536 = 2 * q + t := by omega
    rw [e1, e2]
  rw [e', e, Int.tdiv_eq_ediv_of_nonneg (by omega), w32_eq, w32_eq, w32_eq]
  have e3 : (2147483648 * t + 32768 * u + q) / 2147483648 = t := by omega
  have e4 : (2147483648 * t + 32768 * u + q) * 2 % 4294967296 = 65536 * u + 2 * q := by omega
  rw [e3, e4]
  omega
theorem rs16 {x : Int} (h0 : 0 ≤ x) (h1 : x < 4294967296) (h : roll 16 x = rol 16 x) : roll 17 x = rol 17 x := by
  show w32 (w32 (roll 16 x * 2) + w32 ((roll 16 x).tdiv 2147483648)) = _
  rw [h]
  have hy : ∃ q t u : Int, 0 ≤ q ∧ q < 65536 ∧ 0 ≤ t ∧ t ≤ 1 ∧ 0 ≤ u ∧ u < 32768 ∧ x = 65536 * q + 32768 * t + u := ⟨x / 65536, (x / 32768) % 2, x % 32768, by omega, by omega, by omega, by omega, by omega, by omega, by omega⟩
  obtain ⟨q, t, u, q0, q1, t0, t1, u0, u1, hx⟩ := hy
  have e : rol 16 x = 2147483648 * t + 65536 * u + q := by
    show (x * 65536) % 4294967296 + x / 65536 = _
    have e1 : (x * 65536) % 4294967296 = 2147483648 * t + 65536 * u := by omega
    have e2 : x / 65536 = q := by omega
    rw [e1, e2]
  have e' : rol 17 x = 131072 * u + (2 * q + t) := by
    show (x * 131072) % 4294967296 + x / 32768 = _
    have e1 : (x * 131072) % 4294967296 = 131072 * u := by omega
    have e2 : x / 32768 = 2 * q + t := by omega
    rw [e1, e2]
  rw [e', e, Int.tdiv_eq_ediv_of_nonneg (by omega), w32_eq, w32_eq, w32_eq]
  have e3 : (2147483648 * t + 65536 * u + q) / 2147483648 = t := by omega
  have e4 : (2147483648 * t + 65536 * u + q) * 2 % 4294967296 = 131072 * u + 2 * q := by omega
  rw [e3, e4]
  omega
theorem rs17 {x : Int} (h0 : 0 ≤ x) (h1 : x < 4294967296) (h : roll 17 x = rol 17 x) : roll 18 x = rol 18 x := by
  show w32 (w32 (roll 17 x * 2) + w32 ((roll 17 x).tdiv 2147483648)) = _
  rw [h]
  have hy : ∃ q t u : Int, 0 ≤ q ∧ q < 131072 ∧ 0 ≤ t ∧ t ≤ 1 ∧ 0 ≤ u ∧ u < 16384 ∧ x = 32768 * q + 16384 * t + u := ⟨x / 32768, (x / 16384) % 2, x % 16384, by omega, by omega, by omega, by omega, by omega, by omega, by omega⟩
  obtain ⟨q, t, u, q0, q1, t0, t1, u0, u1, hx⟩ := hy
  have e : rol 17 x = 2147483648 * t + 131072 * u + q := by
    show (x * 131072) % 4294967296 + x / 32768 = _
    have e1 : (x * 131072) % 4294967296 = 2147483648 * t + 131072 * u := by omega
    have e2 : x / 32768 = q := by omega
    rw [e1, e2]
  have e' : rol 18 x = 262144 * u + (2 * q + t) := by
    show (x * 262144) % 4294967296 + x / 16384 = _
    have e1 : (x * 262144) % 4294967296 = 262144 * u := by omega
    have e2 : x / 16384 = 2 * q + t := by omega
    rw [e1, e2]
  rw [e', e, Int.tdiv_eq_ediv_of_nonneg (by omega), w32_eq, w32_eq, w32_eq]
  have e3 : (2147483648 * t + 131072 * u + q) / 2147483648 = t := by omega
  have e4 : (2147483648 * t + 131072 * u + q) * 2 % 4294967296 = 262144 * u + 2 * q := by omega
  rw [e3, e4]
  omega
theorem rs18 {x : Int} (h0 : 0 ≤ x) (h1 : x < 4294967296) (h : roll 18 x = rol 18 x) : roll 19 x = rol 19 x := by
  show w32 (w32 (roll 18 x * 2) + w32 ((roll 18 x).tdiv 2147483648)) = _
  rw [h]
  have hy : ∃ q t u : Int, 0 ≤ q ∧ q < 262144 ∧ 0 ≤ t ∧ t ≤ 1 ∧ 0 ≤ u ∧ u < 8192 ∧ x = 16384 * q + 8192 * t + u := ⟨x / 16384, (x / 8192) % 2, x % 8192, by omega, by omega, by omega, by omega, by omega, by omega, by omega⟩
  obtain ⟨q, t, u, q0, q1, t0, t1, u0, u1, hx⟩ := hy
  have e : rol 18 x = 2147483648 * t + 262144 * u + q := by
    show (x * 262144) % 4294967296 + x / 16384 = _
    have e1 : (x * 262144) % 4294967296 = 2147483648 * t + 262144 * u := by omega
    have e2 : x / 16384 = q := by omega
    rw [e1, e2]
  have e' : rol 19 x = 524288 * u + (2 * q + t) := by
    show (x * 524288) % 4294967296 + x / 8192 = _
    have e1 : (x * 524288) % 4294967296 = 524288 * u := by omega
    have e2 : x / 8192 = 2 * q + t := by omega
    rw [e1, e2]
  rw [e', e, Int.tdiv_eq_ediv_of_nonneg (by omega), w32_eq, w32_eq, w32_eq]
  have e3 : (2147483648 * t + 262144 * u + q) / 2147483648 = t := by omega
  have e4 : (2147483648 * t + 262144 * u + q) * 2 % 4294967296 = 524288 * u + 2 * q := by omega
  rw [e3, e4]
  omega
theorem rs19 {x : Int} (h0 : 0 ≤ x) (h1 : x < 4294967296) (h : roll 19 x = rol 19 x) : roll 20 x = rol 20 x := by
  show w32 (w32 (roll 19 x * 2) + w32 ((roll 19 x).tdiv 2147483648)) = _
  rw [h]
  have hy : ∃ q t u : Int, 0 ≤ q ∧ q < 524288 ∧ 0 ≤ t ∧ t ≤ 1 ∧ 0 ≤ u ∧ u < 4096 ∧ x = 8192 * q + 4096 * t + u := ⟨x / 8192, (x / 4096) % 2, x % 4096, by omega, by omega, by omega, by omega, by omega, by omega, by omega⟩
  obtain ⟨q, t, u, q0, q1, t0, t1, u0, u1, hx⟩ := hy
  have e : rol 19 x = 2147483648 * t + 524288 * u + q := by
    show (x * 524288) % 4294967296 + x / 8192 = _
    have e1 : (x * 524288) % 4294967296 = 2147483648 * t + 524288 * u := by omega
    have e2 : x / 8192 = q := by omega
    rw [e1, e2]
  have e' : rol 20 x = 1048576 * u + (2 * q + t) := by
    show (x * 1048576) % 4294967296 + x / 4096 = _
    have e1 : (x * 1048576) % 4294967296 = 1048576 * u := by omega
    have e2 : x / 4096 = 2 * q + t := by omega
    rw [e1, e2]
  rw [e', e, Int.tdiv_eq_ediv_of_nonneg (by omega), w32_eq, w32_eq, w32_eq]
  have e3 : (2147483648 * t + 524288 * u + q) / 2147483648 = t := by omega
  have e4 : (2147483648 * t + 524288 * u + q) * 2 % 4294967296 = 1048576 * u + 2 * q := by omega
  rw [e3, e4]
  omega
theorem rs20 {x : Int} (h0 : 0 ≤ x) (h1 : x < 4294967296) (h : roll 20 x = rol 20 x) : roll 21 x = rol 21 x := by
  show w32 (w32 (roll 20 x * 2) + w32 ((roll 20 x).tdiv 2147483648)) = _
  rw [h]
  have hy : ∃ q t u : Int, 0 ≤ q ∧ q < 1048576 ∧ 0 ≤ t ∧ t ≤ 1 ∧ 0 ≤ u ∧ u < 2048 ∧ x = 4096 * q + 2048 * t + u := ⟨x / 4096, (x / 2048) % 2, x % 2048, by omega, by omega, by omega, by omega, by omega, by omega, by omega⟩
  obtain ⟨q, t, u, q0, q1, t0, t1, u0, u1, hx⟩ := hy
  have e : rol 20 x = 2147483648 * t + 1048576 * u + q := by
    show (x * 1048576) % 4294967296 + x / 4096 = _
    have e1 : (x * 1048576) % 4294967296 = 2147483648 * t + 1048576 * u := by omega
    have e2 : x / 4096 = q := by omega
    rw [e1, e2]
  have e' : rol 21 x = 2097152 * u + (2 * q + t) := by
    show (x * 2097152) % 4294967296 + x / 2048 = _
    have e1 : (x * 2097152) % 4294967296 = 2097152 * u := by omega
    have e2 : x / 2048 = 2 * q + t := by omega
    rw [e1, e2]
  rw [e', e, Int.tdiv_eq_ediv_of_nonneg (by omega), w32_eq, w32_eq, w32_eq]
  have e3 : (2147483648 * t + 1048576 * u + q) / 2147483648 = t := by omega
  have e4 : (2147483648 * t + 1048576 * u + q) * 2 % 4294967296 = 2097152 * u + 2 * q := by omega
  rw [e3, e4]
  omega
theorem rs21 {x : Int} (h0 : 0 ≤ x) (h1 : x < 4294967296) (h : roll 21 x = rol 21 x) : roll 22 x = rol 22 x := by
  show w32 (w32 (roll 21 x * 2) + w32 ((roll 21 x).tdiv 2147483648)) = _
  rw [h]
  have hy : ∃ q t u : Int, 0 ≤ q ∧ q < 2097152 ∧ 0 ≤ t ∧ t ≤ 1 ∧ 0 ≤ u ∧ u < 1024 ∧ x = 2048 * q + 1024 * t + u := ⟨x / 2048, (x / 1024) % 2, x % 1024, by omega, by omega, by omega, by omega, by omega, by omega, by omega⟩
  obtain ⟨q, t, u, q0, q1, t0, t1, u0, u1, hx⟩ := hy
  have e : rol 21 x = 2147483648 * t + 2097152 * u + q := by
    show (x * 2097152) % 4294967296 + x / 2048 = _
    have e1 : (x * 2097152) % 4294967296 = 2147483648 * t + 2097152 * u := by omega
    have e2 : x / 2048 = q := by omega
    rw [e1, e2]
  have e' : rol 22 x = 4194304 * u + (2 * q + t) := by
    show (x * 4194304) % 4294967296 + x / 1024 = _
    have e1 : (x * 4194304) % 4294967296 = 4194304 * u := by omega
    have e2 : x / 1024 = 2 * q + t := by omega
    rw [e1, e2]
  rw [e', e, Int.tdiv_eq_ediv_of_nonneg (by omega), w32_eq, w32_eq, w32_eq]
  have e3 : (2147483648 * t + 2097152 * u + q) / 2147483648 = t := by omega
  have e4 : (2147483648 * t + 2097152 * u + q) * 2 % 4294967296 = 4194304 * u + 2 * q := by omega
  rw [e3, e4]
  omega
theorem rs22 {x : Int} (h0 : 0 ≤ x) (h1 : x < 4294967296) (h : roll 22 x = rol 22 x) : roll 23 x = rol 23 x := by
  show w32 (w32 (roll 22 x * 2) + w32 ((roll 22 x).tdiv 2147483648)) = _
  rw [h]
  have hy : ∃ q t u : Int, 0 ≤ q ∧ q < 4194304 ∧ 0 ≤ t ∧ t ≤ 1 ∧ 0 ≤ u ∧ u < 512 ∧ x = 1024 * q + 512 * t + u := ⟨x / 1024, (x / 512) % 2, x % 512, by omega, by omega, by omega, by omega, by omega, by omega, by omega⟩
  obtain ⟨q, t, u, q0, q1, t0, t1, u0, u1, hx⟩ := hy
  have e : rol 22 x = 2147483648 * t + 4194304 * u + q := by
    show (x * 4194304) % 4294967296 + x / 1024 = _
    have e1 : (x * 4194304) % 4294967296 = 2147483648 * t + 4194304 * u := by omega
    have e2 : x / 1024 = q := by omega
    rw [e1, e2]
  have e' : rol 23 x = 8388608 * u + (2 * q + t) := by
    show (x * 8388608) % 4294967296 + x / 512 = _
    have e1 : (x * 8388608) % 4294967296 = 8388608 * u := by omega
    have e2 : x / 512 = 2 * q + t := by omega
    rw [e1, e2]
  rw [e', e, Int.tdiv_eq_ediv_of_nonneg (by omega), w32_eq, w32_eq, w32_eq]
  have e3 : (2147483648 * t + 4194304 * u + q) / 2147483648 = t := by omega
  have e4 : (2147483648 * t + 4194304 * u + q) * 2 % 4294967296 = 8388608 * u + 2 * q := by omega
  rw [e3, e4]
  omega
theorem rs23 {x : Int} (h0 : 0 ≤ x) (h1 : x < 4294967296) (h : roll 23 x = rol 23 x) : roll 24 x = rol 24 x := by
  show w32 (w32 (roll 23 x * 2) + w32 ((roll 23 x).tdiv 2147483648)) = _
  rw [h]
  have hy : ∃ q t u : Int, 0 ≤ q ∧ q < 8388608 ∧ 0 ≤ t ∧ t ≤ 1 ∧ 0 ≤ u ∧ u < 256 ∧ x = 512 * q + 256 * t + u := ⟨x / 512, (x / 256) % 2, x % 256, by omega, by omega, by omega, by omega, by omega, by omega, by omega⟩
  obtain ⟨q, t, u, q0, q1, t0, t1, u0, u1, hx⟩ := hy
  have e : rol 23 x = 2147483648 * t + 8388608 * u + q := by
    show (x * 8388608) % 4294967296 + x / 512 = _
    have e1 : (x * 8388608) % 4294967296 = 2147483648 * t + 8388608 * u := by omega
    have e2 : x / 512 = q := by omega
    rw [e1, e2]
  have e' : rol 24 x = 16777216 * u + (2 * q + t) := by
    show (x * 16777216) % 4294967296 + x / 256 = _
    have e1 : (x * 16777216) % 4294967296 = 16777216 * u := by omega
    have e2 : x / 256 = 2 * q + t := by omega
    rw [e1, e2]
  rw [e', e, Int.tdiv_eq_ediv_of_nonneg (by omega), w32_eq, w32_eq, w32_eq]
  have e3 : (2147483648 * t + 8388608 * u + q) / 2147483648 = t := by omega
  have e4 : (2147483648 * t + 8388608 * u + q) * 2 % 4294967296 = 16777216 * u + 2 * q := by omega
  rw [e3, e4]
  omega
theorem rs24 {x : Int} (h0 : 0 ≤ x) (h1 : x < 4294967296) (h : roll 24 x = rol 24 x) : roll 25 x = rol 25 x := by
  show w32 (w32 (roll 24 x * 2) + w32 ((roll 24 x).tdiv 2147483648)) = _
  rw [h]
  have hy : ∃ q t u : Int, 0 ≤ q ∧ q < 16777216 ∧ 0 ≤ t ∧ t ≤ 1 ∧ 0 ≤ u ∧ u < 128 ∧ x = 256 * q + 128 * t + u := ⟨x / 256, (x / 128) % 2, x % 128, by omega, by omega, by omega, by omega, by omega, by omega, by omega⟩
  obtain ⟨q, t, u, q0, q1, t0, t1, u0, u1, hx⟩ := hy
  have e : rol 24 x = 2147483648 * t + 16777216 * u + q := by
    show (x * 16777216) % 4294967296 + x / 256 = _
    have e1 : (x * 16777216) % 4294967296 = 2147483648 * t + 16777216 * u := by omega
    have e2 : x / 256 = q := by omega
    rw [e1, e2]
  have e' : rol 25 x = 33554432 * u + (2 * q + t) := by
    show (x * 33554432) % 4294967296 + x / 128 = _
    have e1 : (x * 33554432) % 4294967296 = 33554432 * u := by omega
    have e2 : x / 128 = 2 * q + t := by omega
    rw [e1, e2]
  rw [e', e, Int.tdiv_eq_ediv_of_nonneg (by omega), w32_eq, w32_eq, w32_eq]
  have e3 : (2147483648 * t + 16777216 * u + q) / 2147483648 = t := by omega
  have e4 : (2147483648 * t + 16777216 * u + q) * 2 % 4294967296 = 33554432 * u + 2 * q := by omega
  rw [e3, e4]
  omega
theorem rs25 {x : Int} (h0 : 0 ≤ x) (h1 : x < 4294967296) (h : roll 25 x = rol 25 x) : roll 26 x = rol 26 x := by
  show w32 (w32 (roll 25 x * 2) + w32 ((roll 25 x).tdiv 2147483648)) = _
  rw [h]
  have hy : ∃ q t u : Int, 0 ≤ q ∧ q < 33554432 ∧ 0 ≤ t ∧ t ≤ 1 ∧ 0 ≤ u ∧ u < 64 ∧ x = 128 * q + 64 * t + u := ⟨x / 128, (x / 64) % 2, x % 64, by omega, by omega, by omega, by omega, by omega, by omega, by omega⟩
  obtain ⟨q, t, u, q0, q1, t0, t1, u0, u1, hx⟩ := hy
  have e : rol 25 x = 2147483648 * t + 33554432 * u + q := by
    show (x * 33554432) % 4294967296 + x / 128 = _
    have e1 : (x * 33554432) % 4294967296 = 2147483648 * t + 33554432 * u := by omega
    have e2 : x / 128 = q := by omega
    rw [e1, e2]
  have e' : rol 26 x = 67108864 * u + (2 * q + t) := by
    show (x * 67108864) % 4294967296 + x / 64 = _
    have e1 : (x * 67108864) % 4294967296 = 67108864 * u := by omega
    have e2 : x / 64 = 2 * q + t := by omega
    rw [e1, e2]
  rw [e', e, Int.tdiv_eq_ediv_of_nonneg (by omega), w32_eq, w32_eq, w32_eq]
  have e3 : (2147483648 * t + 33554432 * u + q) / 2147483648 = t := by omega
  have e4 : (2147483648 * t + 33554432 * u + q) * 2 % 4294967296 = 67108864 * u + 2 * q := by omega
  rw [e3, e4]
  omega
theorem rs26 {x : Int} (h0 : 0 ≤ x) (h1 : x < 4294967296) (h : roll 26 x = rol 26 x) : roll 27 x = rol 27 x := by
  show w32 (w32 (roll 26 x * 2) + w32 ((roll 26 x).tdiv 2147483648)) = _
  rw [h]
  have hy : ∃ q t u : Int, 0 ≤ q ∧ q < 67108864 ∧ 0 ≤ t ∧ t ≤ 1 ∧ 0 ≤ u ∧ u < 32 ∧ x = 64 * q + 32 * t + u := ⟨x / 64, (x / 32) % 2, x % 32, by omega, by omega, by omega, by omega, by omega, by omega, by omega⟩
  obtain ⟨q, t, u, q0, q1, t0, t1, u0, u1, hx⟩ := hy
  have e : rol 26 x = 2147483648 * t + 67108864 * u + q := by
    show (x * 67108864) % 4294967296 + x / 64 = _
    have e1 : (x * 67108864) % 4294967296 = 2147483648 * t + 67108864 * u := by omega
    have e2 : x / 64 = q := by omega
    rw [e1, e2]
  have e' : rol 27 x = 134217728 * u + (2 * q + t) := by
    show (x * 134217728) % 4294967296 + x / 32 = _
    have e1 : (x * 134217728) % 4294967296 = 134217728 * u := by omega
    have e2 : x / 32 = 2 * q + t := by omega
    rw [e1, e2]
  rw [e', e, Int.tdiv_eq_ediv_of_nonneg (by omega), w32_eq, w32_eq, w32_eq]
  have e3 : (2147483648 * t + 67108864 * u + q) / 2147483648 = t := by omega
  have e4 : (2147483648 * t + 67108864 * u + q) * 2 % 4294967296 = 134217728 * u + 2 * q := by omega
  rw [e3, e4]
  omega
theorem rs27 {x : Int} (h0 : 0 ≤ x) (h1 : x < 4294967296) (h : roll 27 x = rol 27 x) : roll 28 x = rol 28 x := by
  show w32 (w32 (roll 27 x * 2) + w32 ((roll 27 x).tdiv 2147483648)) = _
  rw [h]
  have hy : ∃ q t u : Int, 0 ≤ q ∧ q < 134217728 ∧ 0 ≤ t ∧ t ≤ 1 ∧ 0 ≤ u ∧ u < 16 ∧ x = 32 * q + 16 * t + u := ⟨x / 32, (x / 16) % 2, x % 16, by omega, by omega, by omega, by omega, by omega, by omega, by omega⟩
  obtain ⟨q, t, u, q0, q1, t0, t1, u0, u1, hx⟩ := hy
  have e : rol 27 x = 2147483648 * t + 134217728 * u + q := by
    show (x * 134217728) % 4294967296 + x / 32 = _
    have e1 : (x * 134217728) % 4294967296 = 2147483648 * t + 134217728 * u := by omega
    have e2 : x / 32 = q := by omega
    rw [e1, e2]
  have e' : rol 28 x = 268435456 * u + (2 * q + t) := by
    show (x * 268435456) % 4294967296 + x / 16 = _
    have e1 : (x * 268435456) % 4294967296 = 268435456 * u := by omega
    have e2 : x / 16 = 2 * q + t := by omega
    rw [e1, e2]
  rw [e', e, Int.tdiv_eq_ediv_of_nonneg (by omega), w32_eq, w32_eq, w32_eq]
  have e3 : (2147483648 * t + 134217728 * u + q) / 2147483648 = t := by omega
  have e4 : (2147483648 * t + 134217728 * u + q) * 2 % 4294967296 = 268435456 * u + 2 * q := by omega
  rw [e3, e4]
  omega
theorem rs28 {x : Int} (h0 : 0 ≤ x) (h1 : x < 4294967296) (h : roll 28 x = rol 28 x) : roll 29 x = rol 29 x := by
  show w32 (w32 (roll 28 x * 2) + w32 ((roll 28 x).tdiv 2147483648)) = _
  rw [h]
  have hy : ∃ q t u : Int, 0 ≤ q ∧ q < 268435456 ∧ 0 ≤ t ∧ t ≤ 1 ∧ 0 ≤ u ∧ u < 8 ∧ x = 16 * q + 8 * t + u := ⟨x / 16, (x / 8) % 2, x % 8, by omega, by omega, by omega, by omega, by omega, by omega, by omega⟩
  obtain ⟨q, t, u, q0, q1, t0, t1, u0, u1, hx⟩ := hy
  have e : rol 28 x = 2147483648 * t + 268435456 * u + q := by
    show (x * 268435456) % 4294967296 + x / 16 = _
    have e1 : (x * 268435456) % 4294967296 = 2147483648 * t + 268435456 * u := by omega
    have e2 : x / 16 = q := by omega
    rw [e1, e2]
  have e' : rol 29 x = 536870912 * u + (2 * q + t) := by
    show (x * 536870912) % 4294967296 + x / 8 = _
    have e1 : (x * 536870912) % 4294967296 = 536870912 * u := by omega
    have e2 : x / 8 = 2 * q + t := by omega
    rw [e1, e2]
  rw [e', e, Int.tdiv_eq_ediv_of_nonneg (by omega), w32_eq, w32_eq, w32_eq]
  have e3 : (2147483648 * t + 268435456 * u + q) / 2147483648 = t := by omega
  have e4 : (2147483648 * t + 268435456 * u + q) * 2 % 4294967296 = 536870912 * u + 2 * q := by omega
  rw [e3, e4]
  omega
theorem rs29 {x : Int} (h0 : 0 ≤ x) (h1 : x < 4294967296) (h : roll 29 x = rol 29 x) : roll 30 x = rol 30 x := by
  show w32 (w32 (roll 29 x * 2) + w32 ((roll 29 x).tdiv 2147483648)) = _
  rw [h]
  have hy : ∃ q t u : Int, 0 ≤ q ∧ q < 536870912 ∧ 0 ≤ t ∧ t ≤ 1 ∧ 0 ≤ u ∧ u < 4 ∧ x = 8 * q + 4 * t + u := ⟨x / 8, (x / 4) % 2, x % 4, by omega, by omega, by omega, by omega, by omega, by omega, by omega⟩
  obtain ⟨q, t, u, q0, q1, t0, t1, u0, u1, hx⟩ := hy
  have e : rol 29 x = 2147483648 * t + 536870912 * u + q := by
    show (x * 536870912) % 4294967296 + x / 8 = _
    have e1 : (x * 536870912) % 4294967296 = 2147483648 * t + 536870912 * u := by omega
    have e2 : x / 8 = q := by omega
    rw [e1, e2]
  have e' : rol 30 x = 1073741824 * u + (2 * q + t) := by
    show (x * 1073741824) % 4294967296 + x / 4 = _
    have e1 : (x * 1073741824) % 4294967296 = 1073741824 * u := by omega
    have e2 : x / 4 = 2 * q + t := by omega
    rw [e1, e2]
  rw [e', e, Int.tdiv_eq_ediv_of_nonneg (by omega), w32_eq, w32_eq, w32_eq]
  have e3 : (2147483648 * t + 536870912 * u + q) / 2147483648 = t := by omega
  have e4 : (2147483648 * t + 536870912 * u + q) * 2 % 4294967296 = 1073741824 * u + 2 * q := by omega
  rw [e3, e4]
  omega
theorem r0 {x : Int} (h0 : 0 ≤ x) (h1 : x < 4294967296) : roll 0 x = rol 0 x := by
  show x = _
  have e : rol 0 x = (x * 1) % 4294967296 + x / 4294967296 := rfl
  rw [e]; omega
theorem r1 {x : Int} (h0 : 0 ≤ x) (h1 : x < 4294967296) : roll 1 x = rol 1 x := rs0 h0 h1 (r0 h0 h1)
theorem r2 {x : Int} (h0 : 0 ≤ x) (h1 : x < 4294967296) : roll 2 x = rol 2 x := rs1 h0 h1 (r1 h0 h1)
theorem r3 {x : Int} (h0 : 0 ≤ x) (h1 : x < 4294967296) : roll 3 x = rol 3 x := rs2 h0 h1 (r2 h0 h1)
theorem r4 {x : Int} (h0 : 0 ≤ x) (h1 : x < 4294967296) : roll 4 x = rol 4 x := rs3 h0 h1 (r3 h0 h1)
theorem r5 {x : Int} (h0 : 0 ≤ x) (h1 : x < 4294967296) : roll 5 x = rol 5 x := rs4 h0 h1 (r4 h0 h1)
theorem r6 {x : Int} (h0 : 0 ≤ x) (h1 : x < 4294967296) : roll 6 x = rol 6 x := rs5 h0 h1 (r5 h0 h1)
theorem r7 {x : Int} (h0 : 0 ≤ x) (h1 : x < 4294967296) : roll 7 x = rol 7 x := rs6 h0 h1 (r6 h0 h1)
theorem r8 {x : Int} (h0 : 0 ≤ x) (h1 : x < 4294967296) : roll 8 x = rol 8 x := rs7 h0 h1 (r7 h0 h1)
theorem r9 {x : Int} (h0 : 0 ≤ x) (h1 : x < 4294967296) : roll 9 x = rol 9 x := rs8 h0 h1 (r8 h0 h1)
theorem r10 {x : Int} (h0 : 0 ≤ x) (h1 : x < 4294967296) : roll 10 x = rol 10 x := rs9 h0 h1 (r9 h0 h1)
theorem r11 {x : Int} (h0 : 0 ≤ x) (h1 : x < 4294967296) : roll 11 x = rol 11 x := rs10 h0 h1 (r10 h0 h1)
theorem r12 {x : Int} (h0 : 0 ≤ x) (h1 : x < 4294967296) : roll 12 x = rol 12 x := rs11 h0 h1 (r11 h0 h1)
theorem r13 {x : Int} (h0 : 0 ≤ x) (h1 : x < 4294967296) : roll 13 x = rol 13 x := rs12 h0 h1 (r12 h0 h1)
theorem r14 {x : Int} (h0 : 0 ≤ x) (h1 : x < 4294967296) : roll 14 x = rol 14 x := rs13 h0 h1 (r13 h0 h1)
theorem r15 {x : Int} (h0 : 0 ≤ x) (h1 : x < 4294967296) : roll 15 x = rol 15 x := rs14 h0 h1 (r14 h0 h1)
theorem r16 {x : Int} (h0 : 0 ≤ x) (h1 : x < 4294967296) : roll 16 x = rol 16 x := rs15 h0 h1 (r15 h0 h1)
theorem r17 {x : Int} (h0 : 0 ≤ x) (h1 : x < 4294967296) : roll 17 x = rol 17 x := rs16 h0 h1 (r16 h0 h1)
theorem r18 {x : Int} (h0 : 0 ≤ x) (h1 : x < 4294967296) : roll 18 x = rol 18 x := rs17 h0 h1 (r17 h0 h1)
theorem r19 {x : Int} (h0 : 0 ≤ x) (h1 : x < 4294967296) : roll 19 x = rol 19 x := rs18 h0 h1 (r18 h0 h1)
theorem r20 {x : Int} (h0 : 0 ≤ x) (h1 : x < 4294967296) : roll 20 x = rol 20 x := rs19 h0 h1 (r19 h0 h1)
theorem r21 {x : Int} (h0 : 0 ≤ x) (h1 : x < 4294967296) : roll 21 x = rol 21 x := rs20 h0 h1 (r20 h0 h1)
theorem r22 {x : Int} (h0 : 0 ≤ x) (h1 : x < 4294967296) : roll 22 x = rol 22 x := rs21 h0 h1 (r21 h0 h1)
theorem r23 {x : Int} (h0 : 0 ≤ x) (h1 : x < 4294967296) : roll 23 x = rol 23 x := rs22 h0 h1 (r22 h0 h1)
theorem r24 {x : Int} (h0 : 0 ≤ x) (h1 : x < 4294967296) : roll 24 x = rol 24 x := rs23 h0 h1 (r23 h0 h1)
theorem r25 {x : Int} (h0 : 0 ≤ x) (h1 : x < 4294967296) : roll 25 x = rol 25 x := rs24 h0 h1 (r24 h0 h1)
theorem r26 {x : Int} (h0 : 0 ≤ x) (h1 : x < 4294967296) : roll 26 x = rol 26 x := rs25 h0 h1 (r25 h0 h1)
theorem r27 {x : Int} (h0 : 0 ≤ x) (h1 : x < 4294967296) : roll 27 x = rol 27 x := rs26 h0 h1 (r26 h0 h1)
theorem r28 {x : Int} (h0 : 0 ≤ x) (h1 : x < 4294967296) : roll 28 x = rol 28 x := rs27 h0 h1 (r27 h0 h1)
theorem r29 {x : Int} (h0 : 0 ≤ x) (h1 : x < 4294967296) : roll 29 x = rol 29 x := rs28 h0 h1 (r28 h0 h1)
theorem r30 {x : Int} (h0 : 0 ≤ x) (h1 : x < 4294967296) : roll 30 x = rol 30 x := rs29 h0 h1 (r29 h0 h1)
theorem rl1 {x : Int} (h0 : 0 ≤ x) (h1 : x < 4294967296) : rotl 1 x = roll 1 x := by
  rw [r1 h0 h1]
  have e : rol 1 x = (x * 2) % 4294967296 + x / 2147483648 := rfl
  have e1 : rotl 1 x = orI .u32 (IntKind.u32.wrap (x * 2)) (x.fdiv 2147483648) := rfl
  have h2 : IntKind.u32.wrap (x * 2) = (x * 2) % 4294967296 := by rw [IntKind.wrap_u32]
  rw [e, e1, h2, Int.fdiv_eq_ediv_of_nonneg _ (by decide), orI_or (by omega) (by omega)]
  have h3 : ((x * 2) % 4294967296).toNat = 2 ^ 1 * (x % 2147483648).toNat := by omega
  rw [h3, or_add (s := 1) (by omega)]
  omega
theorem rl5 {x : Int} (h0 : 0 ≤ x) (h1 : x < 4294967296) : rotl 5 x = roll 5 x := by
  rw [r5 h0 h1]
  have e : rol 5 x = (x * 32) % 4294967296 + x / 134217728 := rfl
  have e1 : rotl 5 x = orI .u32 (IntKind.u32.wrap (x * 32)) (x.fdiv 134217728) := rfl
  have h2 : IntKind.u32.wrap (x * 32) = (x * 32) % 4294967296 := by rw [IntKind.wrap_u32]
  rw [e, e1, h2, Int.fdiv_eq_ediv_of_nonneg _ (by decide), orI_or (by omega) (by omega)]
  have h3 : ((x * 32) % 4294967296).toNat = 2 ^ 5 * (x % 134217728).toNat := by omega
  rw [h3, or_add (s := 5) (by omega)]
  omega
theorem rl30 {x : Int} (h0 : 0 ≤ x) (h1 : x < 4294967296) : rotl 30 x = roll 30 x := by
  rw [r30 h0 h1]
  have e : rol 30 x = (x * 1073741824) % 4294967296 + x / 4 := rfl
  have e1 : rotl 30 x = orI .u32 (IntKind.u32.wrap (x * 1073741824)) (x.fdiv 4) := rfl
  have h2 : IntKind.u32.wrap (x * 1073741824) = (x * 1073741824) % 4294967296 := by rw [IntKind.wrap_u32]
  rw [e, e1, h2, Int.fdiv_eq_ediv_of_nonneg _ (by decide), orI_or (by omega) (by omega)]
  have h3 : ((x * 1073741824) % 4294967296).toNat = 2 ^ 30 * (x % 4).toNat := by omega
  rw [h3, or_add (s := 30) (by omega)]
  omega
end sw
end Go.Proofs.Yteknepfcbpoooaa
namespace Go.Proofs.Yteknepfcbpoooaa
open Go.ChangeShapes Go.WideShapes Go.ChangeAt Go.RowKit Go.Cln
namespace sw
noncomputable section
noncomputable def bodyB2 : Code := loopB Try.prog 15 1
def vB (g : Nat → Int) (a b c d : Nat) : Int := roll 1 (xr (xr (xr (g a) (g b)) (g c)) (g d))
def inN (N : Nat) (x : Int) : Prop := 0 ≤ x ∧ x < (N : Int)
def pB2 (N : Nat) (n : Int) : Prop := (((((((((((True ∧ decide (n < 80) = true) ∧ inN N (wm n 3)) ∧ ix (wm n 3) < N) ∧ inN N (wm n 8)) ∧ ix (wm n 8) < N) ∧ inN N (wm n 14)) ∧ ix (wm n 14) < N) ∧ inN N (wm n 16)) ∧ ix (wm n 16) < N) ∧ (N < N + 1 ∧ (N + 1) * 4 ≤ mostBytes ∧ N + 1 ≤ mostBytes)) ∧ 0 + N * 1 ≤ N)
theorem stepEB (s : N5) (b : Nat → Int) (c : Nat) (g : Nat → Int) (rd : Option Nat) : Step Try.prog rd (EB s b c g) bodyB2 (EB s b c g) (fun e x => e = .normal ∧ x = RB2 s b c 17 17 (fun j => if j < 16 then g j else vB g 13 8 2 0)) :=
  Step.exec pg FR_ok (n := 100) (f := 15) (p := True) (o := []) (by kernel_rfl) trivial (Nat.le_refl _) (viewR (k := 4) (m := 5) ⟨Nat.le_refl 4, show 3 ≤ 4 by decide⟩ ⟨by decide, rfl⟩ (by decide) ⟨rfl, rfl⟩ (by decide) (by kernel_rfl) (by kernel_rfl) (by kernel_rfl) (by kernel_rfl) (by kernel_rfl) (by kernel_rfl) (by kernel_rfl)
    (o1 := .cells (.lit (famList (fun j => .int .u32 (g j)) 0 (16 * 1) ++ [.int .u32 (vB g 13 8 2 0)])) 30) (by kernel_rfl) (.grow (fun j hj => if_pos hj) (if_neg (Nat.lt_irrefl 16))))
theorem stepRB2 (s : N5) (b : Nat → Int) (c N : Nat) (i : Int) (g g0 : Nat → Int) (rd : Option Nat) (hp : pB2 N i) : Step Try.prog rd (EB s b c g0) bodyB2 (RB2 s b c N i g) (fun e x => e = .normal ∧ x = RB2 s b c (N + 1) (IntKind.i64.wrap (i + 1)) (fun j => if j < N then g j else vB g (ix (wm i 3)) (ix (wm i 8)) (ix (wm i 14)) (ix (wm i 16)))) :=
  Step.exec pg FR_ok (n := 100) (f := 15) (p := pB2 N i) (o := orA) (by kernel_rfl) hp (show 4 ≤ 5 by decide) (viewR (k := 4) (m := 6) ⟨Nat.le_refl 4, show 3 ≤ 4 by decide⟩ ⟨by decide, rfl⟩ (by decide) ⟨rfl, rfl⟩ (by decide) (by kernel_rfl) (by kernel_rfl) (by kernel_rfl) (by kernel_rfl) (by kernel_rfl) (by kernel_rfl) (by kernel_rfl)
    (o1 := .cells (.lit (famList (fun j => .int .u32 (g j)) 0 (N * 1) ++ [.int .u32 (vB g (ix (wm i 3)) (ix (wm i 8)) (ix (wm i 14)) (ix (wm i 16)))])) 30) (by kernel_rfl) (.grow (fun j hj => if_pos hj) (if_neg (Nat.lt_irrefl N))))
theorem stepXB (s : N5) (b : Nat → Int) (c : Nat) (g g0 g' : Nat → Int) (rd : Option Nat) (hg : ∀ j, j < 80 → g' j = g j) : Step Try.prog rd (EB s b c g0) bodyB2 (RB2 s b c 80 80 g) (fun e x => e = .exit 2 ∧ x = RB2 s b c 80 80 g') :=
  Step.exec pg FR_ok (n := 100) (f := 15) (p := True) (o := []) (by kernel_rfl) trivial (show 4 ≤ 5 by decide) (viewR0 (k := 4) (show 4 ≤ 5 by decide) ⟨by decide, rfl⟩ ⟨rfl, rfl⟩ (by decide) (by kernel_rfl) (by kernel_rfl) (by kernel_rfl) (by kernel_rfl) (by kernel_rfl) (by kernel_rfl) (by kernel_rfl) (by kernel_rfl)
    (o1 := famW 80 g) (by kernel_rfl) (.famEq hg))
theorem vB_eq (g : Nat → Int) (a b c d : Nat) : vB g a b c d = rotl 1 (xr (xr (xr (g a) (g b)) (g c)) (g d)) := by
  unfold vB
  have := xr_in (xr (xr (g a) (g b)) (g c)) (g d)
  rw [rl1 this.1 this.2]
theorem loopB2 (s : N5) (b : Nat → Int) (c : Nat) (g : Nat → Int) (rd : Option Nat) : CodeOk Try.prog rd (.loop bodyB2) (EB s b c g) (.exit 2) (RB2 s b c 80 80 (W g)) := by
  refine CodeOk.of_step (Step.loop (fun k x => (k = 65 ∧ x = EB s b c g) ∨ ∃ N h, 17 ≤ N ∧ N ≤ 80 ∧ k = 80 - N ∧ (∀ j, j < N → h j = W g j) ∧ x = RB2 s b c N (N : Int) h) ?_ 65 _ (.inl ⟨rfl, rfl⟩))
  rintro k x (⟨rfl, rfl⟩ | ⟨N, h, h1, h2, rfl, h3, rfl⟩)
  · refine (stepEB s b c g rd).mono ?_
    rintro e x ⟨rfl, rfl⟩
    refine .inl ⟨rfl, 63, by omega, .inr ⟨17, _, by omega, by omega, rfl, fun j hj => ?_, rfl⟩⟩
    by_cases e : j < 16
    · rw [if_pos e, W_low g e]
    · have : j = 16 := by omega
      subst this
      have := W_step g (k := 0) (by omega)
      simp only [Nat.add_zero] at this
      rw [if_neg (by omega), this, W_low g (by omega), W_low g (by omega), W_low g (by omega), W_low g (by omega), vB_eq]
  · by_cases e80 : N = 80
    · subst e80
      refine (stepXB s b c h g (W g) rd fun j hj => (h3 j hj).symm).mono ?_
      rintro e x ⟨rfl, rfl⟩
      exact .inr ⟨(by intro x; cases x), rfl, rfl⟩
    · have e3 := wm_eq (i := N) (k := 3) (by omega) (by omega) (by omega) h2
      have e8 := wm_eq (i := N) (k := 8) (by omega) (by omega) (by omega) h2
      have e14 := wm_eq (i := N) (k := 14) (by omega) (by omega) (by omega) h2
      have e16 := wm_eq (i := N) (k := 16) (by omega) (by omega) (by omega) h2
      refine (stepRB2 s b c N (N : Int) h g rd ?_).mono ?_
      · unfold pB2 inN ix mostBytes
        rw [e3, e8, e14, e16]
        refine ⟨⟨⟨⟨⟨⟨⟨⟨⟨⟨⟨trivial, ?_⟩, ?_⟩, ?_⟩, ?_⟩, ?_⟩, ?_⟩, ?_⟩, ?_⟩, ?_⟩, ?_⟩, ?_⟩ <;> first | (rw [decide_eq_true_eq]; omega) | omega
      · rintro e s ⟨rfl, rfl⟩
        have ew : IntKind.i64.wrap ((N : Int) + 1) = ((N + 1 : Nat) : Int) := by rw [IntKind.wrap_i64]; omega
        rw [ew]
        refine .inl ⟨rfl, 80 - (N + 1), by omega, .inr ⟨N + 1, _, by omega, by omega, rfl, fun j hj => ?_, rfl⟩⟩
        by_cases e : j < N
        · rw [if_pos e]; exact h3 j e
        · have : j = N := by omega
          subst this
          rw [if_neg e]
          have := W_step g (k := j - 16) (by omega)
          rw [show 16 + (j - 16) = j by omega, show 13 + (j - 16) = j - 3 by omega, show 8 + (j - 16) = j - 8 by omega, show 2 + (j - 16) = j - 14 by omega] at this
          rw [this, e3, e8, e14, e16]
          have i3 : ix ((j : Int) - 3) = j - 3 := by unfold ix; omega
          have i8 : ix ((j : Int) - 8) = j - 8 := by unfold ix; omega
          have i14 : ix ((j : Int) - 14) = j - 14 := by unfold ix; omega
          have i16 : ix ((j : Int) - 16) = j - 16 := by unfold ix; omega
          rw [i3, i8, i14, i16, vB_eq, h3 _ (by omega), h3 _ (by omega), h3 _ (by omega), h3 _ (by omega)]
end
end sw
end Go.Proofs.Yteknepfcbpoooaa
namespace Go.Proofs.Yteknepfcbpoooaa
open Go.ChangeShapes Go.WideShapes Go.ChangeAt Go.RowKit Go.Cln
namespace sw
noncomputable section
def mixR (q : Nat) (b c d : Int) : Int := match q with
  | 0 => orI .u32 (andI .u32 b c) (andI .u32 (w32 (4294967295 - b)) d)
  | 2 => orI .u32 (orI .u32 (andI .u32 b c) (andI .u32 b d)) (andI .u32 c d)
  | _ => xr (xr b c) d
def rndR (q : Nat) (n : N5) (w : Int) : N5 := ⟨w32 (w32 (w32 (w32 (roll 5 n.a + mixR q n.b n.c n.d) + n.e) + conQ q) + w), n.a, roll 30 n.b, n.c, n.d⟩
def hC (s : N5) (b w : Nat → Int) (n : N5) : Nat → Option Ob := hR s b fun i => if i = 4 then some (famW 80 w) else if i = 5 then some (.cells (.lit n.row) 31) else none
def mkC (s : N5) (b : Nat → Int) (c : Nat) (w : Nat → Int) (n : N5) (t : List Value) : St :=
  ⟨.agg s.row.toArray :: .slice (some ⟨0, 0, none⟩) 64 c :: P0 1 0 :: undef :: P0 2 0 :: gs 4 80 :: .int .i64 16 :: .int .i64 80 :: P0 5 0 :: t, [], Tr.rebuild (hC s b w n) 6, 6, 1, [], fun _ => false, True, []⟩
def EC (s : N5) (b : Nat → Int) (c : Nat) (w : Nat → Int) (n : N5) : St := mkC s b c w n (.int .i64 0 :: (U 4 ++ (J 71 ++ .agg s.row.toArray :: U 94)))
def RC (p : Nat) (s : N5) (b : Nat → Int) (c : Nat) (w : Nat → Int) (n : N5) (i : Int) : St := mkC s b c w n (.int .i64 i :: (J 3 ++ undef :: (J 71 ++ .agg s.row.toArray ::
  (J 29 ++ ((if p = 0 then U 4 else J 4) ++ ((if p = 2 then J 21 else U 21) ++ (J 25 ++ .agg n.row.toArray :: U 14)))))))
noncomputable def bodyC : Code := loopB Try.prog 15 2
theorem obC {s : N5} {b w : Nat → Int} {n : N5} {i : Nat} {o : Ob} {st : St} (h : hC s b w n i = some o) : ObV st id o o := by
  match i, h with
  | 0, h => cases h; exact ObV.famEq fun _ _ => rfl
  | 1, h => cases h; exact ObV.lit rfl rfl
  | 2, h => cases h; exact ObV.lit rfl rfl
  | 3, h => cases h
  | 4, h => cases h; exact ObV.famEq fun _ _ => rfl
  | 5, h => cases h; exact ObV.lit rfl rfl
  | j + 6, h =>
    have : hC s b w n (j + 6) = none := by unfold hC hR; simp
    rw [this] at h; cases h
theorem viewC {s : N5} {b w : Nat → Int} {c : Nat} {n : N5} {t : List Value} {s0 s1 : St} (h0 : s0.next = 6 ∧ s0.roB = 1 ∧ s0.ro = []) (hn : s1.next = 6) (hr : s1.roB = 1) (hro : s1.ro = []) (hhd : s1.hid = fun _ => false) (hd : s1.defers = [])
    (ht : maskD s1.tmps (mkC s b c w n t).tmps = (mkC s b c w n t).tmps.map (ren id)) (hto : (mkC s b c w n t).tmps.all (okV (mkC s b c w n t)) = true)
    (hh : (List.range 6).map s1.heap.get = (List.range 6).map (hC s b w n)) : View s0 s1 (mkC s b c w n t) id := by
  have get : ∀ j, j < 6 → s1.heap.get j = hC s b w n j := fun j hj => by
    have := congrArg (fun l => l[j]?) hh
    simpa [List.getElem?_map, List.getElem?_range hj] using this
  refine View.plain (f := hC s b w n) (n := 6) rfl (by decide) rfl hn hr.symm hro.symm hhd.symm ht hto (by rw [hd]; rfl) rfl (fun j hj => ?_) (Nat.le_of_eq h0.1) (fun j hj h => ?_) (fun j o hj h => ⟨o, by rw [get j hj, h], obC h⟩)
  · simp [okB, mkC, hj]
  · have : j < 1 := by simpa [St.may, h0.2.1, h0.2.2] using h
    exact (get j (by omega)).symm
theorem c0 (s : N5) (b : Nat → Int) (c : Nat) (w : Nat → Int) (n : N5) (rd : Option Nat) : Step Try.prog rd (EC s b c w n) bodyC (EC s b c w n) (fun e x => e = .normal ∧ x = RC 0 s b c w (rndR 0 n (w 0)) 1) :=
  Step.exec pg FR_ok (n := 100) (f := 15) (p := True) (o := []) (by kernel_rfl) trivial (Nat.le_refl _) (viewC ⟨rfl, rfl, rfl⟩ (by kernel_rfl) (by kernel_rfl) (by kernel_rfl) (by kernel_rfl) (by kernel_rfl) (by kernel_rfl) (by kernel_rfl) (by kernel_rfl))
def i80 (i : Int) : Prop := 0 ≤ i ∧ i < ((80 : Nat) : Int)
def pC0 (i : Int) : Prop := ((((True ∧ decide (i < 80) = true) ∧ decide (i < 20) = true) ∧ i80 i) ∧ ix i < 80)
theorem c00 (s : N5) (b : Nat → Int) (c : Nat) (w : Nat → Int) (n0 n : N5) (i : Int) (rd : Option Nat) (hp : pC0 i) : Step Try.prog rd (EC s b c w n0) bodyC (RC 0 s b c w n i) (fun e x => e = .normal ∧ x = RC 0 s b c w (rndR 0 n (w (ix i))) (IntKind.i64.wrap (i + 1))) :=
  Step.exec pg FR_ok (n := 100) (f := 15) (p := pC0 i) (o := [some true, none, none, none, some true, none, none, none, none, none, none, some true, some true]) (by kernel_rfl) hp (Nat.le_refl _) (viewC ⟨rfl, rfl, rfl⟩ (by kernel_rfl) (by kernel_rfl) (by kernel_rfl) (by kernel_rfl) (by kernel_rfl) (by kernel_rfl) (by kernel_rfl) (by kernel_rfl))
def pC1 (i : Int) : Prop := (((((True ∧ decide (i < 80) = true) ∧ decide (i < 20) = false) ∧ decide (i < 40) = true) ∧ i80 i) ∧ ix i < 80)
theorem c11 (s : N5) (b : Nat → Int) (c : Nat) (w : Nat → Int) (n0 n : N5) (i : Int) (rd : Option Nat) (hp : pC1 i) : Step Try.prog rd (EC s b c w n0) bodyC (RC 1 s b c w n i) (fun e x => e = .normal ∧ x = RC 1 s b c w (rndR 1 n (w (ix i))) (IntKind.i64.wrap (i + 1))) :=
  Step.exec pg FR_ok (n := 100) (f := 15) (p := pC1 i) (o := [some true, none, none, none, some false, some true, none, none, some true, some true]) (by kernel_rfl) hp (Nat.le_refl _) (viewC ⟨rfl, rfl, rfl⟩ (by kernel_rfl) (by kernel_rfl) (by kernel_rfl) (by kernel_rfl) (by kernel_rfl) (by kernel_rfl) (by kernel_rfl) (by kernel_rfl))
theorem c01 (s : N5) (b : Nat → Int) (c : Nat) (w : Nat → Int) (n0 n : N5) (rd : Option Nat) : Step Try.prog rd (EC s b c w n0) bodyC (RC 0 s b c w n 20) (fun e x => e = .normal ∧ x = RC 1 s b c w (rndR 1 n (w 20)) 21) :=
  Step.exec pg FR_ok (n := 100) (f := 15) (p := True) (o := []) (by kernel_rfl) trivial (Nat.le_refl _) (viewC ⟨rfl, rfl, rfl⟩ (by kernel_rfl) (by kernel_rfl) (by kernel_rfl) (by kernel_rfl) (by kernel_rfl) (by kernel_rfl) (by kernel_rfl) (by kernel_rfl))
def pC2 (i : Int) : Prop := ((((((True ∧ decide (i < 80) = true) ∧ decide (i < 20) = false) ∧ decide (i < 40) = false) ∧ decide (i < 60) = true) ∧ i80 i) ∧ ix i < 80)
theorem c22 (s : N5) (b : Nat → Int) (c : Nat) (w : Nat → Int) (n0 n : N5) (i : Int) (rd : Option Nat) (hp : pC2 i) : Step Try.prog rd (EC s b c w n0) bodyC (RC 2 s b c w n i) (fun e x => e = .normal ∧ x = RC 2 s b c w (rndR 2 n (w (ix i))) (IntKind.i64.wrap (i + 1))) :=
  Step.exec pg FR_ok (n := 100) (f := 15) (p := pC2 i) (o := [some true, none, none, none, some false, some false, some true, none, none, none, none, none, none, none, none, some true, some true]) (by kernel_rfl) hp (Nat.le_refl _) (viewC ⟨rfl, rfl, rfl⟩ (by kernel_rfl) (by kernel_rfl) (by kernel_rfl) (by kernel_rfl) (by kernel_rfl) (by kernel_rfl) (by kernel_rfl) (by kernel_rfl))
theorem c12 (s : N5) (b : Nat → Int) (c : Nat) (w : Nat → Int) (n0 n : N5) (rd : Option Nat) : Step Try.prog rd (EC s b c w n0) bodyC (RC 1 s b c w n 40) (fun e x => e = .normal ∧ x = RC 2 s b c w (rndR 2 n (w 40)) 41) :=
  Step.exec pg FR_ok (n := 100) (f := 15) (p := True) (o := []) (by kernel_rfl) trivial (Nat.le_refl _) (viewC ⟨rfl, rfl, rfl⟩ (by kernel_rfl) (by kernel_rfl) (by kernel_rfl) (by kernel_rfl) (by kernel_rfl) (by kernel_rfl) (by kernel_rfl) (by kernel_rfl))
def pC3 (i : Int) : Prop := ((((((True ∧ decide (i < 80) = true) ∧ decide (i < 20) = false) ∧ decide (i < 40) = false) ∧ decide (i < 60) = false) ∧ i80 i) ∧ ix i < 80)
theorem c33 (s : N5) (b : Nat → Int) (c : Nat) (w : Nat → Int) (n0 n : N5) (i : Int) (rd : Option Nat) (hp : pC3 i) : Step Try.prog rd (EC s b c w n0) bodyC (RC 2 s b c w n i) (fun e x => e = .normal ∧ x = RC 2 s b c w (rndR 3 n (w (ix i))) (IntKind.i64.wrap (i + 1))) :=
  Step.exec pg FR_ok (n := 100) (f := 15) (p := pC3 i) (o := [some true, none, none, none, some false, some false, some false, none, none, some true, some true]) (by kernel_rfl) hp (Nat.le_refl _) (viewC ⟨rfl, rfl, rfl⟩ (by kernel_rfl) (by kernel_rfl) (by kernel_rfl) (by kernel_rfl) (by kernel_rfl) (by kernel_rfl) (by kernel_rfl) (by kernel_rfl))
theorem cX (s : N5) (b : Nat → Int) (c : Nat) (w : Nat → Int) (n0 n : N5) (rd : Option Nat) : Step Try.prog rd (EC s b c w n0) bodyC (RC 2 s b c w n 80) (fun e x => e = .exit 4 ∧ x = RC 2 s b c w n 80) :=
  Step.exec pg FR_ok (n := 100) (f := 15) (p := True) (o := []) (by kernel_rfl) trivial (Nat.le_refl _) (viewC ⟨rfl, rfl, rfl⟩ (by kernel_rfl) (by kernel_rfl) (by kernel_rfl) (by kernel_rfl) (by kernel_rfl) (by kernel_rfl) (by kernel_rfl) (by kernel_rfl))
def rr (w : Nat → Int) (n : N5) : Nat → N5
  | 0 => n
  | k + 1 => rndR (k / 20) (rr w n k) (w k)
theorem loopC (s : N5) (b : Nat → Int) (c : Nat) (w : Nat → Int) (n : N5) (rd : Option Nat) : CodeOk Try.prog rd (.loop bodyC) (EC s b c w n) (.exit 4) (RC 2 s b c w (rr w n 80) 80) := by
  refine CodeOk.of_step (Step.loop (fun k x => (k = 81 ∧ x = EC s b c w n) ∨ ∃ j : Nat, 1 ≤ j ∧ j ≤ 80 ∧ k = 80 - j ∧ x = RC (min ((j - 1) / 20) 2) s b c w (rr w n j) (j : Int)) ?_ 81 _ (.inl ⟨rfl, rfl⟩))
  rintro k x (⟨rfl, rfl⟩ | ⟨j, h1, h2, rfl, rfl⟩)
  · refine (c0 s b c w n rd).mono ?_
    rintro e x ⟨rfl, rfl⟩
    exact .inl ⟨rfl, 79, by omega, .inr ⟨1, by omega, by omega, rfl, rfl⟩⟩
  · by_cases e80 : j = 80
    · subst e80
      refine (cX s b c w n _ rd).mono ?_
      rintro e x ⟨rfl, rfl⟩
      exact .inr ⟨(by intro x; cases x), rfl, rfl⟩
    · have ew : IntKind.i64.wrap ((j : Int) + 1) = ((j + 1 : Nat) : Int) := by rw [IntKind.wrap_i64]; omega
      have ei : ix (j : Int) = j := by unfold ix; omega
      have fin : ∀ q p, j / 20 = q → min (j / 20) 2 = p → ∀ x, x = RC p s b c w (rndR q (rr w n j) (w j)) ((j + 1 : Nat) : Int) → (∃ k', k' < 80 - j ∧ ((k' = 81 ∧ x = EC s b c w n) ∨ ∃ j : Nat, 1 ≤ j ∧ j ≤ 80 ∧ k' = 80 - j ∧ x = RC (min ((j - 1) / 20) 2) s b c w (rr w n j) (j : Int))) := fun q p hq hp x hx => by
        refine ⟨80 - (j + 1), by omega, .inr ⟨j + 1, by omega, by omega, rfl, ?_⟩⟩
        rw [hx]
        show _ = RC (min (j / 20) 2) s b c w (rndR (j / 20) (rr w n j) (w j)) _
        rw [hp, hq]
      by_cases e20 : j = 20
      · subst e20
        refine (c01 s b c w n _ rd).mono ?_
        rintro e x ⟨rfl, rfl⟩
        exact .inl ⟨rfl, fin 1 1 rfl rfl _ rfl⟩
      by_cases e40 : j = 40
      · subst e40
        refine (c12 s b c w n _ rd).mono ?_
        rintro e x ⟨rfl, rfl⟩
        exact .inl ⟨rfl, fin 2 2 rfl rfl _ rfl⟩
      by_cases l20 : j < 20
      · rw [show min ((j - 1) / 20) 2 = 0 by omega]
        refine (c00 s b c w n _ _ rd ?_).mono ?_
        · unfold pC0 i80 ix; refine ⟨⟨⟨⟨trivial, ?_⟩, ?_⟩, ?_⟩, ?_⟩ <;> first | (rw [decide_eq_true_eq]; omega) | omega
        · rintro e x ⟨rfl, rfl⟩
          rw [ew, ei]; exact .inl ⟨rfl, fin 0 0 (by omega) (by omega) _ rfl⟩
      by_cases l40 : j < 40
      · rw [show min ((j - 1) / 20) 2 = 1 by omega]
        refine (c11 s b c w n _ _ rd ?_).mono ?_
        · unfold pC1 i80 ix; refine ⟨⟨⟨⟨⟨trivial, ?_⟩, ?_⟩, ?_⟩, ?_⟩, ?_⟩ <;> first | (rw [decide_eq_true_eq]; omega) | (rw [decide_eq_false_iff_not]; omega) | omega
        · rintro e x ⟨rfl, rfl⟩
          rw [ew, ei]; exact .inl ⟨rfl, fin 1 1 (by omega) (by omega) _ rfl⟩
      by_cases l60 : j < 60
      · rw [show min ((j - 1) / 20) 2 = 2 by omega]
        refine (c22 s b c w n _ _ rd ?_).mono ?_
        · unfold pC2 i80 ix; refine ⟨⟨⟨⟨⟨⟨trivial, ?_⟩, ?_⟩, ?_⟩, ?_⟩, ?_⟩, ?_⟩ <;> first | (rw [decide_eq_true_eq]; omega) | (rw [decide_eq_false_iff_not]; omega) | omega
        · rintro e x ⟨rfl, rfl⟩
          rw [ew, ei]; exact .inl ⟨rfl, fin 2 2 (by omega) (by omega) _ rfl⟩
      · rw [show min ((j - 1) / 20) 2 = 2 by omega]
        refine (c33 s b c w n _ _ rd ?_).mono ?_
        · unfold pC3 i80 ix; refine ⟨⟨⟨⟨⟨⟨trivial, ?_⟩, ?_⟩, ?_⟩, ?_⟩, ?_⟩, ?_⟩ <;> first | (rw [decide_eq_true_eq]; omega) | (rw [decide_eq_false_iff_not]; omega) | omega
        · rintro e x ⟨rfl, rfl⟩
          rw [ew, ei]; exact .inl ⟨rfl, fin 3 2 (by omega) (by omega) _ rfl⟩
end
end sw
end Go.Proofs.Yteknepfcbpoooaa
namespace Go.Proofs.Yteknepfcbpoooaa
open Go.ChangeShapes Go.WideShapes Go.ChangeAt Go.RowKit Go.Cln
namespace sw
noncomputable section
def bOf : Option Ob → Nat → Int
  | some (.cells (.fam _ f) _) => fun j => valI (f j)
  | _ => fun _ => 0
def fhA (S : St) (i : Nat) : Option Ob := match i with
  | 3 => some (famW 16 (wa (bOf (S.heap.get 0))))
  | i => S.heap.get i
def finA (S : St) : St := { S with next := 4, tmps := S.tmps.take 5 ++ gs 3 16 :: .int .i64 16 :: (U 7 ++ (J 40 ++ U 126)), heap := Tr.rebuild (fhA S) 4 }
def fhB2 (S : St) (i : Nat) : Option Ob := match i with
  | 3 => none
  | 4 => some (famW 80 (W (bOf (S.heap.get 3))))
  | i => S.heap.get i
def finB2 (S : St) : St := { S with next := 5, tmps := S.tmps.take 5 ++ gs 4 80 :: .int .i64 16 :: .int .i64 80 :: (U 6 ++ (J 40 ++ (J 31 ++ U 95))), heap := Tr.rebuild (fhB2 S) 5 }
def nFinC (S : St) : N5 := rr (bOf (S.heap.get 4)) (n5Of (S.heap.get 5)) 80
def fhC (S : St) (i : Nat) : Option Ob := match i with
  | 5 => some (.cells (.lit (nFinC S).row) 31)
  | i => S.heap.get i
def finC (S : St) : St := { S with tmps := S.tmps.take 9 ++ .int .i64 80 :: (J 3 ++ undef :: (J 71 ++ (S.tmps.drop 85).take 1 ++ (J 29 ++ (J 4 ++ (J 21 ++ (J 25 ++ .agg (nFinC S).row.toArray :: U 14)))))), heap := Tr.rebuild (fhC S) 6 }
def LR (f : FuncId) (s : St) : Option Go.Cln.Ask := if f == 15 then match getL s.tmps 7, getL s.tmps 9, getL s.tmps 13 with
  | .tuple _, _, _ => some ⟨⟨[], [], []⟩, .exit 0, finA⟩
  | .int _ _, .tuple _, _ => some ⟨⟨[], [], []⟩, .exit 2, finB2⟩
  | .int _ _, .int _ _, .tuple _ => some ⟨⟨[], [], []⟩, .exit 4, finC⟩
  | _, _, _ => none else none
def blkR (s : N5) (b : Nat → Int) : N5 := add5 (rr (W (wa b)) s 80) s
def KF : Given := Given.asking (Given.calls FR) Try.prog LR
theorem eF (s : N5) (b : Nat → Int) (c : Nat) : ((mk Try.prog KF 300).call 15 [.agg s.row.toArray, .slice (some ⟨0, 0, none⟩) 64 c] (St.start 1 (rowHeap .u8 64 b 22) [])).map (fun r => (r.1, r.2.obl)) = some (.agg (blkR s b).row.toArray,
    (((True ∧ ∀ rd, CodeOk Try.prog rd (.loop bodyA) (EA s b c) (.exit 0) (RA s b c 16 16 (wa b))) ∧ ∀ rd, CodeOk Try.prog rd (.loop bodyB2) (EB s b c (wa b)) (.exit 2) (RB2 s b c 80 80 (W (wa b)))) ∧
      ∀ rd, CodeOk Try.prog rd (.loop bodyC) (EC s b c (W (wa b)) s) (.exit 4) (RC 2 s b c (W (wa b)) (rr (W (wa b)) s 80) 80))) := by kernel_rfl
def FSq (f : FuncId) (args : List Value) (s : St) : Option Value := if f == 15 then match args with
  | [.agg st, .slice (some ⟨b, o, sp⟩) n _] => if (n = 64 ∧ isAbs sp = false) ∧ st.toList.length = 5 ∧ st.toList.all (isKind .u32) = true then
      match s.heap.get b with
      | some (.cells (.lit l) _) => if o + 64 ≤ l.length ∧ ((l.drop o).take 64).all (isKind .u8) = true then some (.agg (blkR (n5L st.toList) (intAt ((l.drop o).take 64))).row.toArray) else none
      | _ => none
    else none
  | _ => none else none
theorem FS_ok {K : Given} (hK : GivenOk Try.prog K) : GivenOk Try.prog (Given.reads K FSq) := hK.reads fun f args s v h => by
  unfold FSq at h
  split at h
  · rename_i hf
    have hf' : f = 15 := by simpa using hf
    subst hf'
    split at h
    · rename_i st b o sp n cc
      split at h
      · rename_i hc
        obtain ⟨⟨rfl, hsp⟩, h1, h2⟩ := hc
        split at h
        · rename_i l t hb
          split at h
          · rename_i hl
            obtain ⟨hl1, hl2⟩ := hl
            simp only [Option.some.injEq] at h
            subst h
            refine ⟨rfl, fun ρ w args' hs ha => ?_⟩
            obtain ⟨a1, r1, rfl, ha1, hr1⟩ := ha.inv_cons
            obtain ⟨a2, r2, rfl, ha2, hr2⟩ := hr1.inv_cons
            rw [hr2.inv_nil]
            have e1 : st = (n5L st.toList).row.toArray := by rw [n5L_row h1 h2]
            have ea : a1 = .agg st := ha1.eq_flat (by rw [e1]; rfl)
            subst ea
            have hrow := rowV_of (k := .u8) (l := (l.drop o).take 64) (n := 64) (by simp; omega) hl2
            cases ha2 with
            | same hf => simp [flat0] at hf
            | abs _ hg _ => rw [hsp] at hg; cases hg
            | slice hN hnc hsl =>
              rename_i c' a'
              have hget : ∀ i, i < 64 → l[o + i]? = some (.int .u8 (intAt ((l.drop o).take 64) i)) := fun i hi => by
                have e : ((l.drop o).take 64)[i]? = some (.int .u8 (intAt ((l.drop o).take 64) i)) := by
                  conv => lhs; rw [← hrow]
                  unfold rowV
                  rw [famList_eq, List.getElem?_map, List.getElem?_range hi]
                  simp
                rw [List.getElem?_take, if_pos hi, List.getElem?_drop] at e
                exact e
              obtain ⟨g1, g2⟩ := row_hs (t0 := 22) hs hb hget hsl hnc (by decide)
              have := ranG pg (GivenOk.asking FR_ok LR) (eF (n5L st.toList) (intAt ((l.drop o).take 64)) c') ⟨⟨⟨trivial, fun rd => loopA _ _ _ rd⟩, fun rd => loopB2 _ _ _ _ rd⟩, fun rd => loopC _ _ _ _ _ rd⟩ rfl g1 (VL.cons (.of_flat rfl) (VL.cons g2 VL.nil))
              rw [← e1] at this
              exact this
          · cases h
        · cases h
      · cases h
    · cases h
  · cases h
end
end sw
end Go.Proofs.Yteknepfcbpoooaa
namespace Go.Proofs.Yteknepfcbpoooaa
open Go.ChangeShapes Go.WideShapes Go.ChangeAt Go.RowKit Go.Cln
namespace sw
def ok5 (n : N5) : Prop := (0 ≤ n.a ∧ n.a < 4294967296) ∧ (0 ≤ n.b ∧ n.b < 4294967296) ∧ (0 ≤ n.c ∧ n.c < 4294967296) ∧ (0 ≤ n.d ∧ n.d < 4294967296) ∧ (0 ≤ n.e ∧ n.e < 4294967296)
theorem not_eq {b : Int} (h : 0 ≤ b ∧ b < 4294967296) : xorI .u32 IntKind.u32.max b = w32 (4294967295 - b) := by
  unfold xorI
  show IntKind.u32.wrap (((BitVec.ofInt 32 4294967295 ^^^ BitVec.ofInt 32 b).toNat : Nat) : Int) = _
  have e : BitVec.ofInt 32 4294967295 = BitVec.allOnes 32 := by decide
  rw [e, BitVec.allOnes_xor, BitVec.toNat_not, bvInt h.1 h.2, IntKind.wrap_u32, w32_eq]
  omega
theorem mix_eq (q : Nat) {n : N5} (h : ok5 n) : mixQ q n.b n.c n.d = mixR q n.b n.c n.d := by
  match q with
  | 0 => show mixC _ _ _ = _; unfold mixC; rw [not_eq h.2.1]; rfl
  | 1 => rfl
  | 2 => rfl
  | k + 3 => rfl
theorem rnd_eq (q : Nat) {n : N5} (h : ok5 n) (w : Int) : rnd q n w = rndR q n w := by
  unfold rnd rndR
  rw [mix_eq q h, rl5 h.1.1 h.1.2, rl30 h.2.1.1 h.2.1.2]
theorem rnd_ok (q : Nat) {n : N5} (h : ok5 n) (w : Int) : ok5 (rndR q n w) := by
  refine ⟨w32_in _, h.1, ?_, h.2.2.1, h.2.2.2.1⟩
  show 0 ≤ roll 30 n.b ∧ roll 30 n.b < 4294967296
  exact w32_in _
theorem rr_ok (w : Nat → Int) {n : N5} (h : ok5 n) : ∀ k, ok5 (rr w n k)
  | 0 => h
  | k + 1 => rnd_ok _ (rr_ok w h k) _
theorem rnds_rr (w w' : Nat → Int) {n : N5} (h : ok5 n) (q : Nat) (hw : ∀ j, j < 80 → w' j = w j) (hq : q < 4) : ∀ k, k ≤ 20 → rnds q w' k (rr w n (20 * q)) = rr w n (20 * q + k)
  | 0, _ => rfl
  | k + 1, hk => by
    show rnd q (rnds q w' k (rr w n (20 * q))) (w' (20 * q + k)) = rndR ((20 * q + k) / 20) (rr w n (20 * q + k)) (w (20 * q + k))
    rw [rnds_rr w w' h q hw hq k (by omega), rnd_eq q (rr_ok w h _), hw _ (by omega), show (20 * q + k) / 20 = q by omega]
theorem W_congr {g g' : Nat → Int} (h : ∀ j, j < 16 → g j = g' j) (j : Nat) : W g j = W g' j := by
  have : ∀ k, wl g k = wl g' k := by
    intro k
    induction k with
    | zero => exact List.map_congr_left fun j hj => h j (List.mem_range.1 hj)
    | succ k ih => simp only [wl, ih]
  unfold W; rw [this]
theorem st8_eq {n b : Int} (hn : 0 ≤ n ∧ n < 16777216) (hb : 0 ≤ b ∧ b < 256) : st8 n b = n * 256 + b := by
  unfold st8
  have e1 : IntKind.u32.wrap (n * 2 ^ 8) = n * 256 := by rw [IntKind.wrap_u32]; omega
  have e2 : IntKind.u32.wrap b = b := by rw [IntKind.wrap_u32]; omega
  rw [e1, e2, orI_or (by omega) (by omega)]
  have h3 : (n * 256).toNat = 2 ^ 8 * n.toNat := by omega
  rw [h3, or_add (s := 8) (by omega)]
  omega
theorem num_eq {a b c d : Int} (ha : 0 ≤ a ∧ a < 256) (hb : 0 ≤ b ∧ b < 256) (hc : 0 ≤ c ∧ c < 256) (hd : 0 ≤ d ∧ d < 256) : num4 a b c d = ((a * 256 + b) * 256 + c) * 256 + d := by
  unfold num4
  rw [st8_eq (n := 0) (by omega) ha, st8_eq (by omega) hb, st8_eq (by omega) hc, st8_eq (by omega) hd]
  omega
theorem waE_eq {b : Nat → Int} {p q r t : Nat} (ha : 0 ≤ b p ∧ b p < 256) (hb : 0 ≤ b q ∧ b q < 256) (hc : 0 ≤ b r ∧ b r < 256) (hd : 0 ≤ b t ∧ b t < 256) : waE b p q r t = ((b p * 256 + b q) * 256 + b r) * 256 + b t := by
  unfold waE
  simp only [w32_eq]
  omega
theorem blk_eq {s : N5} {b b1 b2 : Nat → Int} (hs : ok5 s) (hb : ∀ j, j < 64 → 0 ≤ b j ∧ b j < 256) (h1 : ∀ j, j < 64 → b1 j = b j) (h2 : ∀ j, j < 64 → b2 j = b j) : blk s b1 = blkR s b2 := by
  have hw : ∀ j, j < 80 → ww b1 j = W (wa b2) j := fun j hj => by
    unfold ww
    rw [intAt_row hj]
    unfold words
    refine W_congr (fun i hi => ?_) j
    have e1 : ∀ k, k < 64 → bb b1 k = b k := fun k hk => by unfold bb; rw [intAt_row hk, h1 k hk]
    have e0 : g0 (bb b1) i = num4 (bb b1 (4 * i)) (bb b1 (4 * i + 1)) (bb b1 (4 * i + 2)) (bb b1 (4 * i + 3)) := by
      unfold g0 w0 intAt
      have hg : getL (rowV .u32 16 (fun i => num4 (bb b1 (4 * i)) (bb b1 (4 * i + 1)) (bb b1 (4 * i + 2)) (bb b1 (4 * i + 3))) ++ rowV .u32 64 (fun _ => 0)) i = .int .u32 (num4 (bb b1 (4 * i)) (bb b1 (4 * i + 1)) (bb b1 (4 * i + 2)) (bb b1 (4 * i + 3))) := by
        rw [getL_eq, List.getD_eq_getElem?_getD, List.getElem?_append_left (by rw [rowV_len]; exact hi)]
        unfold rowV
        rw [famList_eq, List.getElem?_map, List.getElem?_range hi]
        simp
      rw [hg]
    rw [e0, e1 _ (by omega), e1 _ (by omega), e1 _ (by omega), e1 _ (by omega), num_eq (hb _ (by omega)) (hb _ (by omega)) (hb _ (by omega)) (hb _ (by omega))]
    unfold wa
    rw [waE_eq (by rw [h2 _ (by omega)]; exact hb _ (by omega)) (by rw [h2 _ (by omega)]; exact hb _ (by omega)) (by rw [h2 _ (by omega)]; exact hb _ (by omega)) (by rw [h2 _ (by omega)]; exact hb _ (by omega)),
      h2 _ (by omega), h2 _ (by omega), h2 _ (by omega), h2 _ (by omega)]
  have k1 : n1 s b1 = rr (W (wa b2)) s 20 := rnds_rr (W (wa b2)) (ww b1) hs 0 hw (by decide) 20 (by decide)
  have k2 : n2 s b1 = rr (W (wa b2)) s 40 := by unfold n2; rw [k1]; exact rnds_rr (W (wa b2)) (ww b1) hs 1 hw (by decide) 20 (by decide)
  have k3 : n3 s b1 = rr (W (wa b2)) s 60 := by unfold n3; rw [k2]; exact rnds_rr (W (wa b2)) (ww b1) hs 2 hw (by decide) 20 (by decide)
  have k4 : n4 s b1 = rr (W (wa b2)) s 80 := by unfold n4; rw [k3]; exact rnds_rr (W (wa b2)) (ww b1) hs 3 hw (by decide) 20 (by decide)
  unfold blk blkR
  rw [k4]
  unfold add5
  simp only [Int.add_comm]
end sw
end Go.Proofs.Yteknepfcbpoooaa
