/- Read off the code by the clean reading. -/
import Derived.Test.YtiangelmpnnijaaClnQc
import Derived.Test.YtiangelmpnnijaaRows
import Derived.WalkKit
import Derived.ProofKit
import Derived.Below
import Derived.IntWalk
set_option linter.unusedVariables false
set_option linter.unusedSimpArgs false
set_option linter.deprecated false
set_option maxRecDepth 100000
namespace Go.Proofs.Ytiangelmpnnijaa
open Go.ChangeShapes Go.WideShapes Go.ChangeAt Go.RowKit Go.Cln
namespace fr
set_option linter.unusedVariables false
theorem pg : PG Try.prog := PG.of (by decide +kernel)
theorem knownRuns : ((mk Try.prog Given.nothing 300).call 6 [] (St.start 0 .leaf [])).map (fun r => (r.1, r.2.obl)) = some (.bool true, True) := by kernel_rfl
theorem known (W : World) : Calls Try.prog 6 #[] W fun e w' => e = .returned (.bool true) ∧ Below W.heap.size W w' := ran pg (GivenOk.nothing _) knownRuns trivial rfl rfl W
noncomputable section
def hI (L : List Int) : List (Option Ob) := [some (.cells (.ints .u8 L) 5)]
end
end fr
end Go.Proofs.Ytiangelmpnnijaa
namespace Go.Proofs.Ytiangelmpnnijaa
open Go.ChangeShapes Go.WideShapes Go.ChangeAt Go.RowKit Go.Cln
namespace fc
open fr
set_option linter.unusedVariables false
noncomputable section
def K0 : Given := { Given.nothing with fits := true }
theorem K0_ok : GivenOk Try.prog K0 := frames_fits (GivenOk.nothing _) true
def q (f : Nat) (W : List Int) (n c : Nat) (o : List (Option Bool)) : Option (Value × St) := (mk Try.prog K0 300).call f [.slice (some ⟨0, 0, none⟩) n c] (smSt 1 (hI W) o)
end
end fc
end Go.Proofs.Ytiangelmpnnijaa
namespace Go.Proofs.Ytiangelmpnnijaa
open Go.ChangeShapes Go.WideShapes Go.ChangeAt Go.RowKit Go.Cln
namespace fc
open fr
set_option linter.unusedVariables false
noncomputable section
def Byt (L : List Int) : Prop := ∀ x ∈ L, 0 ≤ x ∧ x < 256
theorem byt_getD {L : List Int} (h : Byt L) (i : Nat) : 0 ≤ L.getD i 0 ∧ L.getD i 0 < 256 := by
  rw [List.getD_eq_getElem?_getD]
  by_cases hi : i < L.length
  · rw [List.getElem?_eq_getElem hi]; exact h _ (List.getElem_mem _)
  · rw [List.getElem?_eq_none (by omega)]; decide
theorem or8 {a b : Int} (ha : 0 ≤ a ∧ a < 256) (hb : 0 ≤ b ∧ b < 256) : orI .u16 (a * 256) (IntKind.u16.wrap b) = a * 256 + b := by
  have hw : IntKind.u16.wrap b = b := by rw [IntKind.wrap_u16]; omega
  rw [hw]
  unfold orI
  have e : (BitVec.ofInt IntKind.u16.bits (a * 256) ||| BitVec.ofInt IntKind.u16.bits b).toNat = a.toNat * 256 + b.toNat := by
    rw [BitVec.toNat_or]
    have e1 : (BitVec.ofInt IntKind.u16.bits (a * 256)).toNat = a.toNat <<< 8 := by
      rw [BitVec.toNat_ofInt, Nat.shiftLeft_eq]
      show (a * 256 % ((2 ^ 16 : Nat) : Int)).toNat = a.toNat * 2 ^ 8
      omega
    have e2 : (BitVec.ofInt IntKind.u16.bits b).toNat = b.toNat := by
      rw [BitVec.toNat_ofInt]
      show (b % ((2 ^ 16 : Nat) : Int)).toNat = b.toNat
      omega
    rw [e1, e2, ← Nat.shiftLeft_add_eq_or_of_lt (show b.toNat < 2 ^ 8 by omega), Nat.shiftLeft_eq]
  rw [e, IntKind.wrap_u16]
  omega
def n1 (x : Int) : Int := orI .u16 (IntKind.u16.wrap (0 * 2 ^ 8)) (IntKind.u16.wrap x)
def szv (W : List Int) : Int := IntKind.i64.wrap (orI .u16 (IntKind.u16.wrap (n1 (W.getD 16 0) * 2 ^ 8)) (IntKind.u16.wrap (W.getD 17 0)))
def kdv (W : List Int) : Int := IntKind.i64.wrap (IntKind.u8.wrap (n1 (W.getD 18 0)))
def szf (W : List Int) : Int := W.getD 16 0 * 256 + W.getD 17 0
theorem n1_eq {x : Int} (h : 0 ≤ x ∧ x < 256) : n1 x = x := by
  have := or8 (a := 0) (by omega) h
  unfold n1
  have e : IntKind.u16.wrap (0 * 2 ^ 8) = 0 * 256 := by rw [IntKind.wrap_u16]; omega
  rw [e, this]; omega
theorem szv_eq {W : List Int} (h : Byt W) : szv W = szf W := by
  have h1 := byt_getD h 16
  have h2 := byt_getD h 17
  unfold szv szf
  have e : IntKind.u16.wrap (W.getD 16 0 * 2 ^ 8) = W.getD 16 0 * 256 := by rw [IntKind.wrap_u16]; omega
  rw [n1_eq h1, e, or8 h1 h2, IntKind.wrap_i64]; omega
theorem kdv_eq {W : List Int} (h : Byt W) : kdv W = W.getD 18 0 := by
  have h1 := byt_getD h 18
  unfold kdv
  rw [n1_eq h1, IntKind.wrap_u8, IntKind.wrap_i64]; omega
def qs (f : Nat) (W : List Int) (c : Nat) (o : List (Option Bool)) : Option (Value × St) := (mk Try.prog K0 300).call f [.slice (some ⟨0, 0, some 1⟩) 19 c] (smSt 1 (hI W) o)
def sl (lo hi : Int) (c : Nat) : Prop := 0 ≤ hi ∧ hi ≤ (c : Int) ∧ 0 ≤ lo ∧ lo ≤ hi
theorem run15 (W : List Int) (c : Nat) : (qs 33 W c [some true, none, none, some true, none, none, none, none, some true]).map (fun r => (r.1, r.2.obl, r.2.next, keepL [true] r.2.heap.get 0)) =
    some (.int .i64 (szv W), ((True ∧ sl 16 18 c) ∧ 16 < W.length) ∧ 17 < W.length, (hI W).length, hI W) := by kernel_rfl
theorem run16 (W : List Int) (c : Nat) : (qs 34 W c [some true, none, none, some true]).map (fun r => (r.1, r.2.obl, r.2.next, keepL [true] r.2.heap.get 0)) =
    some (.int .i64 (kdv W), (True ∧ sl 18 19 c) ∧ 18 < W.length, (hI W).length, hI W) := by kernel_rfl
def pm (W : List Int) (c : Nat) : Nat → Prop
  | 0 => True ∧ sl 0 16 c
  | j + 1 => (pm W c j ∧ j < W.length) ∧ (W.getD j 0 != 255) = false
def rn : Nat → List (Option Bool)
  | 0 => []
  | k + 1 => rn k ++ [none, none, some true, some false, none]
def o20 (i : Nat) : List (Option Bool) := some true :: (rn i ++ [none, none, some true, some true])
theorem m0 (W : List Int) (c : Nat) : (qs 39 W c (o20 0)).map (fun r => (r.1, r.2.obl, r.2.next, keepL [true] r.2.heap.get 0)) = some (.bool true, (pm W c 0 ∧ 0 < W.length) ∧ (W.getD 0 0 != 255) = true, (hI W).length, hI W) := by kernel_rfl
theorem m1 (W : List Int) (c : Nat) : (qs 39 W c (o20 1)).map (fun r => (r.1, r.2.obl, r.2.next, keepL [true] r.2.heap.get 0)) = some (.bool true, (pm W c 1 ∧ 1 < W.length) ∧ (W.getD 1 0 != 255) = true, (hI W).length, hI W) := by kernel_rfl
theorem m2 (W : List Int) (c : Nat) : (qs 39 W c (o20 2)).map (fun r => (r.1, r.2.obl, r.2.next, keepL [true] r.2.heap.get 0)) = some (.bool true, (pm W c 2 ∧ 2 < W.length) ∧ (W.getD 2 0 != 255) = true, (hI W).length, hI W) := by kernel_rfl
theorem m3 (W : List Int) (c : Nat) : (qs 39 W c (o20 3)).map (fun r => (r.1, r.2.obl, r.2.next, keepL [true] r.2.heap.get 0)) = some (.bool true, (pm W c 3 ∧ 3 < W.length) ∧ (W.getD 3 0 != 255) = true, (hI W).length, hI W) := by kernel_rfl
theorem m4 (W : List Int) (c : Nat) : (qs 39 W c (o20 4)).map (fun r => (r.1, r.2.obl, r.2.next, keepL [true] r.2.heap.get 0)) = some (.bool true, (pm W c 4 ∧ 4 < W.length) ∧ (W.getD 4 0 != 255) = true, (hI W).length, hI W) := by kernel_rfl
theorem m5 (W : List Int) (c : Nat) : (qs 39 W c (o20 5)).map (fun r => (r.1, r.2.obl, r.2.next, keepL [true] r.2.heap.get 0)) = some (.bool true, (pm W c 5 ∧ 5 < W.length) ∧ (W.getD 5 0 != 255) = true, (hI W).length, hI W) := by kernel_rfl
theorem m6 (W : List Int) (c : Nat) : (qs 39 W c (o20 6)).map (fun r => (r.1, r.2.obl, r.2.next, keepL [true] r.2.heap.get 0)) = some (.bool true, (pm W c 6 ∧ 6 < W.length) ∧ (W.getD 6 0 != 255) = true, (hI W).length, hI W) := by kernel_rfl
theorem m7 (W : List Int) (c : Nat) : (qs 39 W c (o20 7)).map (fun r => (r.1, r.2.obl, r.2.next, keepL [true] r.2.heap.get 0)) = some (.bool true, (pm W c 7 ∧ 7 < W.length) ∧ (W.getD 7 0 != 255) = true, (hI W).length, hI W) := by kernel_rfl
theorem m8 (W : List Int) (c : Nat) : (qs 39 W c (o20 8)).map (fun r => (r.1, r.2.obl, r.2.next, keepL [true] r.2.heap.get 0)) = some (.bool true, (pm W c 8 ∧ 8 < W.length) ∧ (W.getD 8 0 != 255) = true, (hI W).length, hI W) := by kernel_rfl
theorem m9 (W : List Int) (c : Nat) : (qs 39 W c (o20 9)).map (fun r => (r.1, r.2.obl, r.2.next, keepL [true] r.2.heap.get 0)) = some (.bool true, (pm W c 9 ∧ 9 < W.length) ∧ (W.getD 9 0 != 255) = true, (hI W).length, hI W) := by kernel_rfl
theorem m10 (W : List Int) (c : Nat) : (qs 39 W c (o20 10)).map (fun r => (r.1, r.2.obl, r.2.next, keepL [true] r.2.heap.get 0)) = some (.bool true, (pm W c 10 ∧ 10 < W.length) ∧ (W.getD 10 0 != 255) = true, (hI W).length, hI W) := by kernel_rfl
theorem m11 (W : List Int) (c : Nat) : (qs 39 W c (o20 11)).map (fun r => (r.1, r.2.obl, r.2.next, keepL [true] r.2.heap.get 0)) = some (.bool true, (pm W c 11 ∧ 11 < W.length) ∧ (W.getD 11 0 != 255) = true, (hI W).length, hI W) := by kernel_rfl
theorem m12 (W : List Int) (c : Nat) : (qs 39 W c (o20 12)).map (fun r => (r.1, r.2.obl, r.2.next, keepL [true] r.2.heap.get 0)) = some (.bool true, (pm W c 12 ∧ 12 < W.length) ∧ (W.getD 12 0 != 255) = true, (hI W).length, hI W) := by kernel_rfl
theorem m13 (W : List Int) (c : Nat) : (qs 39 W c (o20 13)).map (fun r => (r.1, r.2.obl, r.2.next, keepL [true] r.2.heap.get 0)) = some (.bool true, (pm W c 13 ∧ 13 < W.length) ∧ (W.getD 13 0 != 255) = true, (hI W).length, hI W) := by kernel_rfl
theorem m14 (W : List Int) (c : Nat) : (qs 39 W c (o20 14)).map (fun r => (r.1, r.2.obl, r.2.next, keepL [true] r.2.heap.get 0)) = some (.bool true, (pm W c 14 ∧ 14 < W.length) ∧ (W.getD 14 0 != 255) = true, (hI W).length, hI W) := by kernel_rfl
theorem m15 (W : List Int) (c : Nat) : (qs 39 W c (o20 15)).map (fun r => (r.1, r.2.obl, r.2.next, keepL [true] r.2.heap.get 0)) = some (.bool true, (pm W c 15 ∧ 15 < W.length) ∧ (W.getD 15 0 != 255) = true, (hI W).length, hI W) := by kernel_rfl
theorem m16 (W : List Int) (c : Nat) : (qs 39 W c (some true :: rn 16)).map (fun r => (r.1, r.2.obl, r.2.next, keepL [true] r.2.heap.get 0)) = some (.bool false, pm W c 16, (hI W).length, hI W) := by kernel_rfl
end
end fc
end Go.Proofs.Ytiangelmpnnijaa
namespace Go.Proofs.Ytiangelmpnnijaa
open Go.ChangeShapes Go.WideShapes Go.ChangeAt Go.RowKit Go.Cln
namespace fc
open fr
set_option linter.unusedVariables false
noncomputable section
theorem mAll (W : List Int) (c : Nat) : ∀ i, i < 16 → (qs 39 W c (o20 i)).map (fun r => (r.1, r.2.obl, r.2.next, keepL [true] r.2.heap.get 0)) = some (.bool true, (pm W c i ∧ i < W.length) ∧ (W.getD i 0 != 255) = true, (hI W).length, hI W)
  | 0, _ => m0 W c
  | 1, _ => m1 W c
  | 2, _ => m2 W c
  | 3, _ => m3 W c
  | 4, _ => m4 W c
  | 5, _ => m5 W c
  | 6, _ => m6 W c
  | 7, _ => m7 W c
  | 8, _ => m8 W c
  | 9, _ => m9 W c
  | 10, _ => m10 W c
  | 11, _ => m11 W c
  | 12, _ => m12 W c
  | 13, _ => m13 W c
  | 14, _ => m14 W c
  | 15, _ => m15 W c
  | n + 16, h => absurd h (by omega)
def mkB (W : List Int) : Bool := (List.range 16).any fun j => W.getD j 0 != 255
theorem first (W : List Int) : ∀ k, (∀ j, j < k → W.getD j 0 = 255) ∨ ∃ i, i < k ∧ (∀ j, j < i → W.getD j 0 = 255) ∧ W.getD i 0 ≠ 255
  | 0 => .inl fun j h => by omega
  | k + 1 => by
    rcases first W k with h | ⟨i, h1, h2, h3⟩
    · by_cases hk : W.getD k 0 = 255
      · refine .inl fun j hj => ?_
        by_cases e : j = k
        · rw [e]; exact hk
        · exact h j (by omega)
      · exact .inr ⟨k, by omega, h, hk⟩
    · exact .inr ⟨i, by omega, h2, h3⟩
theorem pm_of {W : List Int} {c : Nat} (hs : sl 0 16 c) : ∀ i, i ≤ W.length → (∀ j, j < i → W.getD j 0 = 255) → pm W c i
  | 0, _, _ => ⟨trivial, hs⟩
  | i + 1, h1, h2 => ⟨⟨pm_of hs i (by omega) fun j hj => h2 j (by omega), by omega⟩, by rw [h2 i (by omega)]; rfl⟩
theorem mark_ok (W : List Int) (c : Nat) (h : W.length = 19) (hc : 19 ≤ c) : CallOk Try.prog 39 [.slice (some ⟨0, 0, some 1⟩) 19 c] (smSt 1 (hI W) []) (.bool (mkB W)) (smSt 1 (hI W) []) := by
  have hs : sl 0 16 c := by unfold sl; omega
  rcases first W 16 with h1 | ⟨i, h1, h2, h3⟩
  · have e : mkB W = false := by
      unfold mkB
      rw [List.any_eq_false]
      intro j hj
      have := h1 j (List.mem_range.1 hj)
      simpa using this
    rw [e]
    exact frame_by pg K0_ok _ (m16 W c) (pm_of hs 16 (by omega) h1) (by rfl) rfl
  · have e : mkB W = true := by
      unfold mkB
      rw [List.any_eq_true]
      exact ⟨i, List.mem_range.2 h1, by simpa using h3⟩
    rw [e]
    exact frame_by pg K0_ok _ (mAll W c i h1) ⟨⟨pm_of hs i (by omega) h2, by omega⟩, by simpa using h3⟩ (by rfl) rfl
theorem size_ok (W : List Int) (c : Nat) (hB : Byt W) (h : W.length = 19) (hc : 19 ≤ c) : CallOk Try.prog 33 [.slice (some ⟨0, 0, some 1⟩) 19 c] (smSt 1 (hI W) []) (.int .i64 (szf W)) (smSt 1 (hI W) []) := by
  have := frame_by pg K0_ok _ (run15 W c) ⟨⟨⟨trivial, by unfold sl; omega⟩, by omega⟩, by omega⟩ (by rfl) rfl
  rw [szv_eq hB] at this; exact this
theorem kind_ok (W : List Int) (c : Nat) (hB : Byt W) (h : W.length = 19) (hc : 19 ≤ c) : CallOk Try.prog 34 [.slice (some ⟨0, 0, some 1⟩) 19 c] (smSt 1 (hI W) []) (.int .i64 (W.getD 18 0)) (smSt 1 (hI W) []) := by
  have := frame_by pg K0_ok _ (run16 W c) ⟨⟨trivial, by unfold sl; omega⟩, by omega⟩ (by rfl) rfl
  rw [kdv_eq hB] at this; exact this
abbrev TB := List Int → Bool
abbrev TI := List Int → Int
def kdf (W : List Int) : Int := W.getD 18 0
def FM (MK : TB) (SZ KD : TI) (f : FuncId) (args : List Value) (s : St) : Option Inst := if f == 39 || f == 33 || f == 34 then match args with
  | [.slice (some ⟨b, o, some 1⟩) n c] => match s.heap.get b with
    | some (.cells (.ints .u8 L) _) => some ⟨[(b, o)], 1, hI ((L.drop o).take 19), [.slice (some ⟨0, 0, some 1⟩) n c],
        if f == 39 then .bool (MK ((L.drop o).take 19)) else if f == 33 then .int .i64 (SZ ((L.drop o).take 19)) else .int .i64 (KD ((L.drop o).take 19)), hI ((L.drop o).take 19),
        (MK = mkB ∧ SZ = szf ∧ KD = kdf) ∧ Byt ((L.drop o).take 19) ∧ ((L.drop o).take 19).length = 19 ∧ n = 19 ∧ 19 ≤ c⟩
    | _ => none
  | _ => none else none
theorem fitG {s : St} {b o k : Nat} {L : List Int} {tb : TypeId} {n c : Nat} {i : Inst} (hb : s.heap.get b = some (.cells (.ints .u8 L) tb)) (hw : i.win = [(b, o)]) (hh : i.heap = hI ((L.drop o).take k)) (ha : i.args = [.slice (some ⟨0, 0, some 1⟩) n c]) :
    Fits s i [.slice (some ⟨b, o, some 1⟩) n c] := by
  refine ⟨?_, fun j pp ob h1 h2 => ?_⟩
  · rw [ha]
    have e1 : i.nu s.next 0 = b := by unfold Inst.nu; rw [hw]; rfl
    have e2 : i.del 0 = o := by unfold Inst.del; rw [hw]; rfl
    show [Value.slice (some ⟨b, o, some 1⟩) n c] = [Value.slice (some ⟨i.nu s.next 0, addO (i.del 0) 0, some 1⟩) n c]
    rw [e1, e2, addO_eq]; rfl
  · rw [hw] at h1
    rw [hh] at h2
    rcases j with _ | j
    · simp only [List.getElem?_cons_zero, Option.some.injEq] at h1
      subst h1
      simp only [hI, List.getElem?_cons_zero, Option.some.injEq] at h2
      subst h2
      exact ⟨_, hb, fit_ints⟩
    · simp at h1
theorem FM_ok (MK : TB) (SZ KD : TI) (f : FuncId) (args : List Value) (s : St) (i : Inst) (h : FM MK SZ KD f args s = some i) : Fits s i args ∧ (i.ask → CallOk Try.prog f i.args i.s0 i.val i.s1) := by
  unfold FM at h
  split at h
  · rename_i hf
    have hf' : f = 39 ∨ f = 33 ∨ f = 34 := by
      simp only [Bool.or_eq_true, beq_iff_eq] at hf
      rcases hf with (h | h) | h
      · exact .inl h
      · exact .inr (.inl h)
      · exact .inr (.inr h)
    split at h
    · rename_i b o n c
      split at h
      · rename_i L tb hb
        cases h
        refine ⟨fitG hb rfl rfl rfl, fun ha => ?_⟩
        obtain ⟨⟨rfl, rfl, rfl⟩, q1, q2, rfl, q4⟩ := ha
        rcases hf' with rfl | rfl | rfl
        · exact mark_ok _ c q2 q4
        · exact size_ok _ c q1 q2 q4
        · exact kind_ok _ c q1 q2 q4
      · cases h
    · cases h
  · cases h
def KM (MK : TB) (SZ KD : TI) : Given := { Given.frames Given.nothing (FM MK SZ KD) with fits := true }
theorem KM_ok (MK : TB) (SZ KD : TI) : GivenOk Try.prog (KM MK SZ KD) := frames_fits ((GivenOk.nothing _).frames (FM_ok MK SZ KD)) true
def r9 (MK : TB) (SZ KD : TI) (L : List Int) (n c : Nat) (o : List (Option Bool)) : Option (Value × St) := (mk Try.prog (KM MK SZ KD) 300).call 22 [.slice (some ⟨0, 0, some 1⟩) n c] (smSt 1 (hI L) o)
def r10 (L : List Int) (n c : Nat) (o : List (Option Bool)) : Option (Value × St) := (mk Try.prog K0 300).call 35 [.slice (some ⟨0, 0, some 1⟩) n c] (smSt 1 (hI L) o)
end
end fc
end Go.Proofs.Ytiangelmpnnijaa
namespace Go.Proofs.Ytiangelmpnnijaa
open Go.ChangeShapes Go.WideShapes Go.ChangeAt Go.RowKit Go.Cln
namespace fc
open fr
set_option linter.unusedVariables false
noncomputable section
def vE (e : Int) : Value := .tuple #[.int .i64 0, .slice none 0 0, .int .i64 0, .int .i64 e]
def bd (SZ : TI) (L : List Int) : Nat := (SZ (L.take 19)).toNat - 19
def bl (SZ : TI) (L : List Int) : List Int := List.take 0 (List.drop 0 ([] : List Int)) ++ List.take (bd SZ L) (List.drop 19 L)
def vK (SZ KD : TI) (L : List Int) (b : Value) : Value := .tuple #[.int .i64 (KD (L.take 19)), b, .int .i64 (SZ (L.take 19)), .int .i64 0]
noncomputable def oNshort : List (Option Bool) := [some true]
noncomputable def pNshort (MK : TB) (SZ : TI) (KD : TI) (L : List Int) (n : Nat) (c : Nat) : Prop := (True ∧ ((decide ((nI n) < 19)) = true))
theorem runNshort (MK : TB) (SZ : TI) (KD : TI) (L : List Int) (n : Nat) (c : Nat) : (r9 MK SZ KD L n c oNshort).map (fun r => (r.1, r.2.obl, r.2.next, keepL (true :: List.replicate 0 false) r.2.heap.get 0)) = some ((vE 0), pNshort MK SZ KD L n c, ((some (Ob.cells (.ints .u8 L) 5) :: List.replicate 0 none)).length, (some (Ob.cells (.ints .u8 L) 5) :: List.replicate 0 none)) := by kernel_rfl
noncomputable def oNmark : List (Option Bool) := [some false, some true, none, none, some true]
noncomputable def pNmark (MK : TB) (SZ : TI) (KD : TI) (L : List Int) (n : Nat) (c : Nat) : Prop := ((((True ∧ ((decide ((nI n) < 19)) = false)) ∧ (((0 : Int) ≤ 19) ∧ ((19 ≤ (nI c)) ∧ (((0 : Int) ≤ 0) ∧ ((0 : Int) ≤ 19))))) ∧ (((MK = mkB) ∧ ((SZ = szf) ∧ (KD = kdf))) ∧ ((Byt (List.take 19 L)) ∧ (((List.take 19 L).length = 19) ∧ ((19 = 19) ∧ (19 ≤ c)))))) ∧ ((MK (List.take 19 L)) = true))
theorem runNmark (MK : TB) (SZ : TI) (KD : TI) (L : List Int) (n : Nat) (c : Nat) : (r9 MK SZ KD L n c oNmark).map (fun r => (r.1, r.2.obl, r.2.next, keepL (true :: List.replicate 2 false) r.2.heap.get 0)) = some ((vE 270), pNmark MK SZ KD L n c, ((some (Ob.cells (.ints .u8 L) 5) :: List.replicate 2 none)).length, (some (Ob.cells (.ints .u8 L) 5) :: List.replicate 2 none)) := by kernel_rfl
noncomputable def oNszlo : List (Option Bool) := [some false, some true, none, none, some false, none, none, none, some true]
noncomputable def pNszlo (MK : TB) (SZ : TI) (KD : TI) (L : List Int) (n : Nat) (c : Nat) : Prop := ((((((True ∧ ((decide ((nI n) < 19)) = false)) ∧ (((0 : Int) ≤ 19) ∧ ((19 ≤ (nI c)) ∧ (((0 : Int) ≤ 0) ∧ ((0 : Int) ≤ 19))))) ∧ (((MK = mkB) ∧ ((SZ = szf) ∧ (KD = kdf))) ∧ ((Byt (List.take 19 L)) ∧ (((List.take 19 L).length = 19) ∧ ((19 = 19) ∧ (19 ≤ c)))))) ∧ ((MK (List.take 19 L)) = false)) ∧ (((MK = mkB) ∧ ((SZ = szf) ∧ (KD = kdf))) ∧ ((Byt (List.take 19 L)) ∧ (((List.take 19 L).length = 19) ∧ ((19 = 19) ∧ (19 ≤ c)))))) ∧ ((decide ((SZ (List.take 19 L)) < 19)) = true))
theorem runNszlo (MK : TB) (SZ : TI) (KD : TI) (L : List Int) (n : Nat) (c : Nat) : (r9 MK SZ KD L n c oNszlo).map (fun r => (r.1, r.2.obl, r.2.next, keepL (true :: List.replicate 3 false) r.2.heap.get 0)) = some ((vE 271), pNszlo MK SZ KD L n c, ((some (Ob.cells (.ints .u8 L) 5) :: List.replicate 3 none)).length, (some (Ob.cells (.ints .u8 L) 5) :: List.replicate 3 none)) := by kernel_rfl
noncomputable def oNszhi : List (Option Bool) := [some false, some true, none, none, some false, none, none, none, some false, none, none, none, some true]
noncomputable def pNszhi (MK : TB) (SZ : TI) (KD : TI) (L : List Int) (n : Nat) (c : Nat) : Prop := ((((((((True ∧ ((decide ((nI n) < 19)) = false)) ∧ (((0 : Int) ≤ 19) ∧ ((19 ≤ (nI c)) ∧ (((0 : Int) ≤ 0) ∧ ((0 : Int) ≤ 19))))) ∧ (((MK = mkB) ∧ ((SZ = szf) ∧ (KD = kdf))) ∧ ((Byt (List.take 19 L)) ∧ (((List.take 19 L).length = 19) ∧ ((19 = 19) ∧ (19 ≤ c)))))) ∧ ((MK (List.take 19 L)) = false)) ∧ (((MK = mkB) ∧ ((SZ = szf) ∧ (KD = kdf))) ∧ ((Byt (List.take 19 L)) ∧ (((List.take 19 L).length = 19) ∧ ((19 = 19) ∧ (19 ≤ c)))))) ∧ ((decide ((SZ (List.take 19 L)) < 19)) = false)) ∧ (((MK = mkB) ∧ ((SZ = szf) ∧ (KD = kdf))) ∧ ((Byt (List.take 19 L)) ∧ (((List.take 19 L).length = 19) ∧ ((19 = 19) ∧ (19 ≤ c)))))) ∧ ((decide (512 < (SZ (List.take 19 L)))) = true))
theorem runNszhi (MK : TB) (SZ : TI) (KD : TI) (L : List Int) (n : Nat) (c : Nat) : (r9 MK SZ KD L n c oNszhi).map (fun r => (r.1, r.2.obl, r.2.next, keepL (true :: List.replicate 3 false) r.2.heap.get 0)) = some ((vE 271), pNszhi MK SZ KD L n c, ((some (Ob.cells (.ints .u8 L) 5) :: List.replicate 3 none)).length, (some (Ob.cells (.ints .u8 L) 5) :: List.replicate 3 none)) := by kernel_rfl
noncomputable def oNklo : List (Option Bool) := [some false, some true, none, none, some false, none, none, none, some false, none, none, none, some false, none, none, none, some false]
noncomputable def pNklo (MK : TB) (SZ : TI) (KD : TI) (L : List Int) (n : Nat) (c : Nat) : Prop := ((((((((((True ∧ ((decide ((nI n) < 19)) = false)) ∧ (((0 : Int) ≤ 19) ∧ ((19 ≤ (nI c)) ∧ (((0 : Int) ≤ 0) ∧ ((0 : Int) ≤ 19))))) ∧ (((MK = mkB) ∧ ((SZ = szf) ∧ (KD = kdf))) ∧ ((Byt (List.take 19 L)) ∧ (((List.take 19 L).length = 19) ∧ ((19 = 19) ∧ (19 ≤ c)))))) ∧ ((MK (List.take 19 L)) = false)) ∧ (((MK = mkB) ∧ ((SZ = szf) ∧ (KD = kdf))) ∧ ((Byt (List.take 19 L)) ∧ (((List.take 19 L).length = 19) ∧ ((19 = 19) ∧ (19 ≤ c)))))) ∧ ((decide ((SZ (List.take 19 L)) < 19)) = false)) ∧ (((MK = mkB) ∧ ((SZ = szf) ∧ (KD = kdf))) ∧ ((Byt (List.take 19 L)) ∧ (((List.take 19 L).length = 19) ∧ ((19 = 19) ∧ (19 ≤ c)))))) ∧ ((decide (512 < (SZ (List.take 19 L)))) = false)) ∧ (((MK = mkB) ∧ ((SZ = szf) ∧ (KD = kdf))) ∧ ((Byt (List.take 19 L)) ∧ (((List.take 19 L).length = 19) ∧ ((19 = 19) ∧ (19 ≤ c)))))) ∧ ((decide (1 ≤ (KD (List.take 19 L)))) = false))
theorem runNklo (MK : TB) (SZ : TI) (KD : TI) (L : List Int) (n : Nat) (c : Nat) : (r9 MK SZ KD L n c oNklo).map (fun r => (r.1, r.2.obl, r.2.next, keepL (true :: List.replicate 4 false) r.2.heap.get 0)) = some ((vE 272), pNklo MK SZ KD L n c, ((some (Ob.cells (.ints .u8 L) 5) :: List.replicate 4 none)).length, (some (Ob.cells (.ints .u8 L) 5) :: List.replicate 4 none)) := by kernel_rfl
noncomputable def oNkhi : List (Option Bool) := [some false, some true, none, none, some false, none, none, none, some false, none, none, none, some false, none, none, none, some true, none, none, some true]
noncomputable def pNkhi (MK : TB) (SZ : TI) (KD : TI) (L : List Int) (n : Nat) (c : Nat) : Prop := (((((((((((True ∧ ((decide ((nI n) < 19)) = false)) ∧ (((0 : Int) ≤ 19) ∧ ((19 ≤ (nI c)) ∧ (((0 : Int) ≤ 0) ∧ ((0 : Int) ≤ 19))))) ∧ (((MK = mkB) ∧ ((SZ = szf) ∧ (KD = kdf))) ∧ ((Byt (List.take 19 L)) ∧ (((List.take 19 L).length = 19) ∧ ((19 = 19) ∧ (19 ≤ c)))))) ∧ ((MK (List.take 19 L)) = false)) ∧ (((MK = mkB) ∧ ((SZ = szf) ∧ (KD = kdf))) ∧ ((Byt (List.take 19 L)) ∧ (((List.take 19 L).length = 19) ∧ ((19 = 19) ∧ (19 ≤ c)))))) ∧ ((decide ((SZ (List.take 19 L)) < 19)) = false)) ∧ (((MK = mkB) ∧ ((SZ = szf) ∧ (KD = kdf))) ∧ ((Byt (List.take 19 L)) ∧ (((List.take 19 L).length = 19) ∧ ((19 = 19) ∧ (19 ≤ c)))))) ∧ ((decide (512 < (SZ (List.take 19 L)))) = false)) ∧ (((MK = mkB) ∧ ((SZ = szf) ∧ (KD = kdf))) ∧ ((Byt (List.take 19 L)) ∧ (((List.take 19 L).length = 19) ∧ ((19 = 19) ∧ (19 ≤ c)))))) ∧ ((decide (1 ≤ (KD (List.take 19 L)))) = true)) ∧ ((!(decide ((KD (List.take 19 L)) ≤ 4))) = true))
theorem runNkhi (MK : TB) (SZ : TI) (KD : TI) (L : List Int) (n : Nat) (c : Nat) : (r9 MK SZ KD L n c oNkhi).map (fun r => (r.1, r.2.obl, r.2.next, keepL (true :: List.replicate 4 false) r.2.heap.get 0)) = some ((vE 272), pNkhi MK SZ KD L n c, ((some (Ob.cells (.ints .u8 L) 5) :: List.replicate 4 none)).length, (some (Ob.cells (.ints .u8 L) 5) :: List.replicate 4 none)) := by kernel_rfl
noncomputable def oNcut : List (Option Bool) := [some false, some true, none, none, some false, none, none, none, some false, none, none, none, some false, none, none, none, some true, none, none, some false, none, none, none, none, none, none, none, none, some true]
noncomputable def pNcut (MK : TB) (SZ : TI) (KD : TI) (L : List Int) (n : Nat) (c : Nat) : Prop := (((((((((((((True ∧ ((decide ((nI n) < 19)) = false)) ∧ (((0 : Int) ≤ 19) ∧ ((19 ≤ (nI c)) ∧ (((0 : Int) ≤ 0) ∧ ((0 : Int) ≤ 19))))) ∧ (((MK = mkB) ∧ ((SZ = szf) ∧ (KD = kdf))) ∧ ((Byt (List.take 19 L)) ∧ (((List.take 19 L).length = 19) ∧ ((19 = 19) ∧ (19 ≤ c)))))) ∧ ((MK (List.take 19 L)) = false)) ∧ (((MK = mkB) ∧ ((SZ = szf) ∧ (KD = kdf))) ∧ ((Byt (List.take 19 L)) ∧ (((List.take 19 L).length = 19) ∧ ((19 = 19) ∧ (19 ≤ c)))))) ∧ ((decide ((SZ (List.take 19 L)) < 19)) = false)) ∧ (((MK = mkB) ∧ ((SZ = szf) ∧ (KD = kdf))) ∧ ((Byt (List.take 19 L)) ∧ (((List.take 19 L).length = 19) ∧ ((19 = 19) ∧ (19 ≤ c)))))) ∧ ((decide (512 < (SZ (List.take 19 L)))) = false)) ∧ (((MK = mkB) ∧ ((SZ = szf) ∧ (KD = kdf))) ∧ ((Byt (List.take 19 L)) ∧ (((List.take 19 L).length = 19) ∧ ((19 = 19) ∧ (19 ≤ c)))))) ∧ ((decide (1 ≤ (KD (List.take 19 L)))) = true)) ∧ ((!(decide ((KD (List.take 19 L)) ≤ 4))) = false)) ∧ (((MK = mkB) ∧ ((SZ = szf) ∧ (KD = kdf))) ∧ ((Byt (List.take 19 L)) ∧ (((List.take 19 L).length = 19) ∧ ((19 = 19) ∧ (19 ≤ c)))))) ∧ ((decide ((nI n) < (SZ (List.take 19 L)))) = true))
theorem runNcut (MK : TB) (SZ : TI) (KD : TI) (L : List Int) (n : Nat) (c : Nat) : (r9 MK SZ KD L n c oNcut).map (fun r => (r.1, r.2.obl, r.2.next, keepL (true :: List.replicate 4 false) r.2.heap.get 0)) = some ((vE 0), pNcut MK SZ KD L n c, ((some (Ob.cells (.ints .u8 L) 5) :: List.replicate 4 none)).length, (some (Ob.cells (.ints .u8 L) 5) :: List.replicate 4 none)) := by kernel_rfl
noncomputable def oNok0 : List (Option Bool) := [some false, some true, none, none, some false, none, none, none, some false, none, none, none, some false, none, none, none, some true, none, none, some false, none, none, none, none, none, none, none, none, some false, some true, none, some true]
noncomputable def pNok0 (MK : TB) (SZ : TI) (KD : TI) (L : List Int) (n : Nat) (c : Nat) : Prop := ((((((((((((((((((True ∧ ((decide ((nI n) < 19)) = false)) ∧ (((0 : Int) ≤ 19) ∧ ((19 ≤ (nI c)) ∧ (((0 : Int) ≤ 0) ∧ ((0 : Int) ≤ 19))))) ∧ (((MK = mkB) ∧ ((SZ = szf) ∧ (KD = kdf))) ∧ ((Byt (List.take 19 L)) ∧ (((List.take 19 L).length = 19) ∧ ((19 = 19) ∧ (19 ≤ c)))))) ∧ ((MK (List.take 19 L)) = false)) ∧ (((MK = mkB) ∧ ((SZ = szf) ∧ (KD = kdf))) ∧ ((Byt (List.take 19 L)) ∧ (((List.take 19 L).length = 19) ∧ ((19 = 19) ∧ (19 ≤ c)))))) ∧ ((decide ((SZ (List.take 19 L)) < 19)) = false)) ∧ (((MK = mkB) ∧ ((SZ = szf) ∧ (KD = kdf))) ∧ ((Byt (List.take 19 L)) ∧ (((List.take 19 L).length = 19) ∧ ((19 = 19) ∧ (19 ≤ c)))))) ∧ ((decide (512 < (SZ (List.take 19 L)))) = false)) ∧ (((MK = mkB) ∧ ((SZ = szf) ∧ (KD = kdf))) ∧ ((Byt (List.take 19 L)) ∧ (((List.take 19 L).length = 19) ∧ ((19 = 19) ∧ (19 ≤ c)))))) ∧ ((decide (1 ≤ (KD (List.take 19 L)))) = true)) ∧ ((!(decide ((KD (List.take 19 L)) ≤ 4))) = false)) ∧ (((MK = mkB) ∧ ((SZ = szf) ∧ (KD = kdf))) ∧ ((Byt (List.take 19 L)) ∧ (((List.take 19 L).length = 19) ∧ ((19 = 19) ∧ (19 ≤ c)))))) ∧ ((decide ((nI n) < (SZ (List.take 19 L)))) = false)) ∧ (((MK = mkB) ∧ ((SZ = szf) ∧ (KD = kdf))) ∧ ((Byt (List.take 19 L)) ∧ (((List.take 19 L).length = 19) ∧ ((19 = 19) ∧ (19 ≤ c)))))) ∧ (((0 : Int) ≤ (SZ (List.take 19 L))) ∧ (((SZ (List.take 19 L)) ≤ (nI c)) ∧ (((0 : Int) ≤ 19) ∧ ((19 : Int) ≤ (SZ (List.take 19 L))))))) ∧ (((MK = mkB) ∧ ((SZ = szf) ∧ (KD = kdf))) ∧ ((Byt (List.take 19 L)) ∧ (((List.take 19 L).length = 19) ∧ ((19 = 19) ∧ (19 ≤ c)))))) ∧ ((decide ((0 + ((SZ (List.take 19 L)).toNat - 19)) ≤ 0)) = true)) ∧ (((19 + ((SZ (List.take 19 L)).toNat - 19)) ≤ L.length) ∧ ((0 + ((SZ (List.take 19 L)).toNat - 19)) ≤ 0)))
theorem runNok0 (MK : TB) (SZ : TI) (KD : TI) (L : List Int) (n : Nat) (c : Nat) : (r9 MK SZ KD L n c oNok0).map (fun r => (r.1, r.2.obl, r.2.next, keepL (true :: List.replicate 5 false) r.2.heap.get 0)) = some ((vK SZ KD L (.slice (some ⟨5, 0, none⟩) (0 + bd SZ L) 0)), pNok0 MK SZ KD L n c, ((some (Ob.cells (.ints .u8 L) 5) :: List.replicate 5 none)).length, (some (Ob.cells (.ints .u8 L) 5) :: List.replicate 5 none)) := by kernel_rfl
noncomputable def oNok1 : List (Option Bool) := [some false, some true, none, none, some false, none, none, none, some false, none, none, none, some false, none, none, none, some true, none, none, some false, none, none, none, none, none, none, none, none, some false, some true, none, some false]
noncomputable def pNok1 (MK : TB) (SZ : TI) (KD : TI) (L : List Int) (n : Nat) (c : Nat) : Prop := ((((((((((((((((((True ∧ ((decide ((nI n) < 19)) = false)) ∧ (((0 : Int) ≤ 19) ∧ ((19 ≤ (nI c)) ∧ (((0 : Int) ≤ 0) ∧ ((0 : Int) ≤ 19))))) ∧ (((MK = mkB) ∧ ((SZ = szf) ∧ (KD = kdf))) ∧ ((Byt (List.take 19 L)) ∧ (((List.take 19 L).length = 19) ∧ ((19 = 19) ∧ (19 ≤ c)))))) ∧ ((MK (List.take 19 L)) = false)) ∧ (((MK = mkB) ∧ ((SZ = szf) ∧ (KD = kdf))) ∧ ((Byt (List.take 19 L)) ∧ (((List.take 19 L).length = 19) ∧ ((19 = 19) ∧ (19 ≤ c)))))) ∧ ((decide ((SZ (List.take 19 L)) < 19)) = false)) ∧ (((MK = mkB) ∧ ((SZ = szf) ∧ (KD = kdf))) ∧ ((Byt (List.take 19 L)) ∧ (((List.take 19 L).length = 19) ∧ ((19 = 19) ∧ (19 ≤ c)))))) ∧ ((decide (512 < (SZ (List.take 19 L)))) = false)) ∧ (((MK = mkB) ∧ ((SZ = szf) ∧ (KD = kdf))) ∧ ((Byt (List.take 19 L)) ∧ (((List.take 19 L).length = 19) ∧ ((19 = 19) ∧ (19 ≤ c)))))) ∧ ((decide (1 ≤ (KD (List.take 19 L)))) = true)) ∧ ((!(decide ((KD (List.take 19 L)) ≤ 4))) = false)) ∧ (((MK = mkB) ∧ ((SZ = szf) ∧ (KD = kdf))) ∧ ((Byt (List.take 19 L)) ∧ (((List.take 19 L).length = 19) ∧ ((19 = 19) ∧ (19 ≤ c)))))) ∧ ((decide ((nI n) < (SZ (List.take 19 L)))) = false)) ∧ (((MK = mkB) ∧ ((SZ = szf) ∧ (KD = kdf))) ∧ ((Byt (List.take 19 L)) ∧ (((List.take 19 L).length = 19) ∧ ((19 = 19) ∧ (19 ≤ c)))))) ∧ (((0 : Int) ≤ (SZ (List.take 19 L))) ∧ (((SZ (List.take 19 L)) ≤ (nI c)) ∧ (((0 : Int) ≤ 19) ∧ ((19 : Int) ≤ (SZ (List.take 19 L))))))) ∧ (((MK = mkB) ∧ ((SZ = szf) ∧ (KD = kdf))) ∧ ((Byt (List.take 19 L)) ∧ (((List.take 19 L).length = 19) ∧ ((19 = 19) ∧ (19 ≤ c)))))) ∧ ((decide ((0 + ((SZ (List.take 19 L)).toNat - 19)) ≤ 0)) = false)) ∧ (((19 + ((SZ (List.take 19 L)).toNat - 19)) ≤ L.length) ∧ ((0 ≤ 0) ∧ ((((0 + ((SZ (List.take 19 L)).toNat - 19)) * 1) ≤ mostBytes) ∧ ((0 + ((SZ (List.take 19 L)).toNat - 19)) ≤ mostBytes)))))
theorem runNok1 (MK : TB) (SZ : TI) (KD : TI) (L : List Int) (n : Nat) (c : Nat) : (r9 MK SZ KD L n c oNok1).map (fun r => (r.1, r.2.obl, r.2.next, keepL (true :: (List.replicate 5 false ++ [true])) r.2.heap.get 0)) = some ((vK SZ KD L (.slice (some ⟨6, 0, some 1⟩) (0 + bd SZ L) (0 + bd SZ L))), pNok1 MK SZ KD L n c, ((some (Ob.cells (.ints .u8 L) 5) :: (List.replicate 5 none ++ [some (Ob.cells (.ints .u8 (bl SZ L)) 5)]))).length, (some (Ob.cells (.ints .u8 L) 5) :: (List.replicate 5 none ++ [some (Ob.cells (.ints .u8 (bl SZ L)) 5)]))) := by kernel_rfl
end
end fc
end Go.Proofs.Ytiangelmpnnijaa
namespace Go.Proofs.Ytiangelmpnnijaa
open Go.ChangeShapes Go.WideShapes Go.ChangeAt Go.RowKit Go.Cln
namespace fc
open fr
set_option linter.unusedVariables false
noncomputable section
def pm10 (L : List Int) (n : Nat) : Nat → Prop
  | 0 => True ∧ decide ((n : Int) < 19) = false
  | j + 1 => ((pm10 L n j ∧ (0 ≤ ((j : Nat) : Int) ∧ ((j : Nat) : Int) < (n : Int))) ∧ j < L.length) ∧ (L.getD j 0 != 255) = false
def rn10 : Nat → List (Option Bool)
  | 0 => []
  | k + 1 => rn10 k ++ [none, some true, some true, some false, none]
def o10 (i : Nat) : List (Option Bool) := some false :: (rn10 i ++ [none, some true, some true, some true])
def p10 (L : List Int) (n i : Nat) : Prop := ((pm10 L n i ∧ (0 ≤ ((i : Nat) : Int) ∧ ((i : Nat) : Int) < (n : Int))) ∧ i < L.length) ∧ (L.getD i 0 != 255) = true
theorem run10s (L : List Int) (n c : Nat) : (r10 L n c [some true]).map (fun r => (r.1, r.2.obl, r.2.next, keepL [true] r.2.heap.get 0)) = some (vE 0, True ∧ decide ((n : Int) < 19) = true, (hI L).length, hI L) := by kernel_rfl
theorem k0 (L : List Int) (n c : Nat) : (r10 L n c (o10 0)).map (fun r => (r.1, r.2.obl, r.2.next, keepL [true] r.2.heap.get 0)) = some (vE 270, p10 L n 0, (hI L).length, hI L) := by kernel_rfl
theorem k1 (L : List Int) (n c : Nat) : (r10 L n c (o10 1)).map (fun r => (r.1, r.2.obl, r.2.next, keepL [true] r.2.heap.get 0)) = some (vE 270, p10 L n 1, (hI L).length, hI L) := by kernel_rfl
theorem k2 (L : List Int) (n c : Nat) : (r10 L n c (o10 2)).map (fun r => (r.1, r.2.obl, r.2.next, keepL [true] r.2.heap.get 0)) = some (vE 270, p10 L n 2, (hI L).length, hI L) := by kernel_rfl
theorem k3 (L : List Int) (n c : Nat) : (r10 L n c (o10 3)).map (fun r => (r.1, r.2.obl, r.2.next, keepL [true] r.2.heap.get 0)) = some (vE 270, p10 L n 3, (hI L).length, hI L) := by kernel_rfl
theorem k4 (L : List Int) (n c : Nat) : (r10 L n c (o10 4)).map (fun r => (r.1, r.2.obl, r.2.next, keepL [true] r.2.heap.get 0)) = some (vE 270, p10 L n 4, (hI L).length, hI L) := by kernel_rfl
theorem k5 (L : List Int) (n c : Nat) : (r10 L n c (o10 5)).map (fun r => (r.1, r.2.obl, r.2.next, keepL [true] r.2.heap.get 0)) = some (vE 270, p10 L n 5, (hI L).length, hI L) := by kernel_rfl
theorem k6 (L : List Int) (n c : Nat) : (r10 L n c (o10 6)).map (fun r => (r.1, r.2.obl, r.2.next, keepL [true] r.2.heap.get 0)) = some (vE 270, p10 L n 6, (hI L).length, hI L) := by kernel_rfl
theorem k7 (L : List Int) (n c : Nat) : (r10 L n c (o10 7)).map (fun r => (r.1, r.2.obl, r.2.next, keepL [true] r.2.heap.get 0)) = some (vE 270, p10 L n 7, (hI L).length, hI L) := by kernel_rfl
theorem k8 (L : List Int) (n c : Nat) : (r10 L n c (o10 8)).map (fun r => (r.1, r.2.obl, r.2.next, keepL [true] r.2.heap.get 0)) = some (vE 270, p10 L n 8, (hI L).length, hI L) := by kernel_rfl
theorem k9 (L : List Int) (n c : Nat) : (r10 L n c (o10 9)).map (fun r => (r.1, r.2.obl, r.2.next, keepL [true] r.2.heap.get 0)) = some (vE 270, p10 L n 9, (hI L).length, hI L) := by kernel_rfl
theorem k10 (L : List Int) (n c : Nat) : (r10 L n c (o10 10)).map (fun r => (r.1, r.2.obl, r.2.next, keepL [true] r.2.heap.get 0)) = some (vE 270, p10 L n 10, (hI L).length, hI L) := by kernel_rfl
theorem k11 (L : List Int) (n c : Nat) : (r10 L n c (o10 11)).map (fun r => (r.1, r.2.obl, r.2.next, keepL [true] r.2.heap.get 0)) = some (vE 270, p10 L n 11, (hI L).length, hI L) := by kernel_rfl
theorem k12 (L : List Int) (n c : Nat) : (r10 L n c (o10 12)).map (fun r => (r.1, r.2.obl, r.2.next, keepL [true] r.2.heap.get 0)) = some (vE 270, p10 L n 12, (hI L).length, hI L) := by kernel_rfl
theorem k13 (L : List Int) (n c : Nat) : (r10 L n c (o10 13)).map (fun r => (r.1, r.2.obl, r.2.next, keepL [true] r.2.heap.get 0)) = some (vE 270, p10 L n 13, (hI L).length, hI L) := by kernel_rfl
theorem k14 (L : List Int) (n c : Nat) : (r10 L n c (o10 14)).map (fun r => (r.1, r.2.obl, r.2.next, keepL [true] r.2.heap.get 0)) = some (vE 270, p10 L n 14, (hI L).length, hI L) := by kernel_rfl
theorem k15 (L : List Int) (n c : Nat) : (r10 L n c (o10 15)).map (fun r => (r.1, r.2.obl, r.2.next, keepL [true] r.2.heap.get 0)) = some (vE 270, p10 L n 15, (hI L).length, hI L) := by kernel_rfl
theorem kAll (L : List Int) (n c : Nat) : ∀ i, i < 16 → (r10 L n c (o10 i)).map (fun r => (r.1, r.2.obl, r.2.next, keepL [true] r.2.heap.get 0)) = some (vE 270, p10 L n i, (hI L).length, hI L)
  | 0, _ => k0 L n c
  | 1, _ => k1 L n c
  | 2, _ => k2 L n c
  | 3, _ => k3 L n c
  | 4, _ => k4 L n c
  | 5, _ => k5 L n c
  | 6, _ => k6 L n c
  | 7, _ => k7 L n c
  | 8, _ => k8 L n c
  | 9, _ => k9 L n c
  | 10, _ => k10 L n c
  | 11, _ => k11 L n c
  | 12, _ => k12 L n c
  | 13, _ => k13 L n c
  | 14, _ => k14 L n c
  | 15, _ => k15 L n c
  | n + 16, h => absurd h (by omega)
def at_ (L : List Int) (n j : Nat) (p : Prop) : Prop := (p ∧ (0 ≤ ((j : Nat) : Int) ∧ ((j : Nat) : Int) < (n : Int))) ∧ j < L.length
def w64 (x : Int) (p : Prop) : Prop := p ∧ IntKind.i64.wrap x = x
def sz (L : List Int) : Int := L.getD 16 0 * 256 + L.getD 17 0
def q16 (L : List Int) (n : Nat) : Prop := w64 (sz L) (w64 (L.getD 17 0) (at_ L n 17 (w64 (L.getD 16 0 * 256) (w64 (L.getD 16 0) (at_ L n 16 (pm10 L n 16))))))
def o16 : List (Option Bool) := some false :: (rn10 16 ++ [none, some true, some true, some true, some true, some true, some true, some true, some true])
def qk (L : List Int) (n : Nat) : Prop := at_ L n 18 ((q16 L n ∧ decide (sz L < 19) = false) ∧ decide (sz L > 512) = false)
def qk2 (L : List Int) (n : Nat) : Prop := at_ L n 18 (qk L n ∧ decide (L.getD 18 0 < 1) = false)
def q4 (L : List Int) (n : Nat) : Prop := qk2 L n ∧ decide (L.getD 18 0 > 4) = false
def oA : List (Option Bool) := o16 ++ [some false, none, none, some false, some true, some true, some false, none, some true, none, some true, none, none, some false]
theorem run10a (L : List Int) (n c : Nat) : (r10 L n c (o16 ++ [some true])).map (fun r => (r.1, r.2.obl, r.2.next, keepL [true] r.2.heap.get 0)) = some (vE 271, q16 L n ∧ decide (sz L < 19) = true, (hI L).length, hI L) := by kernel_rfl
theorem run10b (L : List Int) (n c : Nat) : (r10 L n c (o16 ++ [some false, none, none, some true])).map (fun r => (r.1, r.2.obl, r.2.next, keepL [true] r.2.heap.get 0)) = some (vE 271, (q16 L n ∧ decide (sz L < 19) = false) ∧ decide (sz L > 512) = true, (hI L).length, hI L) := by kernel_rfl
theorem run10c (L : List Int) (n c : Nat) : (r10 L n c (o16 ++ [some false, none, none, some false, some true, some true, some true])).map (fun r => (r.1, r.2.obl, r.2.next, keepL [true] r.2.heap.get 0)) = some (vE 272, qk L n ∧ decide (L.getD 18 0 < 1) = true, (hI L).length, hI L) := by kernel_rfl
theorem run10d (L : List Int) (n c : Nat) : (r10 L n c (o16 ++ [some false, none, none, some false, some true, some true, some false, none, some true, none, some true, none, none, some true])).map (fun r => (r.1, r.2.obl, r.2.next, keepL [true] r.2.heap.get 0)) = some (vE 272, qk2 L n ∧ decide (L.getD 18 0 > 4) = true, (hI L).length, hI L) := by kernel_rfl
theorem run10e (L : List Int) (n c : Nat) : (r10 L n c (oA ++ [some true])).map (fun r => (r.1, r.2.obl, r.2.next, keepL [true] r.2.heap.get 0)) = some (vE 0, q4 L n ∧ decide ((n : Int) < sz L) = true, (hI L).length, hI L) := by kernel_rfl
theorem run10f (L : List Int) (n c : Nat) : (r10 L n c (oA ++ [some false, some true, some true, some true, some true])).map (fun r => (r.1, r.2.obl, r.2.next, keepL [true] r.2.heap.get 0)) =
    some (.tuple #[.int .i64 (L.getD 18 0), .slice (some ⟨0, 19, some 1⟩) ((sz L).toNat - 19) (c - 19), .int .i64 (sz L), .int .i64 0], w64 (L.getD 18 0) (at_ L n 18 (q4 L n ∧ decide ((n : Int) < sz L) = false)) ∧ sl 19 (sz L) c, (hI L).length, hI L) := by kernel_rfl
end
end fc
end Go.Proofs.Ytiangelmpnnijaa
namespace Go.Proofs.Ytiangelmpnnijaa
open Go.ChangeShapes Go.WideShapes Go.ChangeAt Go.RowKit Go.Cln
namespace fc
open fr
set_option linter.unusedVariables false
noncomputable section
theorem tk19 (L : List Int) {j : Nat} (h : j < 19) : (L.take 19).getD j 0 = L.getD j 0 := by
  rw [List.getD_eq_getElem?_getD, List.getD_eq_getElem?_getD, List.getElem?_take, if_pos h]
theorem szt (L : List Int) : szf (L.take 19) = sz L := by unfold szf sz; rw [tk19 L (by decide), tk19 L (by decide)]
theorem kdt (L : List Int) : kdf (L.take 19) = L.getD 18 0 := tk19 L (by decide)
theorem mk_true {W : List Int} (h : mkB W = true) : ∃ i, i < 16 ∧ (∀ j, j < i → W.getD j 0 = 255) ∧ W.getD i 0 ≠ 255 := by
  unfold mkB at h
  rw [List.any_eq_true] at h
  obtain ⟨j, hj, hx⟩ := h
  rcases first W 16 with h1 | h1
  · exact absurd (h1 j (List.mem_range.1 hj)) (by simpa using hx)
  · exact h1
theorem mk_false {W : List Int} (h : mkB W = false) : ∀ j, j < 16 → W.getD j 0 = 255 := by
  unfold mkB at h
  rw [List.any_eq_false] at h
  intro j hj
  have := h j (List.mem_range.2 hj)
  simpa using this
def okF (L : List Int) (n : Nat) : Prop := 19 ≤ n ∧ mkB (L.take 19) = false ∧ 19 ≤ sz L ∧ sz L ≤ 512 ∧ 1 ≤ L.getD 18 0 ∧ L.getD 18 0 ≤ 4 ∧ sz L ≤ n
def eF (L : List Int) (n : Nat) : Int := if n < 19 then 0 else if mkB (L.take 19) = true then 270 else if sz L < 19 ∨ 512 < sz L then 271 else if L.getD 18 0 < 1 ∨ 4 < L.getD 18 0 then 272 else 0
theorem pNshort_ok {L : List Int} {n c : Nat} (h : n < 19) : pNshort mkB szf kdf L n c := by
  unfold pNshort
  repeat' apply And.intro
  all_goals first | trivial | rfl | assumption | omega | (simp only [nI, mostBytes, decide_eq_true_eq, decide_eq_false_iff_not, Bool.not_eq_true', Bool.not_eq_false']; omega)
theorem pNmark_ok {L : List Int} {n c : Nat} (hl : (L.take 19).length = 19) (hb : Byt (L.take 19)) (hn : n = L.length) (hc : n ≤ c) (h19 : 19 ≤ n) (hm : n ≤ 4000) (k : mkB (L.take 19) = true) : pNmark mkB szf kdf L n c := by
  unfold pNmark
  repeat' apply And.intro
  all_goals first | trivial | rfl | assumption | omega | (simp only [nI, mostBytes, decide_eq_true_eq, decide_eq_false_iff_not, Bool.not_eq_true', Bool.not_eq_false']; omega)
theorem pNszlo_ok {L : List Int} {n c : Nat} (hl : (L.take 19).length = 19) (hb : Byt (L.take 19)) (hn : n = L.length) (hc : n ≤ c) (h19 : 19 ≤ n) (hm : n ≤ 4000) (k : mkB (L.take 19) = false) (k2 : (szf (L.take 19)) < 19) : pNszlo mkB szf kdf L n c := by
  unfold pNszlo
  repeat' apply And.intro
  all_goals first | trivial | rfl | assumption | omega | (simp only [nI, mostBytes, decide_eq_true_eq, decide_eq_false_iff_not, Bool.not_eq_true', Bool.not_eq_false']; omega)
theorem pNszhi_ok {L : List Int} {n c : Nat} (hl : (L.take 19).length = 19) (hb : Byt (L.take 19)) (hn : n = L.length) (hc : n ≤ c) (h19 : 19 ≤ n) (hm : n ≤ 4000) (k : mkB (L.take 19) = false) (k2 : 512 < (szf (L.take 19))) : pNszhi mkB szf kdf L n c := by
  unfold pNszhi
  repeat' apply And.intro
  all_goals first | trivial | rfl | assumption | omega | (simp only [nI, mostBytes, decide_eq_true_eq, decide_eq_false_iff_not, Bool.not_eq_true', Bool.not_eq_false']; omega)
theorem pNklo_ok {L : List Int} {n c : Nat} (hl : (L.take 19).length = 19) (hb : Byt (L.take 19)) (hn : n = L.length) (hc : n ≤ c) (h19 : 19 ≤ n) (hm : n ≤ 4000) (k : mkB (L.take 19) = false) (k2 : 19 ≤ (szf (L.take 19))) (k3 : (szf (L.take 19)) ≤ 512) (k4 : (kdf (L.take 19)) < 1) : pNklo mkB szf kdf L n c := by
  unfold pNklo
  repeat' apply And.intro
  all_goals first | trivial | rfl | assumption | omega | (simp only [nI, mostBytes, decide_eq_true_eq, decide_eq_false_iff_not, Bool.not_eq_true', Bool.not_eq_false']; omega)
theorem pNkhi_ok {L : List Int} {n c : Nat} (hl : (L.take 19).length = 19) (hb : Byt (L.take 19)) (hn : n = L.length) (hc : n ≤ c) (h19 : 19 ≤ n) (hm : n ≤ 4000) (k : mkB (L.take 19) = false) (k2 : 19 ≤ (szf (L.take 19))) (k3 : (szf (L.take 19)) ≤ 512) (k4 : 4 < (kdf (L.take 19))) : pNkhi mkB szf kdf L n c := by
  unfold pNkhi
  repeat' apply And.intro
  all_goals first | trivial | rfl | assumption | omega | (simp only [nI, mostBytes, decide_eq_true_eq, decide_eq_false_iff_not, Bool.not_eq_true', Bool.not_eq_false']; omega)
theorem pNcut_ok {L : List Int} {n c : Nat} (hl : (L.take 19).length = 19) (hb : Byt (L.take 19)) (hn : n = L.length) (hc : n ≤ c) (h19 : 19 ≤ n) (hm : n ≤ 4000) (k : mkB (L.take 19) = false) (k2 : 19 ≤ (szf (L.take 19))) (k3 : (szf (L.take 19)) ≤ 512) (k4 : 1 ≤ (kdf (L.take 19))) (k5 : (kdf (L.take 19)) ≤ 4) (k6 : (n : Int) < (szf (L.take 19))) : pNcut mkB szf kdf L n c := by
  unfold pNcut
  repeat' apply And.intro
  all_goals first | trivial | rfl | assumption | omega | (simp only [nI, mostBytes, decide_eq_true_eq, decide_eq_false_iff_not, Bool.not_eq_true', Bool.not_eq_false']; omega)
theorem pNok0_ok {L : List Int} {n c : Nat} (hl : (L.take 19).length = 19) (hb : Byt (L.take 19)) (hn : n = L.length) (hc : n ≤ c) (h19 : 19 ≤ n) (hm : n ≤ 4000) (k : mkB (L.take 19) = false) (k2 : (szf (L.take 19)) = 19) (k4 : 1 ≤ (kdf (L.take 19))) (k5 : (kdf (L.take 19)) ≤ 4) : pNok0 mkB szf kdf L n c := by
  unfold pNok0
  repeat' apply And.intro
  all_goals first | trivial | rfl | assumption | omega | (simp only [nI, mostBytes, decide_eq_true_eq, decide_eq_false_iff_not, Bool.not_eq_true', Bool.not_eq_false']; omega)
theorem pNok1_ok {L : List Int} {n c : Nat} (hl : (L.take 19).length = 19) (hb : Byt (L.take 19)) (hn : n = L.length) (hc : n ≤ c) (h19 : 19 ≤ n) (hm : n ≤ 4000) (k : mkB (L.take 19) = false) (k2 : 19 < (szf (L.take 19))) (k3 : (szf (L.take 19)) ≤ 512) (k4 : 1 ≤ (kdf (L.take 19))) (k5 : (kdf (L.take 19)) ≤ 4) (k6 : (szf (L.take 19)) ≤ (n : Int)) : pNok1 mkB szf kdf L n c := by
  unfold pNok1
  repeat' apply And.intro
  all_goals first | trivial | rfl | assumption | omega | (simp only [nI, mostBytes, decide_eq_true_eq, decide_eq_false_iff_not, Bool.not_eq_true', Bool.not_eq_false']; omega)
end
end fc
end Go.Proofs.Ytiangelmpnnijaa
namespace Go.Proofs.Ytiangelmpnnijaa
open Go.ChangeShapes Go.WideShapes Go.ChangeAt Go.RowKit Go.Cln
namespace fc
open fr
set_option linter.unusedVariables false
noncomputable section
theorem byt_take {L : List Int} (h : Byt L) (n : Nat) : Byt (L.take n) := fun x hx => h x (List.mem_of_mem_take hx)
def hE (L : List Int) : List (Option Ob) := some (Ob.cells (.ints .u8 L) 5) :: List.replicate 4 none
theorem err9 (L : List Int) (n c : Nat) (hB : Byt L) (hn : n = L.length) (hc : n ≤ c) (hm : n ≤ 4000) (h : ¬ okF L n) : CallOk Try.prog 22 [.slice (some ⟨0, 0, some 1⟩) n c] (smSt 1 (hI L) []) (vE (eF L n)) (smSt 1 (hE L) []) := by
  have up : ∀ {e : Int} {k j : Nat}, CallOk Try.prog 22 [.slice (some ⟨0, 0, some 1⟩) n c] (smSt 1 (hI L) []) (vE e) (smSt 1 (some (Ob.cells (.ints .u8 L) 5) :: List.replicate k none) []) → k + j = 4 → CallOk Try.prog 22 [.slice (some ⟨0, 0, some 1⟩) n c] (smSt 1 (hI L) []) (vE e) (smSt 1 (hE L) []) := fun {e k j} hk hj => by
    have := hk.pad j (by simp; omega) (by simp [hI]) (by simp [hI])
    have e2 : (some (Ob.cells (.ints .u8 L) 5) :: List.replicate k none) ++ List.replicate j none = hE L := by
      rw [List.cons_append, List.replicate_append_replicate, hj]; rfl
    rw [e2] at this; exact this
  by_cases h1 : n < 19
  · have e : eF L n = 0 := by unfold eF; rw [if_pos h1]
    rw [e]
    exact up (k := 0) (j := 4) (frame_by pg (KM_ok mkB szf kdf) _ (runNshort mkB szf kdf L n c) (pNshort_ok h1) (by rfl) rfl) rfl
  · have hl : (L.take 19).length = 19 := by rw [List.length_take]; omega
    have hb := byt_take hB 19
    have es := szt L
    have ek := kdt L
    have h19 : 19 ≤ n := by omega
    cases h2 : mkB (L.take 19) with
    | true =>
      have e : eF L n = 270 := by unfold eF; rw [if_neg h1, if_pos h2]
      rw [e]
      exact up (k := 2) (j := 2) (frame_by pg (KM_ok mkB szf kdf) _ (runNmark mkB szf kdf L n c) (pNmark_ok hl hb hn hc h19 hm h2) (by rfl) rfl) rfl
    | false =>
      have e1 : eF L n = if sz L < 19 ∨ 512 < sz L then 271 else if L.getD 18 0 < 1 ∨ 4 < L.getD 18 0 then 272 else 0 := by unfold eF; rw [if_neg h1, h2]; simp
      by_cases h3 : sz L < 19
      · rw [e1, if_pos (.inl h3)]
        exact up (k := 3) (j := 1) (frame_by pg (KM_ok mkB szf kdf) _ (runNszlo mkB szf kdf L n c) (pNszlo_ok hl hb hn hc h19 hm h2 (by rw [es]; exact h3)) (by rfl) rfl) rfl
      · by_cases h4 : 512 < sz L
        · rw [e1, if_pos (.inr h4)]
          exact up (k := 3) (j := 1) (frame_by pg (KM_ok mkB szf kdf) _ (runNszhi mkB szf kdf L n c) (pNszhi_ok hl hb hn hc h19 hm h2 (by rw [es]; exact h4)) (by rfl) rfl) rfl
        · rw [e1, if_neg (by omega)]
          by_cases h5 : L.getD 18 0 < 1
          · rw [if_pos (.inl h5)]
            exact up (k := 4) (j := 0) (frame_by pg (KM_ok mkB szf kdf) _ (runNklo mkB szf kdf L n c) (pNklo_ok hl hb hn hc h19 hm h2 (by rw [es]; omega) (by rw [es]; omega) (by rw [ek]; exact h5)) (by rfl) rfl) rfl
          · by_cases h6 : 4 < L.getD 18 0
            · rw [if_pos (.inr h6)]
              exact up (k := 4) (j := 0) (frame_by pg (KM_ok mkB szf kdf) _ (runNkhi mkB szf kdf L n c) (pNkhi_ok hl hb hn hc h19 hm h2 (by rw [es]; omega) (by rw [es]; omega) (by rw [ek]; exact h6)) (by rfl) rfl) rfl
            · rw [if_neg (by omega)]
              have h7 : (n : Int) < sz L := by
                refine Int.not_le.1 fun h7 => h ⟨h19, h2, by omega, by omega, by omega, by omega, h7⟩
              exact up (k := 4) (j := 0) (frame_by pg (KM_ok mkB szf kdf) _ (runNcut mkB szf kdf L n c) (pNcut_ok hl hb hn hc h19 hm h2 (by rw [es]; omega) (by rw [es]; omega) (by rw [ek]; omega) (by rw [ek]; omega) (by rw [es]; exact h7)) (by rfl) rfl) rfl
def bdy (L : List Int) : List Int := (L.drop 19).take ((sz L).toNat - 19)
def vO (L : List Int) (b : Value) : Value := .tuple #[.int .i64 (L.getD 18 0), b, .int .i64 (sz L), .int .i64 0]
def hO (L B : List Int) : List (Option Ob) := some (Ob.cells (.ints .u8 L) 5) :: (List.replicate 5 none ++ [some (Ob.cells (.ints .u8 B) 5)])
def hZ (L : List Int) : List (Option Ob) := some (Ob.cells (.ints .u8 L) 5) :: List.replicate 5 none
theorem ok9 (L : List Int) (n c : Nat) (hB : Byt L) (hn : n = L.length) (hc : n ≤ c) (hm : n ≤ 4000) (h : okF L n) (h19 : 19 < sz L) : CallOk Try.prog 22 [.slice (some ⟨0, 0, some 1⟩) n c] (smSt 1 (hI L) [])
    (vO L (.slice (some ⟨6, 0, some 1⟩) ((sz L).toNat - 19) ((sz L).toNat - 19))) (smSt 1 (hO L (bdy L)) []) := by
  obtain ⟨g1, g2, g3, g4, g5, g6, g7⟩ := h
  have hl : (L.take 19).length = 19 := by rw [List.length_take]; omega
  have es := szt L
  have ek := kdt L
  have := frame_by pg (KM_ok mkB szf kdf) _ (runNok1 mkB szf kdf L n c) (pNok1_ok hl (byt_take hB 19) hn hc g1 hm g2 (by rw [es]; exact h19) (by rw [es]; exact g4) (by rw [ek]; exact g5) (by rw [ek]; exact g6) (by rw [es]; exact g7)) (by rfl) rfl
  unfold vK bl bd at this
  rw [es, ek, Nat.zero_add, List.drop_zero, List.take_zero, List.nil_append] at this
  exact this
theorem ok9z (L : List Int) (n c : Nat) (hB : Byt L) (hn : n = L.length) (hc : n ≤ c) (hm : n ≤ 4000) (h : okF L n) (h19 : sz L = 19) : CallOk Try.prog 22 [.slice (some ⟨0, 0, some 1⟩) n c] (smSt 1 (hI L) [])
    (vO L (.slice (some ⟨5, 0, none⟩) 0 0)) (smSt 1 (hZ L) []) := by
  obtain ⟨g1, g2, g3, g4, g5, g6, g7⟩ := h
  have hl : (L.take 19).length = 19 := by rw [List.length_take]; omega
  have es := szt L
  have ek := kdt L
  have := frame_by pg (KM_ok mkB szf kdf) _ (runNok0 mkB szf kdf L n c) (pNok0_ok hl (byt_take hB 19) hn hc g1 hm g2 (by rw [es]; exact h19) (by rw [ek]; exact g5) (by rw [ek]; exact g6)) (by rfl) rfl
  have e0 : bd szf L = 0 := by unfold bd; rw [es, h19]; rfl
  unfold vK at this
  rw [es, ek, e0] at this
  exact this
theorem pm10_of {L : List Int} {n : Nat} (hn : n = L.length) (h19 : 19 ≤ n) : ∀ i, i ≤ 16 → (∀ j, j < i → L.getD j 0 = 255) → pm10 L n i
  | 0, _, _ => ⟨trivial, by rw [decide_eq_false_iff_not]; omega⟩
  | i + 1, h1, h2 => ⟨⟨⟨pm10_of hn h19 i (by omega) fun j hj => h2 j (by omega), by omega⟩, by omega⟩, by rw [h2 i (by omega)]; rfl⟩
theorem q16_of {L : List Int} {n : Nat} (hB : Byt L) (hn : n = L.length) (h19 : 19 ≤ n) (h : ∀ j, j < 16 → L.getD j 0 = 255) : q16 L n := by
  have b1 := byt_getD hB 16
  have b2 := byt_getD hB 17
  refine ⟨⟨⟨⟨⟨⟨⟨⟨pm10_of hn h19 16 (by omega) h, by omega⟩, by omega⟩, ?_⟩, ?_⟩, by omega⟩, by omega⟩, ?_⟩, ?_⟩
  · rw [IntKind.wrap_i64]; omega
  · rw [IntKind.wrap_i64]; omega
  · rw [IntKind.wrap_i64]; omega
  · unfold sz; rw [IntKind.wrap_i64]; omega
theorem err10 (L : List Int) (n c : Nat) (hB : Byt L) (hn : n = L.length) (h : ¬ okF L n) : CallOk Try.prog 35 [.slice (some ⟨0, 0, some 1⟩) n c] (smSt 1 (hI L) []) (vE (eF L n)) (smSt 1 (hI L) []) := by
  by_cases h1 : n < 19
  · have e : eF L n = 0 := by unfold eF; rw [if_pos h1]
    rw [e]
    exact frame_by pg K0_ok _ (run10s L n c) ⟨trivial, by rw [decide_eq_true_eq]; omega⟩ (by rfl) rfl
  · have h19 : 19 ≤ n := by omega
    have b3 := byt_getD hB 18
    cases h2 : mkB (L.take 19) with
    | true =>
      have e : eF L n = 270 := by unfold eF; rw [if_neg h1, if_pos h2]
      obtain ⟨i, g1, g2, g3⟩ := mk_true h2
      rw [tk19 L (by omega)] at g3
      rw [e]
      exact frame_by pg K0_ok _ (kAll L n c i g1) ⟨⟨⟨pm10_of hn h19 i (by omega) fun j hj => by rw [← tk19 L (show j < 19 by omega)]; exact g2 j hj, by omega⟩, by omega⟩, by simpa using g3⟩ (by rfl) rfl
    | false =>
      have hmk : ∀ j, j < 16 → L.getD j 0 = 255 := fun j hj => by rw [← tk19 L (show j < 19 by omega)]; exact mk_false h2 j hj
      have hq := q16_of hB hn h19 hmk
      have e1 : eF L n = if sz L < 19 ∨ 512 < sz L then 271 else if L.getD 18 0 < 1 ∨ 4 < L.getD 18 0 then 272 else 0 := by unfold eF; rw [if_neg h1, h2]; simp
      by_cases h3 : sz L < 19
      · rw [e1, if_pos (.inl h3)]
        exact frame_by pg K0_ok _ (run10a L n c) ⟨hq, by rw [decide_eq_true_eq]; exact h3⟩ (by rfl) rfl
      · have d3 : decide (sz L < 19) = false := by rw [decide_eq_false_iff_not]; exact h3
        by_cases h4 : 512 < sz L
        · rw [e1, if_pos (.inr h4)]
          exact frame_by pg K0_ok _ (run10b L n c) ⟨⟨hq, d3⟩, by rw [decide_eq_true_eq]; exact h4⟩ (by rfl) rfl
        · have d4 : decide (sz L > 512) = false := by rw [decide_eq_false_iff_not]; exact h4
          have hk : qk L n := ⟨⟨⟨⟨hq, d3⟩, d4⟩, by omega⟩, by omega⟩
          rw [e1, if_neg (by omega)]
          by_cases h5 : L.getD 18 0 < 1
          · rw [if_pos (.inl h5)]
            exact frame_by pg K0_ok _ (run10c L n c) ⟨hk, by rw [decide_eq_true_eq]; exact h5⟩ (by rfl) rfl
          · have hk2 : qk2 L n := ⟨⟨⟨hk, by rw [decide_eq_false_iff_not]; exact h5⟩, by omega⟩, by omega⟩
            by_cases h6 : 4 < L.getD 18 0
            · rw [if_pos (.inr h6)]
              exact frame_by pg K0_ok _ (run10d L n c) ⟨hk2, by rw [decide_eq_true_eq]; exact h6⟩ (by rfl) rfl
            · rw [if_neg (by omega)]
              have h7 : (n : Int) < sz L := by
                refine Int.not_le.1 fun h7 => h ⟨h19, h2, by omega, by omega, by omega, by omega, h7⟩
              exact frame_by pg K0_ok _ (run10e L n c) ⟨⟨hk2, by rw [decide_eq_false_iff_not]; exact h6⟩, by rw [decide_eq_true_eq]; exact h7⟩ (by rfl) rfl
theorem ok10 (L : List Int) (n c : Nat) (hB : Byt L) (hn : n = L.length) (hc : n ≤ c) (h : okF L n) : CallOk Try.prog 35 [.slice (some ⟨0, 0, some 1⟩) n c] (smSt 1 (hI L) [])
    (vO L (.slice (some ⟨0, 19, some 1⟩) ((sz L).toNat - 19) (c - 19))) (smSt 1 (hI L) []) := by
  obtain ⟨h19, h2, g3, g4, g5, g6, g7⟩ := h
  have b3 := byt_getD hB 18
  have hmk : ∀ j, j < 16 → L.getD j 0 = 255 := fun j hj => by rw [← tk19 L (show j < 19 by omega)]; exact mk_false h2 j hj
  have hq := q16_of hB hn h19 hmk
  have hk : qk L n := ⟨⟨⟨⟨hq, by rw [decide_eq_false_iff_not]; omega⟩, by rw [decide_eq_false_iff_not]; omega⟩, by omega⟩, by omega⟩
  have hk2 : qk2 L n := ⟨⟨⟨hk, by rw [decide_eq_false_iff_not]; omega⟩, by omega⟩, by omega⟩
  exact frame_by pg K0_ok _ (run10f L n c) ⟨⟨⟨⟨⟨⟨hk2, by rw [decide_eq_false_iff_not]; omega⟩, by rw [decide_eq_false_iff_not]; omega⟩, by omega⟩, by omega⟩, by rw [IntKind.wrap_i64]; omega⟩, by unfold sl; omega⟩ (by rfl) rfl
end
end fc
end Go.Proofs.Ytiangelmpnnijaa
namespace Go.Proofs.Ytiangelmpnnijaa
open Go.ChangeShapes Go.WideShapes Go.ChangeAt Go.RowKit Go.Cln
namespace fc
open fr
set_option linter.unusedVariables false
noncomputable section
abbrev TE := List Int → Nat → Int
def FC (EC : TE) (f : FuncId) (args : List Value) (s : St) : Option (Inst × Nat) := if f == 22 then match args with
  | [.slice (some ⟨b, o, some 1⟩) n c] => match s.heap.get b with
    | some (.cells (.ints .u8 L) _) => match s.orc with
      | some false :: _ => some (⟨[(b, o)], 1, hI ((L.drop o).take n), [.slice (some ⟨0, 0, some 1⟩) n c], vE (EC ((L.drop o).take n) n), hE ((L.drop o).take n), EC = eF ∧ Byt ((L.drop o).take n) ∧ n = ((L.drop o).take n).length ∧ n ≤ c ∧ n ≤ 4000 ∧ ¬ okF ((L.drop o).take n) n⟩, 1)
      | some true :: some true :: _ => some (⟨[(b, o)], 1, hI ((L.drop o).take n), [.slice (some ⟨0, 0, some 1⟩) n c], vO ((L.drop o).take n) (.slice (some ⟨6, 0, some 1⟩) ((sz ((L.drop o).take n)).toNat - 19) ((sz ((L.drop o).take n)).toNat - 19)), hO ((L.drop o).take n) (bdy ((L.drop o).take n)),
          Byt ((L.drop o).take n) ∧ n = ((L.drop o).take n).length ∧ n ≤ c ∧ n ≤ 4000 ∧ okF ((L.drop o).take n) n ∧ 19 < sz ((L.drop o).take n)⟩, 2)
      | some true :: some false :: _ => some (⟨[(b, o)], 1, hI ((L.drop o).take n), [.slice (some ⟨0, 0, some 1⟩) n c], vO ((L.drop o).take n) (.slice (some ⟨5, 0, none⟩) 0 0), hZ ((L.drop o).take n),
          Byt ((L.drop o).take n) ∧ n = ((L.drop o).take n).length ∧ n ≤ c ∧ n ≤ 4000 ∧ okF ((L.drop o).take n) n ∧ sz ((L.drop o).take n) = 19⟩, 2)
      | _ => none
    | _ => none
  | _ => none else if f == 35 then match args with
  | [.slice (some ⟨b, o, some 1⟩) n c] => match s.heap.get b with
    | some (.cells (.ints .u8 L) _) => match s.orc with
      | some false :: _ => some (⟨[(b, o)], 1, hI ((L.drop o).take n), [.slice (some ⟨0, 0, some 1⟩) n c], vE (EC ((L.drop o).take n) n), hI ((L.drop o).take n), EC = eF ∧ Byt ((L.drop o).take n) ∧ n = ((L.drop o).take n).length ∧ ¬ okF ((L.drop o).take n) n⟩, 1)
      | some true :: _ => some (⟨[(b, o)], 1, hI ((L.drop o).take n), [.slice (some ⟨0, 0, some 1⟩) n c], vO ((L.drop o).take n) (.slice (some ⟨0, 19, some 1⟩) ((sz ((L.drop o).take n)).toNat - 19) (c - 19)), hI ((L.drop o).take n),
          Byt ((L.drop o).take n) ∧ n = ((L.drop o).take n).length ∧ n ≤ c ∧ okF ((L.drop o).take n) n⟩, 1)
      | _ => none
    | _ => none
  | _ => none else none
theorem FC_ok (EC : TE) (f : FuncId) (args : List Value) (s : St) (i : Inst) (k : Nat) (h : FC EC f args s = some (i, k)) : Fits s i args ∧ (i.ask → CallOk Try.prog f i.args i.s0 i.val i.s1) := by
  unfold FC at h
  split at h
  · rename_i hf
    have hf' : f = 22 := by simpa using hf
    subst hf'
    split at h
    · rename_i b o n c
      split at h
      · rename_i L tb hb
        split at h
        · cases h
          refine ⟨fitG hb rfl rfl rfl, fun ha => ?_⟩
          obtain ⟨rfl, q1, q2, q3, q4, q5⟩ := ha
          exact err9 _ n c q1 q2 q3 q4 q5
        · cases h
          refine ⟨fitG hb rfl rfl rfl, fun ha => ?_⟩
          obtain ⟨q1, q2, q3, q4, q5, q6⟩ := ha
          exact ok9 _ n c q1 q2 q3 q4 q5 q6
        · cases h
          refine ⟨fitG hb rfl rfl rfl, fun ha => ?_⟩
          obtain ⟨q1, q2, q3, q4, q5, q6⟩ := ha
          exact ok9z _ n c q1 q2 q3 q4 q5 q6
        · cases h
      · cases h
    · cases h
  · split at h
    · rename_i hf
      have hf' : f = 35 := by simpa using hf
      subst hf'
      split at h
      · rename_i b o n c
        split at h
        · rename_i L tb hb
          split at h
          · cases h
            refine ⟨fitG hb rfl rfl rfl, fun ha => ?_⟩
            obtain ⟨rfl, q1, q2, q3⟩ := ha
            exact err10 _ n c q1 q2 q3
          · cases h
            refine ⟨fitG hb rfl rfl rfl, fun ha => ?_⟩
            obtain ⟨q1, q2, q3, q4⟩ := ha
            exact ok10 _ n c q1 q2 q3 q4
          · cases h
        · cases h
      · cases h
    · cases h
end
end fc
end Go.Proofs.Ytiangelmpnnijaa
