/- Read off the code by the clean reading. -/
import Derived.Test.YtmgnpfapigenpabClnQc
import Derived.Test.YtmgnpfapigenpabRows
import Derived.WalkKit
import Derived.ProofKit
import Derived.Below
import Derived.IntWalk
set_option linter.unusedVariables false
set_option linter.unusedSimpArgs false
set_option linter.deprecated false
set_option maxRecDepth 100000
namespace Go.Proofs.Ytmgnpfapigenpab
open Go.ChangeShapes Go.WideShapes Go.ChangeAt Go.RowKit Go.Cln
namespace fr
set_option linter.unusedVariables false
theorem pg : PG Try.prog := PG.of (by decide +kernel)
theorem knownRuns : ((mk Try.prog Given.nothing 300).call 5 [] (St.start 0 .leaf [])).map (fun r => (r.1, r.2.obl)) = some (.bool true, True) := by kernel_rfl
theorem known (W : World) : Calls Try.prog 5 #[] W fun e w' => e = .returned (.bool true) ∧ Below W.heap.size W w' := ran pg (GivenOk.nothing _) knownRuns trivial rfl rfl W
noncomputable section
def KW : Given := { Given.one 5 (.bool true) with fits := true }
theorem KW_ok : GivenOk Try.prog KW := frames_fits (GivenOk.one (P := Try.prog) (f := 5) (v := .bool true) rfl known) true
def hI (L : List Int) : List (Option Ob) := [some (.cells (.ints .u8 L) 5)]
def rR (k : Int) (L : List Int) (n c : Nat) (o : List (Option Bool)) : Option (Value × St) := (mk Try.prog KW 300).call 3 [.int .i64 k, .slice (some ⟨0, 0, none⟩) n c] (smSt 1 (hI L) o)
def rC (L : List Int) (n c : Nat) (o : List (Option Bool)) : Option (Value × St) := (mk Try.prog KW 300).call 4 [.slice (some ⟨0, 0, none⟩) n c] (smSt 1 (hI L) o)
end
end fr
end Go.Proofs.Ytmgnpfapigenpab
namespace Go.Proofs.Ytmgnpfapigenpab
open Go.ChangeShapes Go.WideShapes Go.ChangeAt Go.RowKit Go.Cln
namespace fc
open fr
set_option linter.unusedVariables false
noncomputable section
def K0 : Given := { Given.nothing with fits := true }
theorem K0_ok : GivenOk Try.prog K0 := frames_fits (GivenOk.nothing _) true
def q (f : Nat) (W : List Int) (n c : Nat) (o : List (Option Bool)) : Option (Value × St) := (mk Try.prog K0 300).call f [.slice (some ⟨0, 0, none⟩) n c] (smSt 1 (hI W) o)
def qg (f : Nat) (W : List Int) (n c : Nat) (g : Option Nat) (o : List (Option Bool)) : Option (Value × St) := (mk Try.prog K0 300).call f [.slice (some ⟨0, 0, g⟩) n c] (smSt 1 (hI W) o)
end
end fc
end Go.Proofs.Ytmgnpfapigenpab
namespace Go.Proofs.Ytmgnpfapigenpab
open Go.ChangeShapes Go.WideShapes Go.ChangeAt Go.RowKit Go.Cln
namespace fc
open fr
set_option linter.unusedVariables false
noncomputable section
def Byt (L : List Int) : Prop := ∀ x ∈ L, 0 ≤ x ∧ x < 256
theorem byt_getD {L : List Int} (h : Byt L) (i : Nat) : 0 ≤ L.getD i 0 ∧ L.getD i 0 < 256 := by
  rw [List.getD_eq_getElem?_getD]
  by_cases hi : i < L.length
  · rw [List.getElem?_eq_getElem hi]; exact h _ (List.getElem_mem _)
  · rw [List.getElem?_eq_none (by omega)]; decide
theorem or8 {a b : Int} (ha : 0 ≤ a ∧ a < 256) (hb : 0 ≤ b ∧ b < 256) : orI .u16 (a * 256) (IntKind.u16.wrap b) = a * 256 + b := by
  have hw : IntKind.u16.wrap b = b := by rw [IntKind.wrap_u16]; omega
  rw [hw]
  unfold orI
  have e : (BitVec.ofInt IntKind.u16.bits (a * 256) ||| BitVec.ofInt IntKind.u16.bits b).toNat = a.toNat * 256 + b.toNat := by
    rw [BitVec.toNat_or]
    have e1 : (BitVec.ofInt IntKind.u16.bits (a * 256)).toNat = a.toNat <<< 8 := by
      rw [BitVec.toNat_ofInt, Nat.shiftLeft_eq]
      show (a * 256 % ((2 ^ 16 : Nat) : Int)).toNat = a.toNat * 2 ^ 8
      omega
    have e2 : (BitVec.ofInt IntKind.u16.bits b).toNat = b.toNat := by
      rw [BitVec.toNat_ofInt]
      show (b % ((2 ^ 16 : Nat) : Int)).toNat = b.toNat
      omega
    rw [e1, e2, ← Nat.shiftLeft_add_eq_or_of_lt (show b.toNat < 2 ^ 8 by omega), Nat.shiftLeft_eq]
  rw [e, IntKind.wrap_u16]
  omega
def n1 (x : Int) : Int := orI .u16 (IntKind.u16.wrap (0 * 2 ^ 8)) (IntKind.u16.wrap x)
def szv (W : List Int) : Int := IntKind.i64.wrap (orI .u16 (IntKind.u16.wrap (n1 (W.getD 16 0) * 2 ^ 8)) (IntKind.u16.wrap (W.getD 17 0)))
def kdv (W : List Int) : Int := IntKind.i64.wrap (IntKind.u8.wrap (n1 (W.getD 18 0)))
def szf (W : List Int) : Int := W.getD 16 0 * 256 + W.getD 17 0
theorem n1_eq {x : Int} (h : 0 ≤ x ∧ x < 256) : n1 x = x := by
  have := or8 (a := 0) (by omega) h
  unfold n1
  have e : IntKind.u16.wrap (0 * 2 ^ 8) = 0 * 256 := by rw [IntKind.wrap_u16]; omega
  rw [e, this]; omega
theorem szv_eq {W : List Int} (h : Byt W) : szv W = szf W := by
  have h1 := byt_getD h 16
  have h2 := byt_getD h 17
  unfold szv szf
  have e : IntKind.u16.wrap (W.getD 16 0 * 2 ^ 8) = W.getD 16 0 * 256 := by rw [IntKind.wrap_u16]; omega
  rw [n1_eq h1, e, or8 h1 h2, IntKind.wrap_i64]; omega
theorem kdv_eq {W : List Int} (h : Byt W) : kdv W = W.getD 18 0 := by
  have h1 := byt_getD h 18
  unfold kdv
  rw [n1_eq h1, IntKind.wrap_u8, IntKind.wrap_i64]; omega
def qs (f : Nat) (W : List Int) (c : Nat) (o : List (Option Bool)) : Option (Value × St) := (mk Try.prog K0 300).call f [.slice (some ⟨0, 0, some 1⟩) 19 c] (smSt 1 (hI W) o)
def sl (lo hi : Int) (c : Nat) : Prop := 0 ≤ hi ∧ hi ≤ (c : Int) ∧ 0 ≤ lo ∧ lo ≤ hi
theorem run15 (W : List Int) (c : Nat) : (qs 15 W c [some true, none, none, some true, none, none, none, none, some true]).map (fun r => (r.1, r.2.obl, r.2.next, keepL [true] r.2.heap.get 0)) =
    some (.int .i64 (szv W), ((True ∧ sl 16 18 c) ∧ 16 < W.length) ∧ 17 < W.length, (hI W).length, hI W) := by kernel_rfl
theorem run16 (W : List Int) (c : Nat) : (qs 16 W c [some true, none, none, some true]).map (fun r => (r.1, r.2.obl, r.2.next, keepL [true] r.2.heap.get 0)) =
    some (.int .i64 (kdv W), (True ∧ sl 18 19 c) ∧ 18 < W.length, (hI W).length, hI W) := by kernel_rfl
/-- the marks ahead of a place are right -/
def pm (W : List Int) (c : Nat) : Nat → Prop
  | 0 => True ∧ sl 0 16 c
  | j + 1 => (pm W c j ∧ j < W.length) ∧ (W.getD j 0 != 255) = false
def rn : Nat → List (Option Bool)
  | 0 => []
  | k + 1 => rn k ++ [none, none, some true, some false, none]
def o20 (i : Nat) : List (Option Bool) := some true :: (rn i ++ [none, none, some true, some true])
theorem m0 (W : List Int) (c : Nat) : (qs 20 W c (o20 0)).map (fun r => (r.1, r.2.obl, r.2.next, keepL [true] r.2.heap.get 0)) = some (.bool true, (pm W c 0 ∧ 0 < W.length) ∧ (W.getD 0 0 != 255) = true, (hI W).length, hI W) := by kernel_rfl
theorem m1 (W : List Int) (c : Nat) : (qs 20 W c (o20 1)).map (fun r => (r.1, r.2.obl, r.2.next, keepL [true] r.2.heap.get 0)) = some (.bool true, (pm W c 1 ∧ 1 < W.length) ∧ (W.getD 1 0 != 255) = true, (hI W).length, hI W) := by kernel_rfl
theorem m2 (W : List Int) (c : Nat) : (qs 20 W c (o20 2)).map (fun r => (r.1, r.2.obl, r.2.next, keepL [true] r.2.heap.get 0)) = some (.bool true, (pm W c 2 ∧ 2 < W.length) ∧ (W.getD 2 0 != 255) = true, (hI W).length, hI W) := by kernel_rfl
theorem m3 (W : List Int) (c : Nat) : (qs 20 W c (o20 3)).map (fun r => (r.1, r.2.obl, r.2.next, keepL [true] r.2.heap.get 0)) = some (.bool true, (pm W c 3 ∧ 3 < W.length) ∧ (W.getD 3 0 != 255) = true, (hI W).length, hI W) := by kernel_rfl
theorem m4 (W : List Int) (c : Nat) : (qs 20 W c (o20 4)).map (fun r => (r.1, r.2.obl, r.2.next, keepL [true] r.2.heap.get 0)) = some (.bool true, (pm W c 4 ∧ 4 < W.length) ∧ (W.getD 4 0 != 255) = true, (hI W).length, hI W) := by kernel_rfl
theorem m5 (W : List Int) (c : Nat) : (qs 20 W c (o20 5)).map (fun r => (r.1, r.2.obl, r.2.next, keepL [true] r.2.heap.get 0)) = some (.bool true, (pm W c 5 ∧ 5 < W.length) ∧ (W.getD 5 0 != 255) = true, (hI W).length, hI W) := by kernel_rfl
theorem m6 (W : List Int) (c : Nat) : (qs 20 W c (o20 6)).map (fun r => (r.1, r.2.obl, r.2.next, keepL [true] r.2.heap.get 0)) = some (.bool true, (pm W c 6 ∧ 6 < W.length) ∧ (W.getD 6 0 != 255) = true, (hI W).length, hI W) := by kernel_rfl
theorem m7 (W : List Int) (c : Nat) : (qs 20 W c (o20 7)).map (fun r => (r.1, r.2.obl, r.2.next, keepL [true] r.2.heap.get 0)) = some (.bool true, (pm W c 7 ∧ 7 < W.length) ∧ (W.getD 7 0 != 255) = true, (hI W).length, hI W) := by kernel_rfl
theorem m8 (W : List Int) (c : Nat) : (qs 20 W c (o20 8)).map (fun r => (r.1, r.2.obl, r.2.next, keepL [true] r.2.heap.get 0)) = some (.bool true, (pm W c 8 ∧ 8 < W.length) ∧ (W.getD 8 0 != 255) = true, (hI W).length, hI W) := by kernel_rfl
theorem m9 (W : List Int) (c : Nat) : (qs 20 W c (o20 9)).map (fun r => (r.1, r.2.obl, r.2.next, keepL [true] r.2.heap.get 0)) = some (.bool true, (pm W c 9 ∧ 9 < W.length) ∧ (W.getD 9 0 != 255) = true, (hI W).length, hI W) := by kernel_rfl
theorem m10 (W : List Int) (c : Nat) : (qs 20 W c (o20 10)).map (fun r => (r.1, r.2.obl, r.2.next, keepL [true] r.2.heap.get 0)) = some (.bool true, (pm W c 10 ∧ 10 < W.length) ∧ (W.getD 10 0 != 255) = true, (hI W).length, hI W) := by kernel_rfl
theorem m11 (W : List Int) (c : Nat) : (qs 20 W c (o20 11)).map (fun r => (r.1, r.2.obl, r.2.next, keepL [true] r.2.heap.get 0)) = some (.bool true, (pm W c 11 ∧ 11 < W.length) ∧ (W.getD 11 0 != 255) = true, (hI W).length, hI W) := by kernel_rfl
theorem m12 (W : List Int) (c : Nat) : (qs 20 W c (o20 12)).map (fun r => (r.1, r.2.obl, r.2.next, keepL [true] r.2.heap.get 0)) = some (.bool true, (pm W c 12 ∧ 12 < W.length) ∧ (W.getD 12 0 != 255) = true, (hI W).length, hI W) := by kernel_rfl
theorem m13 (W : List Int) (c : Nat) : (qs 20 W c (o20 13)).map (fun r => (r.1, r.2.obl, r.2.next, keepL [true] r.2.heap.get 0)) = some (.bool true, (pm W c 13 ∧ 13 < W.length) ∧ (W.getD 13 0 != 255) = true, (hI W).length, hI W) := by kernel_rfl
theorem m14 (W : List Int) (c : Nat) : (qs 20 W c (o20 14)).map (fun r => (r.1, r.2.obl, r.2.next, keepL [true] r.2.heap.get 0)) = some (.bool true, (pm W c 14 ∧ 14 < W.length) ∧ (W.getD 14 0 != 255) = true, (hI W).length, hI W) := by kernel_rfl
theorem m15 (W : List Int) (c : Nat) : (qs 20 W c (o20 15)).map (fun r => (r.1, r.2.obl, r.2.next, keepL [true] r.2.heap.get 0)) = some (.bool true, (pm W c 15 ∧ 15 < W.length) ∧ (W.getD 15 0 != 255) = true, (hI W).length, hI W) := by kernel_rfl
theorem m16 (W : List Int) (c : Nat) : (qs 20 W c (some true :: rn 16)).map (fun r => (r.1, r.2.obl, r.2.next, keepL [true] r.2.heap.get 0)) = some (.bool false, pm W c 16, (hI W).length, hI W) := by kernel_rfl
/-- how many marks are right -/
def mkN (W : List Int) : Nat → Nat
  | 0 => 0
  | k + 1 => if W.getD (15 - k) 0 = 255 then mkN W k + 1 else 0
end
end fc
end Go.Proofs.Ytmgnpfapigenpab
namespace Go.Proofs.Ytmgnpfapigenpab
open Go.ChangeShapes Go.WideShapes Go.ChangeAt Go.RowKit Go.Cln
namespace fc
open fr
set_option linter.unusedVariables false
noncomputable section
theorem mAll (W : List Int) (c : Nat) : ∀ i, i < 16 → (qs 20 W c (o20 i)).map (fun r => (r.1, r.2.obl, r.2.next, keepL [true] r.2.heap.get 0)) = some (.bool true, (pm W c i ∧ i < W.length) ∧ (W.getD i 0 != 255) = true, (hI W).length, hI W)
  | 0, _ => m0 W c
  | 1, _ => m1 W c
  | 2, _ => m2 W c
  | 3, _ => m3 W c
  | 4, _ => m4 W c
  | 5, _ => m5 W c
  | 6, _ => m6 W c
  | 7, _ => m7 W c
  | 8, _ => m8 W c
  | 9, _ => m9 W c
  | 10, _ => m10 W c
  | 11, _ => m11 W c
  | 12, _ => m12 W c
  | 13, _ => m13 W c
  | 14, _ => m14 W c
  | 15, _ => m15 W c
  | n + 16, h => absurd h (by omega)
def mkB (W : List Int) : Bool := (List.range 16).any fun j => W.getD j 0 != 255
theorem first (W : List Int) : ∀ k, (∀ j, j < k → W.getD j 0 = 255) ∨ ∃ i, i < k ∧ (∀ j, j < i → W.getD j 0 = 255) ∧ W.getD i 0 ≠ 255
  | 0 => .inl fun j h => by omega
  | k + 1 => by
    rcases first W k with h | ⟨i, h1, h2, h3⟩
    · by_cases hk : W.getD k 0 = 255
      · refine .inl fun j hj => ?_
        by_cases e : j = k
        · rw [e]; exact hk
        · exact h j (by omega)
      · exact .inr ⟨k, by omega, h, hk⟩
    · exact .inr ⟨i, by omega, h2, h3⟩
theorem pm_of {W : List Int} {c : Nat} (hs : sl 0 16 c) : ∀ i, i ≤ W.length → (∀ j, j < i → W.getD j 0 = 255) → pm W c i
  | 0, _, _ => ⟨trivial, hs⟩
  | i + 1, h1, h2 => ⟨⟨pm_of hs i (by omega) fun j hj => h2 j (by omega), by omega⟩, by rw [h2 i (by omega)]; rfl⟩
theorem mark_ok (W : List Int) (c : Nat) (h : W.length = 19) (hc : 19 ≤ c) : CallOk Try.prog 20 [.slice (some ⟨0, 0, some 1⟩) 19 c] (smSt 1 (hI W) []) (.bool (mkB W)) (smSt 1 (hI W) []) := by
  have hs : sl 0 16 c := by unfold sl; omega
  rcases first W 16 with h1 | ⟨i, h1, h2, h3⟩
  · have e : mkB W = false := by
      unfold mkB
      rw [List.any_eq_false]
      intro j hj
      have := h1 j (List.mem_range.1 hj)
      simpa using this
    rw [e]
    exact frame_by pg K0_ok _ (m16 W c) (pm_of hs 16 (by omega) h1) (by rfl) rfl
  · have e : mkB W = true := by
      unfold mkB
      rw [List.any_eq_true]
      exact ⟨i, List.mem_range.2 h1, by simpa using h3⟩
    rw [e]
    exact frame_by pg K0_ok _ (mAll W c i h1) ⟨⟨pm_of hs i (by omega) h2, by omega⟩, by simpa using h3⟩ (by rfl) rfl
theorem size_ok (W : List Int) (c : Nat) (hB : Byt W) (h : W.length = 19) (hc : 19 ≤ c) : CallOk Try.prog 15 [.slice (some ⟨0, 0, some 1⟩) 19 c] (smSt 1 (hI W) []) (.int .i64 (szf W)) (smSt 1 (hI W) []) := by
  have := frame_by pg K0_ok _ (run15 W c) ⟨⟨⟨trivial, by unfold sl; omega⟩, by omega⟩, by omega⟩ (by rfl) rfl
  rw [szv_eq hB] at this; exact this
theorem kind_ok (W : List Int) (c : Nat) (hB : Byt W) (h : W.length = 19) (hc : 19 ≤ c) : CallOk Try.prog 16 [.slice (some ⟨0, 0, some 1⟩) 19 c] (smSt 1 (hI W) []) (.int .i64 (W.getD 18 0)) (smSt 1 (hI W) []) := by
  have := frame_by pg K0_ok _ (run16 W c) ⟨⟨trivial, by unfold sl; omega⟩, by omega⟩ (by rfl) rfl
  rw [kdv_eq hB] at this; exact this
abbrev TB := List Int → Bool
abbrev TI := List Int → Int
def kdf (W : List Int) : Int := W.getD 18 0
def FM (MK : TB) (SZ KD : TI) (f : FuncId) (args : List Value) (s : St) : Option Inst := if f == 20 || f == 15 || f == 16 then match args with
  | [.slice (some ⟨b, o, some 1⟩) n c] => match s.heap.get b with
    | some (.cells (.ints .u8 L) _) => some ⟨[(b, o)], 1, hI ((L.drop o).take 19), [.slice (some ⟨0, 0, some 1⟩) n c],
        if f == 20 then .bool (MK ((L.drop o).take 19)) else if f == 15 then .int .i64 (SZ ((L.drop o).take 19)) else .int .i64 (KD ((L.drop o).take 19)), hI ((L.drop o).take 19),
        (MK = mkB ∧ SZ = szf ∧ KD = kdf) ∧ Byt ((L.drop o).take 19) ∧ ((L.drop o).take 19).length = 19 ∧ n = 19 ∧ 19 ≤ c⟩
    | _ => none
  | _ => none else none
theorem fitG {s : St} {b o k : Nat} {L : List Int} {tb : TypeId} {g : Option Nat} {n c : Nat} {i : Inst} (hb : s.heap.get b = some (.cells (.ints .u8 L) tb)) (hw : i.win = [(b, o)]) (hh : i.heap = hI ((L.drop o).take k)) (ha : i.args = [.slice (some ⟨0, 0, g⟩) n c]) :
    Fits s i [.slice (some ⟨b, o, g⟩) n c] := by
  refine ⟨?_, fun j pp ob h1 h2 => ?_⟩
  · rw [ha]
    have e1 : i.nu s.next 0 = b := by unfold Inst.nu; rw [hw]; rfl
    have e2 : i.del 0 = o := by unfold Inst.del; rw [hw]; rfl
    show [Value.slice (some ⟨b, o, g⟩) n c] = [Value.slice (some ⟨i.nu s.next 0, addO (i.del 0) 0, g⟩) n c]
    rw [e1, e2, addO_eq]; rfl
  · rw [hw] at h1
    rw [hh] at h2
    rcases j with _ | j
    · simp only [List.getElem?_cons_zero, Option.some.injEq] at h1
      subst h1
      simp only [hI, List.getElem?_cons_zero, Option.some.injEq] at h2
      subst h2
      exact ⟨_, hb, fit_ints⟩
    · simp at h1
theorem FM_ok (MK : TB) (SZ KD : TI) (f : FuncId) (args : List Value) (s : St) (i : Inst) (h : FM MK SZ KD f args s = some i) : Fits s i args ∧ (i.ask → CallOk Try.prog f i.args i.s0 i.val i.s1) := by
  unfold FM at h
  split at h
  · rename_i hf
    have hf' : f = 20 ∨ f = 15 ∨ f = 16 := by
      simp only [Bool.or_eq_true, beq_iff_eq] at hf
      rcases hf with (h | h) | h
      · exact .inl h
      · exact .inr (.inl h)
      · exact .inr (.inr h)
    split at h
    · rename_i b o n c
      split at h
      · rename_i L tb hb
        cases h
        refine ⟨fitG hb rfl rfl rfl, fun ha => ?_⟩
        obtain ⟨⟨rfl, rfl, rfl⟩, q1, q2, rfl, q4⟩ := ha
        rcases hf' with rfl | rfl | rfl
        · exact mark_ok _ c q2 q4
        · exact size_ok _ c q1 q2 q4
        · exact kind_ok _ c q1 q2 q4
      · cases h
    · cases h
  · cases h
def KM (MK : TB) (SZ KD : TI) : Given := { Given.frames Given.nothing (FM MK SZ KD) with fits := true }
theorem KM_ok (MK : TB) (SZ KD : TI) : GivenOk Try.prog (KM MK SZ KD) := frames_fits ((GivenOk.nothing _).frames (FM_ok MK SZ KD)) true
def r9 (MK : TB) (SZ KD : TI) (L : List Int) (n c : Nat) (o : List (Option Bool)) : Option (Value × St) := (mk Try.prog (KM MK SZ KD) 300).call 9 [.slice (some ⟨0, 0, some 1⟩) n c] (smSt 1 (hI L) o)
def r10 (L : List Int) (n c : Nat) (o : List (Option Bool)) : Option (Value × St) := (mk Try.prog K0 300).call 10 [.slice (some ⟨0, 0, none⟩) n c] (smSt 1 (hI L) o)
end
end fc
end Go.Proofs.Ytmgnpfapigenpab
