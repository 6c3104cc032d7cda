/- Read off the code by the clean reading. -/
import Derived.Test.YteknepfcbpoooabClnSf
set_option linter.unusedVariables false
set_option linter.unusedSimpArgs false
set_option linter.deprecated false
set_option maxRecDepth 100000
namespace Go.Proofs.Yteknepfcbpoooab
open Go.ChangeShapes Go.WideShapes Go.ChangeAt Go.RowKit Go.Cln
namespace su
open sd se.rr sf st
set_option linter.unusedVariables false
noncomputable section
def FX (f : FuncId) (args : List Value) (s : St) : Option Inst := match F33 f args s with
  | some i => some i
  | none => F11 f args s
theorem F11_ok (f : FuncId) (args : List Value) (s : St) (i : Inst) (h : F11 f args s = some i) : Fits s i args ∧ (i.ask → CallOk Try.prog f i.args i.s0 i.val i.s1) := by
  unfold F11 at h
  split at h
  · rename_i hf
    have hf' : f = 11 := by simpa using hf
    subst hf'
    split at h
    · cases h
      exact ⟨⟨rfl, fun j p ob hp ho => by simp at hp⟩, fun _ => sh.works_ok⟩
    · cases h
  · cases h
theorem FX_ok (f : FuncId) (args : List Value) (s : St) (i : Inst) (h : FX f args s = some i) : Fits s i args ∧ (i.ask → CallOk Try.prog f i.args i.s0 i.val i.s1) := by
  unfold FX at h
  split at h
  · rename_i j h1
    cases h; exact F33_ok f args s _ h1
  · exact F11_ok f args s _ h
def KX : Given := { Given.framesO (Given.frames Given.nothing FX) FO with fits := true }
theorem KX_ok : GivenOk Try.prog KX := frames_fits (((GivenOk.nothing _).frames FX_ok).framesO FO_ok) true
def vA (k : Nat) (n c : Nat) : Value := .slice (some ⟨k, 0, none⟩) n c
def obI (L : List Int) : Option Ob := some (.cells (.ints .u8 L) 5)
def rT (x y : Value) (l : List (Option Ob)) (o : List (Option Bool)) : Option (Value × St) := (mk Try.prog KX 300).call 8 [x, y] (smSt l.length l o)
end
end su
end Go.Proofs.Yteknepfcbpoooab
namespace Go.Proofs.Yteknepfcbpoooab
open Go.ChangeShapes Go.WideShapes Go.ChangeAt Go.RowKit Go.Cln
namespace su
open sd se.rr sf st
set_option linter.unusedVariables false
noncomputable section
theorem car_two {x y : Int} (hx : 0 ≤ x) (hy : 0 ≤ y) : sc.car (sc.car x + sc.car y) = sc.car (x + y) := by
  rw [car_add hx (car_b y).1, Int.add_comm, car_add hy hx, Int.add_comm]
theorem car0 : sc.car 0 = 0 := rfl
def le (n : Nat) : Nat := ((n : Int) - (n : Int).tmod 2).toNat - Int.toNat 0
def oo : Nat := 0 + Int.toNat 0 * 1
theorem le_eq (n : Nat) : le n = n - n % 2 := by
  unfold le
  rw [Int.tmod_eq_emod_of_nonneg (by omega)]; omega
theorem full_of {L : List Int} {n : Nat} (hB : Byt L) (hn : L.length = n) (h2 : 2 ≤ n) (h3 : n ≤ 300) : Full (cut L oo (le n)) (le n) := by
  have e := le_eq n
  refine ⟨fun x hx => hB x ?_, by omega, ?_, by omega, by omega⟩
  · unfold cut at hx
    exact List.mem_of_mem_drop (List.mem_of_mem_take hx)
  · unfold cut oo
    simp; omega
theorem emp_of {n : Nat} (h : n ≤ 1) : le n = 0 := by rw [le_eq]; omega
def pFF (La Lb : List Int) (n c m d : Nat) : Prop := ((((((((((((((((((True ∧ (decide (300 < (n : Int)) = false)) ∧ (decide (300 < (m : Int)) = false)) ∧ (IntKind.i64.wrap (((n : Int) - ((n : Int)).tmod 2)) = (n : Int) - ((n : Int)).tmod 2)) ∧ (0 ≤ (n : Int) - ((n : Int)).tmod 2 ∧ (n : Int) - ((n : Int)).tmod 2 ≤ (c : Int) ∧ (0 : Int) ≤ 0 ∧ 0 ≤ (n : Int) - ((n : Int)).tmod 2)) ∧ (IntKind.i64.wrap (((m : Int) - ((m : Int)).tmod 2)) = (m : Int) - ((m : Int)).tmod 2)) ∧ (0 ≤ (m : Int) - ((m : Int)).tmod 2 ∧ (m : Int) - ((m : Int)).tmod 2 ≤ (d : Int) ∧ (0 : Int) ≤ 0 ∧ 0 ≤ (m : Int) - ((m : Int)).tmod 2)) ∧ (Full (cut La oo (le n)) (le n) ∧ Full (cut Lb oo (le m)) (le m) ∧ True)) ∧ (Full (cut Lb oo (le m)) (le m) ∧ Full (cut La oo (le n)) (le n) ∧ True)) ∧ (decide (sc.car (wsum (cut La oo (le n)) + wsum (cut Lb oo (le m))) = sc.car (wsum (cut Lb oo (le m)) + wsum (cut La oo (le n)))) = true)) ∧ (Full (cut La oo (le n)) (le n) ∧ Full (cut Lb oo (le m)) (le m) ∧ True)) ∧ (Full (cut La oo (le n)) (le n))) ∧ (Full (cut Lb oo (le m)) (le m))) ∧ (IntKind.u64.wrap (sc.car (wsum (cut La oo (le n)))) = sc.car (wsum (cut La oo (le n))))) ∧ (IntKind.u64.wrap (sc.car (wsum (cut Lb oo (le m)))) = sc.car (wsum (cut Lb oo (le m))))) ∧ (IntKind.u64.wrap (sc.car (wsum (cut La oo (le n))) + sc.car (wsum (cut Lb oo (le m)))) = sc.car (wsum (cut La oo (le n))) + sc.car (wsum (cut Lb oo (le m))))) ∧ (0 ≤ sc.car (wsum (cut La oo (le n))) + sc.car (wsum (cut Lb oo (le m))) ∧ sc.car (wsum (cut La oo (le n))) + sc.car (wsum (cut Lb oo (le m))) < 18446744073709551616)) ∧ (decide (sc.car (wsum (cut La oo (le n)) + wsum (cut Lb oo (le m))) = sc.car (sc.car (wsum (cut La oo (le n))) + sc.car (wsum (cut Lb oo (le m))))) = true)) ∧ (True))
theorem runFF (La Lb : List Int) (n c m d : Nat) : (rT (vA 0 n c) (vA 1 m d) [obI La, obI Lb] [some false, none, none, none, some false, some true, some true, some true, some true, some true, some true, some true, some true, some true, none, none, none, some true, some true, none, none, none, some true, none, none, none, some true, none, some true, some true, some true, none, none, some true]).map (fun r => (r.1, r.2.obl)) = some (.bool true, pFF La Lb n c m d) := by kernel_rfl
def pSF (La Lb : List Int) (n c m d : Nat) : Prop := (((((((((((((((((True ∧ (decide (300 < (n : Int)) = false)) ∧ (decide (300 < (m : Int)) = false)) ∧ (IntKind.i64.wrap (((n : Int) - ((n : Int)).tmod 2)) = (n : Int) - ((n : Int)).tmod 2)) ∧ (0 ≤ (n : Int) - ((n : Int)).tmod 2 ∧ (n : Int) - ((n : Int)).tmod 2 ≤ (c : Int) ∧ (0 : Int) ≤ 0 ∧ 0 ≤ (n : Int) - ((n : Int)).tmod 2)) ∧ (IntKind.i64.wrap (((m : Int) - ((m : Int)).tmod 2)) = (m : Int) - ((m : Int)).tmod 2)) ∧ (0 ≤ (m : Int) - ((m : Int)).tmod 2 ∧ (m : Int) - ((m : Int)).tmod 2 ≤ (d : Int) ∧ (0 : Int) ≤ 0 ∧ 0 ≤ (m : Int) - ((m : Int)).tmod 2)) ∧ (le n = 0 ∧ Full (cut Lb oo (le m)) (le m) ∧ True)) ∧ (Full (cut Lb oo (le m)) (le m) ∧ le n = 0 ∧ True)) ∧ (decide (sc.car (wsum (cut Lb oo (le m))) = sc.car (wsum (cut Lb oo (le m)))) = true)) ∧ (le n = 0 ∧ Full (cut Lb oo (le m)) (le m) ∧ True)) ∧ (le n = 0)) ∧ (Full (cut Lb oo (le m)) (le m))) ∧ (IntKind.u64.wrap (sc.car (wsum (cut Lb oo (le m)))) = sc.car (wsum (cut Lb oo (le m))))) ∧ (IntKind.u64.wrap (IntKind.u64.wrap (sc.car 0) + sc.car (wsum (cut Lb oo (le m)))) = IntKind.u64.wrap (sc.car 0) + sc.car (wsum (cut Lb oo (le m))))) ∧ (0 ≤ IntKind.u64.wrap (sc.car 0) + sc.car (wsum (cut Lb oo (le m))) ∧ IntKind.u64.wrap (sc.car 0) + sc.car (wsum (cut Lb oo (le m))) < 18446744073709551616)) ∧ (decide (sc.car (wsum (cut Lb oo (le m))) = sc.car (IntKind.u64.wrap (sc.car 0) + sc.car (wsum (cut Lb oo (le m))))) = true)) ∧ (True))
theorem runSF (La Lb : List Int) (n c m d : Nat) : (rT (vA 0 n c) (vA 1 m d) [none, obI Lb] [some false, none, none, none, some false, some true, some true, some true, some true, some false, some true, some true, some false, some true, none, none, none, some false, some true, none, none, none, some false, none, none, none, some true, none, none, some true, some true, none, none, some true]).map (fun r => (r.1, r.2.obl)) = some (.bool true, pSF La Lb n c m d) := by kernel_rfl
def pFS (La Lb : List Int) (n c m d : Nat) : Prop := (((((((((((((((((True ∧ (decide (300 < (n : Int)) = false)) ∧ (decide (300 < (m : Int)) = false)) ∧ (IntKind.i64.wrap (((n : Int) - ((n : Int)).tmod 2)) = (n : Int) - ((n : Int)).tmod 2)) ∧ (0 ≤ (n : Int) - ((n : Int)).tmod 2 ∧ (n : Int) - ((n : Int)).tmod 2 ≤ (c : Int) ∧ (0 : Int) ≤ 0 ∧ 0 ≤ (n : Int) - ((n : Int)).tmod 2)) ∧ (IntKind.i64.wrap (((m : Int) - ((m : Int)).tmod 2)) = (m : Int) - ((m : Int)).tmod 2)) ∧ (0 ≤ (m : Int) - ((m : Int)).tmod 2 ∧ (m : Int) - ((m : Int)).tmod 2 ≤ (d : Int) ∧ (0 : Int) ≤ 0 ∧ 0 ≤ (m : Int) - ((m : Int)).tmod 2)) ∧ (Full (cut La oo (le n)) (le n) ∧ le m = 0 ∧ True)) ∧ (le m = 0 ∧ Full (cut La oo (le n)) (le n) ∧ True)) ∧ (decide (sc.car (wsum (cut La oo (le n))) = sc.car (wsum (cut La oo (le n)))) = true)) ∧ (Full (cut La oo (le n)) (le n) ∧ le m = 0 ∧ True)) ∧ (Full (cut La oo (le n)) (le n))) ∧ (le m = 0)) ∧ (IntKind.u64.wrap (sc.car (wsum (cut La oo (le n)))) = sc.car (wsum (cut La oo (le n))))) ∧ (IntKind.u64.wrap (sc.car (wsum (cut La oo (le n))) + IntKind.u64.wrap (sc.car 0)) = sc.car (wsum (cut La oo (le n))) + IntKind.u64.wrap (sc.car 0))) ∧ (0 ≤ sc.car (wsum (cut La oo (le n))) + IntKind.u64.wrap (sc.car 0) ∧ sc.car (wsum (cut La oo (le n))) + IntKind.u64.wrap (sc.car 0) < 18446744073709551616)) ∧ (decide (sc.car (wsum (cut La oo (le n))) = sc.car (sc.car (wsum (cut La oo (le n))) + IntKind.u64.wrap (sc.car 0))) = true)) ∧ (True))
theorem runFS (La Lb : List Int) (n c m d : Nat) : (rT (vA 0 n c) (vA 1 m d) [obI La, none] [some false, none, none, none, some false, some true, some true, some true, some true, some true, some false, some false, some true, some true, none, none, none, some true, some false, none, none, none, some true, none, none, none, some false, none, some true, none, some true, none, none, some true]).map (fun r => (r.1, r.2.obl)) = some (.bool true, pFS La Lb n c m d) := by kernel_rfl
def pNF (La Lb : List Int) (n c m d : Nat) : Prop := ((((((((((((((True ∧ (decide (300 < (m : Int)) = false)) ∧ (IntKind.i64.wrap (((m : Int) - ((m : Int)).tmod 2)) = (m : Int) - ((m : Int)).tmod 2)) ∧ (0 ≤ (m : Int) - ((m : Int)).tmod 2 ∧ (m : Int) - ((m : Int)).tmod 2 ≤ (d : Int) ∧ (0 : Int) ≤ 0 ∧ 0 ≤ (m : Int) - ((m : Int)).tmod 2)) ∧ (Full (cut Lb oo (le m)) (le m) ∧ True)) ∧ (Full (cut Lb oo (le m)) (le m) ∧ True)) ∧ (decide (sc.car (wsum (cut Lb oo (le m))) = sc.car (wsum (cut Lb oo (le m)))) = true)) ∧ (Full (cut Lb oo (le m)) (le m) ∧ True)) ∧ (True)) ∧ (Full (cut Lb oo (le m)) (le m))) ∧ (IntKind.u64.wrap (sc.car (wsum (cut Lb oo (le m)))) = sc.car (wsum (cut Lb oo (le m))))) ∧ (IntKind.u64.wrap (IntKind.u64.wrap (sc.car 0) + sc.car (wsum (cut Lb oo (le m)))) = IntKind.u64.wrap (sc.car 0) + sc.car (wsum (cut Lb oo (le m))))) ∧ (0 ≤ IntKind.u64.wrap (sc.car 0) + sc.car (wsum (cut Lb oo (le m))) ∧ IntKind.u64.wrap (sc.car 0) + sc.car (wsum (cut Lb oo (le m))) < 18446744073709551616)) ∧ (decide (sc.car (wsum (cut Lb oo (le m))) = sc.car (IntKind.u64.wrap (sc.car 0) + sc.car (wsum (cut Lb oo (le m))))) = true)) ∧ (True))
theorem runNF (La Lb : List Int) (n c m d : Nat) : (rT (.slice none 0 0) (vA 0 m d) [obI Lb] [none, none, none, none, some false, none, some true, some true, some true, some true, some true, none, none, none, some true, none, none, none, none, none, none, some true, none, none, some true, some true, none, none, some true]).map (fun r => (r.1, r.2.obl)) = some (.bool true, pNF La Lb n c m d) := by kernel_rfl
def pNN (La Lb : List Int) (n c m d : Nat) : Prop := (((((((True ∧ (True)) ∧ (True)) ∧ (True)) ∧ (True)) ∧ (True)) ∧ (0 ≤ IntKind.u64.wrap (IntKind.u64.wrap (sc.car 0) + IntKind.u64.wrap (sc.car 0)) ∧ IntKind.u64.wrap (IntKind.u64.wrap (sc.car 0) + IntKind.u64.wrap (sc.car 0)) < 18446744073709551616)) ∧ (True))
theorem runNN (La Lb : List Int) (n c m d : Nat) : (rT (.slice none 0 0) (.slice none 0 0) [] []).map (fun r => (r.1, r.2.obl)) = some (.bool true, pNN La Lb n c m d) := by kernel_rfl
def pSS (La Lb : List Int) (n c m d : Nat) : Prop := (((((((((((((True ∧ (decide (300 < (n : Int)) = false)) ∧ (decide (300 < (m : Int)) = false)) ∧ (IntKind.i64.wrap (((n : Int) - ((n : Int)).tmod 2)) = (n : Int) - ((n : Int)).tmod 2)) ∧ (0 ≤ (n : Int) - ((n : Int)).tmod 2 ∧ (n : Int) - ((n : Int)).tmod 2 ≤ (c : Int) ∧ (0 : Int) ≤ 0 ∧ 0 ≤ (n : Int) - ((n : Int)).tmod 2)) ∧ (IntKind.i64.wrap (((m : Int) - ((m : Int)).tmod 2)) = (m : Int) - ((m : Int)).tmod 2)) ∧ (0 ≤ (m : Int) - ((m : Int)).tmod 2 ∧ (m : Int) - ((m : Int)).tmod 2 ≤ (d : Int) ∧ (0 : Int) ≤ 0 ∧ 0 ≤ (m : Int) - ((m : Int)).tmod 2)) ∧ (le n = 0 ∧ le m = 0 ∧ True)) ∧ (le m = 0 ∧ le n = 0 ∧ True)) ∧ (le n = 0 ∧ le m = 0 ∧ True)) ∧ (le n = 0)) ∧ (le m = 0)) ∧ (0 ≤ IntKind.u64.wrap (IntKind.u64.wrap (sc.car 0) + IntKind.u64.wrap (sc.car 0)) ∧ IntKind.u64.wrap (IntKind.u64.wrap (sc.car 0) + IntKind.u64.wrap (sc.car 0)) < 18446744073709551616)) ∧ (True))
theorem runSS (La Lb : List Int) (n c m d : Nat) : (rT (vA 0 n c) (vA 1 m d) [none, none] [some false, none, none, none, some false, some true, some true, some true, some true, some false, some false, some false, some false, none, none, none, none, some false, some false, none, none, none, some false, none, none, none, some false]).map (fun r => (r.1, r.2.obl)) = some (.bool true, pSS La Lb n c m d) := by kernel_rfl
def pNS (La Lb : List Int) (n c m d : Nat) : Prop := ((((((((((True ∧ (decide (300 < (m : Int)) = false)) ∧ (IntKind.i64.wrap (((m : Int) - ((m : Int)).tmod 2)) = (m : Int) - ((m : Int)).tmod 2)) ∧ (0 ≤ (m : Int) - ((m : Int)).tmod 2 ∧ (m : Int) - ((m : Int)).tmod 2 ≤ (d : Int) ∧ (0 : Int) ≤ 0 ∧ 0 ≤ (m : Int) - ((m : Int)).tmod 2)) ∧ (le m = 0 ∧ True)) ∧ (le m = 0 ∧ True)) ∧ (le m = 0 ∧ True)) ∧ (True)) ∧ (le m = 0)) ∧ (0 ≤ IntKind.u64.wrap (IntKind.u64.wrap (sc.car 0) + IntKind.u64.wrap (sc.car 0)) ∧ IntKind.u64.wrap (IntKind.u64.wrap (sc.car 0) + IntKind.u64.wrap (sc.car 0)) < 18446744073709551616)) ∧ (True))
theorem runNS (La Lb : List Int) (n c m d : Nat) : (rT (.slice none 0 0) (vA 0 m d) [none] [none, none, none, none, some false, none, some true, some true, some false, some false, none, none, none, none, some false, none, none, none, none, none, none, some false]).map (fun r => (r.1, r.2.obl)) = some (.bool true, pNS La Lb n c m d) := by kernel_rfl
def pSN (La Lb : List Int) (n c m d : Nat) : Prop := ((((((((((True ∧ (decide (300 < (n : Int)) = false)) ∧ (IntKind.i64.wrap (((n : Int) - ((n : Int)).tmod 2)) = (n : Int) - ((n : Int)).tmod 2)) ∧ (0 ≤ (n : Int) - ((n : Int)).tmod 2 ∧ (n : Int) - ((n : Int)).tmod 2 ≤ (c : Int) ∧ (0 : Int) ≤ 0 ∧ 0 ≤ (n : Int) - ((n : Int)).tmod 2)) ∧ (le n = 0 ∧ True)) ∧ (le n = 0 ∧ True)) ∧ (le n = 0 ∧ True)) ∧ (le n = 0)) ∧ (True)) ∧ (0 ≤ IntKind.u64.wrap (IntKind.u64.wrap (sc.car 0) + IntKind.u64.wrap (sc.car 0)) ∧ IntKind.u64.wrap (IntKind.u64.wrap (sc.car 0) + IntKind.u64.wrap (sc.car 0)) < 18446744073709551616)) ∧ (True))
theorem runSN (La Lb : List Int) (n c m d : Nat) : (rT (vA 0 n c) (.slice none 0 0) [none] [some false, none, none, none, none, some true, some true, none, some false, some false, none, none, none, none, some false, none, none, none, some false]).map (fun r => (r.1, r.2.obl)) = some (.bool true, pSN La Lb n c m d) := by kernel_rfl
def pFN (La Lb : List Int) (n c m d : Nat) : Prop := ((((((((((((((True ∧ (decide (300 < (n : Int)) = false)) ∧ (IntKind.i64.wrap (((n : Int) - ((n : Int)).tmod 2)) = (n : Int) - ((n : Int)).tmod 2)) ∧ (0 ≤ (n : Int) - ((n : Int)).tmod 2 ∧ (n : Int) - ((n : Int)).tmod 2 ≤ (c : Int) ∧ (0 : Int) ≤ 0 ∧ 0 ≤ (n : Int) - ((n : Int)).tmod 2)) ∧ (Full (cut La oo (le n)) (le n) ∧ True)) ∧ (Full (cut La oo (le n)) (le n) ∧ True)) ∧ (decide (sc.car (wsum (cut La oo (le n))) = sc.car (wsum (cut La oo (le n)))) = true)) ∧ (Full (cut La oo (le n)) (le n) ∧ True)) ∧ (Full (cut La oo (le n)) (le n))) ∧ (True)) ∧ (IntKind.u64.wrap (sc.car (wsum (cut La oo (le n)))) = sc.car (wsum (cut La oo (le n))))) ∧ (IntKind.u64.wrap (sc.car (wsum (cut La oo (le n))) + IntKind.u64.wrap (sc.car 0)) = sc.car (wsum (cut La oo (le n))) + IntKind.u64.wrap (sc.car 0))) ∧ (0 ≤ sc.car (wsum (cut La oo (le n))) + IntKind.u64.wrap (sc.car 0) ∧ sc.car (wsum (cut La oo (le n))) + IntKind.u64.wrap (sc.car 0) < 18446744073709551616)) ∧ (decide (sc.car (wsum (cut La oo (le n))) = sc.car (sc.car (wsum (cut La oo (le n))) + IntKind.u64.wrap (sc.car 0))) = true)) ∧ (True))
theorem runFN (La Lb : List Int) (n c m d : Nat) : (rT (vA 0 n c) (.slice none 0 0) [obI La] [some false, none, none, none, none, some true, some true, none, some true, some true, some true, none, none, none, some true, none, none, none, some true, none, none, none, none, some true, none, some true, none, none, some true]).map (fun r => (r.1, r.2.obl)) = some (.bool true, pFN La Lb n c m d) := by kernel_rfl
end
end su
end Go.Proofs.Yteknepfcbpoooab
namespace Go.Proofs.Yteknepfcbpoooab
open Go.ChangeShapes Go.WideShapes Go.ChangeAt Go.RowKit Go.Cln
namespace su
open sd se.rr sf st
set_option linter.unusedVariables false
noncomputable section
theorem runB1 (x : Nat) (n c : Nat) (y : Value) : True := trivial
theorem runBN (n c : Nat) : (rT (vA 0 n c) (.slice none 0 0) [none] [some true]).map (fun r => (r.1, r.2.obl)) = some (.bool true, (True ∧ decide (300 < (n : Int)) = true) ∧ True) := by kernel_rfl
theorem runBS (n c m d : Nat) : (rT (vA 0 n c) (vA 1 m d) [none, none] [some true]).map (fun r => (r.1, r.2.obl)) = some (.bool true, (True ∧ decide (300 < (n : Int)) = true) ∧ True) := by kernel_rfl
theorem runNB (m d : Nat) : (rT (.slice none 0 0) (vA 0 m d) [none] [none, none, none, none, some true]).map (fun r => (r.1, r.2.obl)) = some (.bool true, (True ∧ decide (300 < (m : Int)) = true) ∧ True) := by kernel_rfl
theorem runSB (n c m d : Nat) : (rT (vA 0 n c) (vA 1 m d) [none, none] [some false, none, none, none, some true]).map (fun r => (r.1, r.2.obl)) = some (.bool true, ((True ∧ decide (300 < (n : Int)) = false) ∧ decide (300 < (m : Int)) = true) ∧ True) := by kernel_rfl
def OkAt (w : World) (p : PB) : Option Ob → Prop
  | some (.cells (.ints k L) _) => ∃ (pc : Array Value) (ty : TypeId) (fr : Nat × Nat), w.heap[p.blk]? = some (.cells pc ty fr) ∧ pc.size = p.len ∧ ∀ (i : Nat) (v : Value), (L.map (Value.int k))[i]? = some v → pc[p.off + i]? = some v
  | some _ => False
  | none => True
theorem start_hs {w : World} {l : List (Option Ob)} {ρ : Nat → PB} {orc : List (Option Bool)} (hl : l.length ≤ 1000000) (h : ∀ (j : Nat) (o : Option Ob), l[j]? = some o → OkAt w (ρ j) o) : Hs (smSt l.length l orc) ρ w := by
  have dom : ∀ {b : Nat} {o : Ob}, (smSt l.length l orc).heap.get b = some o → b < l.length ∧ l[b]? = some (some o) := fun {b o} hb => by
    have hb : (Tr.ofL l).get b = some o := hb
    rw [ofL_get hl] at hb
    unfold hget at hb
    split at hb
    · rename_i x hx
      refine ⟨?_, by rw [hx, hb]⟩
      rcases Nat.lt_or_ge b l.length with h1 | h1
      · exact h1
      · rw [List.getElem?_eq_none h1] at hx; cases hx
    · cases hb
  refine ⟨⟨fun b o hb => ?_, fun b b' o o' hb hb' hk e => ?_⟩, fun _ _ => rfl, ⟨Nat.le_refl _, fun x hx => by simp [smSt] at hx⟩⟩
  · obtain ⟨h1, h2⟩ := dom hb
    have := h b (some o) h2
    refine ⟨⟨h1, rfl⟩, ?_⟩
    cases o with
    | cells c t =>
      cases c with
      | ints k L =>
        obtain ⟨pc, ty, fr, g1, g2, g3⟩ := this
        refine ⟨pc, ty, fr, g1, g2, fun m => absurd (show l.length ≤ b from m) (by omega), fun i v hv => ⟨v, g3 i v ?_, ?_⟩⟩
        · simp only [Cells.get] at hv
          rw [List.getElem?_map]; exact hv
        · simp only [Cells.get, Option.map_eq_some_iff] at hv
          obtain ⟨a, _, rfl⟩ := hv
          exact .same rfl
      | lit l => exact this.elim
      | fam n f => exact this.elim
      | rows n w g => exact this.elim
    | loop l => exact this.elim
    | marks => exact this.elim
    | map es k => exact this.elim
  · have h1 := (dom hb).1
    have h2 := (dom hb').1
    rcases hk with hk | hk
    · have : l.length ≤ b := hk; omega
    · have : l.length ≤ b' := hk; omega
/-- where a row that came in lies -/
theorem place {w : World} {b o : Nat} {L : List Int} (h : HasCells w b o (L.map (Value.int .u8))) : ∃ len, OkAt w ⟨b, o, len⟩ (obI L) := by
  obtain ⟨pc, t, fr, h1, h2⟩ := h
  exact ⟨pc.size, pc, t, fr, h1, rfl, h2⟩
theorem vr_at {l : List (Option Ob)} {orc : List (Option Bool)} {ρ : Nat → PB} {k b o len n c : Nat} (hk : k < l.length) (hr : ρ k = ⟨b, o, len⟩) (hn : n ≤ c) : VR (Dm (smSt l.length l orc)) ρ (vA k n c) (.slice (some ⟨b, o, none⟩) n c) := by
  refine .slice ⟨hk, rfl⟩ hn ⟨.inr ?_, fun _ => rfl, fun z hz => by cases hz⟩
  rw [hr]; rfl
theorem wr_ok {n : Nat} (h : n ≤ 300) : IntKind.i64.wrap ((n : Int) - (n : Int).tmod 2) = (n : Int) - (n : Int).tmod 2 := by
  rw [Int.tmod_eq_emod_of_nonneg (by omega), IntKind.wrap_i64]; omega
theorem in_ok {n c : Nat} (h : n ≤ c) : 0 ≤ (n : Int) - (n : Int).tmod 2 ∧ (n : Int) - (n : Int).tmod 2 ≤ (c : Int) ∧ (0 : Int) ≤ 0 ∧ 0 ≤ (n : Int) - (n : Int).tmod 2 := by
  rw [Int.tmod_eq_emod_of_nonneg (by omega)]; omega
theorem w64 {x : Int} (h0 : 0 ≤ x) (h1 : x ≤ 131070) : IntKind.u64.wrap x = x := by rw [IntKind.wrap_u64]; omega
theorem not300 {n : Nat} (h : n ≤ 300) : decide (300 < (n : Int)) = false := by rw [decide_eq_false_iff_not]; omega
theorem car_z {x : Int} (hx : 0 ≤ x) : sc.car (sc.car x + IntKind.u64.wrap (sc.car 0)) = sc.car x := by
  have hz : IntKind.u64.wrap (sc.car 0) = sc.car 0 := rfl
  rw [hz, car_two hx (Int.le_refl 0), Int.add_zero]
theorem car_y {x : Int} (hx : 0 ≤ x) : sc.car (IntKind.u64.wrap (sc.car 0) + sc.car x) = sc.car x := by
  rw [Int.add_comm]; exact car_z hx
theorem hz : IntKind.u64.wrap (sc.car 0) = 0 := rfl
theorem okFF (La Lb : List Int) (n c m d : Nat) (hn : n ≤ 300) (hc : n ≤ c) (hm : m ≤ 300) (hd : m ≤ d) (fa : Full (cut La oo (le n)) (le n)) (fb : Full (cut Lb oo (le m)) (le m)) : pFF La Lb n c m d :=
  ⟨⟨⟨⟨⟨⟨⟨⟨⟨⟨⟨⟨⟨⟨⟨⟨⟨⟨trivial, not300 hn⟩, not300 hm⟩, wr_ok hn⟩, in_ok hc⟩, wr_ok hm⟩, in_ok hd⟩, ⟨fa, fb, trivial⟩⟩, ⟨fb, fa, trivial⟩⟩, decide_eq_true (by first | rfl | exact congrArg sc.car (Int.add_comm _ _) | exact (car_two (full_b fa).1 (full_b fb).1).symm | exact (car_z (full_b fa).1).symm | exact (car_y (full_b fb).1).symm)⟩, ⟨fa, fb, trivial⟩⟩, fa⟩, fb⟩, (by have ba := car_b (wsum (cut La oo (le n))); have bb := car_b (wsum (cut Lb oo (le m))); have z := hz; exact w64 (by omega) (by omega))⟩, (by have ba := car_b (wsum (cut La oo (le n))); have bb := car_b (wsum (cut Lb oo (le m))); have z := hz; exact w64 (by omega) (by omega))⟩, (by have ba := car_b (wsum (cut La oo (le n))); have bb := car_b (wsum (cut Lb oo (le m))); have z := hz; exact w64 (by omega) (by omega))⟩, (by have ba := car_b (wsum (cut La oo (le n))); have bb := car_b (wsum (cut Lb oo (le m))); have z := hz; omega)⟩, decide_eq_true (by first | rfl | exact congrArg sc.car (Int.add_comm _ _) | exact (car_two (full_b fa).1 (full_b fb).1).symm | exact (car_z (full_b fa).1).symm | exact (car_y (full_b fb).1).symm)⟩, trivial⟩
theorem okSF (La Lb : List Int) (n c m d : Nat) (hn : n ≤ 300) (hc : n ≤ c) (hm : m ≤ 300) (hd : m ≤ d) (en : le n = 0) (fb : Full (cut Lb oo (le m)) (le m)) : pSF La Lb n c m d :=
  ⟨⟨⟨⟨⟨⟨⟨⟨⟨⟨⟨⟨⟨⟨⟨⟨⟨trivial, not300 hn⟩, not300 hm⟩, wr_ok hn⟩, in_ok hc⟩, wr_ok hm⟩, in_ok hd⟩, ⟨en, fb, trivial⟩⟩, ⟨fb, en, trivial⟩⟩, decide_eq_true (by first | rfl | exact congrArg sc.car (Int.add_comm _ _) | exact (car_two (Int.le_refl 0) (full_b fb).1).symm | exact (car_z (Int.le_refl 0)).symm | exact (car_y (full_b fb).1).symm)⟩, ⟨en, fb, trivial⟩⟩, en⟩, fb⟩, (by have bb := car_b (wsum (cut Lb oo (le m))); have z := hz; exact w64 (by omega) (by omega))⟩, (by have bb := car_b (wsum (cut Lb oo (le m))); have z := hz; exact w64 (by omega) (by omega))⟩, (by have bb := car_b (wsum (cut Lb oo (le m))); have z := hz; omega)⟩, decide_eq_true (by first | rfl | exact congrArg sc.car (Int.add_comm _ _) | exact (car_two (Int.le_refl 0) (full_b fb).1).symm | exact (car_z (Int.le_refl 0)).symm | exact (car_y (full_b fb).1).symm)⟩, trivial⟩
theorem okFS (La Lb : List Int) (n c m d : Nat) (hn : n ≤ 300) (hc : n ≤ c) (hm : m ≤ 300) (hd : m ≤ d) (fa : Full (cut La oo (le n)) (le n)) (em : le m = 0) : pFS La Lb n c m d :=
  ⟨⟨⟨⟨⟨⟨⟨⟨⟨⟨⟨⟨⟨⟨⟨⟨⟨trivial, not300 hn⟩, not300 hm⟩, wr_ok hn⟩, in_ok hc⟩, wr_ok hm⟩, in_ok hd⟩, ⟨fa, em, trivial⟩⟩, ⟨em, fa, trivial⟩⟩, decide_eq_true (by first | rfl | exact congrArg sc.car (Int.add_comm _ _) | exact (car_two (full_b fa).1 (Int.le_refl 0)).symm | exact (car_z (full_b fa).1).symm | exact (car_y (Int.le_refl 0)).symm)⟩, ⟨fa, em, trivial⟩⟩, fa⟩, em⟩, (by have ba := car_b (wsum (cut La oo (le n))); have z := hz; exact w64 (by omega) (by omega))⟩, (by have ba := car_b (wsum (cut La oo (le n))); have z := hz; exact w64 (by omega) (by omega))⟩, (by have ba := car_b (wsum (cut La oo (le n))); have z := hz; omega)⟩, decide_eq_true (by first | rfl | exact congrArg sc.car (Int.add_comm _ _) | exact (car_two (full_b fa).1 (Int.le_refl 0)).symm | exact (car_z (full_b fa).1).symm | exact (car_y (Int.le_refl 0)).symm)⟩, trivial⟩
theorem okNF (La Lb : List Int) (n c m d : Nat) (hm : m ≤ 300) (hd : m ≤ d) (fb : Full (cut Lb oo (le m)) (le m)) : pNF La Lb n c m d :=
  ⟨⟨⟨⟨⟨⟨⟨⟨⟨⟨⟨⟨⟨⟨trivial, not300 hm⟩, wr_ok hm⟩, in_ok hd⟩, ⟨fb, trivial⟩⟩, ⟨fb, trivial⟩⟩, decide_eq_true (by first | rfl | exact congrArg sc.car (Int.add_comm _ _) | exact (car_two (Int.le_refl 0) (full_b fb).1).symm | exact (car_z (Int.le_refl 0)).symm | exact (car_y (full_b fb).1).symm)⟩, ⟨fb, trivial⟩⟩, trivial⟩, fb⟩, (by have bb := car_b (wsum (cut Lb oo (le m))); have z := hz; exact w64 (by omega) (by omega))⟩, (by have bb := car_b (wsum (cut Lb oo (le m))); have z := hz; exact w64 (by omega) (by omega))⟩, (by have bb := car_b (wsum (cut Lb oo (le m))); have z := hz; omega)⟩, decide_eq_true (by first | rfl | exact congrArg sc.car (Int.add_comm _ _) | exact (car_two (Int.le_refl 0) (full_b fb).1).symm | exact (car_z (Int.le_refl 0)).symm | exact (car_y (full_b fb).1).symm)⟩, trivial⟩
theorem okNN (La Lb : List Int) (n c m d : Nat) : pNN La Lb n c m d :=
  ⟨⟨⟨⟨⟨⟨⟨trivial, trivial⟩, trivial⟩, trivial⟩, trivial⟩, trivial⟩, ⟨by decide, by decide⟩⟩, trivial⟩
theorem okSS (La Lb : List Int) (n c m d : Nat) (hn : n ≤ 300) (hc : n ≤ c) (hm : m ≤ 300) (hd : m ≤ d) (en : le n = 0) (em : le m = 0) : pSS La Lb n c m d :=
  ⟨⟨⟨⟨⟨⟨⟨⟨⟨⟨⟨⟨⟨trivial, not300 hn⟩, not300 hm⟩, wr_ok hn⟩, in_ok hc⟩, wr_ok hm⟩, in_ok hd⟩, ⟨en, em, trivial⟩⟩, ⟨em, en, trivial⟩⟩, ⟨en, em, trivial⟩⟩, en⟩, em⟩, ⟨by decide, by decide⟩⟩, trivial⟩
theorem okNS (La Lb : List Int) (n c m d : Nat) (hm : m ≤ 300) (hd : m ≤ d) (em : le m = 0) : pNS La Lb n c m d :=
  ⟨⟨⟨⟨⟨⟨⟨⟨⟨⟨trivial, not300 hm⟩, wr_ok hm⟩, in_ok hd⟩, ⟨em, trivial⟩⟩, ⟨em, trivial⟩⟩, ⟨em, trivial⟩⟩, trivial⟩, em⟩, ⟨by decide, by decide⟩⟩, trivial⟩
theorem okSN (La Lb : List Int) (n c m d : Nat) (hn : n ≤ 300) (hc : n ≤ c) (en : le n = 0) : pSN La Lb n c m d :=
  ⟨⟨⟨⟨⟨⟨⟨⟨⟨⟨trivial, not300 hn⟩, wr_ok hn⟩, in_ok hc⟩, ⟨en, trivial⟩⟩, ⟨en, trivial⟩⟩, ⟨en, trivial⟩⟩, en⟩, trivial⟩, ⟨by decide, by decide⟩⟩, trivial⟩
theorem okFN (La Lb : List Int) (n c m d : Nat) (hn : n ≤ 300) (hc : n ≤ c) (fa : Full (cut La oo (le n)) (le n)) : pFN La Lb n c m d :=
  ⟨⟨⟨⟨⟨⟨⟨⟨⟨⟨⟨⟨⟨⟨trivial, not300 hn⟩, wr_ok hn⟩, in_ok hc⟩, ⟨fa, trivial⟩⟩, ⟨fa, trivial⟩⟩, decide_eq_true (by first | rfl | exact congrArg sc.car (Int.add_comm _ _) | exact (car_two (full_b fa).1 (Int.le_refl 0)).symm | exact (car_z (full_b fa).1).symm | exact (car_y (Int.le_refl 0)).symm)⟩, ⟨fa, trivial⟩⟩, fa⟩, trivial⟩, (by have ba := car_b (wsum (cut La oo (le n))); have z := hz; exact w64 (by omega) (by omega))⟩, (by have ba := car_b (wsum (cut La oo (le n))); have z := hz; exact w64 (by omega) (by omega))⟩, (by have ba := car_b (wsum (cut La oo (le n))); have z := hz; omega)⟩, decide_eq_true (by first | rfl | exact congrArg sc.car (Int.add_comm _ _) | exact (car_two (full_b fa).1 (Int.le_refl 0)).symm | exact (car_z (full_b fa).1).symm | exact (car_y (Int.le_refl 0)).symm)⟩, trivial⟩
end
end su
end Go.Proofs.Yteknepfcbpoooab
namespace Go.Proofs.Yteknepfcbpoooab
open Go.ChangeShapes Go.WideShapes Go.ChangeAt Go.RowKit Go.Cln
namespace su
open sd se.rr sf st
set_option linter.unusedVariables false
noncomputable section
theorem cls {W : World} {a : Option Addr} {n c : Nat} (s0 : (a = none ∧ n = 0 ∧ c = 0) ∨ ∃ b o, a = some ⟨b, o, none⟩ ∧ n ≤ c ∧ (c : Int) ≤ 9223372036854775807)
    (z0 : n = 0 ∨ ∃ (b o : Nat) (L : List Int), a = some ⟨b, o, none⟩ ∧ L.length = n ∧ (∀ x ∈ L, (Lit.int .u8 x).wf = true) ∧ HasCells W b o (L.map (Value.int .u8))) :
    (a = none ∧ n = 0 ∧ c = 0) ∨ ∃ b o, a = some ⟨b, o, none⟩ ∧ n ≤ c ∧ (n ≤ 1 ∨ (2 ≤ n ∧ n ≤ 300 ∧ ∃ (L : List Int) (len : Nat), L.length = n ∧ Byt L ∧ OkAt W ⟨b, o, len⟩ (obI L)) ∨ 300 < n) := by
  rcases s0 with h | ⟨b, o, rfl, h1, _⟩
  · exact .inl h
  · refine .inr ⟨b, o, rfl, h1, ?_⟩
    by_cases h2 : n ≤ 1
    · exact .inl h2
    · by_cases h3 : 300 < n
      · exact .inr (.inr h3)
      · rcases z0 with h | ⟨b', o', L, e, q1, q2, q3⟩
        · omega
        · cases e
          obtain ⟨len, q4⟩ := place q3
          exact .inr (.inl ⟨by omega, by omega, L, len, q1, fun x hx => byte_in (q2 x hx), q4⟩)
def pl (p q : PB) (j : Nat) : PB := if j = 0 then p else q
theorem ok0 {w : World} {ρ : Nat → PB} (j : Nat) (o : Option Ob) (h : ([] : List (Option Ob))[j]? = some o) : OkAt w (ρ j) o := by simp at h
theorem ok1 {w : World} {p q : PB} {x : Option Ob} (hx : OkAt w p x) (j : Nat) (o : Option Ob) (h : [x][j]? = some o) : OkAt w (pl p q j) o := by
  rcases j with _ | j
  · simp only [List.getElem?_cons_zero, Option.some.injEq] at h; subst h; exact hx
  · simp at h
theorem ok2 {w : World} {p q : PB} {x y : Option Ob} (hx : OkAt w p x) (hy : OkAt w q y) (j : Nat) (o : Option Ob) (h : [x, y][j]? = some o) : OkAt w (pl p q j) o := by
  rcases j with _ | _ | j
  · simp only [List.getElem?_cons_zero, Option.some.injEq] at h; subst h; exact hx
  · simp only [Nat.zero_add, List.getElem?_cons_succ, List.getElem?_cons_zero, Option.some.injEq] at h; subst h; exact hy
  · simp at h
theorem sumTurns (W : World) (a0 : Option Addr) (n0 c0 : Nat) (s0 : (a0 = none ∧ n0 = 0 ∧ c0 = 0) ∨ ∃ b o, a0 = some ⟨b, o, none⟩ ∧ n0 ≤ c0 ∧ (c0 : Int) ≤ 9223372036854775807)
    (z0 : n0 = 0 ∨ ∃ (b o : Nat) (L : List Int), a0 = some ⟨b, o, none⟩ ∧ L.length = n0 ∧ (∀ x ∈ L, (Lit.int .u8 x).wf = true) ∧ HasCells W b o (L.map (Value.int .u8)))
    (a1 : Option Addr) (n1 c1 : Nat) (s1 : (a1 = none ∧ n1 = 0 ∧ c1 = 0) ∨ ∃ b o, a1 = some ⟨b, o, none⟩ ∧ n1 ≤ c1 ∧ (c1 : Int) ≤ 9223372036854775807)
    (z1 : n1 = 0 ∨ ∃ (b o : Nat) (L : List Int), a1 = some ⟨b, o, none⟩ ∧ L.length = n1 ∧ (∀ x ∈ L, (Lit.int .u8 x).wf = true) ∧ HasCells W b o (L.map (Value.int .u8))) :
    Calls Try.prog 8 #[.slice a0 n0 c0, .slice a1 n1 c1] W fun e w' => e = .returned (.bool true) ∧ Below W.heap.size W w' := by
  rcases cls s0 z0 with ⟨rfl, rfl, rfl⟩ | ⟨b0, o0, rfl, hc, ka⟩
  · rcases cls s1 z1 with ⟨rfl, rfl, rfl⟩ | ⟨b1, o1, rfl, hd, kb⟩
    · exact ranG sr.pg KX_ok (ρ := (fun _ => ⟨0, 0, 0⟩)) (runNN [] [] 0 0 0 0) (okNN [] [] 0 0 0 0) rfl (start_hs (l := []) (orc := []) (by simp) ok0) (VL.cons (.same rfl) (VL.cons (.same rfl) VL.nil))
    · rcases kb with h1b | ⟨h2b, h3b, Lb, lenb, hlB, byB, okLb⟩ | h4b
      · exact ranG sr.pg KX_ok (ρ := pl ⟨b1, o1, 0⟩ ⟨0, 0, 0⟩) (runNS [] [] 0 0 n1 c1) (okNS [] [] 0 0 n1 c1 (by omega) hd (emp_of h1b)) rfl (start_hs (l := [none]) (orc := [none, none, none, none, some false, none, some true, some true, some false, some false, none, none, none, none, some false, none, none, none, none, none, none, some false]) (by simp) (ok1 trivial)) (VL.cons (.same rfl) (VL.cons (vr_at (by simp) (len := 0) rfl hd) VL.nil))
      · exact ranG sr.pg KX_ok (ρ := pl ⟨b1, o1, lenb⟩ ⟨0, 0, 0⟩) (runNF [] Lb 0 0 n1 c1) (okNF [] Lb 0 0 n1 c1 (by omega) hd (full_of byB hlB h2b h3b)) rfl (start_hs (l := [obI Lb]) (orc := [none, none, none, none, some false, none, some true, some true, some true, some true, some true, none, none, none, some true, none, none, none, none, none, none, some true, none, none, some true, some true, none, none, some true]) (by simp) (ok1 okLb)) (VL.cons (.same rfl) (VL.cons (vr_at (by simp) (len := lenb) rfl hd) VL.nil))
      · exact ranG sr.pg KX_ok (ρ := pl ⟨b1, o1, 0⟩ ⟨0, 0, 0⟩) (runNB n1 c1) ⟨⟨trivial, decide_eq_true (show 300 < (n1 : Int) by omega)⟩, trivial⟩ rfl (start_hs (l := [none]) (orc := [none, none, none, none, some true]) (by simp) (ok1 trivial)) (VL.cons (.same rfl) (VL.cons (vr_at (by simp) (len := 0) rfl hd) VL.nil))
  · rcases ka with h1a | ⟨h2a, h3a, La, lena, hlA, byA, okLa⟩ | h4a
    · rcases cls s1 z1 with ⟨rfl, rfl, rfl⟩ | ⟨b1, o1, rfl, hd, kb⟩
      · exact ranG sr.pg KX_ok (ρ := pl ⟨b0, o0, 0⟩ ⟨0, 0, 0⟩) (runSN [] [] n0 c0 0 0) (okSN [] [] n0 c0 0 0 (by omega) hc (emp_of h1a)) rfl (start_hs (l := [none]) (orc := [some false, none, none, none, none, some true, some true, none, some false, some false, none, none, none, none, some false, none, none, none, some false]) (by simp) (ok1 trivial)) (VL.cons (vr_at (by simp) (len := 0) rfl hc) (VL.cons (.same rfl) VL.nil))
      · rcases kb with h1b | ⟨h2b, h3b, Lb, lenb, hlB, byB, okLb⟩ | h4b
        · exact ranG sr.pg KX_ok (ρ := pl ⟨b0, o0, 0⟩ ⟨b1, o1, 0⟩) (runSS [] [] n0 c0 n1 c1) (okSS [] [] n0 c0 n1 c1 (by omega) hc (by omega) hd (emp_of h1a) (emp_of h1b)) rfl (start_hs (l := [none, none]) (orc := [some false, none, none, none, some false, some true, some true, some true, some true, some false, some false, some false, some false, none, none, none, none, some false, some false, none, none, none, some false, none, none, none, some false]) (by simp) (ok2 trivial trivial)) (VL.cons (vr_at (by simp) (len := 0) rfl hc) (VL.cons (vr_at (by simp) (len := 0) rfl hd) VL.nil))
        · exact ranG sr.pg KX_ok (ρ := pl ⟨b0, o0, 0⟩ ⟨b1, o1, lenb⟩) (runSF [] Lb n0 c0 n1 c1) (okSF [] Lb n0 c0 n1 c1 (by omega) hc (by omega) hd (emp_of h1a) (full_of byB hlB h2b h3b)) rfl (start_hs (l := [none, obI Lb]) (orc := [some false, none, none, none, some false, some true, some true, some true, some true, some false, some true, some true, some false, some true, none, none, none, some false, some true, none, none, none, some false, none, none, none, some true, none, none, some true, some true, none, none, some true]) (by simp) (ok2 trivial okLb)) (VL.cons (vr_at (by simp) (len := 0) rfl hc) (VL.cons (vr_at (by simp) (len := lenb) rfl hd) VL.nil))
        · exact ranG sr.pg KX_ok (ρ := pl ⟨b0, o0, 0⟩ ⟨b1, o1, 0⟩) (runSB n0 c0 n1 c1) ⟨⟨⟨trivial, not300 (by omega)⟩, decide_eq_true (show 300 < (n1 : Int) by omega)⟩, trivial⟩ rfl (start_hs (l := [none, none]) (orc := [some false, none, none, none, some true]) (by simp) (ok2 trivial trivial)) (VL.cons (vr_at (by simp) (len := 0) rfl hc) (VL.cons (vr_at (by simp) (len := 0) rfl hd) VL.nil))
    · rcases cls s1 z1 with ⟨rfl, rfl, rfl⟩ | ⟨b1, o1, rfl, hd, kb⟩
      · exact ranG sr.pg KX_ok (ρ := pl ⟨b0, o0, lena⟩ ⟨0, 0, 0⟩) (runFN La [] n0 c0 0 0) (okFN La [] n0 c0 0 0 (by omega) hc (full_of byA hlA h2a h3a)) rfl (start_hs (l := [obI La]) (orc := [some false, none, none, none, none, some true, some true, none, some true, some true, some true, none, none, none, some true, none, none, none, some true, none, none, none, none, some true, none, some true, none, none, some true]) (by simp) (ok1 okLa)) (VL.cons (vr_at (by simp) (len := lena) rfl hc) (VL.cons (.same rfl) VL.nil))
      · rcases kb with h1b | ⟨h2b, h3b, Lb, lenb, hlB, byB, okLb⟩ | h4b
        · exact ranG sr.pg KX_ok (ρ := pl ⟨b0, o0, lena⟩ ⟨b1, o1, 0⟩) (runFS La [] n0 c0 n1 c1) (okFS La [] n0 c0 n1 c1 (by omega) hc (by omega) hd (full_of byA hlA h2a h3a) (emp_of h1b)) rfl (start_hs (l := [obI La, none]) (orc := [some false, none, none, none, some false, some true, some true, some true, some true, some true, some false, some false, some true, some true, none, none, none, some true, some false, none, none, none, some true, none, none, none, some false, none, some true, none, some true, none, none, some true]) (by simp) (ok2 okLa trivial)) (VL.cons (vr_at (by simp) (len := lena) rfl hc) (VL.cons (vr_at (by simp) (len := 0) rfl hd) VL.nil))
        · exact ranG sr.pg KX_ok (ρ := pl ⟨b0, o0, lena⟩ ⟨b1, o1, lenb⟩) (runFF La Lb n0 c0 n1 c1) (okFF La Lb n0 c0 n1 c1 (by omega) hc (by omega) hd (full_of byA hlA h2a h3a) (full_of byB hlB h2b h3b)) rfl (start_hs (l := [obI La, obI Lb]) (orc := [some false, none, none, none, some false, some true, some true, some true, some true, some true, some true, some true, some true, some true, none, none, none, some true, some true, none, none, none, some true, none, none, none, some true, none, some true, some true, some true, none, none, some true]) (by simp) (ok2 okLa okLb)) (VL.cons (vr_at (by simp) (len := lena) rfl hc) (VL.cons (vr_at (by simp) (len := lenb) rfl hd) VL.nil))
        · exact ranG sr.pg KX_ok (ρ := pl ⟨b0, o0, 0⟩ ⟨b1, o1, 0⟩) (runSB n0 c0 n1 c1) ⟨⟨⟨trivial, not300 (by omega)⟩, decide_eq_true (show 300 < (n1 : Int) by omega)⟩, trivial⟩ rfl (start_hs (l := [none, none]) (orc := [some false, none, none, none, some true]) (by simp) (ok2 trivial trivial)) (VL.cons (vr_at (by simp) (len := 0) rfl hc) (VL.cons (vr_at (by simp) (len := 0) rfl hd) VL.nil))
    · rcases cls s1 z1 with ⟨rfl, rfl, rfl⟩ | ⟨b1, o1, rfl, hd, kb⟩
      · exact ranG sr.pg KX_ok (ρ := pl ⟨b0, o0, 0⟩ ⟨0, 0, 0⟩) (runBN n0 c0) ⟨⟨trivial, decide_eq_true (show 300 < (n0 : Int) by omega)⟩, trivial⟩ rfl (start_hs (l := [none]) (orc := [some true]) (by simp) (ok1 trivial)) (VL.cons (vr_at (by simp) (len := 0) rfl hc) (VL.cons (.same rfl) VL.nil))
      · exact ranG sr.pg KX_ok (ρ := pl ⟨b0, o0, 0⟩ ⟨b1, o1, 0⟩) (runBS n0 c0 n1 c1) ⟨⟨trivial, decide_eq_true (show 300 < (n0 : Int) by omega)⟩, trivial⟩ rfl (start_hs (l := [none, none]) (orc := [some true]) (by simp) (ok2 trivial trivial)) (VL.cons (vr_at (by simp) (len := 0) rfl hc) (VL.cons (vr_at (by simp) (len := 0) rfl hd) VL.nil))
end
end su
end Go.Proofs.Yteknepfcbpoooab
