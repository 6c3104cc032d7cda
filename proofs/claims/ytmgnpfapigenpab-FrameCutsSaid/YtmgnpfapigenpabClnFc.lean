/- Read off the code by the clean reading. -/
import Derived.Test.YtmgnpfapigenpabClnFb
import Derived.Test.YtmgnpfapigenpabClnQc
set_option linter.unusedVariables false
set_option linter.unusedSimpArgs false
set_option linter.deprecated false
set_option maxRecDepth 100000
namespace Go.Proofs.Ytmgnpfapigenpab
open Go.ChangeShapes Go.WideShapes Go.ChangeAt Go.RowKit Go.Cln
namespace fc
open fr
set_option linter.unusedVariables false
noncomputable section
def vE (e : Int) : Value := .tuple #[.int .i64 0, .slice none 0 0, .int .i64 0, .int .i64 e]
def bd (SZ : TI) (L : List Int) : Nat := (SZ (L.take 19)).toNat - 19
def bl (SZ : TI) (L : List Int) : List Int := List.take 0 (List.drop 0 ([] : List Int)) ++ List.take (bd SZ L) (List.drop 19 L)
def vK (SZ KD : TI) (L : List Int) (b : Value) : Value := .tuple #[.int .i64 (KD (L.take 19)), b, .int .i64 (SZ (L.take 19)), .int .i64 0]
noncomputable def oNshort : List (Option Bool) := [some true]
noncomputable def pNshort (MK : TB) (SZ : TI) (KD : TI) (L : List Int) (n : Nat) (c : Nat) : Prop := (True ∧ ((decide ((nI n) < 19)) = true))
theorem runNshort (MK : TB) (SZ : TI) (KD : TI) (L : List Int) (n : Nat) (c : Nat) : (r9 MK SZ KD L n c oNshort).map (fun r => (r.1, r.2.obl, r.2.next, keepL (true :: List.replicate 0 false) r.2.heap.get 0)) = some ((vE 0), pNshort MK SZ KD L n c, ((some (Ob.cells (.ints .u8 L) 5) :: List.replicate 0 none)).length, (some (Ob.cells (.ints .u8 L) 5) :: List.replicate 0 none)) := by kernel_rfl
noncomputable def oNmark : List (Option Bool) := [some false, some true, none, none, some true]
noncomputable def pNmark (MK : TB) (SZ : TI) (KD : TI) (L : List Int) (n : Nat) (c : Nat) : Prop := ((((True ∧ ((decide ((nI n) < 19)) = false)) ∧ (((0 : Int) ≤ 19) ∧ ((19 ≤ (nI c)) ∧ (((0 : Int) ≤ 0) ∧ ((0 : Int) ≤ 19))))) ∧ (((MK = mkB) ∧ ((SZ = szf) ∧ (KD = kdf))) ∧ ((Byt (List.take 19 L)) ∧ (((List.take 19 L).length = 19) ∧ ((19 = 19) ∧ (19 ≤ c)))))) ∧ ((MK (List.take 19 L)) = true))
theorem runNmark (MK : TB) (SZ : TI) (KD : TI) (L : List Int) (n : Nat) (c : Nat) : (r9 MK SZ KD L n c oNmark).map (fun r => (r.1, r.2.obl, r.2.next, keepL (true :: List.replicate 2 false) r.2.heap.get 0)) = some ((vE 270), pNmark MK SZ KD L n c, ((some (Ob.cells (.ints .u8 L) 5) :: List.replicate 2 none)).length, (some (Ob.cells (.ints .u8 L) 5) :: List.replicate 2 none)) := by kernel_rfl
noncomputable def oNszlo : List (Option Bool) := [some false, some true, none, none, some false, none, none, none, some true]
noncomputable def pNszlo (MK : TB) (SZ : TI) (KD : TI) (L : List Int) (n : Nat) (c : Nat) : Prop := ((((((True ∧ ((decide ((nI n) < 19)) = false)) ∧ (((0 : Int) ≤ 19) ∧ ((19 ≤ (nI c)) ∧ (((0 : Int) ≤ 0) ∧ ((0 : Int) ≤ 19))))) ∧ (((MK = mkB) ∧ ((SZ = szf) ∧ (KD = kdf))) ∧ ((Byt (List.take 19 L)) ∧ (((List.take 19 L).length = 19) ∧ ((19 = 19) ∧ (19 ≤ c)))))) ∧ ((MK (List.take 19 L)) = false)) ∧ (((MK = mkB) ∧ ((SZ = szf) ∧ (KD = kdf))) ∧ ((Byt (List.take 19 L)) ∧ (((List.take 19 L).length = 19) ∧ ((19 = 19) ∧ (19 ≤ c)))))) ∧ ((decide ((SZ (List.take 19 L)) < 19)) = true))
theorem runNszlo (MK : TB) (SZ : TI) (KD : TI) (L : List Int) (n : Nat) (c : Nat) : (r9 MK SZ KD L n c oNszlo).map (fun r => (r.1, r.2.obl, r.2.next, keepL (true :: List.replicate 3 false) r.2.heap.get 0)) = some ((vE 271), pNszlo MK SZ KD L n c, ((some (Ob.cells (.ints .u8 L) 5) :: List.replicate 3 none)).length, (some (Ob.cells (.ints .u8 L) 5) :: List.replicate 3 none)) := by kernel_rfl
noncomputable def oNszhi : List (Option Bool) := [some false, some true, none, none, some false, none, none, none, some false, none, none, none, some true]
noncomputable def pNszhi (MK : TB) (SZ : TI) (KD : TI) (L : List Int) (n : Nat) (c : Nat) : Prop := ((((((((True ∧ ((decide ((nI n) < 19)) = false)) ∧ (((0 : Int) ≤ 19) ∧ ((19 ≤ (nI c)) ∧ (((0 : Int) ≤ 0) ∧ ((0 : Int) ≤ 19))))) ∧ (((MK = mkB) ∧ ((SZ = szf) ∧ (KD = kdf))) ∧ ((Byt (List.take 19 L)) ∧ (((List.take 19 L).length = 19) ∧ ((19 = 19) ∧ (19 ≤ c)))))) ∧ ((MK (List.take 19 L)) = false)) ∧ (((MK = mkB) ∧ ((SZ = szf) ∧ (KD = kdf))) ∧ ((Byt (List.take 19 L)) ∧ (((List.take 19 L).length = 19) ∧ ((19 = 19) ∧ (19 ≤ c)))))) ∧ ((decide ((SZ (List.take 19 L)) < 19)) = false)) ∧ (((MK = mkB) ∧ ((SZ = szf) ∧ (KD = kdf))) ∧ ((Byt (List.take 19 L)) ∧ (((List.take 19 L).length = 19) ∧ ((19 = 19) ∧ (19 ≤ c)))))) ∧ ((decide (512 < (SZ (List.take 19 L)))) = true))
theorem runNszhi (MK : TB) (SZ : TI) (KD : TI) (L : List Int) (n : Nat) (c : Nat) : (r9 MK SZ KD L n c oNszhi).map (fun r => (r.1, r.2.obl, r.2.next, keepL (true :: List.replicate 3 false) r.2.heap.get 0)) = some ((vE 271), pNszhi MK SZ KD L n c, ((some (Ob.cells (.ints .u8 L) 5) :: List.replicate 3 none)).length, (some (Ob.cells (.ints .u8 L) 5) :: List.replicate 3 none)) := by kernel_rfl
noncomputable def oNklo : List (Option Bool) := [some false, some true, none, none, some false, none, none, none, some false, none, none, none, some false, none, none, none, some false]
noncomputable def pNklo (MK : TB) (SZ : TI) (KD : TI) (L : List Int) (n : Nat) (c : Nat) : Prop := ((((((((((True ∧ ((decide ((nI n) < 19)) = false)) ∧ (((0 : Int) ≤ 19) ∧ ((19 ≤ (nI c)) ∧ (((0 : Int) ≤ 0) ∧ ((0 : Int) ≤ 19))))) ∧ (((MK = mkB) ∧ ((SZ = szf) ∧ (KD = kdf))) ∧ ((Byt (List.take 19 L)) ∧ (((List.take 19 L).length = 19) ∧ ((19 = 19) ∧ (19 ≤ c)))))) ∧ ((MK (List.take 19 L)) = false)) ∧ (((MK = mkB) ∧ ((SZ = szf) ∧ (KD = kdf))) ∧ ((Byt (List.take 19 L)) ∧ (((List.take 19 L).length = 19) ∧ ((19 = 19) ∧ (19 ≤ c)))))) ∧ ((decide ((SZ (List.take 19 L)) < 19)) = false)) ∧ (((MK = mkB) ∧ ((SZ = szf) ∧ (KD = kdf))) ∧ ((Byt (List.take 19 L)) ∧ (((List.take 19 L).length = 19) ∧ ((19 = 19) ∧ (19 ≤ c)))))) ∧ ((decide (512 < (SZ (List.take 19 L)))) = false)) ∧ (((MK = mkB) ∧ ((SZ = szf) ∧ (KD = kdf))) ∧ ((Byt (List.take 19 L)) ∧ (((List.take 19 L).length = 19) ∧ ((19 = 19) ∧ (19 ≤ c)))))) ∧ ((decide (1 ≤ (KD (List.take 19 L)))) = false))
theorem runNklo (MK : TB) (SZ : TI) (KD : TI) (L : List Int) (n : Nat) (c : Nat) : (r9 MK SZ KD L n c oNklo).map (fun r => (r.1, r.2.obl, r.2.next, keepL (true :: List.replicate 4 false) r.2.heap.get 0)) = some ((vE 272), pNklo MK SZ KD L n c, ((some (Ob.cells (.ints .u8 L) 5) :: List.replicate 4 none)).length, (some (Ob.cells (.ints .u8 L) 5) :: List.replicate 4 none)) := by kernel_rfl
noncomputable def oNkhi : List (Option Bool) := [some false, some true, none, none, some false, none, none, none, some false, none, none, none, some false, none, none, none, some true, none, none, some true]
noncomputable def pNkhi (MK : TB) (SZ : TI) (KD : TI) (L : List Int) (n : Nat) (c : Nat) : Prop := (((((((((((True ∧ ((decide ((nI n) < 19)) = false)) ∧ (((0 : Int) ≤ 19) ∧ ((19 ≤ (nI c)) ∧ (((0 : Int) ≤ 0) ∧ ((0 : Int) ≤ 19))))) ∧ (((MK = mkB) ∧ ((SZ = szf) ∧ (KD = kdf))) ∧ ((Byt (List.take 19 L)) ∧ (((List.take 19 L).length = 19) ∧ ((19 = 19) ∧ (19 ≤ c)))))) ∧ ((MK (List.take 19 L)) = false)) ∧ (((MK = mkB) ∧ ((SZ = szf) ∧ (KD = kdf))) ∧ ((Byt (List.take 19 L)) ∧ (((List.take 19 L).length = 19) ∧ ((19 = 19) ∧ (19 ≤ c)))))) ∧ ((decide ((SZ (List.take 19 L)) < 19)) = false)) ∧ (((MK = mkB) ∧ ((SZ = szf) ∧ (KD = kdf))) ∧ ((Byt (List.take 19 L)) ∧ (((List.take 19 L).length = 19) ∧ ((19 = 19) ∧ (19 ≤ c)))))) ∧ ((decide (512 < (SZ (List.take 19 L)))) = false)) ∧ (((MK = mkB) ∧ ((SZ = szf) ∧ (KD = kdf))) ∧ ((Byt (List.take 19 L)) ∧ (((List.take 19 L).length = 19) ∧ ((19 = 19) ∧ (19 ≤ c)))))) ∧ ((decide (1 ≤ (KD (List.take 19 L)))) = true)) ∧ ((!(decide ((KD (List.take 19 L)) ≤ 4))) = true))
theorem runNkhi (MK : TB) (SZ : TI) (KD : TI) (L : List Int) (n : Nat) (c : Nat) : (r9 MK SZ KD L n c oNkhi).map (fun r => (r.1, r.2.obl, r.2.next, keepL (true :: List.replicate 4 false) r.2.heap.get 0)) = some ((vE 272), pNkhi MK SZ KD L n c, ((some (Ob.cells (.ints .u8 L) 5) :: List.replicate 4 none)).length, (some (Ob.cells (.ints .u8 L) 5) :: List.replicate 4 none)) := by kernel_rfl
noncomputable def oNcut : List (Option Bool) := [some false, some true, none, none, some false, none, none, none, some false, none, none, none, some false, none, none, none, some true, none, none, some false, none, none, none, none, none, none, none, none, some true]
noncomputable def pNcut (MK : TB) (SZ : TI) (KD : TI) (L : List Int) (n : Nat) (c : Nat) : Prop := (((((((((((((True ∧ ((decide ((nI n) < 19)) = false)) ∧ (((0 : Int) ≤ 19) ∧ ((19 ≤ (nI c)) ∧ (((0 : Int) ≤ 0) ∧ ((0 : Int) ≤ 19))))) ∧ (((MK = mkB) ∧ ((SZ = szf) ∧ (KD = kdf))) ∧ ((Byt (List.take 19 L)) ∧ (((List.take 19 L).length = 19) ∧ ((19 = 19) ∧ (19 ≤ c)))))) ∧ ((MK (List.take 19 L)) = false)) ∧ (((MK = mkB) ∧ ((SZ = szf) ∧ (KD = kdf))) ∧ ((Byt (List.take 19 L)) ∧ (((List.take 19 L).length = 19) ∧ ((19 = 19) ∧ (19 ≤ c)))))) ∧ ((decide ((SZ (List.take 19 L)) < 19)) = false)) ∧ (((MK = mkB) ∧ ((SZ = szf) ∧ (KD = kdf))) ∧ ((Byt (List.take 19 L)) ∧ (((List.take 19 L).length = 19) ∧ ((19 = 19) ∧ (19 ≤ c)))))) ∧ ((decide (512 < (SZ (List.take 19 L)))) = false)) ∧ (((MK = mkB) ∧ ((SZ = szf) ∧ (KD = kdf))) ∧ ((Byt (List.take 19 L)) ∧ (((List.take 19 L).length = 19) ∧ ((19 = 19) ∧ (19 ≤ c)))))) ∧ ((decide (1 ≤ (KD (List.take 19 L)))) = true)) ∧ ((!(decide ((KD (List.take 19 L)) ≤ 4))) = false)) ∧ (((MK = mkB) ∧ ((SZ = szf) ∧ (KD = kdf))) ∧ ((Byt (List.take 19 L)) ∧ (((List.take 19 L).length = 19) ∧ ((19 = 19) ∧ (19 ≤ c)))))) ∧ ((decide ((nI n) < (SZ (List.take 19 L)))) = true))
theorem runNcut (MK : TB) (SZ : TI) (KD : TI) (L : List Int) (n : Nat) (c : Nat) : (r9 MK SZ KD L n c oNcut).map (fun r => (r.1, r.2.obl, r.2.next, keepL (true :: List.replicate 4 false) r.2.heap.get 0)) = some ((vE 0), pNcut MK SZ KD L n c, ((some (Ob.cells (.ints .u8 L) 5) :: List.replicate 4 none)).length, (some (Ob.cells (.ints .u8 L) 5) :: List.replicate 4 none)) := by kernel_rfl
noncomputable def oNok0 : List (Option Bool) := [some false, some true, none, none, some false, none, none, none, some false, none, none, none, some false, none, none, none, some true, none, none, some false, none, none, none, none, none, none, none, none, some false, some true, none, some true]
noncomputable def pNok0 (MK : TB) (SZ : TI) (KD : TI) (L : List Int) (n : Nat) (c : Nat) : Prop := ((((((((((((((((((True ∧ ((decide ((nI n) < 19)) = false)) ∧ (((0 : Int) ≤ 19) ∧ ((19 ≤ (nI c)) ∧ (((0 : Int) ≤ 0) ∧ ((0 : Int) ≤ 19))))) ∧ (((MK = mkB) ∧ ((SZ = szf) ∧ (KD = kdf))) ∧ ((Byt (List.take 19 L)) ∧ (((List.take 19 L).length = 19) ∧ ((19 = 19) ∧ (19 ≤ c)))))) ∧ ((MK (List.take 19 L)) = false)) ∧ (((MK = mkB) ∧ ((SZ = szf) ∧ (KD = kdf))) ∧ ((Byt (List.take 19 L)) ∧ (((List.take 19 L).length = 19) ∧ ((19 = 19) ∧ (19 ≤ c)))))) ∧ ((decide ((SZ (List.take 19 L)) < 19)) = false)) ∧ (((MK = mkB) ∧ ((SZ = szf) ∧ (KD = kdf))) ∧ ((Byt (List.take 19 L)) ∧ (((List.take 19 L).length = 19) ∧ ((19 = 19) ∧ (19 ≤ c)))))) ∧ ((decide (512 < (SZ (List.take 19 L)))) = false)) ∧ (((MK = mkB) ∧ ((SZ = szf) ∧ (KD = kdf))) ∧ ((Byt (List.take 19 L)) ∧ (((List.take 19 L).length = 19) ∧ ((19 = 19) ∧ (19 ≤ c)))))) ∧ ((decide (1 ≤ (KD (List.take 19 L)))) = true)) ∧ ((!(decide ((KD (List.take 19 L)) ≤ 4))) = false)) ∧ (((MK = mkB) ∧ ((SZ = szf) ∧ (KD = kdf))) ∧ ((Byt (List.take 19 L)) ∧ (((List.take 19 L).length = 19) ∧ ((19 = 19) ∧ (19 ≤ c)))))) ∧ ((decide ((nI n) < (SZ (List.take 19 L)))) = false)) ∧ (((MK = mkB) ∧ ((SZ = szf) ∧ (KD = kdf))) ∧ ((Byt (List.take 19 L)) ∧ (((List.take 19 L).length = 19) ∧ ((19 = 19) ∧ (19 ≤ c)))))) ∧ (((0 : Int) ≤ (SZ (List.take 19 L))) ∧ (((SZ (List.take 19 L)) ≤ (nI c)) ∧ (((0 : Int) ≤ 19) ∧ ((19 : Int) ≤ (SZ (List.take 19 L))))))) ∧ (((MK = mkB) ∧ ((SZ = szf) ∧ (KD = kdf))) ∧ ((Byt (List.take 19 L)) ∧ (((List.take 19 L).length = 19) ∧ ((19 = 19) ∧ (19 ≤ c)))))) ∧ ((decide ((0 + ((SZ (List.take 19 L)).toNat - 19)) ≤ 0)) = true)) ∧ (((19 + ((SZ (List.take 19 L)).toNat - 19)) ≤ L.length) ∧ ((0 + ((SZ (List.take 19 L)).toNat - 19)) ≤ 0)))
theorem runNok0 (MK : TB) (SZ : TI) (KD : TI) (L : List Int) (n : Nat) (c : Nat) : (r9 MK SZ KD L n c oNok0).map (fun r => (r.1, r.2.obl, r.2.next, keepL (true :: List.replicate 5 false) r.2.heap.get 0)) = some ((vK SZ KD L (.slice (some ⟨5, 0, none⟩) (0 + bd SZ L) 0)), pNok0 MK SZ KD L n c, ((some (Ob.cells (.ints .u8 L) 5) :: List.replicate 5 none)).length, (some (Ob.cells (.ints .u8 L) 5) :: List.replicate 5 none)) := by kernel_rfl
noncomputable def oNok1 : List (Option Bool) := [some false, some true, none, none, some false, none, none, none, some false, none, none, none, some false, none, none, none, some true, none, none, some false, none, none, none, none, none, none, none, none, some false, some true, none, some false]
noncomputable def pNok1 (MK : TB) (SZ : TI) (KD : TI) (L : List Int) (n : Nat) (c : Nat) : Prop := ((((((((((((((((((True ∧ ((decide ((nI n) < 19)) = false)) ∧ (((0 : Int) ≤ 19) ∧ ((19 ≤ (nI c)) ∧ (((0 : Int) ≤ 0) ∧ ((0 : Int) ≤ 19))))) ∧ (((MK = mkB) ∧ ((SZ = szf) ∧ (KD = kdf))) ∧ ((Byt (List.take 19 L)) ∧ (((List.take 19 L).length = 19) ∧ ((19 = 19) ∧ (19 ≤ c)))))) ∧ ((MK (List.take 19 L)) = false)) ∧ (((MK = mkB) ∧ ((SZ = szf) ∧ (KD = kdf))) ∧ ((Byt (List.take 19 L)) ∧ (((List.take 19 L).length = 19) ∧ ((19 = 19) ∧ (19 ≤ c)))))) ∧ ((decide ((SZ (List.take 19 L)) < 19)) = false)) ∧ (((MK = mkB) ∧ ((SZ = szf) ∧ (KD = kdf))) ∧ ((Byt (List.take 19 L)) ∧ (((List.take 19 L).length = 19) ∧ ((19 = 19) ∧ (19 ≤ c)))))) ∧ ((decide (512 < (SZ (List.take 19 L)))) = false)) ∧ (((MK = mkB) ∧ ((SZ = szf) ∧ (KD = kdf))) ∧ ((Byt (List.take 19 L)) ∧ (((List.take 19 L).length = 19) ∧ ((19 = 19) ∧ (19 ≤ c)))))) ∧ ((decide (1 ≤ (KD (List.take 19 L)))) = true)) ∧ ((!(decide ((KD (List.take 19 L)) ≤ 4))) = false)) ∧ (((MK = mkB) ∧ ((SZ = szf) ∧ (KD = kdf))) ∧ ((Byt (List.take 19 L)) ∧ (((List.take 19 L).length = 19) ∧ ((19 = 19) ∧ (19 ≤ c)))))) ∧ ((decide ((nI n) < (SZ (List.take 19 L)))) = false)) ∧ (((MK = mkB) ∧ ((SZ = szf) ∧ (KD = kdf))) ∧ ((Byt (List.take 19 L)) ∧ (((List.take 19 L).length = 19) ∧ ((19 = 19) ∧ (19 ≤ c)))))) ∧ (((0 : Int) ≤ (SZ (List.take 19 L))) ∧ (((SZ (List.take 19 L)) ≤ (nI c)) ∧ (((0 : Int) ≤ 19) ∧ ((19 : Int) ≤ (SZ (List.take 19 L))))))) ∧ (((MK = mkB) ∧ ((SZ = szf) ∧ (KD = kdf))) ∧ ((Byt (List.take 19 L)) ∧ (((List.take 19 L).length = 19) ∧ ((19 = 19) ∧ (19 ≤ c)))))) ∧ ((decide ((0 + ((SZ (List.take 19 L)).toNat - 19)) ≤ 0)) = false)) ∧ (((19 + ((SZ (List.take 19 L)).toNat - 19)) ≤ L.length) ∧ ((0 ≤ 0) ∧ ((((0 + ((SZ (List.take 19 L)).toNat - 19)) * 1) ≤ mostBytes) ∧ ((0 + ((SZ (List.take 19 L)).toNat - 19)) ≤ mostBytes)))))
theorem runNok1 (MK : TB) (SZ : TI) (KD : TI) (L : List Int) (n : Nat) (c : Nat) : (r9 MK SZ KD L n c oNok1).map (fun r => (r.1, r.2.obl, r.2.next, keepL (true :: (List.replicate 5 false ++ [true])) r.2.heap.get 0)) = some ((vK SZ KD L (.slice (some ⟨6, 0, some 1⟩) (0 + bd SZ L) (0 + bd SZ L))), pNok1 MK SZ KD L n c, ((some (Ob.cells (.ints .u8 L) 5) :: (List.replicate 5 none ++ [some (Ob.cells (.ints .u8 (bl SZ L)) 5)]))).length, (some (Ob.cells (.ints .u8 L) 5) :: (List.replicate 5 none ++ [some (Ob.cells (.ints .u8 (bl SZ L)) 5)]))) := by kernel_rfl
end
end fc
end Go.Proofs.Ytmgnpfapigenpab
namespace Go.Proofs.Ytmgnpfapigenpab
open Go.ChangeShapes Go.WideShapes Go.ChangeAt Go.RowKit Go.Cln
namespace fc
open fr
set_option linter.unusedVariables false
noncomputable section
def pm10 (L : List Int) (n : Nat) : Nat → Prop
  | 0 => True ∧ decide ((n : Int) < 19) = false
  | j + 1 => ((pm10 L n j ∧ (0 ≤ ((j : Nat) : Int) ∧ ((j : Nat) : Int) < (n : Int))) ∧ j < L.length) ∧ (L.getD j 0 != 255) = false
def rn10 : Nat → List (Option Bool)
  | 0 => []
  | k + 1 => rn10 k ++ [none, some true, some true, some false, none]
def o10 (i : Nat) : List (Option Bool) := some false :: (rn10 i ++ [none, some true, some true, some true])
def p10 (L : List Int) (n i : Nat) : Prop := ((pm10 L n i ∧ (0 ≤ ((i : Nat) : Int) ∧ ((i : Nat) : Int) < (n : Int))) ∧ i < L.length) ∧ (L.getD i 0 != 255) = true
theorem run10s (L : List Int) (n c : Nat) : (r10 L n c [some true]).map (fun r => (r.1, r.2.obl, r.2.next, keepL [true] r.2.heap.get 0)) = some (vE 0, True ∧ decide ((n : Int) < 19) = true, (hI L).length, hI L) := by kernel_rfl
theorem k0 (L : List Int) (n c : Nat) : (r10 L n c (o10 0)).map (fun r => (r.1, r.2.obl, r.2.next, keepL [true] r.2.heap.get 0)) = some (vE 270, p10 L n 0, (hI L).length, hI L) := by kernel_rfl
theorem k1 (L : List Int) (n c : Nat) : (r10 L n c (o10 1)).map (fun r => (r.1, r.2.obl, r.2.next, keepL [true] r.2.heap.get 0)) = some (vE 270, p10 L n 1, (hI L).length, hI L) := by kernel_rfl
theorem k2 (L : List Int) (n c : Nat) : (r10 L n c (o10 2)).map (fun r => (r.1, r.2.obl, r.2.next, keepL [true] r.2.heap.get 0)) = some (vE 270, p10 L n 2, (hI L).length, hI L) := by kernel_rfl
theorem k3 (L : List Int) (n c : Nat) : (r10 L n c (o10 3)).map (fun r => (r.1, r.2.obl, r.2.next, keepL [true] r.2.heap.get 0)) = some (vE 270, p10 L n 3, (hI L).length, hI L) := by kernel_rfl
theorem k4 (L : List Int) (n c : Nat) : (r10 L n c (o10 4)).map (fun r => (r.1, r.2.obl, r.2.next, keepL [true] r.2.heap.get 0)) = some (vE 270, p10 L n 4, (hI L).length, hI L) := by kernel_rfl
theorem k5 (L : List Int) (n c : Nat) : (r10 L n c (o10 5)).map (fun r => (r.1, r.2.obl, r.2.next, keepL [true] r.2.heap.get 0)) = some (vE 270, p10 L n 5, (hI L).length, hI L) := by kernel_rfl
theorem k6 (L : List Int) (n c : Nat) : (r10 L n c (o10 6)).map (fun r => (r.1, r.2.obl, r.2.next, keepL [true] r.2.heap.get 0)) = some (vE 270, p10 L n 6, (hI L).length, hI L) := by kernel_rfl
theorem k7 (L : List Int) (n c : Nat) : (r10 L n c (o10 7)).map (fun r => (r.1, r.2.obl, r.2.next, keepL [true] r.2.heap.get 0)) = some (vE 270, p10 L n 7, (hI L).length, hI L) := by kernel_rfl
theorem k8 (L : List Int) (n c : Nat) : (r10 L n c (o10 8)).map (fun r => (r.1, r.2.obl, r.2.next, keepL [true] r.2.heap.get 0)) = some (vE 270, p10 L n 8, (hI L).length, hI L) := by kernel_rfl
theorem k9 (L : List Int) (n c : Nat) : (r10 L n c (o10 9)).map (fun r => (r.1, r.2.obl, r.2.next, keepL [true] r.2.heap.get 0)) = some (vE 270, p10 L n 9, (hI L).length, hI L) := by kernel_rfl
theorem k10 (L : List Int) (n c : Nat) : (r10 L n c (o10 10)).map (fun r => (r.1, r.2.obl, r.2.next, keepL [true] r.2.heap.get 0)) = some (vE 270, p10 L n 10, (hI L).length, hI L) := by kernel_rfl
theorem k11 (L : List Int) (n c : Nat) : (r10 L n c (o10 11)).map (fun r => (r.1, r.2.obl, r.2.next, keepL [true] r.2.heap.get 0)) = some (vE 270, p10 L n 11, (hI L).length, hI L) := by kernel_rfl
theorem k12 (L : List Int) (n c : Nat) : (r10 L n c (o10 12)).map (fun r => (r.1, r.2.obl, r.2.next, keepL [true] r.2.heap.get 0)) = some (vE 270, p10 L n 12, (hI L).length, hI L) := by kernel_rfl
theorem k13 (L : List Int) (n c : Nat) : (r10 L n c (o10 13)).map (fun r => (r.1, r.2.obl, r.2.next, keepL [true] r.2.heap.get 0)) = some (vE 270, p10 L n 13, (hI L).length, hI L) := by kernel_rfl
theorem k14 (L : List Int) (n c : Nat) : (r10 L n c (o10 14)).map (fun r => (r.1, r.2.obl, r.2.next, keepL [true] r.2.heap.get 0)) = some (vE 270, p10 L n 14, (hI L).length, hI L) := by kernel_rfl
theorem k15 (L : List Int) (n c : Nat) : (r10 L n c (o10 15)).map (fun r => (r.1, r.2.obl, r.2.next, keepL [true] r.2.heap.get 0)) = some (vE 270, p10 L n 15, (hI L).length, hI L) := by kernel_rfl
theorem kAll (L : List Int) (n c : Nat) : ∀ i, i < 16 → (r10 L n c (o10 i)).map (fun r => (r.1, r.2.obl, r.2.next, keepL [true] r.2.heap.get 0)) = some (vE 270, p10 L n i, (hI L).length, hI L)
  | 0, _ => k0 L n c
  | 1, _ => k1 L n c
  | 2, _ => k2 L n c
  | 3, _ => k3 L n c
  | 4, _ => k4 L n c
  | 5, _ => k5 L n c
  | 6, _ => k6 L n c
  | 7, _ => k7 L n c
  | 8, _ => k8 L n c
  | 9, _ => k9 L n c
  | 10, _ => k10 L n c
  | 11, _ => k11 L n c
  | 12, _ => k12 L n c
  | 13, _ => k13 L n c
  | 14, _ => k14 L n c
  | 15, _ => k15 L n c
  | n + 16, h => absurd h (by omega)
def at_ (L : List Int) (n j : Nat) (p : Prop) : Prop := (p ∧ (0 ≤ ((j : Nat) : Int) ∧ ((j : Nat) : Int) < (n : Int))) ∧ j < L.length
def w64 (x : Int) (p : Prop) : Prop := p ∧ IntKind.i64.wrap x = x
def sz (L : List Int) : Int := L.getD 16 0 * 256 + L.getD 17 0
def q16 (L : List Int) (n : Nat) : Prop := w64 (sz L) (w64 (L.getD 17 0) (at_ L n 17 (w64 (L.getD 16 0 * 256) (w64 (L.getD 16 0) (at_ L n 16 (pm10 L n 16))))))
def o16 : List (Option Bool) := some false :: (rn10 16 ++ [none, some true, some true, some true, some true, some true, some true, some true, some true])
def qk (L : List Int) (n : Nat) : Prop := at_ L n 18 ((q16 L n ∧ decide (sz L < 19) = false) ∧ decide (sz L > 512) = false)
def qk2 (L : List Int) (n : Nat) : Prop := at_ L n 18 (qk L n ∧ decide (L.getD 18 0 < 1) = false)
def q4 (L : List Int) (n : Nat) : Prop := qk2 L n ∧ decide (L.getD 18 0 > 4) = false
def oA : List (Option Bool) := o16 ++ [some false, none, none, some false, some true, some true, some false, none, some true, none, some true, none, none, some false]
theorem run10a (L : List Int) (n c : Nat) : (r10 L n c (o16 ++ [some true])).map (fun r => (r.1, r.2.obl, r.2.next, keepL [true] r.2.heap.get 0)) = some (vE 271, q16 L n ∧ decide (sz L < 19) = true, (hI L).length, hI L) := by kernel_rfl
theorem run10b (L : List Int) (n c : Nat) : (r10 L n c (o16 ++ [some false, none, none, some true])).map (fun r => (r.1, r.2.obl, r.2.next, keepL [true] r.2.heap.get 0)) = some (vE 271, (q16 L n ∧ decide (sz L < 19) = false) ∧ decide (sz L > 512) = true, (hI L).length, hI L) := by kernel_rfl
theorem run10c (L : List Int) (n c : Nat) : (r10 L n c (o16 ++ [some false, none, none, some false, some true, some true, some true])).map (fun r => (r.1, r.2.obl, r.2.next, keepL [true] r.2.heap.get 0)) = some (vE 272, qk L n ∧ decide (L.getD 18 0 < 1) = true, (hI L).length, hI L) := by kernel_rfl
theorem run10d (L : List Int) (n c : Nat) : (r10 L n c (o16 ++ [some false, none, none, some false, some true, some true, some false, none, some true, none, some true, none, none, some true])).map (fun r => (r.1, r.2.obl, r.2.next, keepL [true] r.2.heap.get 0)) = some (vE 272, qk2 L n ∧ decide (L.getD 18 0 > 4) = true, (hI L).length, hI L) := by kernel_rfl
theorem run10e (L : List Int) (n c : Nat) : (r10 L n c (oA ++ [some true])).map (fun r => (r.1, r.2.obl, r.2.next, keepL [true] r.2.heap.get 0)) = some (vE 0, q4 L n ∧ decide ((n : Int) < sz L) = true, (hI L).length, hI L) := by kernel_rfl
theorem run10f (L : List Int) (n c : Nat) : (r10 L n c (oA ++ [some false, some true, some true, some true, some true])).map (fun r => (r.1, r.2.obl, r.2.next, keepL [true] r.2.heap.get 0)) =
    some (.tuple #[.int .i64 (L.getD 18 0), .slice (some ⟨0, 19, none⟩) ((sz L).toNat - 19) (c - 19), .int .i64 (sz L), .int .i64 0], w64 (L.getD 18 0) (at_ L n 18 (q4 L n ∧ decide ((n : Int) < sz L) = false)) ∧ sl 19 (sz L) c, (hI L).length, hI L) := by kernel_rfl
end
end fc
end Go.Proofs.Ytmgnpfapigenpab
namespace Go.Proofs.Ytmgnpfapigenpab
open Go.ChangeShapes Go.WideShapes Go.ChangeAt Go.RowKit Go.Cln
namespace fc
open fr
set_option linter.unusedVariables false
noncomputable section
theorem tk19 (L : List Int) {j : Nat} (h : j < 19) : (L.take 19).getD j 0 = L.getD j 0 := by
  rw [List.getD_eq_getElem?_getD, List.getD_eq_getElem?_getD, List.getElem?_take, if_pos h]
theorem szt (L : List Int) : szf (L.take 19) = sz L := by unfold szf sz; rw [tk19 L (by decide), tk19 L (by decide)]
theorem kdt (L : List Int) : kdf (L.take 19) = L.getD 18 0 := tk19 L (by decide)
theorem mk_true {W : List Int} (h : mkB W = true) : ∃ i, i < 16 ∧ (∀ j, j < i → W.getD j 0 = 255) ∧ W.getD i 0 ≠ 255 := by
  unfold mkB at h
  rw [List.any_eq_true] at h
  obtain ⟨j, hj, hx⟩ := h
  rcases first W 16 with h1 | h1
  · exact absurd (h1 j (List.mem_range.1 hj)) (by simpa using hx)
  · exact h1
theorem mk_false {W : List Int} (h : mkB W = false) : ∀ j, j < 16 → W.getD j 0 = 255 := by
  unfold mkB at h
  rw [List.any_eq_false] at h
  intro j hj
  have := h j (List.mem_range.2 hj)
  simpa using this
/-- is there a whole frame ahead? -/
def okF (L : List Int) (n : Nat) : Prop := 19 ≤ n ∧ mkB (L.take 19) = false ∧ 19 ≤ sz L ∧ sz L ≤ 512 ∧ 1 ≤ L.getD 18 0 ∧ L.getD 18 0 ≤ 4 ∧ sz L ≤ n
/-- what is wrong else -/
def eF (L : List Int) (n : Nat) : Int := if n < 19 then 0 else if mkB (L.take 19) = true then 270 else if sz L < 19 ∨ 512 < sz L then 271 else if L.getD 18 0 < 1 ∨ 4 < L.getD 18 0 then 272 else 0
theorem pNshort_ok {L : List Int} {n c : Nat} (h : n < 19) : pNshort mkB szf kdf L n c := by
  unfold pNshort
  repeat' apply And.intro
  all_goals first | trivial | rfl | assumption | omega | (simp only [nI, mostBytes, decide_eq_true_eq, decide_eq_false_iff_not, Bool.not_eq_true', Bool.not_eq_false']; omega)
theorem pNmark_ok {L : List Int} {n c : Nat} (hl : (L.take 19).length = 19) (hb : Byt (L.take 19)) (hn : n = L.length) (hc : n ≤ c) (h19 : 19 ≤ n) (hm : n ≤ 2000) (k : mkB (L.take 19) = true) : pNmark mkB szf kdf L n c := by
  unfold pNmark
  repeat' apply And.intro
  all_goals first | trivial | rfl | assumption | omega | (simp only [nI, mostBytes, decide_eq_true_eq, decide_eq_false_iff_not, Bool.not_eq_true', Bool.not_eq_false']; omega)
theorem pNszlo_ok {L : List Int} {n c : Nat} (hl : (L.take 19).length = 19) (hb : Byt (L.take 19)) (hn : n = L.length) (hc : n ≤ c) (h19 : 19 ≤ n) (hm : n ≤ 2000) (k : mkB (L.take 19) = false) (k2 : (szf (L.take 19)) < 19) : pNszlo mkB szf kdf L n c := by
  unfold pNszlo
  repeat' apply And.intro
  all_goals first | trivial | rfl | assumption | omega | (simp only [nI, mostBytes, decide_eq_true_eq, decide_eq_false_iff_not, Bool.not_eq_true', Bool.not_eq_false']; omega)
theorem pNszhi_ok {L : List Int} {n c : Nat} (hl : (L.take 19).length = 19) (hb : Byt (L.take 19)) (hn : n = L.length) (hc : n ≤ c) (h19 : 19 ≤ n) (hm : n ≤ 2000) (k : mkB (L.take 19) = false) (k2 : 512 < (szf (L.take 19))) : pNszhi mkB szf kdf L n c := by
  unfold pNszhi
  repeat' apply And.intro
  all_goals first | trivial | rfl | assumption | omega | (simp only [nI, mostBytes, decide_eq_true_eq, decide_eq_false_iff_not, Bool.not_eq_true', Bool.not_eq_false']; omega)
theorem pNklo_ok {L : List Int} {n c : Nat} (hl : (L.take 19).length = 19) (hb : Byt (L.take 19)) (hn : n = L.length) (hc : n ≤ c) (h19 : 19 ≤ n) (hm : n ≤ 2000) (k : mkB (L.take 19) = false) (k2 : 19 ≤ (szf (L.take 19))) (k3 : (szf (L.take 19)) ≤ 512) (k4 : (kdf (L.take 19)) < 1) : pNklo mkB szf kdf L n c := by
  unfold pNklo
  repeat' apply And.intro
  all_goals first | trivial | rfl | assumption | omega | (simp only [nI, mostBytes, decide_eq_true_eq, decide_eq_false_iff_not, Bool.not_eq_true', Bool.not_eq_false']; omega)
theorem pNkhi_ok {L : List Int} {n c : Nat} (hl : (L.take 19).length = 19) (hb : Byt (L.take 19)) (hn : n = L.length) (hc : n ≤ c) (h19 : 19 ≤ n) (hm : n ≤ 2000) (k : mkB (L.take 19) = false) (k2 : 19 ≤ (szf (L.take 19))) (k3 : (szf (L.take 19)) ≤ 512) (k4 : 4 < (kdf (L.take 19))) : pNkhi mkB szf kdf L n c := by
  unfold pNkhi
  repeat' apply And.intro
  all_goals first | trivial | rfl | assumption | omega | (simp only [nI, mostBytes, decide_eq_true_eq, decide_eq_false_iff_not, Bool.not_eq_true', Bool.not_eq_false']; omega)
theorem pNcut_ok {L : List Int} {n c : Nat} (hl : (L.take 19).length = 19) (hb : Byt (L.take 19)) (hn : n = L.length) (hc : n ≤ c) (h19 : 19 ≤ n) (hm : n ≤ 2000) (k : mkB (L.take 19) = false) (k2 : 19 ≤ (szf (L.take 19))) (k3 : (szf (L.take 19)) ≤ 512) (k4 : 1 ≤ (kdf (L.take 19))) (k5 : (kdf (L.take 19)) ≤ 4) (k6 : (n : Int) < (szf (L.take 19))) : pNcut mkB szf kdf L n c := by
  unfold pNcut
  repeat' apply And.intro
  all_goals first | trivial | rfl | assumption | omega | (simp only [nI, mostBytes, decide_eq_true_eq, decide_eq_false_iff_not, Bool.not_eq_true', Bool.not_eq_false']; omega)
theorem pNok0_ok {L : List Int} {n c : Nat} (hl : (L.take 19).length = 19) (hb : Byt (L.take 19)) (hn : n = L.length) (hc : n ≤ c) (h19 : 19 ≤ n) (hm : n ≤ 2000) (k : mkB (L.take 19) = false) (k2 : (szf (L.take 19)) = 19) (k4 : 1 ≤ (kdf (L.take 19))) (k5 : (kdf (L.take 19)) ≤ 4) : pNok0 mkB szf kdf L n c := by
  unfold pNok0
  repeat' apply And.intro
  all_goals first | trivial | rfl | assumption | omega | (simp only [nI, mostBytes, decide_eq_true_eq, decide_eq_false_iff_not, Bool.not_eq_true', Bool.not_eq_false']; omega)
theorem pNok1_ok {L : List Int} {n c : Nat} (hl : (L.take 19).length = 19) (hb : Byt (L.take 19)) (hn : n = L.length) (hc : n ≤ c) (h19 : 19 ≤ n) (hm : n ≤ 2000) (k : mkB (L.take 19) = false) (k2 : 19 < (szf (L.take 19))) (k3 : (szf (L.take 19)) ≤ 512) (k4 : 1 ≤ (kdf (L.take 19))) (k5 : (kdf (L.take 19)) ≤ 4) (k6 : (szf (L.take 19)) ≤ (n : Int)) : pNok1 mkB szf kdf L n c := by
  unfold pNok1
  repeat' apply And.intro
  all_goals first | trivial | rfl | assumption | omega | (simp only [nI, mostBytes, decide_eq_true_eq, decide_eq_false_iff_not, Bool.not_eq_true', Bool.not_eq_false']; omega)
end
end fc
end Go.Proofs.Ytmgnpfapigenpab
