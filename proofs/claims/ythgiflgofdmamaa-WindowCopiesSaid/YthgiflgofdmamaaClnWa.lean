/- Read off the code by the clean reading. -/
import Derived.Test.YthgiflgofdmamaaClnQ
import Derived.Test.YthgiflgofdmamaaRows
import Derived.WalkKit
import Derived.ProofKit
import Derived.Below
import Derived.IntWalk
set_option linter.unusedVariables false
set_option linter.unusedSimpArgs false
set_option linter.deprecated false
set_option maxRecDepth 100000
namespace Go.Proofs.Ythgiflgofdmamaa
open Go.ChangeShapes Go.WideShapes Go.ChangeAt Go.RowKit Go.Cln
namespace wn
set_option linter.unusedVariables false
set_option linter.unusedSimpArgs false
theorem pg : PG Try.prog := PG.of (by decide +kernel)
noncomputable section
def Fs (f : FuncId) (rest l : List Value) : Option (Nat × Prop × Value) := if f == 22 then match rest, l with
  | [], .int .i64 _ :: .int .i64 _ :: .int .i64 _ :: .int .i64 _ :: .bool true :: _ => some (5, True, .bool false)
  | _, _ => none else none
def W5 (a s m l : Int) : List Value := [.int .i64 a, .int .i64 s, .int .i64 m, .int .i64 l, .bool true]
theorem none_told (a s m l : Int) : SeeOk Try.prog 22 [] (W5 a s m l) (.bool false) := by
  by_cases h1 : a = 0
  · by_cases h2 : s = 0
    · by_cases h3 : m = 0
      · by_cases h4 : l = 0
        · exact SeeOk.of_run pg (GivenOk.nothing _) (n := 100) (p := ((((True ∧ decide (a = 0) = true) ∧ decide (s = 0) = true) ∧ decide (m = 0) = true) ∧ decide (l = 0) = true)) (orc := [none, none, none, none, none, none, some true, some true, some true, some true, none, none]) (by kernel_rfl) (by simp [h1, h2, h3, h4]) rfl rfl rfl
        · exact SeeOk.of_run pg (GivenOk.nothing _) (n := 100) (p := ((((True ∧ decide (a = 0) = true) ∧ decide (s = 0) = true) ∧ decide (m = 0) = true) ∧ decide (l = 0) = false)) (orc := [none, none, none, none, none, none, some true, some true, some true, some false, none, none]) (by kernel_rfl) (by simp [h1, h2, h3, h4]) rfl rfl rfl
      · exact SeeOk.of_run pg (GivenOk.nothing _) (n := 100) (p := (((True ∧ decide (a = 0) = true) ∧ decide (s = 0) = true) ∧ decide (m = 0) = false)) (orc := [none, none, none, none, none, none, some true, some true, some false, none, none]) (by kernel_rfl) (by simp [h1, h2, h3]) rfl rfl rfl
    · exact SeeOk.of_run pg (GivenOk.nothing _) (n := 100) (p := ((True ∧ decide (a = 0) = true) ∧ decide (s = 0) = false)) (orc := [none, none, none, none, none, none, some true, some false, none, none]) (by kernel_rfl) (by simp [h1, h2]) rfl rfl rfl
  · exact SeeOk.of_run pg (GivenOk.nothing _) (n := 100) (p := (True ∧ decide (a = 0) = false)) (orc := [none, none, none, none, none, none, some false, none, none]) (by kernel_rfl) (by simp [h1]) rfl rfl rfl
theorem Fs_ok : ∀ f rest l k p v, Fs f rest l = some (k, p, v) → (l.take k).all flat0 = true ∧ rest.all flat = true ∧ flat v = true ∧ (p → SeeOk Try.prog f rest (l.take k) v) := by
  intro f rest l k p v h
  unfold Fs at h
  split at h
  · rename_i hf
    have hf' : f = 22 := by simpa using hf
    subst hf'
    split at h
    · cases h
      exact ⟨rfl, rfl, rfl, fun _ => none_told _ _ _ _⟩
    · cases h
  · cases h
def K0 : Given := { Given.sees Given.nothing Fs with fits := true }
theorem K0_ok : GivenOk Try.prog K0 := (GivenOk.sees (GivenOk.nothing _) Fs_ok).fit
end

end wn
end Go.Proofs.Ythgiflgofdmamaa
namespace Go.Proofs.Ythgiflgofdmamaa
open Go.ChangeShapes Go.WideShapes Go.ChangeAt Go.RowKit Go.Cln
namespace wn
set_option linter.unusedVariables false
set_option linter.unusedSimpArgs false
noncomputable section
structure W4 where
  a : Int
  s : Int
  m : Int
  l : Int
def W4.row (w : W4) : List Value := [.int .i64 w.a, .int .i64 w.s, .int .i64 w.m, .int .i64 w.l]
def W4.cells (w : W4) : List Value := W5 w.a w.s w.m w.l
def takeW (w : W4) (n : Int) : W4 := if n < 0 then w else if (if w.s < w.l then w.l - w.s else 0) < n then w else ⟨w.a, w.s + n, if w.m < w.s + n then w.s + n else w.m, w.l⟩
def ackW (w : W4) (u r : Int) : W4 := if u < 0 then w else if r < 0 then w else if 65535 < r then w else if w.m < u then w else if u < w.a then w else ⟨u, if w.s < u then u else w.s, w.m, if w.l < u + r then u + r else w.l⟩
def probeW (w : W4) : W4 := if w.a = w.m then if w.a = w.l then ⟨w.a, w.s, w.a + 1, w.l⟩ else w else w
def nearW (w : W4) (n : Int) (b : Bool) : Int := if b = true then if -1000 ≤ n then if n ≤ 100000 then n + w.a else n else n else n
def stepW (w : W4) (k n r : Int) (b : Bool) : W4 := if k = 1 then takeW w n else if k = 2 then ackW w (nearW w n b) r else if k = 3 then ⟨w.a, w.a, w.m, w.l⟩ else if k = 4 then probeW w else w
def Inv (w : W4) (B : Int) : Prop := 0 ≤ w.a ∧ w.a ≤ w.s ∧ w.s ≤ w.m ∧ w.m ≤ w.l + 1 ∧ w.l ≤ B
theorem ActOk.cast {P : Program} {f : FuncId} {rest l l1 l2 : List Value} {v1 v2 : Value} (hv : v2 = v1) (hl : l2 = l1) (h : ActOk P f rest l v1 l1) : ActOk P f rest l v2 l2 := by subst hv; subst hl; exact h
theorem W4.ext' {w v : W4} (h1 : w.a = v.a) (h2 : w.s = v.s) (h3 : w.m = v.m) (h4 : w.l = v.l) : w = v := by
  cases w; cases v; simp only at h1 h2 h3 h4; subst h1; subst h2; subst h3; subst h4; rfl
end

end wn
end Go.Proofs.Ythgiflgofdmamaa
