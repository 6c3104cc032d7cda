/- What the functions of this layer come to: read off their code by the clean reading, loops by induction. -/
import Derived.Test.YtpplgfhjkepdhaaClnXM0
import Derived.Test.YtpplgfhjkepdhaaClnXM1
import Derived.Test.YtpplgfhjkepdhaaClnXM2
import Derived.IntWalk
set_option linter.unusedVariables false
set_option linter.unusedSimpArgs false
set_option linter.deprecated false
set_option maxRecDepth 100000
namespace Go.Proofs.Ytpplgfhjkepdhaa
open Go.ChangeShapes Go.WideShapes Go.ChangeAt Go.RowKit Go.Cln
namespace ae
noncomputable section
def TP : List (TellP Try.prog) := [M0, M1, M2]
def K9 : Given := Given.reads (Given.calls F9) (lookP TP)
theorem knownRuns : ((mk Try.prog K9 400).call 6 [] (St.start 0 .leaf [])).map (fun r => (r.1, r.2.obl)) = some (.bool true, True) := by kernel_rfl
theorem known (W : World) : Calls Try.prog 6 #[] W fun e w' => e = .returned (.bool true) ∧ Below W.heap.size W w' := ran pg (GivenOk.tellP F9_ok.given TP) knownRuns trivial rfl rfl W
end
end ae
end Go.Proofs.Ytpplgfhjkepdhaa
namespace Go.Proofs.Ytpplgfhjkepdhaa
open Go.ChangeShapes Go.WideShapes Go.ChangeAt Go.RowKit Go.Cln
namespace ae
noncomputable section
def nn (k : Nat) : List (Option Bool) := List.replicate k none
def orcT : List (Option Bool) := nn 145 ++ ([some true, some true, some true, some true, some true, some true, some true, some true, some true, some true, some true, some true, some true, some true, some true, some true] ++ (nn 114 ++ ([some true] ++ (nn 2 ++ ([some true, some true, some true, some true, some true, some true, some true, some true, some true, some true, some true, some true, some true, some true, some true, some true])))))
def orcF : List (Option Bool) := nn 145 ++ ([some false] ++ (nn 112 ++ ([some false, some true, some true, some true, some true, some true, some true, some true, some true, some true, some true, some true, some true, some true, some true, some true, some true])))
def conjL : Prop → List Prop → Prop
  | a, [] => a
  | a, p :: l => conjL (a ∧ p) l
def cD (b : Nat → Int) (i : Nat) : Int := orI .u8 (w8 (b i * 2 ^ 1)) ((b (i + 1)).fdiv (2 ^ 7))
def rD (b : Nat → Int) (i : Nat) : Int := w8 (w8 (b i * 2) + w8 ((b (i + 1)).tdiv 128))
def eq15 (b : Nat → Int) : List Prop := (List.range 15).map fun i => (cD b i == rD b i) = true
def pTt (b : Nat → Int) : Prop := conjL True ((((andI .u8 (b 0) 128 == 128) = true) : Prop) :: (((List.range 15).map fun i => (andI .u8 (b (i + 1)) 0 == 0) = true) ++ ((decide (b 0 ≥ 128) = true) :: (eq15 b ++ [(xr8 (w8 (b 15 * 2 ^ 1)) 135 == xr8 (w8 (b 15 * 2)) 135) = true]))))
def pFf (b : Nat → Int) : Prop := conjL True (((andI .u8 (b 0) 128 == 128) = false) :: ((decide (b 0 ≥ 128) = false) :: (eq15 b ++ [(w8 (b 15 * 2 ^ 1) == w8 (b 15 * 2)) = true])))
def K6 : Given := Given.calls (oneF 6 (.bool true))
theorem lT (b : Nat → Int) : ((mk Try.prog K6 300).call 3 [.agg (rowV .u8 16 b).toArray] (St.start 0 .leaf orcT)).map (fun r => (r.1, r.2.obl)) = some (.bool true, pTt b) := by kernel_rfl
theorem lF (b : Nat → Int) : ((mk Try.prog K6 300).call 3 [.agg (rowV .u8 16 b).toArray] (St.start 0 .leaf orcF)).map (fun r => (r.1, r.2.obl)) = some (.bool true, pFf b) := by kernel_rfl
end
theorem conjL_all : ∀ {l : List Prop} {a : Prop}, a → (∀ p ∈ l, p) → conjL a l
  | [], _, ha, _ => ha
  | p :: l, _, ha, h => conjL_all (l := l) ⟨ha, h p (by simp)⟩ fun q hq => h q (by simp [hq])
theorem and128 : ∀ n : Fin 256, (andI .u8 (n.val : Int) 128 == 128) = decide (128 ≤ n.val) := by decide +kernel
theorem and0 : ∀ n : Fin 256, (andI .u8 (n.val : Int) 0 == 0) = true := by decide +kernel
theorem byteD : ∀ n : Fin 256, ∀ c : Fin 2, orI .u8 (w8 ((n.val : Int) * 2 ^ 1)) (c.val : Int) = w8 (w8 ((n.val : Int) * 2) + (c.val : Int)) := by decide +kernel
theorem ran2 {b : Nat → Int} {K : Given} {o : List (Option Bool)} {p : Prop} (hK : GivenOk Try.prog K) (h : ((mk Try.prog K 300).call 3 [.agg (rowV .u8 16 b).toArray] (St.start 0 .leaf o)).map (fun r => (r.1, r.2.obl)) = some (.bool true, p)) (hp : p) (W : World) :
    Calls Try.prog 3 #[.agg (rowV .u8 16 b).toArray] W fun e w' => e = .returned (.bool true) ∧ Below W.heap.size W w' := ranF pg hK h hp rfl rfl W
theorem cmacDoubles (W : World) (b : Nat → Int) (hb : ∀ j, j < 16 → (Lit.int .u8 (b j)).wf = true) :
    Calls Try.prog 3 #[.agg (rowV .u8 16 b).toArray] W fun e w' => e = .returned (.bool true) ∧ Below W.heap.size W w' := by
  have hr : ∀ j, j < 16 → 0 ≤ b j ∧ b j < 256 := fun j hj => by
    have h : IntKind.u8.min ≤ b j ∧ b j ≤ IntKind.u8.max := by simpa [Lit.wf] using hb j hj
    have e1 : IntKind.u8.min = 0 := by decide
    have e2 : IntKind.u8.max = 255 := by decide
    rw [e1, e2] at h; omega
  have fin : ∀ j, j < 16 → ∃ n : Fin 256, b j = (n.val : Int) := fun j hj => ⟨⟨(b j).toNat, by have := hr j hj; omega⟩, by have := hr j hj; show _ = (((b j).toNat : Nat) : Int); omega⟩
  have hq : ∀ p ∈ eq15 b, p := by
    intro p hp
    simp only [eq15, List.mem_map, List.mem_range] at hp
    obtain ⟨i, hi, rfl⟩ := hp
    obtain ⟨n, hn⟩ := fin i (by omega)
    have h1 := hr (i + 1) (by omega)
    have e : cD b i = rD b i := by
      unfold cD rD
      have c : (b (i + 1)).fdiv (2 ^ 7) = b (i + 1) / 128 := Int.fdiv_eq_ediv_of_nonneg _ (by decide)
      have d : w8 ((b (i + 1)).tdiv 128) = b (i + 1) / 128 := by rw [Int.tdiv_eq_ediv_of_nonneg h1.1]; unfold w8; rw [IntKind.wrap_u8]; omega
      have f : b (i + 1) / 128 = (((⟨(b (i + 1) / 128).toNat, by omega⟩ : Fin 2).val : Nat) : Int) := by show _ = (((b (i + 1) / 128).toNat : Nat) : Int); omega
      rw [c, d, f, hn]
      exact byteD n _
    rw [e]; simp
  obtain ⟨n0, h0⟩ := fin 0 (by decide)
  have ha := and128 n0
  rw [← h0] at ha
  have hd : decide (128 ≤ n0.val) = decide (b 0 ≥ 128) := by rw [h0]; exact decide_eq_decide.2 (by omega)
  rw [hd] at ha
  have hK : GivenOk Try.prog K6 := (CallsOk.one rfl known).given
  by_cases hc : b 0 ≥ 128
  · refine ran2 hK (lT b) ?_ W
    refine conjL_all trivial fun p hp => ?_
    rcases List.mem_cons.1 hp with rfl | hp
    · rw [ha]; simpa using hc
    rcases List.mem_append.1 hp with hp | hp
    · simp only [List.mem_map, List.mem_range] at hp
      obtain ⟨i, hi, rfl⟩ := hp
      obtain ⟨n, hn⟩ := fin (i + 1) (by omega)
      rw [hn]; exact and0 n
    rcases List.mem_cons.1 hp with rfl | hp
    · simpa using hc
    rcases List.mem_append.1 hp with hp | hp
    · exact hq p hp
    · rw [List.mem_singleton] at hp; subst hp; exact BEq.rfl
  · refine ran2 hK (lF b) ?_ W
    refine conjL_all trivial fun p hp => ?_
    rcases List.mem_cons.1 hp with rfl | hp
    · rw [ha]; simpa using hc
    rcases List.mem_cons.1 hp with rfl | hp
    · simpa using hc
    rcases List.mem_append.1 hp with hp | hp
    · exact hq p hp
    · rw [List.mem_singleton] at hp; subst hp; exact BEq.rfl
end ae
end Go.Proofs.Ytpplgfhjkepdhaa
