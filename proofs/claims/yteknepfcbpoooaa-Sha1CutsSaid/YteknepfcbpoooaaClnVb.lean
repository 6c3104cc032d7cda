/- Read off the code by the clean reading. -/
import Derived.Test.YteknepfcbpoooaaClnVa
import Derived.Test.YteknepfcbpoooaaClnQd
set_option linter.unusedVariables false
set_option linter.unusedSimpArgs false
set_option linter.deprecated false
set_option maxRecDepth 100000
namespace Go.Proofs.Yteknepfcbpoooaa
open Go.ChangeShapes Go.WideShapes Go.ChangeAt Go.RowKit Go.Cln
namespace sk
open hc hx hy hz tb na
set_option linter.unusedVariables false
noncomputable section
def wk (x : HX) (y : Y) : List Int := wx x y.P 0 y.n
structure By (x : HX) (y : Y) : Prop where
  len : (wk x y).length = y.n
  room : y.n ≤ y.c
  byt : (∀ z ∈ wk x y, 0 ≤ z ∧ z < 256)
  few : y.n ≤ 2000
  cuts : y.m ≤ (x.C y.Q).length
  few2 : y.m ≤ 30
def toK (x : HX) (y : Y) (f : Int) (k : Nat) : Int := if cut x y k < nI y.n then (if cut x y k > f then cut x y k else f) else (if nI y.n > f then nI y.n else f)
def aK (x : HX) (y : Y) : Nat → Int
  | 0 => 0
  | k + 1 => toK x y (aK x y k) k
theorem toK_le {x : HX} {y : Y} {f : Int} (k : Nat) (h : f ≤ nI y.n) : f ≤ toK x y f k ∧ toK x y f k ≤ nI y.n := by
  unfold toK
  split <;> split <;> omega
theorem aK_le (x : HX) (y : Y) : ∀ k, 0 ≤ aK x y k ∧ aK x y k ≤ nI y.n
  | 0 => ⟨Int.le_refl 0, Int.natCast_nonneg _⟩
  | k + 1 => by
    have h := aK_le x y k
    have h2 := toK_le (x := x) k h.2
    exact ⟨by show 0 ≤ toK _ _ _ _; omega, h2.2⟩
theorem D_len {x : HX} {y : Y} (h : By x y) : y.n ≤ (x.D y.P).length := by
  have := h.len
  unfold wk wx at this
  rw [List.length_take, List.length_drop] at this; omega
theorem wo_len {x : HX} {y : Y} (h : By x y) {a to : Int} (h1 : a ≤ to) (h2 : to ≤ nI y.n) : (wo x y a to).length = to.toNat - a.toNat := by
  have := D_len h
  unfold wo wx
  rw [List.length_take, List.length_drop]
  unfold nI at h2
  omega
theorem wo_take {x : HX} {y : Y} (h : By x y) {a to : Int} (h0 : 0 ≤ a) (h1 : a ≤ to) (h2 : to ≤ nI y.n) : (wk x y).take a.toNat ++ wo x y a to = (wk x y).take to.toNat := by
  have := D_len h
  unfold wo wk wx
  unfold nI at h2
  rw [Nat.zero_add, Nat.mul_one, List.drop_zero]
  have e : to.toNat = a.toNat + (to.toNat - a.toNat) := by omega
  rw [List.take_take, List.take_take, Nat.min_eq_left (by omega), Nat.min_eq_left (by omega)]
  conv => rhs; rw [e, List.take_add]
theorem wo_byt {x : HX} {y : Y} (h : By x y) {a to : Int} (h0 : 0 ≤ a) (h1 : a ≤ to) (h2 : to ≤ nI y.n) : (∀ z ∈ wo x y a to, 0 ≤ z ∧ z < 256) := fun z hz => by
  refine h.byt z (List.mem_of_mem_take (i := to.toNat) ?_)
  rw [← wo_take h h0 h1 h2]
  exact List.mem_append_right _ hz
theorem tk_byt {x : HX} {y : Y} (h : By x y) (i : Nat) : (∀ z ∈ (wk x y).take i, 0 ≤ z ∧ z < 256) := fun z hz => h.byt z (List.mem_of_mem_take hz)
structure Tk (x : HX) (y : Y) (h : HS) (s a : Int) : Prop where
  sem : SemH h ((wk x y).take a.toNat)
  size : s = a
theorem Tk.next {x : HX} {y : Y} (b : By x y) {h : HS} {s a to : Int} (k : Tk x y h s a) (h0 : 0 ≤ a) (h1 : a ≤ to) (h2 : to ≤ nI y.n) : Tk x y (hs' AB x y h s a to) (ss h s a to) to := by
  have q3 := b.few
  refine ⟨?_, ?_⟩
  · rw [← wo_take b h0 h1 h2]
    exact SemH.AB (k.sem.cells _) (tk_byt b _) (wo_byt b h0 h1 h2)
  · show IntKind.i64.wrap (s + ((to.toNat - a.toNat : Nat) : Int)) = to
    rw [k.size, IntKind.wrap_i64]
    unfold nI at h2
    omega
theorem wA_ok {x : HX} {y : Y} (b : By x y) {h : HS} {s a to : Int} (k : Tk x y h s a) (h0 : 0 ≤ a) (h1 : a ≤ to) (h2 : to ≤ nI y.n) : wA AB x y h s a to := by
  have q1 := wo_len b h1 h2
  have q4 := b.room
  have q5 := k.sem.rn
  unfold nI at h2
  refine ⟨rfl, ?_, ?_, q1.symm, by omega⟩
  · show 0 ≤ h.rn
    omega
  · show h.rn < 64
    omega
theorem pQ_ok {x : HX} {y : Y} (h : By x y) {a to : Int} (h0 : 0 ≤ a) (h1 : a ≤ to) (h2 : to ≤ nI y.n) : pQ y a to := by
  have q4 := h.room
  unfold nI at h2
  unfold pQ nI
  omega
theorem pH_ok {x : HX} {y : Y} (h : By x y) {k : Nat} (hk : k < y.m) {a to : Int} {c1 c2 : Prop} (h0 : 0 ≤ a) (h1 : a ≤ to) (h2 : to ≤ nI y.n) (g1 : c1) (g2 : c2) : pH x y k a to c1 c2 := by
  have q := h.cuts
  refine ⟨⟨⟨⟨⟨⟨trivial, ?_⟩, ?_⟩, ?_⟩, g1⟩, g2⟩, pQ_ok h h0 h1 h2⟩
  · unfold nI; rw [decide_eq_true_eq]; omega
  · unfold nI; omega
  · omega
theorem fk_ok {k : Nat} (h : k ≤ 30) : fk k := by unfold fk nI; rw [IntKind.wrap_i64]; omega
theorem gr_ok {k : Nat} (h : k ≤ 30) : gr k := by unfold gr mostBytes; omega
theorem getS {x : HX} {t : HS} {s : Int} {r : Option Ob} {nx : Nat} (hn : nx ≤ 1000000) (b : Nat) : (Tr.rebuild (hS x t s r) nx).get b = if b < nx then hS x t s r b else none := by
  rw [Tr.get_rebuild _ _ _ hn]
theorem ok_pc (σ : List Nat) (x : HX) (y : Y) (t : HS) (s f : Int) (k : Nat) (v : VF) (a b : Int) : ren (nm σ) (pc y a b) = pc y a b ∧ okV (sM x y t s f k v) (pc y a b) = true := ⟨rfl, rfl⟩
theorem nm4 (m : Nat) (hm : m = 3 ∨ m = 4 ∨ m = 2) {x : HX} {t : HS} {s : Int} (b : Nat) (o' : Ob) (hb : b ≠ 2) (h : (Tr.rebuild (hS x t s none) 3).get b = some o') : nm [0, 1, m] b ≠ m := by
  rw [getS (by decide)] at h
  split at h
  · have : b = 0 ∨ b = 1 := by omega
    rcases this with rfl | rfl
    · show (0 : Nat) ≠ m
      omega
    · show (1 : Nat) ≠ m
      omega
  · cases h
def g2 (y : Y) (g : Nat → Value) (k : Nat) (f to : Int) : Nat → Value := fun j => if j < k then g j else pc y f to
def Pcs (y : Y) (g : Nat → Value) (k : Nat) : Prop := ∀ j, j < k → ∃ a b, g j = pc y a b
theorem h3F {x : HX} {y : Y} {t : HS} {s : Int} {k : Nat} {g : Nat → Value} (b : Nat) (hb : b ≠ 2) : (Tr.rebuild (hS x t s (oP k g)) 3).get b = (Tr.rebuild (hS x t s none) 3).get b := by
  rw [getS (by decide), getS (by decide)]
  by_cases h : b < 3
  · rw [if_pos h, if_pos h]
    have : b = 0 ∨ b = 1 := by omega
    rcases this with rfl | rfl <;> rfl
  · rw [if_neg h, if_neg h]
theorem stepG {x : HX} {y : Y} {S : St} {t : HS} {s f to : Int} {k m n1 : Nat} {v : VF} {g : Nat → Value} {o : List (Option Bool)} {p : Prop} (hm : m = 3 ∨ m = 4) (hS1 : 1 ≤ S.next) (hv : ∀ i, DeadV (v i))
    (hr : goM AB DS shaN sw.blk x S o (sM x y t s to (k + 1) (VL v)) [0, 1, m] m = some (.normal, p, seenAsT BL (sM x y t s to (k + 1) (VL v)) [0, 1, m] n1, some (.cells (.lit (famList g 0 (k * 1) ++ [pc y f to])) 22))) (hp : p) (hg : Pcs y g k) :
    StepG Try.prog none (s0 x y) lb S fun e s' => e = .normal ∧ s' = sF x y t s (g2 y g k f to) to (k + 1) (VL v) := by
  have hk : picOkT BL (s0 x y) (sM x y t s to (k + 1) (VL v)) [0, 1, m] = true := by
    rcases hm with rfl | rfl
    · exact okM3 x y t s to (k + 1) v
    · exact okM4 x y t s to (k + 1) v
  have hr' : ((mk Try.prog (KZ x AB DS shaN sw.blk) 300).code 9 none lb { S with obl := True, orc := o }).map (fun r => (r.1, r.2.obl, seenInT BL r.2 (sM x y t s to (k + 1) (VL v)) [0, 1, m], r.2.heap.get m)) = some (.normal, p, seenAsT BL (sM x y t s to (k + 1) (VL v)) [0, 1, m] n1, some (.cells (.lit (famList g 0 (k * 1) ++ [pc y f to])) 22)) := hr
  have h5 : ObV (sM x y t s to (k + 1) (VL v)) (nm [0, 1, m]) (.cells (.lit (famList g 0 (k * 1) ++ [pc y f to])) 22) (.cells (.fam (k + 1) (g2 y g k f to)) 22) := by
    refine ObV.grown (fun j hj => if_pos hj) (if_neg (by omega)) fun j hj => ?_
    unfold g2
    by_cases h : j < k
    · obtain ⟨a, b, e⟩ := hg j h
      rw [if_pos h, e]; exact ok_pc _ x y t s to (k + 1) (VL v) a b
    · rw [if_neg h]; exact ok_pc _ x y t s to (k + 1) (VL v) f to
  have h1 : (Tr.rebuild (hS x t s (oP (k + 1) (g2 y g k f to))) 3).get 2 = some (.cells (.fam (k + 1) (g2 y g k f to)) 22) := by rw [getS (by decide)]; rfl
  have := StepG.stdM (s0 := s0 x y) (rd := none) sw.pg (KZ_ok x AB DS shaN) (σ := [0, 1, m]) (kb := 2) hr' hp hS1 (tmS_dead (VL_dead hv) lvL) (hS_ok x t s none fun _ _ _ _ h => by cases h) rfl hk h1 (fun b hb => h3F (y := y) b hb) rfl h5 rfl (show 1 ≤ 2 by decide) (fun b o' hb h => nm4 m (by omega) b o' hb h)
  refine StepG.mono this ?_
  rintro e s' ⟨rfl, rfl⟩; exact ⟨rfl, rfl⟩
end
end sk
end Go.Proofs.Yteknepfcbpoooaa
namespace Go.Proofs.Yteknepfcbpoooaa
open Go.ChangeShapes Go.WideShapes Go.ChangeAt Go.RowKit Go.Cln
namespace sk
open hc hx hy hz tb na
set_option linter.unusedVariables false
noncomputable section
theorem rdFtt {x : HX} {y : Y} {h : HS} {s f : Int} {k : Nat} {v : VF} {g : Nat → Value} (b : By x y) (hk : k < y.m) (hv : ∀ i, DeadV (v i)) (tk : Tk x y h s f) (hg : Pcs y g k) (h0 : 0 ≤ f) (h1 : f ≤ (cut x y k)) (h2 : (cut x y k) ≤ nI y.n) (c1 : (decide (cut x y k < nI y.n) = true)) (c2 : (decide (cut x y k > f) = true)) :
    StepG Try.prog none (s0 x y) lb (sF x y h s g f k v) fun e s' => e = .normal ∧ s' = sF x y (hs' AB x y h s f (cut x y k)) (ss h s f (cut x y k)) (g2 y g k f (cut x y k)) (cut x y k) (k + 1) (VL v) := by
  have h30 : k ≤ 30 := by have := b.few2; omega
  exact stepG (m := 4) (.inr rfl) (show 1 ≤ 3 by decide) hv (kFtt AB DS shaN sw.blk x y h s f k v g) ⟨⟨⟨⟨⟨pH_ok b hk h0 h1 h2 c1 c2, gr_ok h30⟩, by omega⟩, pQ_ok b h0 h1 h2⟩, wA_ok b tk h0 h1 h2⟩, fk_ok h30⟩ hg
theorem rdFft {x : HX} {y : Y} {h : HS} {s f : Int} {k : Nat} {v : VF} {g : Nat → Value} (b : By x y) (hk : k < y.m) (hv : ∀ i, DeadV (v i)) (tk : Tk x y h s f) (hg : Pcs y g k) (h0 : 0 ≤ f) (h1 : f ≤ (nI y.n)) (h2 : (nI y.n) ≤ nI y.n) (c1 : (decide (cut x y k < nI y.n) = false)) (c2 : (decide (nI y.n > f) = true)) :
    StepG Try.prog none (s0 x y) lb (sF x y h s g f k v) fun e s' => e = .normal ∧ s' = sF x y (hs' AB x y h s f (nI y.n)) (ss h s f (nI y.n)) (g2 y g k f (nI y.n)) (nI y.n) (k + 1) (VL v) := by
  have h30 : k ≤ 30 := by have := b.few2; omega
  exact stepG (m := 4) (.inr rfl) (show 1 ≤ 3 by decide) hv (kFft AB DS shaN sw.blk x y h s f k v g) ⟨⟨⟨⟨⟨pH_ok b hk h0 h1 h2 c1 c2, gr_ok h30⟩, by omega⟩, pQ_ok b h0 h1 h2⟩, wA_ok b tk h0 h1 h2⟩, fk_ok h30⟩ hg
theorem rdFtf {x : HX} {y : Y} {h : HS} {s f : Int} {k : Nat} {v : VF} {g : Nat → Value} (b : By x y) (hk : k < y.m) (hv : ∀ i, DeadV (v i)) (tk : Tk x y h s f) (hg : Pcs y g k) (h0 : 0 ≤ f) (h1 : f ≤ f) (h2 : f ≤ nI y.n) (c1 : (decide (cut x y k < nI y.n) = true)) (c2 : (decide (cut x y k > f) = false)) :
    StepG Try.prog none (s0 x y) lb (sF x y h s g f k v) fun e s' => e = .normal ∧ s' = sF x y (hs' AB x y h s f f) (ss h s f f) (g2 y g k f f) f (k + 1) (VL v) := by
  have h30 : k ≤ 30 := by have := b.few2; omega
  exact stepG (m := 4) (.inr rfl) (show 1 ≤ 3 by decide) hv (kFtf AB DS shaN sw.blk x y h s f k v g) ⟨⟨⟨⟨⟨pH_ok b hk h0 h1 h2 c1 c2, gr_ok h30⟩, by omega⟩, pQ_ok b h0 h1 h2⟩, wA_ok b tk h0 h1 h2⟩, fk_ok h30⟩ hg
theorem rdFff {x : HX} {y : Y} {h : HS} {s f : Int} {k : Nat} {v : VF} {g : Nat → Value} (b : By x y) (hk : k < y.m) (hv : ∀ i, DeadV (v i)) (tk : Tk x y h s f) (hg : Pcs y g k) (h0 : 0 ≤ f) (h1 : f ≤ f) (h2 : f ≤ nI y.n) (c1 : (decide (cut x y k < nI y.n) = false)) (c2 : (decide (nI y.n > f) = false)) :
    StepG Try.prog none (s0 x y) lb (sF x y h s g f k v) fun e s' => e = .normal ∧ s' = sF x y (hs' AB x y h s f f) (ss h s f f) (g2 y g k f f) f (k + 1) (VL v) := by
  have h30 : k ≤ 30 := by have := b.few2; omega
  exact stepG (m := 4) (.inr rfl) (show 1 ≤ 3 by decide) hv (kFff AB DS shaN sw.blk x y h s f k v g) ⟨⟨⟨⟨⟨pH_ok b hk h0 h1 h2 c1 c2, gr_ok h30⟩, by omega⟩, pQ_ok b h0 h1 h2⟩, wA_ok b tk h0 h1 h2⟩, fk_ok h30⟩ hg
theorem rdNtt {x : HX} {y : Y} {h : HS} {s f : Int} {v : VF} {g : Nat → Value} (b : By x y) (hk : 0 < y.m) (hv : ∀ i, DeadV (v i)) (tk : Tk x y h s f) (hg : Pcs y g 0) (h0 : 0 ≤ f) (h1 : f ≤ (cut x y 0)) (h2 : (cut x y 0) ≤ nI y.n) (c1 : (decide (cut x y 0 < nI y.n) = true)) (c2 : (decide (cut x y 0 > f) = true)) :
    StepG Try.prog none (s0 x y) lb (sN x y h s f 0 v) fun e s' => e = .normal ∧ s' = sF x y (hs' AB x y h s f (cut x y 0)) (ss h s f (cut x y 0)) (g2 y g 0 f (cut x y 0)) (cut x y 0) (0 + 1) (VL v) := by
  have h30 : 0 ≤ 30 := by have := b.few2; omega
  exact stepG (m := 3) (.inl rfl) (show 1 ≤ 2 by decide) hv (kNtt AB DS shaN sw.blk x y h s f v g) ⟨⟨⟨pH_ok b hk h0 h1 h2 c1 c2, pQ_ok b h0 h1 h2⟩, wA_ok b tk h0 h1 h2⟩, fk_ok (by decide)⟩ hg
theorem rdNft {x : HX} {y : Y} {h : HS} {s f : Int} {v : VF} {g : Nat → Value} (b : By x y) (hk : 0 < y.m) (hv : ∀ i, DeadV (v i)) (tk : Tk x y h s f) (hg : Pcs y g 0) (h0 : 0 ≤ f) (h1 : f ≤ (nI y.n)) (h2 : (nI y.n) ≤ nI y.n) (c1 : (decide (cut x y 0 < nI y.n) = false)) (c2 : (decide (nI y.n > f) = true)) :
    StepG Try.prog none (s0 x y) lb (sN x y h s f 0 v) fun e s' => e = .normal ∧ s' = sF x y (hs' AB x y h s f (nI y.n)) (ss h s f (nI y.n)) (g2 y g 0 f (nI y.n)) (nI y.n) (0 + 1) (VL v) := by
  have h30 : 0 ≤ 30 := by have := b.few2; omega
  exact stepG (m := 3) (.inl rfl) (show 1 ≤ 2 by decide) hv (kNft AB DS shaN sw.blk x y h s f v g) ⟨⟨⟨pH_ok b hk h0 h1 h2 c1 c2, pQ_ok b h0 h1 h2⟩, wA_ok b tk h0 h1 h2⟩, fk_ok (by decide)⟩ hg
theorem rdNtf {x : HX} {y : Y} {h : HS} {s f : Int} {v : VF} {g : Nat → Value} (b : By x y) (hk : 0 < y.m) (hv : ∀ i, DeadV (v i)) (tk : Tk x y h s f) (hg : Pcs y g 0) (h0 : 0 ≤ f) (h1 : f ≤ f) (h2 : f ≤ nI y.n) (c1 : (decide (cut x y 0 < nI y.n) = true)) (c2 : (decide (cut x y 0 > f) = false)) :
    StepG Try.prog none (s0 x y) lb (sN x y h s f 0 v) fun e s' => e = .normal ∧ s' = sF x y (hs' AB x y h s f f) (ss h s f f) (g2 y g 0 f f) f (0 + 1) (VL v) := by
  have h30 : 0 ≤ 30 := by have := b.few2; omega
  exact stepG (m := 3) (.inl rfl) (show 1 ≤ 2 by decide) hv (kNtf AB DS shaN sw.blk x y h s f v g) ⟨⟨⟨pH_ok b hk h0 h1 h2 c1 c2, pQ_ok b h0 h1 h2⟩, wA_ok b tk h0 h1 h2⟩, fk_ok (by decide)⟩ hg
theorem rdNff {x : HX} {y : Y} {h : HS} {s f : Int} {v : VF} {g : Nat → Value} (b : By x y) (hk : 0 < y.m) (hv : ∀ i, DeadV (v i)) (tk : Tk x y h s f) (hg : Pcs y g 0) (h0 : 0 ≤ f) (h1 : f ≤ f) (h2 : f ≤ nI y.n) (c1 : (decide (cut x y 0 < nI y.n) = false)) (c2 : (decide (nI y.n > f) = false)) :
    StepG Try.prog none (s0 x y) lb (sN x y h s f 0 v) fun e s' => e = .normal ∧ s' = sF x y (hs' AB x y h s f f) (ss h s f f) (g2 y g 0 f f) f (0 + 1) (VL v) := by
  have h30 : 0 ≤ 30 := by have := b.few2; omega
  exact stepG (m := 3) (.inl rfl) (show 1 ≤ 2 by decide) hv (kNff AB DS shaN sw.blk x y h s f v g) ⟨⟨⟨pH_ok b hk h0 h1 h2 c1 c2, pQ_ok b h0 h1 h2⟩, wA_ok b tk h0 h1 h2⟩, fk_ok (by decide)⟩ hg
inductive Good (x : HX) (y : Y) : Nat → St → Prop
  | n {v : VF} {h : HS} {s : Int} (hv : ∀ i, DeadV (v i)) (tk : Tk x y h s 0) : Good x y 0 (sN x y h s 0 0 v)
  | f {k : Nat} {v : VF} {g : Nat → Value} {h : HS} {s : Int} (hv : ∀ i, DeadV (v i)) (tk : Tk x y h s (aK x y k)) (hk : 0 < k) (hg : ∀ j, j < k → g j = pc y (aK x y j) (aK x y (j + 1))) : Good x y k (sF x y h s g (aK x y k) k v)
theorem g2_ok {x : HX} {y : Y} {g : Nat → Value} {k : Nat} {to : Int} (hg : ∀ j, j < k → g j = pc y (aK x y j) (aK x y (j + 1))) (e : to = aK x y (k + 1)) : ∀ j, j < k + 1 → g2 y g k (aK x y k) to j = pc y (aK x y j) (aK x y (j + 1)) := fun j hj => by
  unfold g2
  by_cases h : j < k
  · rw [if_pos h]; exact hg j h
  · have : j = k := by omega
    subst this
    rw [if_neg h, e]
theorem goodF {x : HX} {y : Y} {g : Nat → Value} {k : Nat} {to : Int} {v : VF} {h : HS} {s : Int} (hv : ∀ i, DeadV (v i)) (tk : Tk x y h s to) (hg : ∀ j, j < k → g j = pc y (aK x y j) (aK x y (j + 1))) (e : to = aK x y (k + 1)) : Good x y (k + 1) (sF x y h s (g2 y g k (aK x y k) to) to (k + 1) (VL v)) := by
  have h2 := g2_ok hg e
  subst e
  exact Good.f (VL_dead hv) tk (Nat.succ_pos k) h2
theorem roundT {x : HX} {y : Y} {k : Nat} {s : St} (b : By x y) (hk : k < y.m) (hG : Good x y k s) : StepG Try.prog none (s0 x y) lb s fun e s' => e = .normal ∧ Good x y (k + 1) s' := by
  have hf := aK_le x y k
  have ht := toK_le (x := x) k hf.2
  have ek : aK x y (k + 1) = toK x y (aK x y k) k := rfl
  cases hG with
  | n hv tk => 
    by_cases c1 : cut x y 0 < nI y.n
    · by_cases c2 : cut x y 0 > (aK x y 0)
      · have et : cut x y 0 = aK x y (0 + 1) := by rw [ek]; unfold toK; rw [if_pos c1, if_pos c2]
        refine (rdNtt (g := fun _ => undef) b hk hv tk (fun j hj => absurd hj (Nat.not_lt_zero j)) hf.1 (by omega) (by omega) (decide_eq_true c1) (decide_eq_true c2)).mono ?_
        rintro e s ⟨rfl, rfl⟩
        exact ⟨rfl, goodF hv (tk.next b hf.1 (by omega) (by omega)) (fun j hj => absurd hj (Nat.not_lt_zero j)) et⟩
      · have et : (aK x y 0) = aK x y (0 + 1) := by rw [ek]; unfold toK; rw [if_pos c1, if_neg c2]
        refine (rdNtf (g := fun _ => undef) b hk hv tk (fun j hj => absurd hj (Nat.not_lt_zero j)) hf.1 (by omega) (by omega) (decide_eq_true c1) (decide_eq_false c2)).mono ?_
        rintro e s ⟨rfl, rfl⟩
        exact ⟨rfl, goodF hv (tk.next b hf.1 (by omega) (by omega)) (fun j hj => absurd hj (Nat.not_lt_zero j)) et⟩
    · by_cases c2 : nI y.n > (aK x y 0)
      · have et : nI y.n = aK x y (0 + 1) := by rw [ek]; unfold toK; rw [if_neg c1, if_pos c2]
        refine (rdNft (g := fun _ => undef) b hk hv tk (fun j hj => absurd hj (Nat.not_lt_zero j)) hf.1 (by omega) (by omega) (decide_eq_false c1) (decide_eq_true c2)).mono ?_
        rintro e s ⟨rfl, rfl⟩
        exact ⟨rfl, goodF hv (tk.next b hf.1 (by omega) (by omega)) (fun j hj => absurd hj (Nat.not_lt_zero j)) et⟩
      · have et : (aK x y 0) = aK x y (0 + 1) := by rw [ek]; unfold toK; rw [if_neg c1, if_neg c2]
        refine (rdNff (g := fun _ => undef) b hk hv tk (fun j hj => absurd hj (Nat.not_lt_zero j)) hf.1 (by omega) (by omega) (decide_eq_false c1) (decide_eq_false c2)).mono ?_
        rintro e s ⟨rfl, rfl⟩
        exact ⟨rfl, goodF hv (tk.next b hf.1 (by omega) (by omega)) (fun j hj => absurd hj (Nat.not_lt_zero j)) et⟩
  | f hv tk h0 hg => 
    by_cases c1 : cut x y k < nI y.n
    · by_cases c2 : cut x y k > (aK x y k)
      · have et : cut x y k = aK x y (k + 1) := by rw [ek]; unfold toK; rw [if_pos c1, if_pos c2]
        refine (rdFtt  b hk hv tk (fun j hj => ⟨_, _, hg j hj⟩) hf.1 (by omega) (by omega) (decide_eq_true c1) (decide_eq_true c2)).mono ?_
        rintro e s ⟨rfl, rfl⟩
        exact ⟨rfl, goodF hv (tk.next b hf.1 (by omega) (by omega)) hg et⟩
      · have et : (aK x y k) = aK x y (k + 1) := by rw [ek]; unfold toK; rw [if_pos c1, if_neg c2]
        refine (rdFtf  b hk hv tk (fun j hj => ⟨_, _, hg j hj⟩) hf.1 (by omega) (by omega) (decide_eq_true c1) (decide_eq_false c2)).mono ?_
        rintro e s ⟨rfl, rfl⟩
        exact ⟨rfl, goodF hv (tk.next b hf.1 (by omega) (by omega)) hg et⟩
    · by_cases c2 : nI y.n > (aK x y k)
      · have et : nI y.n = aK x y (k + 1) := by rw [ek]; unfold toK; rw [if_neg c1, if_pos c2]
        refine (rdFft  b hk hv tk (fun j hj => ⟨_, _, hg j hj⟩) hf.1 (by omega) (by omega) (decide_eq_false c1) (decide_eq_true c2)).mono ?_
        rintro e s ⟨rfl, rfl⟩
        exact ⟨rfl, goodF hv (tk.next b hf.1 (by omega) (by omega)) hg et⟩
      · have et : (aK x y k) = aK x y (k + 1) := by rw [ek]; unfold toK; rw [if_neg c1, if_neg c2]
        refine (rdFff  b hk hv tk (fun j hj => ⟨_, _, hg j hj⟩) hf.1 (by omega) (by omega) (decide_eq_false c1) (decide_eq_false c2)).mono ?_
        rintro e s ⟨rfl, rfl⟩
        exact ⟨rfl, goodF hv (tk.next b hf.1 (by omega) (by omega)) hg et⟩
theorem exitX {x : HX} {y : Y} {s : St} (h : By x y) (hG : Good x y y.m s) : StepG Try.prog none (s0 x y) lb s fun e s' => e = .exit 0 ∧ Good x y y.m s' := by
  generalize hm : y.m = m at hG
  cases hG with
  | n hv tk =>
    rename_i v h0 s0'
    refine (StepG.stdT (s0 := s0 x y) (rd := none) sw.pg (KZ_ok x AB DS shaN) (σ := [0, 1]) (xN AB DS shaN sw.blk x y h0 s0' 0 v) ⟨trivial, by rw [decide_eq_false_iff_not]; unfold nI; omega⟩ (show 1 ≤ 2 by decide) (tmS_dead (VX_dead hv) lvX) (hS_ok x _ _ none fun _ _ _ _ h => by cases h) rfl (okN x y _ _ _ v)).mono ?_
    rintro e s ⟨rfl, rfl⟩
    exact ⟨rfl, Good.n (VX_dead hv) tk⟩
  | f hv tk hk hg =>
    rename_i v g h0 s0'
    have h5 : ObV (sM x y h0 s0' (aK x y m) m (VX v)) (nm [0, 1, 2]) (.cells (.fam m g) 22) (.cells (.fam m g) 22) := .cells fun i z hz => by
      simp only [Cells.get] at hz ⊢
      split at hz
      · rename_i hi
        simp only [Option.some.injEq] at hz
        subst hz
        rw [if_pos hi, hg i hi]
        obtain ⟨q1, q2⟩ := ok_pc [0, 1, 2] x y h0 s0' (aK x y m) m (VX v) (aK x y i) (aK x y (i + 1))
        exact ⟨_, rfl, .inl q1, q2⟩
      · cases hz
    have h1 : (Tr.rebuild (hS x h0 s0' (oP m g)) 3).get 2 = some (.cells (.fam m g) 22) := by rw [getS (by decide)]; rfl
    have := StepG.stdM (s0 := s0 x y) (rd := none) sw.pg (KZ_ok x AB DS shaN) (σ := [0, 1, 2]) (kb := 2) (m := 2) (xF AB DS shaN sw.blk x y h0 s0' (aK x y m) m v g) ⟨trivial, by rw [decide_eq_false_iff_not]; unfold nI; omega⟩ (show 1 ≤ 3 by decide) (tmS_dead (VX_dead hv) lvX) (hS_ok x _ _ none fun _ _ _ _ h => by cases h) rfl (okF x y _ _ _ m v) h1 (fun b hb => h3F (y := y) b hb) rfl h5 rfl (show 1 ≤ 2 by decide) (fun b o' hb h => nm4 2 (.inr (.inr rfl)) b o' hb h)
    refine StepG.mono this ?_
    rintro e s ⟨rfl, rfl⟩
    exact ⟨rfl, Good.f (VX_dead hv) tk hk hg⟩
theorem loopT {x : HX} {y : Y} {s : St} (h : By x y) (hG : Good x y 0 s) : StepG Try.prog none (s0 x y) (.loop lb) s fun e s' => e = .exit 0 ∧ Good x y y.m s' := by
  refine StepG.loop (fun m s => ∃ k, m = y.m - k ∧ k ≤ y.m ∧ Good x y k s) ?_ y.m s ⟨0, by omega, Nat.zero_le _, hG⟩
  rintro m s ⟨k, rfl, hk, hg⟩
  by_cases he : k = y.m
  · subst he
    refine (exitX h hg).mono ?_
    rintro e s ⟨rfl, h⟩
    exact .inr ⟨(by intro h; cases h), rfl, h⟩
  · refine (roundT h (by omega) hg).mono ?_
    rintro e s ⟨rfl, h⟩
    exact .inl ⟨rfl, _, by omega, k + 1, rfl, by omega, h⟩
end
end sk
end Go.Proofs.Yteknepfcbpoooaa
namespace Go.Proofs.Yteknepfcbpoooaa
open Go.ChangeShapes Go.WideShapes Go.ChangeAt Go.RowKit Go.Cln
namespace sk
open hc hx hy hz tb na
set_option linter.unusedVariables false
noncomputable section
def WR (i : Nat) : Bool := Nat.beq i 15 || (Nat.ble 80 i && Nat.ble i 93)
def VR (v : VF) : VF := fun i => match Nat.beq i 94 with
  | true => .agg #[junk, junk, junk, junk, junk]
  | false => match Nat.beq i 95 with
  | true => .agg #[junk, junk, junk, junk, junk, junk, junk, junk, junk, junk, junk, junk, junk, junk, junk, junk, junk, junk, junk, junk, junk, junk, junk, junk, junk, junk, junk, junk, junk, junk, junk, junk, junk, junk, junk, junk, junk, junk, junk, junk, junk, junk, junk, junk, junk, junk, junk, junk, junk, junk, junk, junk, junk, junk, junk, junk, junk, junk, junk, junk, junk, junk, junk, junk]
  | false => match Nat.beq i 96 with
  | true => .agg #[junk, junk, junk, junk, junk]
  | false => match WR i with
  | true => junk
  | false => v i
def BR (i : Nat) : Bool := ((Nat.ble 0 i && Nat.ble i 1) || (Nat.ble 4 i && Nat.ble i 6) || (Nat.ble 11 i && Nat.ble i 14)) || WR i || Nat.beq i 94 || Nat.beq i 95 || Nat.beq i 96
theorem VR_dead {v : VF} (h : ∀ i, DeadV (v i)) (i : Nat) : DeadV (VR v i) := by
  unfold VR
  split
  · exact ⟨rfl, fun _ => rfl, fun _ => rfl⟩
  split
  · exact ⟨rfl, fun _ => rfl, fun _ => rfl⟩
  split
  · exact ⟨rfl, fun _ => rfl, fun _ => rfl⟩
  split
  · exact DeadV.junk
  · exact h i
theorem lvR (i : Nat) (h : ((Nat.ble 0 i && Nat.ble i 1) || (Nat.ble 4 i && Nat.ble i 6) || (Nat.ble 11 i && Nat.ble i 14)) = true) : BR i = true := by
  unfold BR
  simp only [Bool.or_eq_true] at h ⊢
  refine .inl ?_
  refine .inl ?_
  refine .inl ?_
  exact .inl h
def WQ (i : Nat) : Bool := (Nat.ble 80 i && Nat.ble i 84)
def VQ (v : VF) : VF := fun i => match WQ i with
  | true => junk
  | false => v i
def BQ (i : Nat) : Bool := ((Nat.ble 0 i && Nat.ble i 1) || (Nat.ble 4 i && Nat.ble i 6) || (Nat.ble 11 i && Nat.ble i 14)) || WQ i
theorem VQ_dead {v : VF} (h : ∀ i, DeadV (v i)) (i : Nat) : DeadV (VQ v i) := by
  unfold VQ
  split
  · exact DeadV.junk
  · exact h i
theorem lvQ (i : Nat) (h : ((Nat.ble 0 i && Nat.ble i 1) || (Nat.ble 4 i && Nat.ble i 6) || (Nat.ble 11 i && Nat.ble i 14)) = true) : BQ i = true := by
  unfold BQ
  simp only [Bool.or_eq_true] at h ⊢
  exact .inl h
def oL (LL : List Value) : Option Ob := some (.cells (.lit LL) 22)
def mm (i : Int) : Nat := Nat.min ((i + 64).toNat - i.toNat) ((64 : Int).toNat - Int.toNat 0)
def pZ (L : List Int) (nn q : Nat) (i : Int) : Prop := ((((((True ∧ IntKind.i64.wrap (i + 64) = i + 64) ∧ decide (i + 64 ≤ nI nn) = true) ∧ ((0 : Int) ≤ 64 ∧ (64 : Int) ≤ 64 ∧ (0 : Int) ≤ 0 ∧ (0 : Int) ≤ 64)) ∧ IntKind.i64.wrap (i + 64) = i + 64) ∧ (0 ≤ i + 64 ∧ i + 64 ≤ nI q ∧ 0 ≤ i ∧ i ≤ i + 64)) ∧
  (0 + i.toNat * 1 + mm i ≤ L.length ∧ 0 ≤ 0 + Int.toNat 0 * 1 ∧ 0 + Int.toNat 0 * 1 + mm i ≤ 64)) ∧ IntKind.i64.wrap (i + 64) = i + 64
def oZ : List (Option Bool) := List.replicate 7 (some true)
def nS (B : BF) (L : List Int) (S5 : sw.N5) (i : Int) : sw.N5 := B (sw.n5L S5.row) (xb L i)
variable (A : AT) (E : ET) (V : List Int → sw.N5) (B : BF) (x : HX) (y : Y) (h : HS) (s : Int) (LL : List Value) (L : List Int) (S5 : sw.N5) (k nn q : Nat) (i : Int) (v : VF)
theorem kZ : (goZ x A E V B (sZ x y h s (oL LL) L S5 k nn q i v) oZ).map (fun r => (r.1, r.2.obl, seenInT BR r.2 (sZ x y h s none L (nS B L S5 i) k nn q (i + 64) (VR v)) [0, 1, 2, 3, 4], r.2.heap.get 2)) = some (.normal, pZ L nn q i, seenAsT BR (sZ x y h s none L (nS B L S5 i) k nn q (i + 64) (VR v)) [0, 1, 2, 3, 4] 6, some (.cells (.lit LL) 22)) := by kernel_rfl
theorem xZ : (goZ x A E V B (sZ x y h s (oL LL) L S5 k nn q i v) [some true, some false]).map (fun r => (r.1, r.2.obl, seenInT BQ r.2 (sZ x y h s none L S5 k nn q i (VQ v)) [0, 1, 2, 3, 4], r.2.heap.get 2)) = some (.exit 2, (True ∧ IntKind.i64.wrap (i + 64) = i + 64) ∧ decide (i + 64 ≤ nI nn) = false, seenAsT BQ (sZ x y h s none L S5 k nn q i (VQ v)) [0, 1, 2, 3, 4] 5, some (.cells (.lit LL) 22)) := by kernel_rfl
theorem okZ : picOkT BR (s0 x y) (sZ x y h s none L S5 k nn q i (VR v)) [0, 1, 2, 3, 4] = true := by kernel_rfl
theorem okZx : picOkT BQ (s0 x y) (sZ x y h s none L S5 k nn q i (VQ v)) [0, 1, 2, 3, 4] = true := by kernel_rfl
end
end sk
end Go.Proofs.Yteknepfcbpoooaa
namespace Go.Proofs.Yteknepfcbpoooaa
open Go.ChangeShapes Go.WideShapes Go.ChangeAt Go.RowKit Go.Cln
namespace sk
open hc hx hy hz tb na
set_option linter.unusedVariables false
noncomputable section
theorem getZ {x : HX} {h : HS} {s : Int} {r : Option Ob} {L : List Int} {S5 : sw.N5} (b : Nat) : (Tr.rebuild (hZ2 x h s r L S5) 5).get b = if b < 5 then hZ2 x h s r L S5 b else none := by
  rw [Tr.get_rebuild _ _ _ (by decide)]
theorem hZ_ok (x : HX) (h : HS) (s : Int) (L : List Int) (S5 : sw.N5) : Go.Cln.RowsIn (hZ2 x h s none L S5) := by
  intro b n' w' g' t hb
  unfold hZ2 at hb
  split at hb <;> first | (cases hb; done) | cases hb
theorem h3Z {x : HX} {h : HS} {s : Int} {L : List Int} {S5 : sw.N5} {r : Option Ob} (b : Nat) (hb : b ≠ 2) : (Tr.rebuild (hZ2 x h s r L S5) 5).get b = (Tr.rebuild (hZ2 x h s none L S5) 5).get b := by
  rw [getZ, getZ]
  by_cases hl : b < 5
  · rw [if_pos hl, if_pos hl]
    have : b = 0 ∨ b = 1 ∨ b = 3 ∨ b = 4 := by omega
    rcases this with rfl | rfl | rfl | rfl <;> rfl
  · rw [if_neg hl, if_neg hl]
theorem nmZ {x : HX} {h : HS} {s : Int} {L : List Int} {S5 : sw.N5} (b : Nat) (o' : Ob) (hb : b ≠ 2) (hx : (Tr.rebuild (hZ2 x h s none L S5) 5).get b = some o') : nm [0, 1, 2, 3, 4] b ≠ 2 := by
  rw [getZ] at hx
  split at hx
  · have : b = 0 ∨ b = 1 ∨ b = 3 ∨ b = 4 := by omega
    rcases this with rfl | rfl | rfl | rfl <;> decide
  · cases hx
def Pcl (y : Y) (LL : List Value) : Prop := ∀ z ∈ LL, ∃ a b, z = pc y a b
theorem famZ {x : HX} {y : Y} {h : HS} {s : Int} {L : List Int} {S5 : sw.N5} {k nn q : Nat} {i : Int} {v : VF} {LL : List Value} (hg : Pcl y LL) : ObV (sZ x y h s none L S5 k nn q i v) (nm [0, 1, 2, 3, 4]) (.cells (.lit LL) 22) (.cells (.lit LL) 22) := .cells fun j z hz => by
  have hz' : LL[j]? = some z := hz
  obtain ⟨a, b, e⟩ := hg z (List.mem_of_getElem? hz')
  subst e
  exact ⟨_, hz, .inl rfl, rfl⟩
theorem stepZ {x : HX} {y : Y} {h : HS} {s : Int} {L : List Int} {S5 : sw.N5} {k nn q : Nat} {i : Int} {v : VF} {LL : List Value} (hv : ∀ i, DeadV (v i)) (hg : Pcl y LL) (h0 : 0 ≤ i) (h1 : i + 64 ≤ nI nn) (h2 : nn ≤ q) (h3 : nn ≤ L.length) (h4 : nn ≤ 1000000) :
    StepG Try.prog none (s0 x y) lb2 (sZ x y h s (oL LL) L S5 k nn q i v) fun e s' => e = .normal ∧ s' = sZ x y h s (oL LL) L (nS sw.blk L S5 i) k nn q (i + 64) (VR v) := by
  have hm : mm i ≤ 64 := Nat.min_le_right _ _
  unfold nI at h1
  have e1 : IntKind.i64.wrap (i + 64) = i + 64 := by rw [IntKind.wrap_i64]; omega
  have hp : pZ L nn q i := by
    refine ⟨⟨⟨⟨⟨⟨⟨trivial, e1⟩, ?_⟩, by omega⟩, e1⟩, ?_⟩, ?_, ?_, ?_⟩, e1⟩
    · unfold nI; rw [decide_eq_true_eq]; omega
    · unfold nI; omega
    · omega
    · omega
    · omega
  have g1 : (Tr.rebuild (hZ2 x h s (oL LL) L (nS sw.blk L S5 i)) 5).get 2 = some (.cells (.lit LL) 22) := by rw [getZ]; rfl
  have := StepG.stdM (s0 := s0 x y) (rd := none) sw.pg (KZ_ok x AB DS shaN) (σ := [0, 1, 2, 3, 4]) (kb := 2) (m := 2) (kZ AB DS shaN sw.blk x y h s LL L S5 k nn q i v) hp (show 1 ≤ 5 by decide) (tmZ_dead (VR_dead hv) lvR) (hZ_ok x h s L _) rfl (okZ x y h s L _ k nn q _ v) g1 (fun b hb => h3Z b hb) rfl (famZ hg) rfl (show 1 ≤ 2 by decide) (fun b o' hb hx => nmZ b o' hb hx)
  refine StepG.mono this ?_
  rintro e s ⟨rfl, rfl⟩; exact ⟨rfl, rfl⟩
theorem exitZ {x : HX} {y : Y} {h : HS} {s : Int} {L : List Int} {S5 : sw.N5} {k nn q : Nat} {i : Int} {v : VF} {LL : List Value} (hv : ∀ i, DeadV (v i)) (hg : Pcl y LL) (h0 : 0 ≤ i) (h1 : nI nn < i + 64) (h4 : i ≤ 1000000) :
    StepG Try.prog none (s0 x y) lb2 (sZ x y h s (oL LL) L S5 k nn q i v) fun e s' => e = .exit 2 ∧ s' = sZ x y h s (oL LL) L S5 k nn q i (VQ v) := by
  have e1 : IntKind.i64.wrap (i + 64) = i + 64 := by rw [IntKind.wrap_i64]; omega
  have g1 : (Tr.rebuild (hZ2 x h s (oL LL) L S5) 5).get 2 = some (.cells (.lit LL) 22) := by rw [getZ]; rfl
  have := StepG.stdM (s0 := s0 x y) (rd := none) sw.pg (KZ_ok x AB DS shaN) (σ := [0, 1, 2, 3, 4]) (kb := 2) (m := 2) (xZ AB DS shaN sw.blk x y h s LL L S5 k nn q i v) ⟨⟨trivial, e1⟩, by rw [decide_eq_false_iff_not]; omega⟩ (show 1 ≤ 5 by decide) (tmZ_dead (VQ_dead hv) lvQ) (hZ_ok x h s L _) rfl (okZx x y h s L _ k nn q _ v) g1 (fun b hb => h3Z b hb) rfl (famZ hg) rfl (show 1 ≤ 2 by decide) (fun b o' hb hx => nmZ b o' hb hx)
  refine StepG.mono this ?_
  rintro e s ⟨rfl, rfl⟩; exact ⟨rfl, rfl⟩
def zS (L : List Int) : Nat → sw.N5
  | 0 => F0
  | j + 1 => nS sw.blk L (zS L j) (64 * (j : Int))
theorem loopZ {x : HX} {y : Y} {h : HS} {s : Int} {L : List Int} {k N q : Nat} {v : VF} {LL : List Value} (hv : ∀ i, DeadV (v i)) (hg : Pcl y LL) (h2 : 64 * N ≤ q) (h3 : 64 * N ≤ L.length) (h4 : 64 * N ≤ 100000) :
    StepG Try.prog none (s0 x y) (.loop lb2) (sZ x y h s (oL LL) L F0 k (64 * N) q 0 v) fun e s' => e = .exit 2 ∧ ∃ v', (∀ i, DeadV (v' i)) ∧ s' = sZ x y h s (oL LL) L (zS L N) k (64 * N) q (64 * (N : Int)) v' := by
  refine StepG.loop (fun m S => ∃ j v', m = N - j ∧ j ≤ N ∧ (∀ i, DeadV (v' i)) ∧ S = sZ x y h s (oL LL) L (zS L j) k (64 * N) q (64 * (j : Int)) v') ?_ N _ ⟨0, v, by omega, Nat.zero_le _, hv, rfl⟩
  rintro m S ⟨j, v', rfl, hj, hv', rfl⟩
  by_cases he : j = N
  · subst he
    refine (exitZ hv' hg (by omega) (by unfold nI; omega) (by omega)).mono ?_
    rintro e S ⟨rfl, rfl⟩
    exact .inr ⟨(by intro hx; cases hx), rfl, _, VQ_dead hv', rfl⟩
  · refine (stepZ hv' hg (by omega) (by unfold nI; omega) h2 h3 (by omega)).mono ?_
    rintro e S ⟨rfl, rfl⟩
    refine .inl ⟨rfl, N - (j + 1), by omega, j + 1, VR v', rfl, by omega, VR_dead hv', ?_⟩
    have : 64 * ((j + 1 : Nat) : Int) = 64 * (j : Int) + 64 := by omega
    rw [this]; rfl
end
end sk
end Go.Proofs.Yteknepfcbpoooaa
namespace Go.Proofs.Yteknepfcbpoooaa
open Go.ChangeShapes Go.WideShapes Go.ChangeAt Go.RowKit Go.Cln
namespace sk
open hc hx hy hz tb na
set_option linter.unusedVariables false
noncomputable section
def tmW (v : VF) (y : Y) (k nn q : Nat) : List Value := (PV y.P 0 y.n y.c :: cv y.Q y.m y.d :: v 2 :: v 3 :: .bool false :: P0 1 0 :: pl k :: vs v 7 4 (.int .i64 0 :: .slice (some ⟨3, 0, some 1⟩) nn q :: P0 4 0 :: vs v 14 136 []))
theorem tmW_dead {v : VF} {y : Y} {k nn q : Nat} {B : Nat → Bool} (h : ∀ i, DeadV (v i)) (hB : ∀ i, ((Nat.ble 0 i && Nat.ble i 1) || (Nat.ble 4 i && Nat.ble i 6) || (Nat.ble 11 i && Nat.ble i 13)) = true → B i = true) : deadT B 0 (tmW v y k nn q) :=
  ⟨fun e => absurd e (by rw [hB 0 rfl]; decide), ⟨fun e => absurd e (by rw [hB 1 rfl]; decide), ⟨fun _ => h 2, ⟨fun _ => h 3, ⟨fun e => absurd e (by rw [hB 4 rfl]; decide), ⟨fun e => absurd e (by rw [hB 5 rfl]; decide), ⟨fun e => absurd e (by rw [hB 6 rfl]; decide), deadT_vs h 4 (⟨fun e => absurd e (by rw [hB 11 rfl]; decide), ⟨fun e => absurd e (by rw [hB 12 rfl]; decide), ⟨fun e => absurd e (by rw [hB 13 rfl]; decide), deadT_vs h 136 (trivial)⟩⟩⟩)⟩⟩⟩⟩⟩⟩⟩
def WM (i : Nat) : Bool := (Nat.ble 7 i && Nat.ble i 8) || Nat.beq i 10 || (Nat.ble 57 i && Nat.ble i 67) || (Nat.ble 69 i && Nat.ble i 70) || (Nat.ble 72 i && Nat.ble i 78)
def VM (v : VF) : VF := fun i => match Nat.beq i 68 with
  | true => .tuple #[junk, junk]
  | false => match Nat.beq i 71 with
  | true => .tuple #[junk, junk]
  | false => match Nat.beq i 79 with
  | true => .agg #[junk, junk, junk, junk, junk]
  | false => match WM i with
  | true => junk
  | false => v i
def BM (i : Nat) : Bool := ((Nat.ble 0 i && Nat.ble i 1) || (Nat.ble 4 i && Nat.ble i 6) || (Nat.ble 11 i && Nat.ble i 13)) || WM i || Nat.beq i 68 || Nat.beq i 71 || Nat.beq i 79
theorem VM_dead {v : VF} (h : ∀ i, DeadV (v i)) (i : Nat) : DeadV (VM v i) := by
  unfold VM
  split
  · exact ⟨rfl, fun _ => rfl, fun _ => rfl⟩
  split
  · exact ⟨rfl, fun _ => rfl, fun _ => rfl⟩
  split
  · exact ⟨rfl, fun _ => rfl, fun _ => rfl⟩
  split
  · exact DeadV.junk
  · exact h i
theorem lvM (i : Nat) (h : ((Nat.ble 0 i && Nat.ble i 1) || (Nat.ble 4 i && Nat.ble i 6) || (Nat.ble 11 i && Nat.ble i 13)) = true) : BM i = true := by
  unfold BM
  simp only [Bool.or_eq_true] at h ⊢
  refine .inl ?_
  refine .inl ?_
  refine .inl ?_
  exact .inl h
def sW (x : HX) (y : Y) (h : HS) (s : Int) (r : Option Ob) (L : List Int) (S5 : sw.N5) (k nn q : Nat) (v : VF) : St := ⟨tmW v y k nn q, [], Tr.rebuild (hZ2 x h s r L S5) 5, 5, 1, [], fun _ => false, True, []⟩
noncomputable def c11 : Code := dropC 5 c6
def LF (y : Y) (g : Nat → Value) (k : Nat) (f : Int) : List Value := famList g 0 (k * 1) ++ [pc y f (nI y.n)]
def M0 (x : HX) (y : Y) : List Int := List.take y.n (List.drop 0 (x.D y.P))
def LA (x : HX) (y : Y) : List Int := List.take (0 + y.n) (List.drop 0 (M0 x y)) ++ List.take (tl y.n) (List.drop 0 (T y.n))
def nA (y : Y) : Nat := 0 + y.n + tl y.n
def pM (x : HX) (y : Y) (p : Prop) : Prop := ((((p ∧ y.n ≤ 1152921504606846976) ∧ decide (0 + y.n ≤ 0) = false) ∧ ((y.n = 0 ∨ 0 + y.n ≤ (x.D y.P).length) ∧ 0 + 0 ≤ ([] : List Int).length ∧ (0 + y.n) * 1 ≤ mostBytes ∧ 0 + y.n ≤ mostBytes)) ∧ decide (0 + y.n + tl y.n ≤ 0 + y.n) = false) ∧
  (0 + tl y.n ≤ (T y.n).length ∧ 0 + (0 + y.n) ≤ (M0 x y).length ∧ (0 + y.n + tl y.n) * 1 ≤ mostBytes ∧ 0 + y.n + tl y.n ≤ mostBytes)
variable (A : AT) (E : ET) (V : List Int → sw.N5) (B : BF) (x : HX) (y : Y) (h : HS) (s f : Int) (g : Nat → Value) (k : Nat) (v : VF)
def tM : St := sW x y (hs' A x y h s f (nI y.n)) (ss h s f (nI y.n)) none (LA x y) F0 (k + 1) (nA y) (nA y) (VM v)
theorem rMF : (runRow (mk Try.prog (KZ x A E V B) 300) 9 none 5 c6 { sF x y h s g f k v with obl := True, orc := [some true, some false, none, some false, none, some true, some true, some false, some false] }).map (fun r => (r.2, r.1.obl, seenInT BM r.1 (tM A x y h s f k v) [0, 1, 4, 15, 17], r.1.heap.get 4)) =
    some (c11, pM x y (((((True ∧ pQ y f (nI y.n)) ∧ gr k) ∧ 0 + k * 1 ≤ k) ∧ pQ y f (nI y.n)) ∧ wA A x y h s f (nI y.n)), seenAsT BM (tM A x y h s f k v) [0, 1, 4, 15, 17] 18, some (.cells (.lit (LF y g k f)) 22)) := by kernel_rfl
theorem okM : picOkT BM (s0 x y) (tM A x y h s f k v) [0, 1, 4, 15, 17] = true := by kernel_rfl
def pM0 (x : HX) (y : Y) (p : Prop) : Prop := ((((p ∧ y.n ≤ 1152921504606846976) ∧ decide (0 + y.n ≤ 0) = true) ∧ ((y.n = 0 ∨ 0 + y.n ≤ (x.D y.P).length) ∧ 0 + 0 + y.n ≤ ([] : List Int).length)) ∧ decide (0 + y.n + tl y.n ≤ 0) = false) ∧
  (0 + tl y.n ≤ (T y.n).length ∧ 0 + (0 + y.n) ≤ (layI [] (0 + 0) (M0 x y)).length ∧ (0 + y.n + tl y.n) * 1 ≤ mostBytes ∧ 0 + y.n + tl y.n ≤ mostBytes)
def LA0 (x : HX) (y : Y) : List Int := List.take (0 + y.n) (List.drop 0 (layI [] (0 + 0) (M0 x y))) ++ List.take (tl y.n) (List.drop 0 (T y.n))
def tM0 : St := sW x y (hs' A x y h s f (nI y.n)) (ss h s f (nI y.n)) none (LA0 x y) F0 (k + 1) (nA y) (nA y) (VM v)
theorem rMF0 : (runRow (mk Try.prog (KZ x A E V B) 300) 9 none 5 c6 { sF x y h s g f k v with obl := True, orc := [some true, some false, none, some false, none, some true, some true, some true, some false] }).map (fun r => (r.2, r.1.obl, seenInT BM r.1 (tM0 A x y h s f k v) [0, 1, 4, 14, 16], r.1.heap.get 4)) =
    some (c11, pM0 x y (((((True ∧ pQ y f (nI y.n)) ∧ gr k) ∧ 0 + k * 1 ≤ k) ∧ pQ y f (nI y.n)) ∧ wA A x y h s f (nI y.n)), seenAsT BM (tM0 A x y h s f k v) [0, 1, 4, 14, 16] 17, some (.cells (.lit (LF y g k f)) 22)) := by kernel_rfl
theorem okM0 : picOkT BM (s0 x y) (tM0 A x y h s f k v) [0, 1, 4, 14, 16] = true := by kernel_rfl
theorem rMN : (runRow (mk Try.prog (KZ x A E V B) 300) 9 none 5 c6 { sN x y h s f 0 v with obl := True, orc := [some true, some true, some false, some false] }).map (fun r => (r.2, r.1.obl, seenInT BM r.1 (tM A x y h s f 0 v) [0, 1, 3, 14, 16], r.1.heap.get 3)) =
    some (c11, pM x y (((True ∧ pQ y f (nI y.n)) ∧ pQ y f (nI y.n)) ∧ wA A x y h s f (nI y.n)), seenAsT BM (tM A x y h s f 0 v) [0, 1, 3, 14, 16] 17, some (.cells (.lit (LF y g 0 f)) 22)) := by kernel_rfl
theorem okN1 : picOkT BM (s0 x y) (tM A x y h s f 0 v) [0, 1, 3, 14, 16] = true := by kernel_rfl
theorem rMN0 : (runRow (mk Try.prog (KZ x A E V B) 300) 9 none 5 c6 { sN x y h s f 0 v with obl := True, orc := [some true, some true, some true, some false] }).map (fun r => (r.2, r.1.obl, seenInT BM r.1 (tM0 A x y h s f 0 v) [0, 1, 3, 13, 15], r.1.heap.get 3)) =
    some (c11, pM0 x y (((True ∧ pQ y f (nI y.n)) ∧ pQ y f (nI y.n)) ∧ wA A x y h s f (nI y.n)), seenAsT BM (tM0 A x y h s f 0 v) [0, 1, 3, 13, 15] 16, some (.cells (.lit (LF y g 0 f)) 22)) := by kernel_rfl
theorem okN0 : picOkT BM (s0 x y) (tM0 A x y h s f 0 v) [0, 1, 3, 13, 15] = true := by kernel_rfl
noncomputable def cY : Code := fstC c11
noncomputable def c12 : Code := dropC 1 c11
end
end sk
end Go.Proofs.Yteknepfcbpoooaa
namespace Go.Proofs.Yteknepfcbpoooaa
open Go.ChangeShapes Go.WideShapes Go.ChangeAt Go.RowKit Go.Cln
namespace sk
open hc hx hy hz tb na
set_option linter.unusedVariables false
noncomputable section
def WY (i : Nat) : Bool := false
def BY (i : Nat) : Bool := ((Nat.ble 0 i && Nat.ble i 1) || (Nat.ble 4 i && Nat.ble i 6) || (Nat.ble 11 i && Nat.ble i 14)) || WY i
theorem lvY (i : Nat) (h : ((Nat.ble 0 i && Nat.ble i 1) || (Nat.ble 4 i && Nat.ble i 6) || (Nat.ble 11 i && Nat.ble i 14)) = true) : BY i = true := by
  unfold BY
  simp only [Bool.or_eq_true] at h ⊢
  exact .inl h
variable (A : AT) (E : ET) (V : List Int → sw.N5) (B : BF) (x : HX) (y : Y) (h : HS) (s : Int) (LL : List Value) (L : List Int) (S5 : sw.N5) (k nn q : Nat) (v : VF)
theorem rY : (runRow (mk Try.prog (KZ x A E V B) 300) 9 none 1 cY { sW x y h s (oL LL) L S5 k nn q v with obl := True, orc := [] }).map (fun r => (r.2, r.1.obl, seenInT BY r.1 (sZ x y h s none L S5 k nn q 0 v) [0, 1, 2, 3, 4], r.1.heap.get 2)) = some (.block 2 (.loop lb2), True, seenAsT BY (sZ x y h s none L S5 k nn q 0 v) [0, 1, 2, 3, 4] 5, some (.cells (.lit LL) 22)) := by kernel_rfl
theorem okY : picOkT BY (s0 x y) (sZ x y h s none L S5 k nn q 0 v) [0, 1, 2, 3, 4] = true := by kernel_rfl
theorem c11_eq : c11 = .seq cY c12 := by kernel_rfl
end
end sk
end Go.Proofs.Yteknepfcbpoooaa
