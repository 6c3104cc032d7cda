/- Read off the code by the clean reading. -/
import Derived.Test.YtiangelmpnnijaaClnFc
set_option linter.unusedVariables false
set_option linter.unusedSimpArgs false
set_option linter.deprecated false
set_option maxRecDepth 100000
namespace Go.Proofs.Ytiangelmpnnijaa
open Go.ChangeShapes Go.WideShapes Go.ChangeAt Go.RowKit Go.Cln
namespace ff
open fr fc fe
set_option linter.unusedVariables false
noncomputable section
def tmP (v : VF) (y : Y) : List Value := (.slice (some ⟨1, 0, none⟩) y.n y.c :: .int .i64 y.a :: .int .u8 y.w :: vs v 3 3 (.bool false :: .slice none 0 0 :: vs v 8 91 []))
theorem tmP_dead {v : VF} {y : Y} {B : Nat → Bool} (h : ∀ i, DeadV (v i)) (hB : ∀ i, ((Nat.ble 0 i && Nat.ble i 2) || (Nat.ble 6 i && Nat.ble i 7)) = true → B i = true) : deadT B 0 (tmP v y) :=
  ⟨fun e => absurd e (by rw [hB 0 rfl]; decide), ⟨fun e => absurd e (by rw [hB 1 rfl]; decide), ⟨fun e => absurd e (by rw [hB 2 rfl]; decide), deadT_vs h 3 (⟨fun e => absurd e (by rw [hB 6 rfl]; decide), ⟨fun e => absurd e (by rw [hB 7 rfl]; decide), deadT_vs h 91 (trivial)⟩⟩)⟩⟩⟩
def WP0 (i : Nat) : Bool := (Nat.ble 18 i && Nat.ble i 20)
def VP0 (v : VF) : VF := fun i => match WP0 i with
  | true => junk
  | false => v i
def BP0 (i : Nat) : Bool := ((Nat.ble 0 i && Nat.ble i 2) || (Nat.ble 6 i && Nat.ble i 7)) || WP0 i
theorem VP0_dead {v : VF} (h : ∀ i, DeadV (v i)) (i : Nat) : DeadV (VP0 v i) := by
  unfold VP0
  split
  · exact DeadV.junk
  · exact h i
theorem lvP0 (i : Nat) (h : ((Nat.ble 0 i && Nat.ble i 2) || (Nat.ble 6 i && Nat.ble i 7)) = true) : BP0 i = true := by
  unfold BP0
  simp only [Bool.or_eq_true] at h ⊢
  exact .inl h
def WQ1 (i : Nat) : Bool := false
def BQ1 (i : Nat) : Bool := ((Nat.ble 0 i && Nat.ble i 2) || (Nat.ble 6 i && Nat.ble i 8)) || WQ1 i
theorem lvQ1 (i : Nat) (h : ((Nat.ble 0 i && Nat.ble i 2) || (Nat.ble 6 i && Nat.ble i 8)) = true) : BQ1 i = true := by
  unfold BQ1
  simp only [Bool.or_eq_true] at h ⊢
  exact .inl h
def sP (x : BX) (y : Y) (v : VF) : St := ⟨tmP v y, [], Tr.rebuild (hS x y none) 2, 2, 2, [], fun _ => false, True, []⟩
def v00 : VF := fun _ => undef
section
variable (x : BX) (y : Y) (v : VF)
theorem rP : (go0 eF zf x y 3 [some false]).map (fun r => (r.2, r.1.obl, seenInT BP0 r.1 (sP x y (VP0 v00)) [0, 1])) = some (c3, True ∧ decide (nI y.n > 6) = false, seenAsT BP0 (sP x y (VP0 v00)) [0, 1] 2) := by kernel_rfl
theorem okP : picOkT BP0 (s0 x y) (sP x y (VP0 v00)) [0, 1] = true := by kernel_rfl
theorem rQ : (runRow (mk Try.prog (KF eF zf) 300) 4 none 1 cX { sP x y v with obl := True, orc := [] }).map (fun r => (r.2, r.1.obl, seenInT BQ1 r.1 (sN x y 0 v) [0, 1])) = some (.block 0 (.loop lb), True, seenAsT BQ1 (sN x y 0 v) [0, 1] 2) := by kernel_rfl
theorem okQ : picOkT BQ1 (s0 x y) (sN x y 0 v) [0, 1] = true := by kernel_rfl
theorem fn4 : (Try.prog.funcs[4]?).map (fun f => (f.body, f.results.toList, f.ntmps)) = some (some bodyC, [.tmp 6], 99) := by kernel_rfl
end
theorem xrow_ok (x : BX) (i : Nat) (v : Value) (h : v ∈ x.row i) : (∀ σ, Go.Cln.ren σ v = v) ∧ ∀ s : St, okB s 0 = true → okV s v = true := by
  unfold BX.row at h
  simp only [List.mem_cons, List.not_mem_nil, or_false] at h
  rcases h with rfl | rfl
  · exact ⟨fun _ => rfl, fun _ _ => rfl⟩
  · exact ⟨fun _ => rfl, fun _ h => h⟩
theorem hS_ok (x : BX) (y : Y) (r : Option Ob) (hr : ∀ n w g t, r ≠ some (.cells (.rows n w g) t)) : Go.Cln.RowsIn (hS x y r) := by
  intro b n' w' g t h
  unfold hS at h
  split at h
  · cases h
  · cases h; exact xrow_ok x
  · exact absurd h (hr _ _ _ _)
  · cases h
theorem hN_ok (x : BX) (y : Y) : Go.Cln.RowsIn (hS x y none) := hS_ok x y none fun _ _ _ _ h => by cases h
theorem hR_ok (x : BX) (y : Y) (M : List Int) : Go.Cln.RowsIn (hS x y (some (.cells (.ints .u8 M) 5))) := hS_ok x y _ fun _ _ _ _ h => by cases h
theorem hQ_ok (x : BX) (y : Y) (L Lw : List Int) (o n c p m d : Nat) (e : Int) : Go.Cln.RowsIn (hQ x y L Lw o n c p m d e) := by
  intro b n' w' g t h
  unfold hQ at h
  split at h <;> first | (cases h; exact xrow_ok x) | (cases h; done) | cases h
structure Bx (x : BX) (y : Y) : Prop where
  few : y.n ≤ 6
  qlen : ∀ i, i < y.n → ((x.D (x.Q i)).take (x.m i)).length = x.m i
  qbyt : ∀ i, i < y.n → ∀ z ∈ (x.D (x.Q i)).take (x.m i), 0 ≤ z ∧ z < 256
  w : 0 ≤ y.w ∧ y.w < 256
theorem ik_eq (k : Nat) : ik k = k := by unfold ik; omega
theorem jk_eq (k : Nat) : jk k = k := by unfold jk; omega
theorem H19_len (x : BX) (k : Nat) : (H19 x k).length = 19 := by unfold H19; simp
theorem by_eq (x : BX) (k : Nat) : by_ x k = (x.D (x.Q k)).take (x.m k) := by unfold by_; rw [jk_eq, List.drop_zero]
theorem D_len {x : BX} {y : Y} (b : Bx x y) {k : Nat} (hk : k < y.n) : x.m k ≤ (x.D (x.Q k)).length := by
  have := b.qlen k hk
  rw [List.length_take] at this; omega
theorem H19_byt {x : BX} {k : Nat} (h1 : 1 ≤ x.k k) (h2 : x.k k ≤ 4) (h3 : x.m k ≤ 493) : Byt (H19 x k) := fun z hz => by
  unfold H19 at hz
  rw [jk_eq, ik_eq] at hz
  rcases List.mem_append.1 hz with hz | hz
  · rw [(List.mem_replicate.1 hz).2]; decide
  · simp only [List.mem_cons, List.not_mem_nil, or_false] at hz
    rcases hz with rfl | rfl | rfl
    · unfold nI; rw [IntKind.wrap_i64, Int.tdiv_eq_ediv_of_nonneg (by omega)]; omega
    · unfold nI; rw [Int.tmod_eq_emod_of_nonneg (by omega)]; omega
    · omega
theorem Xo_len {x : BX} {y : Y} (b : Bx x y) {k : Nat} (hk : k < y.n) : (Xo x k).length = 19 + x.m k := by
  unfold Xo; rw [List.length_append, H19_len, by_eq, b.qlen k hk]
theorem Xz_eq {x : BX} {k : Nat} (h0 : x.m k = 0) : Xz x k = H19 x k := by
  unfold Xz layI
  rw [by_eq, h0, List.take_zero, List.nil_append, List.length_nil, Nat.add_zero, List.take_append_drop]
theorem Xo_byt {x : BX} {y : Y} (b : Bx x y) {k : Nat} (hk : k < y.n) (h1 : 1 ≤ x.k k) (h2 : x.k k ≤ 4) (h3 : x.m k ≤ 493) : Byt (Xo x k) := fun z hz => by
  unfold Xo at hz
  rcases List.mem_append.1 hz with hz | hz
  · exact H19_byt h1 h2 h3 z hz
  · rw [by_eq] at hz; exact b.qbyt k hk z hz
theorem Xz_len {x : BX} {k : Nat} (h0 : x.m k = 0) : (Xz x k).length = 19 + x.m k := by rw [Xz_eq h0, H19_len, h0]
theorem Xz_byt {x : BX} {k : Nat} (h0 : x.m k = 0) (h1 : 1 ≤ x.k k) (h2 : x.k k ≤ 4) : Byt (Xz x k) := by rw [Xz_eq h0]; exact H19_byt h1 h2 (by omega)
theorem bN_len {X : List Int} {m : Nat} (h : X.length = 19 + m) : (bN X m).length = 19 + m := by unfold bN; rw [List.drop_zero, List.length_take, h]; omega
theorem bN_byt {X : List Int} (m : Nat) (h : Byt X) : Byt (bN X m) := by unfold bN; rw [List.drop_zero]; exact byt_take h _
theorem bR_len {M X : List Int} {n m : Nat} (hM : M.length = n) (h : X.length = 19 + m) : (bR M n X m).length = n + (19 + m) := by
  unfold bR; rw [List.drop_zero, List.drop_zero, List.length_append, List.length_take, List.length_take, h, hM]; omega
theorem bR_byt {M X : List Int} (n m : Nat) (hM : Byt M) (h : Byt X) : Byt (bR M n X m) := fun z hz => by
  unfold bR at hz
  rw [List.drop_zero, List.drop_zero] at hz
  rcases List.mem_append.1 hz with hz | hz
  · exact hM z (List.mem_of_mem_take hz)
  · exact h z (List.mem_of_mem_take hz)
def Fin (e : Exit) (t : St) : Prop := leaves? e = true ∧ t.defers = [] ∧ t.tmps.getD 6 undef = .bool true
inductive Good (x : BX) (y : Y) : Nat → St → Prop
  | n {v : VF} (hv : ∀ i, DeadV (v i)) : Good x y 0 (sN x y 0 v)
  | r {k : Nat} {v : VF} {M : List Int} {n : Nat} (hv : ∀ i, DeadV (v i)) (h0 : 0 < k) (h1 : 19 ≤ n) (h2 : n ≤ 119 * k) (h3 : M.length = n) (h4 : Byt M) : Good x y k (sR x y M n n k v)
def Qd (x : BX) (y : Y) (e : Exit) (s : St) : Prop := (e = .exit 0 ∧ Good x y y.n s) ∨ (e = .ret ∧ Fin e s)
theorem finX {x : BX} {y : Y} {S : St} {o : List (Option Bool)} {p : Prop} (hn : 2 ≤ S.next) (hr : goX x S o = some (.ret, p, [], .bool true)) (hp : p) : StepG Try.prog none (s0 x y) lb S (fun e s => e = .ret ∧ Fin e s) :=
  (StepG.ran (s0 := s0 x y) pg (KF_ok eF zf) hr hp hn).mono (by rintro e t ⟨rfl, h1, h2⟩; exact ⟨rfl, rfl, h1, h2⟩)
theorem finE {x : BX} {y : Y} {S : St} {c : Code} {o : List (Option Bool)} {p : Prop} (hn : 2 ≤ S.next) (hr : goE S c o = some (.ret, p, [], .bool true)) (hp : p) : StepG Try.prog none (s0 x y) c S Fin :=
  (StepG.ran (s0 := s0 x y) pg (KF_ok eF zf) hr hp hn).mono (by rintro e t ⟨rfl, h1, h2⟩; exact ⟨rfl, h1, h2⟩)
theorem plo_ok {x : BX} {y : Y} {k : Nat} (b : Bx x y) (hk : k < y.n) (h1 : x.k k < 1) : plo x y k := by
  have dl := D_len b hk
  have f6 := b.few
  unfold plo
  exact ⟨⟨⟨⟨⟨⟨trivial, decide_eq_true (by unfold nI; omega)⟩, ⟨by unfold nI; omega, by unfold nI; omega⟩⟩, ⟨by omega, by rw [ik_eq]; exact hk⟩⟩, ⟨by unfold nI; omega, by unfold nI; omega⟩⟩, ⟨by omega, by rw [jk_eq]; exact hk⟩⟩, by rw [ik_eq]; exact decide_eq_true h1⟩
theorem phi_ok {x : BX} {y : Y} {k : Nat} (b : Bx x y) (hk : k < y.n) (h1 : ¬ x.k k < 1) (h2 : x.k k > 4) : phi x y k := by
  have dl := D_len b hk
  have f6 := b.few
  unfold phi
  exact ⟨⟨⟨⟨⟨⟨⟨trivial, decide_eq_true (by unfold nI; omega)⟩, ⟨by unfold nI; omega, by unfold nI; omega⟩⟩, ⟨by omega, by rw [ik_eq]; exact hk⟩⟩, ⟨by unfold nI; omega, by unfold nI; omega⟩⟩, ⟨by omega, by rw [jk_eq]; exact hk⟩⟩, by rw [ik_eq]; exact decide_eq_false h1⟩, by rw [ik_eq]; exact decide_eq_true h2⟩
theorem pbg_ok {x : BX} {y : Y} {k : Nat} (b : Bx x y) (hk : k < y.n) (h1 : ¬ x.k k < 1) (h2 : ¬ x.k k > 4) (h3 : nI (x.m k) > 493) : pbg x y k := by
  have dl := D_len b hk
  have f6 := b.few
  unfold pbg
  exact ⟨⟨⟨⟨⟨⟨⟨⟨trivial, decide_eq_true (by unfold nI; omega)⟩, ⟨by unfold nI; omega, by unfold nI; omega⟩⟩, ⟨by omega, by rw [ik_eq]; exact hk⟩⟩, ⟨by unfold nI; omega, by unfold nI; omega⟩⟩, ⟨by omega, by rw [jk_eq]; exact hk⟩⟩, by rw [ik_eq]; exact decide_eq_false h1⟩, by rw [ik_eq]; exact decide_eq_false h2⟩, by rw [jk_eq]; exact decide_eq_true h3⟩
theorem plg_ok {x : BX} {y : Y} {k : Nat} (b : Bx x y) (hk : k < y.n) (h1 : ¬ x.k k < 1) (h2 : ¬ x.k k > 4) (h3 : ¬ nI (x.m k) > 493) (h0 : 0 < x.m k) (h4 : nI (19 + x.m k) > 119) : plg x y k := by
  have dl := D_len b hk
  have f6 := b.few
  unfold plg
  exact ⟨⟨⟨⟨⟨⟨⟨⟨⟨⟨⟨⟨⟨⟨⟨trivial, decide_eq_true (by unfold nI; omega)⟩, ⟨by unfold nI; omega, by unfold nI; omega⟩⟩, ⟨by omega, by rw [ik_eq]; exact hk⟩⟩, ⟨by unfold nI; omega, by unfold nI; omega⟩⟩, ⟨by omega, by rw [jk_eq]; exact hk⟩⟩, by rw [ik_eq]; exact decide_eq_false h1⟩, by rw [ik_eq]; exact decide_eq_false h2⟩, by rw [jk_eq]; exact decide_eq_false h3⟩, by rw [jk_eq, IntKind.wrap_i64]; unfold nI at *; omega⟩, by rw [jk_eq, IntKind.wrap_i64, IntKind.wrap_u8, Int.tdiv_eq_ediv_of_nonneg (by unfold nI; omega)]; unfold nI at *; omega⟩, by rw [jk_eq, IntKind.wrap_u8, Int.tmod_eq_emod_of_nonneg (by unfold nI; omega)]; unfold nI at *; omega⟩, by rw [ik_eq, IntKind.wrap_u8]; omega⟩, by rw [jk_eq]; exact decide_eq_false (by omega)⟩, ⟨.inr (by rw [jk_eq]; omega), Nat.le_refl _, by rw [jk_eq]; unfold nI at h3; unfold mostBytes; omega, by rw [jk_eq]; unfold nI at h3; unfold mostBytes; omega⟩⟩, by rw [jk_eq]; exact decide_eq_true h4⟩
theorem pokN_ok {x : BX} {y : Y} {k : Nat} (b : Bx x y) (hk : k < y.n) (h1 : ¬ x.k k < 1) (h2 : ¬ x.k k > 4) (h3 : ¬ nI (x.m k) > 493) (h0 : 0 < x.m k) (h4 : ¬ nI (19 + x.m k) > 119) : pokN x y k := by
  have dl := D_len b hk
  have f6 := b.few
  unfold pokN
  exact ⟨⟨⟨⟨⟨⟨⟨⟨⟨⟨⟨⟨⟨⟨⟨⟨⟨⟨trivial, decide_eq_true (by unfold nI; omega)⟩, ⟨by unfold nI; omega, by unfold nI; omega⟩⟩, ⟨by omega, by rw [ik_eq]; exact hk⟩⟩, ⟨by unfold nI; omega, by unfold nI; omega⟩⟩, ⟨by omega, by rw [jk_eq]; exact hk⟩⟩, by rw [ik_eq]; exact decide_eq_false h1⟩, by rw [ik_eq]; exact decide_eq_false h2⟩, by rw [jk_eq]; exact decide_eq_false h3⟩, by rw [jk_eq, IntKind.wrap_i64]; unfold nI at *; omega⟩, by rw [jk_eq, IntKind.wrap_i64, IntKind.wrap_u8, Int.tdiv_eq_ediv_of_nonneg (by unfold nI; omega)]; unfold nI at *; omega⟩, by rw [jk_eq, IntKind.wrap_u8, Int.tmod_eq_emod_of_nonneg (by unfold nI; omega)]; unfold nI at *; omega⟩, by rw [ik_eq, IntKind.wrap_u8]; omega⟩, by rw [jk_eq]; exact decide_eq_false (by omega)⟩, ⟨.inr (by rw [jk_eq]; omega), Nat.le_refl _, by rw [jk_eq]; unfold nI at h3; unfold mostBytes; omega, by rw [jk_eq]; unfold nI at h3; unfold mostBytes; omega⟩⟩, by rw [jk_eq]; exact decide_eq_false h4⟩, by rw [jk_eq]; exact decide_eq_false (by omega)⟩, ⟨rfl, rfl, by rw [jk_eq, Xo_len b hk]; omega, by rw [jk_eq]; unfold nI at h3; unfold mostBytes; omega, by rw [jk_eq]; unfold nI at h3; unfold mostBytes; omega⟩⟩, by unfold nI; rw [IntKind.wrap_i64]; omega⟩
theorem pokR_ok {x : BX} {y : Y} {M : List Int} {n : Nat} {k : Nat} (b : Bx x y) (hk : k < y.n) (h1 : ¬ x.k k < 1) (h2 : ¬ x.k k > 4) (h3 : ¬ nI (x.m k) > 493) (h0 : 0 < x.m k) (h4 : ¬ nI (19 + x.m k) > 119) (hM : M.length = n) (hn : n ≤ 1000) : pokR x y M n n k := by
  have dl := D_len b hk
  have f6 := b.few
  unfold pokR
  exact ⟨⟨⟨⟨⟨⟨⟨⟨⟨⟨⟨⟨⟨⟨⟨⟨⟨⟨trivial, decide_eq_true (by unfold nI; omega)⟩, ⟨by unfold nI; omega, by unfold nI; omega⟩⟩, ⟨by omega, by rw [ik_eq]; exact hk⟩⟩, ⟨by unfold nI; omega, by unfold nI; omega⟩⟩, ⟨by omega, by rw [jk_eq]; exact hk⟩⟩, by rw [ik_eq]; exact decide_eq_false h1⟩, by rw [ik_eq]; exact decide_eq_false h2⟩, by rw [jk_eq]; exact decide_eq_false h3⟩, by rw [jk_eq, IntKind.wrap_i64]; unfold nI at *; omega⟩, by rw [jk_eq, IntKind.wrap_i64, IntKind.wrap_u8, Int.tdiv_eq_ediv_of_nonneg (by unfold nI; omega)]; unfold nI at *; omega⟩, by rw [jk_eq, IntKind.wrap_u8, Int.tmod_eq_emod_of_nonneg (by unfold nI; omega)]; unfold nI at *; omega⟩, by rw [ik_eq, IntKind.wrap_u8]; omega⟩, by rw [jk_eq]; exact decide_eq_false (by omega)⟩, ⟨.inr (by rw [jk_eq]; omega), Nat.le_refl _, by rw [jk_eq]; unfold nI at h3; unfold mostBytes; omega, by rw [jk_eq]; unfold nI at h3; unfold mostBytes; omega⟩⟩, by rw [jk_eq]; exact decide_eq_false h4⟩, by rw [jk_eq]; exact decide_eq_false (by omega)⟩, ⟨by rw [jk_eq, Xo_len b hk]; omega, by omega, by rw [jk_eq]; unfold nI at h3; unfold mostBytes; omega, by rw [jk_eq]; unfold nI at h3; unfold mostBytes; omega⟩⟩, by unfold nI; rw [IntKind.wrap_i64]; omega⟩
theorem pozN_ok {x : BX} {y : Y} {k : Nat} (b : Bx x y) (hk : k < y.n) (h1 : ¬ x.k k < 1) (h2 : ¬ x.k k > 4) (h3 : ¬ nI (x.m k) > 493) (h0 : x.m k = 0) (h4 : ¬ nI (19 + x.m k) > 119) : pozN x y k := by
  have dl := D_len b hk
  have f6 := b.few
  unfold pozN
  exact ⟨⟨⟨⟨⟨⟨⟨⟨⟨⟨⟨⟨⟨⟨⟨⟨⟨⟨trivial, decide_eq_true (by unfold nI; omega)⟩, ⟨by unfold nI; omega, by unfold nI; omega⟩⟩, ⟨by omega, by rw [ik_eq]; exact hk⟩⟩, ⟨by unfold nI; omega, by unfold nI; omega⟩⟩, ⟨by omega, by rw [jk_eq]; exact hk⟩⟩, by rw [ik_eq]; exact decide_eq_false h1⟩, by rw [ik_eq]; exact decide_eq_false h2⟩, by rw [jk_eq]; exact decide_eq_false h3⟩, by rw [jk_eq, IntKind.wrap_i64]; unfold nI at *; omega⟩, by rw [jk_eq, IntKind.wrap_i64, IntKind.wrap_u8, Int.tdiv_eq_ediv_of_nonneg (by unfold nI; omega)]; unfold nI at *; omega⟩, by rw [jk_eq, IntKind.wrap_u8, Int.tmod_eq_emod_of_nonneg (by unfold nI; omega)]; unfold nI at *; omega⟩, by rw [ik_eq, IntKind.wrap_u8]; omega⟩, by rw [jk_eq]; exact decide_eq_true (by omega)⟩, ⟨.inl (by rw [jk_eq]; exact h0), by rw [jk_eq]; omega⟩⟩, by rw [jk_eq]; exact decide_eq_false h4⟩, by rw [jk_eq]; exact decide_eq_false (by omega)⟩, ⟨rfl, rfl, by rw [jk_eq, Xz_len h0]; omega, by rw [jk_eq]; unfold nI at h3; unfold mostBytes; omega, by rw [jk_eq]; unfold nI at h3; unfold mostBytes; omega⟩⟩, by unfold nI; rw [IntKind.wrap_i64]; omega⟩
theorem pozR_ok {x : BX} {y : Y} {M : List Int} {n : Nat} {k : Nat} (b : Bx x y) (hk : k < y.n) (h1 : ¬ x.k k < 1) (h2 : ¬ x.k k > 4) (h3 : ¬ nI (x.m k) > 493) (h0 : x.m k = 0) (h4 : ¬ nI (19 + x.m k) > 119) (hM : M.length = n) (hn : n ≤ 1000) : pozR x y M n n k := by
  have dl := D_len b hk
  have f6 := b.few
  unfold pozR
  exact ⟨⟨⟨⟨⟨⟨⟨⟨⟨⟨⟨⟨⟨⟨⟨⟨⟨⟨trivial, decide_eq_true (by unfold nI; omega)⟩, ⟨by unfold nI; omega, by unfold nI; omega⟩⟩, ⟨by omega, by rw [ik_eq]; exact hk⟩⟩, ⟨by unfold nI; omega, by unfold nI; omega⟩⟩, ⟨by omega, by rw [jk_eq]; exact hk⟩⟩, by rw [ik_eq]; exact decide_eq_false h1⟩, by rw [ik_eq]; exact decide_eq_false h2⟩, by rw [jk_eq]; exact decide_eq_false h3⟩, by rw [jk_eq, IntKind.wrap_i64]; unfold nI at *; omega⟩, by rw [jk_eq, IntKind.wrap_i64, IntKind.wrap_u8, Int.tdiv_eq_ediv_of_nonneg (by unfold nI; omega)]; unfold nI at *; omega⟩, by rw [jk_eq, IntKind.wrap_u8, Int.tmod_eq_emod_of_nonneg (by unfold nI; omega)]; unfold nI at *; omega⟩, by rw [ik_eq, IntKind.wrap_u8]; omega⟩, by rw [jk_eq]; exact decide_eq_true (by omega)⟩, ⟨.inl (by rw [jk_eq]; exact h0), by rw [jk_eq]; omega⟩⟩, by rw [jk_eq]; exact decide_eq_false h4⟩, by rw [jk_eq]; exact decide_eq_false (by omega)⟩, ⟨by rw [jk_eq, Xz_len h0]; omega, by omega, by rw [jk_eq]; unfold nI at h3; unfold mostBytes; omega, by rw [jk_eq]; unfold nI at h3; unfold mostBytes; omega⟩⟩, by unfold nI; rw [IntKind.wrap_i64]; omega⟩
theorem roundT {x : BX} {y : Y} {k : Nat} {s : St} (b : Bx x y) (hk : k < y.n) (hG : Good x y k s) : StepG Try.prog none (s0 x y) lb s fun e s' => (e = .normal ∧ Good x y (k + 1) s') ∨ (e = .ret ∧ Fin e s') := by
  have f6 := b.few
  cases hG with
  | n hv =>
    rename_i v
    by_cases h1 : x.k 0 < 1
    · exact (finX (show 2 ≤ 2 by decide) (xNlo x y 0 v) (plo_ok b hk h1)).mono fun e s h => .inr h
    by_cases h2 : x.k 0 > 4
    · exact (finX (show 2 ≤ 2 by decide) (xNhi x y 0 v) (phi_ok b hk h1 h2)).mono fun e s h => .inr h
    by_cases h3 : nI (x.m 0) > 493
    · exact (finX (show 2 ≤ 2 by decide) (xNbg x y 0 v) (pbg_ok b hk h1 h2 h3)).mono fun e s h => .inr h
    have h3' : x.m 0 ≤ 493 := by unfold nI at h3; omega
    by_cases h0 : 0 < x.m 0
    · by_cases h4 : nI (19 + x.m 0) > 119
      · exact (finX (show 2 ≤ 2 by decide) (xNlg x y 0 v) (plg_ok b hk h1 h2 h3 h0 h4)).mono fun e s h => .inr h
      · refine (StepG.stdT (s0 := s0 x y) (rd := none) pg (KF_ok eF zf) (σ := [0, 1, 37]) (kNok x y 0 v) (pokN_ok b hk h1 h2 h3 h0 h4) (show 2 ≤ 2 by decide) (tmS_dead (VL_dead hv) lvL) (hR_ok x y _) rfl (okNok x y 0 v)).mono ?_
        rintro e s ⟨rfl, rfl⟩
        refine .inl ⟨rfl, ?_⟩
        rw [jk_eq]
        have h4' : x.m 0 ≤ 100 := by unfold nI at h4; omega
        exact Good.r (VL_dead hv) (by decide) (by omega) (by omega) (bN_len (Xo_len b hk)) (bN_byt _ (Xo_byt b hk (by omega) (by omega) h3'))
    · have h0' : x.m 0 = 0 := by omega
      have h4 : ¬ nI (19 + x.m 0) > 119 := by unfold nI; omega
      refine (StepG.stdT (s0 := s0 x y) (rd := none) pg (KF_ok eF zf) (σ := [0, 1, 36]) (kNoz x y 0 v) (pozN_ok b hk h1 h2 h3 h0' h4) (show 2 ≤ 2 by decide) (tmS_dead (VL_dead hv) lvL) (hR_ok x y _) rfl (okNoz x y 0 v)).mono ?_
      rintro e s ⟨rfl, rfl⟩
      refine .inl ⟨rfl, ?_⟩
      rw [jk_eq]
      exact Good.r (VL_dead hv) (by decide) (by omega) (by omega) (bN_len (Xz_len h0')) (bN_byt _ (Xz_byt h0' (by omega) (by omega)))
  | r hv hk0 g1 g2 g3 g4 =>
    rename_i v M n
    by_cases h1 : x.k k < 1
    · exact (finX (show 2 ≤ 3 by decide) (xRlo x y M n n k v) (plo_ok b hk h1)).mono fun e s h => .inr h
    by_cases h2 : x.k k > 4
    · exact (finX (show 2 ≤ 3 by decide) (xRhi x y M n n k v) (phi_ok b hk h1 h2)).mono fun e s h => .inr h
    by_cases h3 : nI (x.m k) > 493
    · exact (finX (show 2 ≤ 3 by decide) (xRbg x y M n n k v) (pbg_ok b hk h1 h2 h3)).mono fun e s h => .inr h
    have h3' : x.m k ≤ 493 := by unfold nI at h3; omega
    by_cases h0 : 0 < x.m k
    · by_cases h4 : nI (19 + x.m k) > 119
      · exact (finX (show 2 ≤ 3 by decide) (xRlg x y M n n k v) (plg_ok b hk h1 h2 h3 h0 h4)).mono fun e s h => .inr h
      · refine (StepG.stdT (s0 := s0 x y) (rd := none) pg (KF_ok eF zf) (σ := [0, 1, 38]) (kRok x y M n n k v) (pokR_ok b hk h1 h2 h3 h0 h4 g3 (by omega)) (show 2 ≤ 3 by decide) (tmS_dead (VL_dead hv) lvL) (hR_ok x y _) rfl (okRok x y M n k v)).mono ?_
        rintro e s ⟨rfl, rfl⟩
        refine .inl ⟨rfl, ?_⟩
        rw [jk_eq]
        have h4' : x.m k ≤ 100 := by unfold nI at h4; omega
        exact Good.r (VL_dead hv) (by omega) (by omega) (by omega) (bR_len g3 (Xo_len b hk)) (bR_byt _ _ g4 (Xo_byt b hk (by omega) (by omega) h3'))
    · have h0' : x.m k = 0 := by omega
      have h4 : ¬ nI (19 + x.m k) > 119 := by unfold nI; omega
      refine (StepG.stdT (s0 := s0 x y) (rd := none) pg (KF_ok eF zf) (σ := [0, 1, 37]) (kRoz x y M n n k v) (pozR_ok b hk h1 h2 h3 h0' h4 g3 (by omega)) (show 2 ≤ 3 by decide) (tmS_dead (VL_dead hv) lvL) (hR_ok x y _) rfl (okRoz x y M n k v)).mono ?_
      rintro e s ⟨rfl, rfl⟩
      refine .inl ⟨rfl, ?_⟩
      rw [jk_eq]
      exact Good.r (VL_dead hv) (by omega) (by omega) (by omega) (bR_len g3 (Xz_len h0')) (bR_byt _ _ g4 (Xz_byt h0' (by omega) (by omega)))
theorem exitX {x : BX} {y : Y} {s : St} (hG : Good x y y.n s) : StepG Try.prog none (s0 x y) lb s fun e s' => e = .exit 0 ∧ Good x y y.n s' := by
  generalize hm : y.n = q at hG
  cases hG with
  | n hv =>
    rename_i v
    refine (StepG.stdT (s0 := s0 x y) (rd := none) pg (KF_ok eF zf) (σ := [0, 1]) (xN x y 0 v) ⟨trivial, by rw [decide_eq_false_iff_not]; unfold nI; omega⟩ (show 2 ≤ 2 by decide) (tmS_dead (VE_dead hv) lvE) (hN_ok x y) rfl (okN x y 0 v)).mono ?_
    rintro e s ⟨rfl, rfl⟩
    exact ⟨rfl, Good.n (VE_dead hv)⟩
  | r hv hk g1 g2 g3 g4 =>
    rename_i v M n
    refine (StepG.stdT (s0 := s0 x y) (rd := none) pg (KF_ok eF zf) (σ := [0, 1, 2]) (xR x y M n n q v) ⟨trivial, by rw [decide_eq_false_iff_not]; unfold nI; omega⟩ (show 2 ≤ 3 by decide) (tmS_dead (VE_dead hv) lvE) (hR_ok x y _) rfl (okR x y M n n q v)).mono ?_
    rintro e s ⟨rfl, rfl⟩
    exact ⟨rfl, Good.r (VE_dead hv) hk g1 g2 g3 g4⟩
theorem loopT {x : BX} {y : Y} {s : St} (b : Bx x y) (hG : Good x y 0 s) : StepG Try.prog none (s0 x y) (.loop lb) s (Qd x y) := by
  refine StepG.loop (fun q s => ∃ k, q = y.n - k ∧ k ≤ y.n ∧ Good x y k s) ?_ y.n s ⟨0, by omega, Nat.zero_le _, hG⟩
  rintro q s ⟨k, rfl, hk, hg⟩
  by_cases he : k = y.n
  · subst he
    refine (exitX hg).mono ?_
    rintro e s ⟨rfl, h⟩
    exact .inr ⟨(by intro h; cases h), .inl ⟨rfl, h⟩⟩
  · refine (roundT b (by omega) hg).mono ?_
    rintro e s (⟨rfl, h⟩ | ⟨rfl, h⟩)
    · exact .inl ⟨rfl, _, by omega, k + 1, rfl, by omega, h⟩
    · exact .inr ⟨(by intro h; cases h), .inr ⟨rfl, h⟩⟩
end
end ff
end Go.Proofs.Ytiangelmpnnijaa
namespace Go.Proofs.Ytiangelmpnnijaa
open Go.ChangeShapes Go.WideShapes Go.ChangeAt Go.RowKit Go.Cln
namespace ff
open fr fc fe
set_option linter.unusedVariables false
noncomputable section
theorem zi_w {n : Nat} (h : n ≤ 1000) : IntKind.i64.wrap (zi n) = zi n := by unfold zi nI; rw [IntKind.wrap_i64]; omega
theorem zz_eq {n : Nat} (h : n ≤ 1000) : zz n = n := by unfold zz; rw [zi_w h]; unfold zi nI; omega
theorem lay0_eq {n : Nat} {M : List Int} (hM : M.length = n) (h : n ≤ 1000) : lay0 n M = M := by
  unfold lay0 layI
  rw [zz_eq h, List.drop_zero, List.take_of_length_le (Nat.le_of_eq hM), Nat.zero_add, hM, Nat.zero_add, List.take_zero, List.nil_append, List.drop_of_length_le (by rw [List.length_replicate]; exact Nat.le_refl _), List.append_nil]
theorem L1_eq {n : Nat} {M : List Int} (hM : M.length = n) (h : n ≤ 1000) : L1 n M = M := by
  unfold L1; rw [lay0_eq hM h, List.drop_zero, List.take_of_length_le (by omega)]
theorem L2_eq {n : Nat} {M : List Int} (hM : M.length = n) : L2 n M = M := by
  unfold L2; rw [List.drop_zero, List.take_of_length_le (by omega)]
theorem pMl_ok {y : Y} {M : List Int} {n : Nat} (hM : M.length = n) (h1 : 19 ≤ n) (h2 : n ≤ 1000) (ha : ¬ y.a ≥ 0) : pMl y M n := by
  unfold pMl
  exact ⟨⟨⟨⟨⟨⟨⟨⟨⟨⟨⟨⟨⟨⟨⟨⟨⟨trivial, decide_eq_false ha⟩, decide_eq_false (by omega)⟩, ⟨by omega, Nat.le_refl _, by unfold mostBytes; omega, by unfold mostBytes; omega⟩⟩, ⟨by decide, by decide⟩⟩, by unfold nI; rw [IntKind.wrap_i64]; omega⟩, by decide⟩, by decide⟩, zi_w (by omega)⟩, decide_eq_true (by unfold zi nI; omega)⟩, ⟨by rw [zi_w (by omega)]; unfold zi nI; omega, by rw [zz_eq (by omega)]; unfold mostBytes; omega, by rw [zz_eq (by omega)]; unfold mostBytes; omega⟩⟩, by decide⟩, ⟨by decide, by decide⟩⟩, decide_eq_true (by rw [zz_eq (by omega)]; omega)⟩, ⟨by omega, by rw [zz_eq (by omega), List.length_replicate]; omega⟩⟩, by decide⟩, decide_eq_false (by omega)⟩, ⟨rfl, rfl, by rw [lay0_eq hM (by omega), hM]; omega, by unfold mostBytes; omega, by unfold mostBytes; omega⟩⟩
theorem pMg_ok {y : Y} {M : List Int} {n : Nat} (hM : M.length = n) (h1 : 19 ≤ n) (h2 : n ≤ 1000) (ha : y.a ≥ 0) (hb : ¬ y.a < nI n) : pMg y M n := by
  unfold pMg
  exact ⟨⟨⟨⟨⟨⟨⟨⟨⟨⟨⟨⟨⟨⟨⟨⟨⟨⟨trivial, decide_eq_true ha⟩, decide_eq_false hb⟩, decide_eq_false (by omega)⟩, ⟨by omega, Nat.le_refl _, by unfold mostBytes; omega, by unfold mostBytes; omega⟩⟩, ⟨by decide, by decide⟩⟩, by unfold nI; rw [IntKind.wrap_i64]; omega⟩, by decide⟩, by decide⟩, zi_w (by omega)⟩, decide_eq_true (by unfold zi nI; omega)⟩, ⟨by rw [zi_w (by omega)]; unfold zi nI; omega, by rw [zz_eq (by omega)]; unfold mostBytes; omega, by rw [zz_eq (by omega)]; unfold mostBytes; omega⟩⟩, by decide⟩, ⟨by decide, by decide⟩⟩, decide_eq_true (by rw [zz_eq (by omega)]; omega)⟩, ⟨by omega, by rw [zz_eq (by omega), List.length_replicate]; omega⟩⟩, by decide⟩, decide_eq_false (by omega)⟩, ⟨rfl, rfl, by rw [lay0_eq hM (by omega), hM]; omega, by unfold mostBytes; omega, by unfold mostBytes; omega⟩⟩
theorem pMi_ok {y : Y} {M0 : List Int} {n : Nat} (hM0 : M0.length = n) (h1 : 19 ≤ n) (h2 : n ≤ 1000) (ha : y.a ≥ 0) (hb : y.a < nI n) : pMi y M0 n := by
  have hM : (M0.set (0 + y.a.toNat * 1) y.w).length = n := by rw [List.length_set]; exact hM0
  unfold pMi
  have hb' : y.a < (n : Int) := hb
  exact ⟨⟨⟨⟨⟨⟨⟨⟨⟨⟨⟨⟨⟨⟨⟨⟨⟨⟨⟨⟨trivial, decide_eq_true ha⟩, decide_eq_true hb⟩, ⟨ha, hb⟩⟩, by omega⟩, decide_eq_false (by omega)⟩, ⟨by omega, Nat.le_refl _, by unfold mostBytes; omega, by unfold mostBytes; omega⟩⟩, ⟨by decide, by decide⟩⟩, by unfold nI; rw [IntKind.wrap_i64]; omega⟩, by decide⟩, by decide⟩, zi_w (by omega)⟩, decide_eq_true (by unfold zi nI; omega)⟩, ⟨by rw [zi_w (by omega)]; unfold zi nI; omega, by rw [zz_eq (by omega)]; unfold mostBytes; omega, by rw [zz_eq (by omega)]; unfold mostBytes; omega⟩⟩, by decide⟩, ⟨by decide, by decide⟩⟩, decide_eq_true (by rw [zz_eq (by omega)]; omega)⟩, ⟨by omega, by rw [zz_eq (by omega), List.length_replicate]; omega⟩⟩, by decide⟩, decide_eq_false (by omega)⟩, ⟨rfl, rfl, by rw [lay0_eq hM (by omega), hM]; omega, by unfold mostBytes; omega, by unfold mostBytes; omega⟩⟩
theorem hq_ok {x : BX} {y : Y} {L Lw : List Int} {o n c p m d : Nat} {e : Int} : Go.Cln.RowsIn (hQ x y L Lw o n c p m d e) := hQ_ok x y L Lw o n c p m d e
structure G2' (L Lw : List Int) (o n c p m d : Nat) : Prop where
  qw : cw Lw p m = cw L o n
  qm : m = n
  qB : Byt (cw L o n)
  ql : o + n ≤ L.length
  qlw : p + m ≤ Lw.length
  qc : n ≤ c
  qd : m ≤ d
  qf : n ≤ 4000
theorem cw_len {L : List Int} {o n : Nat} (h : o + n ≤ L.length) : (cw L o n).length = n := by unfold cw; rw [List.length_take, List.length_drop]; omega
theorem cw_cut {L : List Int} {o n z : Nat} : cw L (o + z) (n - z) = (cw L o n).drop z := by unfold cw; rw [List.drop_take, List.drop_drop]
theorem G2'.both {L Lw : List Int} {o n c p m d : Nat} (g : G2' L Lw o n c p m d) {e : Int} (he : e = 0) : Both (cw Lw p m) (cw L o n) m d n c e e := ⟨g.qw, g.qm, he, he, g.qB, (cw_len g.ql).symm, g.qc, g.qd, g.qf⟩
theorem G2'.cut {L Lw : List Int} {o n c p m d z : Nat} (g : G2' L Lw o n c p m d) (hz : z ≤ n) : G2' L Lw (o + z) (n - z) (c - z) (p + z) (m - z) (d - z) := by
  obtain ⟨h1, h2, h3, h4, h5, h6, h7, h8⟩ := g
  refine ⟨by rw [cw_cut, cw_cut, h1], by omega, ?_, by omega, by omega, by omega, by omega, by omega⟩
  rw [cw_cut]
  exact fun x hx => h3 x (List.mem_of_mem_drop hx)
def Good2 (x : BX) (y : Y) (j : Nat) (s : St) : Prop := ∃ (L Lw : List Int) (o n c p m d : Nat) (e : Int) (v : VF), (∀ i, DeadV (v i)) ∧ G2' L Lw o n c p m d ∧ s = sQ x y L Lw o n c p m d e (j : Int) v
theorem round2 {x : BX} {y : Y} {j : Nat} {s : St} (hj : j < 40) (hG : Good2 x y j s) : StepG Try.prog none (s0 x y) lb2 s fun e s' => e = .normal ∧ Good2 x y (j + 1) s' := by
  obtain ⟨L, Lw, o, n, c, p, m, d, e, v, hv, g, rfl⟩ := hG
  have hi : decide ((j : Int) < 40) = true := decide_eq_true (by omega)
  have hw : IntKind.i64.wrap ((j : Int) + 1) = (j : Int) + 1 := by rw [IntKind.wrap_i64]; omega
  have ej : ((j + 1 : Nat) : Int) = (j : Int) + 1 := by omega
  by_cases he : e = 0
  · by_cases hk : okF (cw L o n) n
    · refine (StepG.stdT (s0 := s0 x y) (rd := none) pg (KF_ok eF zf) (σ := [0, 1, 2, 3, 4, 5]) (kD eF zf x y L Lw o n c p m d e (j : Int) v) ⟨⟨⟨trivial, hi⟩, rfl, g.both he, hk⟩, hw⟩ (show 2 ≤ 6 by decide) (tmQ_dead (VR_dead hv) lvR) hq_ok rfl (okR2 x y ..)).mono ?_
      rintro e' s ⟨rfl, rfl⟩
      refine ⟨rfl, L, Lw, _, _, _, _, _, _, e, VR v, VR_dead hv, ?_, by rw [ej]⟩
      rw [addO_eq, addO_eq]
      exact g.cut (okF_z hk).2.2.2
    · by_cases h0 : eF (cw L o n) n = 0
      · refine (StepG.stdT (s0 := s0 x y) (rd := none) pg (KF_ok eF zf) (σ := [0, 1, 2, 3, 4, 5]) (kC eF zf x y L Lw o n c p m d e (j : Int) v) ⟨⟨⟨trivial, hi⟩, g.both he, hk, h0⟩, hw⟩ (show 2 ≤ 6 by decide) (tmQ_dead (VR_dead hv) lvR) hq_ok rfl (okR2 x y ..)).mono ?_
        rintro e' s ⟨rfl, rfl⟩
        refine ⟨rfl, L, Lw, _, _, _, _, _, _, e, VR v, VR_dead hv, ?_, by rw [ej]⟩
        rw [addO_eq, addO_eq, Nat.add_zero, Nat.add_zero]
        exact g
      · refine (StepG.stdT (s0 := s0 x y) (rd := none) pg (KF_ok eF zf) (σ := [0, 1, 2, 3, 4, 5]) (kB eF zf x y L Lw o n c p m d e (j : Int) v) ⟨⟨⟨trivial, hi⟩, rfl, g.both he, hk, h0⟩, hw⟩ (show 2 ≤ 6 by decide) (tmQ_dead (VR_dead hv) lvR) hq_ok rfl (okR2 x y ..)).mono ?_
        rintro e' s ⟨rfl, rfl⟩
        refine ⟨rfl, L, Lw, _, _, _, _, _, _, _, VR v, VR_dead hv, ?_, by rw [ej]⟩
        rw [addO_eq, addO_eq, Nat.add_zero, Nat.add_zero]
        exact g
  · refine (StepG.stdT (s0 := s0 x y) (rd := none) pg (KF_ok eF zf) (σ := [0, 1, 2, 3, 4, 5]) (kA eF zf x y L Lw o n c p m d e (j : Int) v) ⟨⟨⟨trivial, hi⟩, he, rfl⟩, hw⟩ (show 2 ≤ 6 by decide) (tmQ_dead (VR_dead hv) lvR) hq_ok rfl (okR2 x y ..)).mono ?_
    rintro e' s ⟨rfl, rfl⟩
    refine ⟨rfl, L, Lw, _, _, _, _, _, _, e, VR v, VR_dead hv, ?_, by rw [ej]⟩
    rw [addO_eq, addO_eq, Nat.add_zero, Nat.add_zero]
    exact g
theorem loop2 {x : BX} {y : Y} {s : St} (hG : Good2 x y 0 s) : StepG Try.prog none (s0 x y) (.loop lb2) s fun e s' => e = .exit 2 ∧ Good2 x y 40 s' := by
  refine StepG.loop (fun q s => ∃ j, q = 40 - j ∧ j ≤ 40 ∧ Good2 x y j s) ?_ 40 s ⟨0, rfl, by omega, hG⟩
  rintro q s ⟨j, rfl, hj, hg⟩
  by_cases he : j = 40
  · subst he
    obtain ⟨L, Lw, o, n, c, p, m, d, e, v, hv, g, rfl⟩ := hg
    refine (StepG.stdT (s0 := s0 x y) (rd := none) pg (KF_ok eF zf) (σ := [0, 1, 2, 3, 4, 5]) (kZ eF zf x y L Lw o n c p m d e ((40 : Nat) : Int) v) ⟨trivial, by decide⟩ (show 2 ≤ 6 by decide) (tmQ_dead (VZ_dead hv) lvZ) hq_ok rfl (okZ2 x y ..)).mono ?_
    rintro e' s ⟨rfl, rfl⟩
    exact .inr ⟨(by intro h; cases h), rfl, L, Lw, o, n, c, p, m, d, e, VZ v, VZ_dead hv, g, rfl⟩
  · refine (round2 (by omega) hg).mono ?_
    rintro e s ⟨rfl, h⟩
    exact .inl ⟨rfl, _, by omega, j + 1, rfl, by omega, h⟩
theorem G1_eq {L : List Int} {o n : Nat} : G1 L o n = cw L o n := by unfold G1 cw; rw [List.take_zero, List.nil_append]
theorem G2_eq {L : List Int} {o n : Nat} : G2 L o n = cw L o n := by
  unfold G2 layI cw
  rw [Nat.zero_add, List.take_nil, List.nil_append, List.drop_nil, List.append_nil]
theorem endT {x : BX} {y : Y} {s : St} (hG : Good2 x y 40 s) : StepG Try.prog none (s0 x y) c6 s Fin := by
  obtain ⟨L, Lw, o, n, c, p, m, d, e, v, hv, g, rfl⟩ := hG
  have ll := cw_len g.ql
  have eb : List.take (0 + n) (List.drop 0 (cw L o n)) = List.take m (List.drop p Lw) := by
    rw [List.drop_zero, List.take_of_length_le (by omega)]
    exact g.qw.symm
  have bq := beqB_of eb
  have ee : (e == e) = true := beq_self_eq_true e
  have q1 := g.qlw
  have q2 := g.ql
  have q3 := g.qf
  by_cases h0 : n = 0
  · refine finE (show 2 ≤ 6 by decide) (eZ x y L Lw o n c p m d e ((40 : Nat) : Int) v) ?_
    unfold pZ0
    rw [G2_eq]
    exact ⟨⟨⟨⟨⟨⟨⟨⟨⟨⟨⟨⟨trivial, q1⟩, decide_eq_true (by omega)⟩, by omega, by rw [h0]; exact Nat.le_refl 0⟩, by omega⟩, bq⟩, bq⟩, bq⟩, bq⟩, bq⟩, bq⟩, bq⟩, ee⟩
  · refine finE (show 2 ≤ 6 by decide) (eG x y L Lw o n c p m d e ((40 : Nat) : Int) v) ?_
    unfold pG
    rw [G1_eq]
    exact ⟨⟨⟨⟨⟨⟨⟨⟨⟨⟨⟨⟨trivial, q1⟩, decide_eq_false (by omega)⟩, by omega, Nat.le_refl 0, by unfold mostBytes; omega, by unfold mostBytes; omega⟩, by omega⟩, bq⟩, bq⟩, bq⟩, bq⟩, bq⟩, bq⟩, bq⟩, ee⟩
theorem midM {x : BX} {y : Y} {M : List Int} {n : Nat} {v : VF} (hv : ∀ i, DeadV (v i)) (hM : M.length = n) (hB : Byt M) (h2 : n ≤ 1000) : StepG Try.prog none (s0 x y) c5 (sM x y (L1 n M) (L2 n M) 0 (0 + n) (0 + n) 0 (0 + n) (0 + n) 0 v) Fin := by
  rw [c5_eq, L1_eq hM h2, L2_eq hM, Nat.zero_add]
  refine StepG.seq (StepG.mono (Q := fun e s => e = .normal ∧ Good2 x y 40 s) ?_ ?_)
  · refine StepG.seqs (s0 := s0 x y) (c' := .block 2 (.loop lb2)) (s2 := sQ x y M M 0 n n 0 n n 0 0 v) (σ := [0, 1, 2, 3, 4, 5]) pg (KF_ok eF zf) (B := BQ0) (k := 1) (n := 300) (rY eF zf x y M M n 0 n 0 n n 0 v) trivial (show 2 ≤ 6 by decide) (tmQ_dead hv lvQ0) hq_ok rfl (okY x y ..) ?_
    refine StepG.block ?_
    have cwM : cw M 0 n = M := by unfold cw; rw [List.drop_zero, List.take_of_length_le (by omega)]
    refine (loop2 ⟨M, M, 0, n, n, 0, n, n, 0, v, hv, ⟨rfl, rfl, by rw [cwM]; exact hB, by omega, by omega, Nat.le_refl _, Nat.le_refl _, by omega⟩, rfl⟩).mono ?_
    rintro e s ⟨rfl, h⟩
    exact ⟨rfl, h⟩
  · rintro e s ⟨rfl, hg⟩
    exact .inl ⟨rfl, endT hg⟩
theorem set_byt {M : List Int} {i : Nat} {w : Int} (hB : Byt M) (hw : 0 ≤ w ∧ w < 256) : Byt (M.set i w) := fun z hz => by
  rcases List.mem_or_eq_of_mem_set hz with h | rfl
  · exact hB z h
  · exact hw
theorem restT {x : BX} {y : Y} {s : St} (b : Bx x y) (hG : Good x y y.n s) : StepG Try.prog none (s0 x y) c4 s Fin := by
  have f6 := b.few
  generalize hq : y.n = q at hG
  cases hG with
  | n hv =>
    rename_i v
    by_cases ha : y.a ≥ 0
    · exact finE (show 2 ≤ 2 by decide) (eNa x y 0 v) ⟨⟨trivial, decide_eq_true ha⟩, decide_eq_false (by unfold nI; omega)⟩
    · exact finE (show 2 ≤ 2 by decide) (eNb x y 0 v) ⟨trivial, decide_eq_false ha⟩
  | r hv hk g1 g2 g3 g4 =>
    rename_i v M n
    have n1000 : n ≤ 1000 := by omega
    by_cases ha : y.a ≥ 0
    · by_cases hb : y.a < nI n
      · refine StepG.seqs (s0 := s0 x y) (c' := c5) pg (KF_ok eF zf) (B := BMi) (k := 4) (n := 300) (rMi eF zf x y M n q v) (pMi_ok g3 g1 n1000 ha hb) (show 2 ≤ 3 by decide) (tmM_dead (VMi_dead hv) lvMi) hq_ok rfl (okMi x y M n v) ?_
        exact midM (VMi_dead hv) (by rw [List.length_set]; exact g3) (set_byt g4 b.w) n1000
      · refine StepG.seqs (s0 := s0 x y) (c' := c5) pg (KF_ok eF zf) (B := BMg) (k := 4) (n := 300) (rMg eF zf x y M n q v) (pMg_ok g3 g1 n1000 ha hb) (show 2 ≤ 3 by decide) (tmM_dead (VMg_dead hv) lvMg) hq_ok rfl (okMg x y M n v) ?_
        exact midM (VMg_dead hv) g3 g4 n1000
    · refine StepG.seqs (s0 := s0 x y) (c' := c5) pg (KF_ok eF zf) (B := BMl) (k := 4) (n := 300) (rMl eF zf x y M n q v) (pMl_ok g3 g1 n1000 ha) (show 2 ≤ 3 by decide) (tmM_dead (VMl_dead hv) lvMl) hq_ok rfl (okMl x y M n v) ?_
      exact midM (VMl_dead hv) g3 g4 n1000
theorem bodyT {x : BX} {y : Y} (b : Bx x y) : StepG Try.prog none (s0 x y) bodyC (s0 x y) Fin := by
  have hd : ∀ i, DeadV (VP0 v00 i) := VP0_dead fun _ => DeadV.undef
  have f6 := b.few
  refine StepG.seqs (s0 := s0 x y) (c' := c3) (s2 := sP x y (VP0 v00)) (σ := [0, 1]) pg (KF_ok eF zf) (B := BP0) (k := 3) (n := 300) (rP x y) ⟨trivial, by unfold nI; rw [decide_eq_false_iff_not]; omega⟩ (Nat.le_refl _) (tmP_dead hd lvP0) (hN_ok x y) rfl (okP x y) ?_
  rw [c3_eq]
  refine StepG.seq (StepG.mono (Q := fun e s => (e = .normal ∧ Good x y y.n s) ∨ (e = .ret ∧ Fin e s)) ?_ ?_)
  · refine StepG.seqs (s0 := s0 x y) (c' := .block 0 (.loop lb)) (s2 := sN x y 0 (VP0 v00)) (σ := [0, 1]) pg (KF_ok eF zf) (B := BQ1) (k := 1) (n := 300) (rQ x y (VP0 v00)) trivial (show 2 ≤ 2 by decide) (tmS_dead hd lvQ1) (hN_ok x y) rfl (okQ x y (VP0 v00)) ?_
    refine StepG.block ?_
    refine (loopT b (Good.n hd)).mono ?_
    rintro e s (⟨rfl, h⟩ | ⟨rfl, h⟩)
    · exact .inl ⟨rfl, h⟩
    · exact .inr ⟨rfl, h⟩
  · rintro e s (⟨rfl, hg⟩ | ⟨rfl, hg⟩)
    · exact .inl ⟨rfl, restT b hg⟩
    · exact .inr ⟨(by intro h; cases h), hg⟩
end
end ff
end Go.Proofs.Ytiangelmpnnijaa
