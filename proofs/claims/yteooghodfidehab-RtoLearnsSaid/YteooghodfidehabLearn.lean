/- Contracts of what learns, and what is late. -/
import Derived.Test.YteooghodfidehabWrite
namespace Go.Proofs.Yteooghodfidehab
open Go.RowKit

theorem lw_eq (c d : Clk) (h1 : c.any = d.any) (h2 : c.sm = d.sm) (h3 : c.sp = d.sp) (h4 : c.least = d.least) (h5 : c.most = d.most) (h6 : c.first = d.first) : lw c = lw d := by
  unfold lw; rw [h1, h2, h3, h4, h5, h6]

theorem ck_drew {w : World} {b : Nat} {c : Clk} (h : Ck w b c) : Ck w.drew b c :=
  h.below (B := w.heap.size) ⟨rfl, rfl, rfl, Nat.le_refl _, fun _ _ => rfl⟩ h.lt

theorem lw_ck (b : Nat) (c : Clk) (w : World) (h : Ck w b c) (g : Good c) :
    Calls Try.prog 31 #[.pointer (some ⟨b, 0, none⟩)] w fun e w' => e = .returned (.int .i64 (lw c)) ∧ Ck w' b c ∧ Below w.heap.size w w' :=
  (lw_any b c w h g).mono fun _ _ ⟨he, k, hk⟩ => ⟨he, hk ▸ h.drewN k, hk ▸ below_drewN (Below.refl _ _) k⟩

def absI (n : Int) : Int := if 0 ≤ n then n else -n

/-- behind a sample -/
def sampleC (c : Clk) (t : Int) : Clk :=
  let d : Clk := if c.any = true then { c with sm := c.sm + (t - c.sm / 8), sp := c.sp + (absI (t - c.sm / 8) - c.sp / 4) } else { c with any := true, sm := 8 * t, sp := 2 * t }
  { d with wait := lw d }

set_option maxHeartbeats 2000000 in
theorem sample_first (b : Nat) (c : Clk) (t : Int) (w : World) (h : Ck w b c) (g : Good c) (h0 : 0 ≤ t) (h1 : t ≤ 65536) (ha : c.any = false) :
    Calls Try.prog 16 #[.pointer (some ⟨b, 0, none⟩), .int .i64 t] w fun e w' => e = .returned (.int .i64 0) ∧ Ck w' b (sampleC c t) ∧ Touch b w w' := by
  have E := Lib.hid (show sampleC c t = { c with any := true, sm := 8 * t, sp := 2 * t, wait := lw { c with any := true, sm := 8 * t, sp := 2 * t } } by unfold sampleC; rw [ha]; rfl)
  have hw : 1 ≤ c.wait := by have := g.g1; have := g.g11; omega
  have z := h.z
  have c4 := h.c4
  have c5 := h.c5
  have c6 := h.c6
  have c7 := h.c7
  rw [ha] at c4
  have h' := ck_set6 (ck_set5 (ck_set4 h true) (8 * t)) (2 * t)
  have g' : Good { c with any := true, sm := 8 * t, sp := 2 * t } := ⟨g.g1, g.g2, g.g3, g.g4, g.g5, g.g6, by simp; omega, by simp; omega, by simp; omega, by simp; omega, g.g11, g.g12, g.g13, g.g14, g.g15, g.g16⟩
  have t' : Touch b w (((w.setCell ⟨b, 4, none⟩ (.bool true)).setCell ⟨b, 5, none⟩ (.int .i64 (8 * t))).setCell ⟨b, 6, none⟩ (.int .i64 (2 * t))) := (((Touch.refl _ _).set 4 _).set 5 _).set 6 _
  go_enter Try.func16, Try.ntmps16
  go_wp2
  refine wp_scope_fwd 0 rfl ?_
  go_wp2_with fail
  (with_reducible refine (none_ck _ _ _ h hw).mono ?_); rintro e w1 ⟨rfl, rfl⟩
  go_wp2_with fail
  (with_reducible refine (lw_any _ _ _ h' g').mono ?_); rintro e w1 ⟨rfl, kk, rfl⟩
  have z' := (h'.drewN kk).z 7
  have d7 := (h'.drewN kk).c7
  go_wp2_with fail
  refine jump_ret ?_
  go_ret
  exact ⟨rfl, E.out ▸ ck_set7 (h'.drewN kk) _, (t'.trans (touch_of_below b (below_drewN (Below.refl _ _) kk))).set 7 _⟩

theorem sample_bd (sm sp t : Int) (g7 : 0 ≤ sm) (g8 : sm ≤ 524288) (g9 : 0 ≤ sp) (g10 : sp ≤ 262144) (h0 : 0 ≤ t) (h1 : t ≤ 65536) :
    0 ≤ sm + (t - sm / 8) ∧ sm + (t - sm / 8) ≤ 524288 ∧ 0 ≤ sp + (absI (t - sm / 8) - sp / 4) ∧ sp + (absI (t - sm / 8) - sp / 4) ≤ 262144 ∧ -65536 ≤ t - sm / 8 ∧ t - sm / 8 ≤ 65536 := by
  unfold absI; omega

set_option maxHeartbeats 4000000 in
theorem sample_up (b : Nat) (c : Clk) (t : Int) (w : World) (h : Ck w b c) (g : Good c) (h0 : 0 ≤ t) (h1 : t ≤ 65536) (ha : c.any = true) (hp : 0 ≤ t - c.sm / 8) :
    Calls Try.prog 16 #[.pointer (some ⟨b, 0, none⟩), .int .i64 t] w fun e w' => e = .returned (.int .i64 0) ∧ Ck w' b (sampleC c t) ∧ Touch b w w' := by
  have A : absI (t - c.sm / 8) = t - c.sm / 8 := by unfold absI; split <;> omega
  have E := Lib.hid (show sampleC c t = { c with sm := c.sm + (t - c.sm / 8), sp := c.sp + (t - c.sm / 8 - c.sp / 4), wait := lw { c with sm := c.sm + (t - c.sm / 8), sp := c.sp + (t - c.sm / 8 - c.sp / 4) } } by unfold sampleC; rw [ha, A]; rfl)
  have hw : 1 ≤ c.wait := by have := g.g1; have := g.g11; omega
  have g7 := g.g7
  have g8 := g.g8
  have g9 := g.g9
  have g10 := g.g10
  have b0 := sample_bd c.sm c.sp t g7 g8 g9 g10 h0 h1
  rw [A] at b0
  clear A
  have B := Lib.hid b0
  clear b0
  have z := h.z
  have c4 := h.c4
  have c5 := h.c5
  have c6 := h.c6
  have c7 := h.c7
  rw [ha] at c4
  have h' := ck_set6 (ck_set5 h (c.sm + (t - c.sm / 8))) (c.sp + (t - c.sm / 8 - c.sp / 4))
  have g' : Good { c with sm := c.sm + (t - c.sm / 8), sp := c.sp + (t - c.sm / 8 - c.sp / 4) } := ⟨g.g1, g.g2, g.g3, g.g4, g.g5, g.g6, B.out.1, B.out.2.1, B.out.2.2.1, B.out.2.2.2.1, g.g11, g.g12, g.g13, g.g14, g.g15, g.g16⟩
  have t' : Touch b w ((w.setCell ⟨b, 5, none⟩ (.int .i64 (c.sm + (t - c.sm / 8)))).setCell ⟨b, 6, none⟩ (.int .i64 (c.sp + (t - c.sm / 8 - c.sp / 4)))) := ((Touch.refl _ _).set 5 _).set 6 _
  have hd := ck_drew h'
  clear ha
  have td := t'.drew
  have b5 := B.out.2.2.2.2.1
  have b6 := B.out.2.2.2.2.2
  go_enter Try.func16, Try.ntmps16
  go_wp2
  refine wp_scope_fwd 0 rfl ?_
  go_wp2_with fail
  (with_reducible refine (none_ck _ _ _ h hw).mono ?_); rintro e w1 ⟨rfl, rfl⟩
  go_wp2_with fail
  go_region
  go_wp2_with fail
  (with_reducible refine (lw_ck _ _ _ hd g').mono ?_); rintro e w1 ⟨rfl, h1, b1⟩
  have z' := h1.z 7
  have d7 := h1.c7
  go_wp2_with fail
  refine jump_ret ?_
  go_ret
  exact ⟨rfl, E.out ▸ ck_set7 h1 _, (td.trans (touch_of_below b b1)).set 7 _⟩

set_option maxHeartbeats 4000000 in
theorem sample_dn (b : Nat) (c : Clk) (t : Int) (w : World) (h : Ck w b c) (g : Good c) (h0 : 0 ≤ t) (h1 : t ≤ 65536) (ha : c.any = true) (hp : t - c.sm / 8 < 0) :
    Calls Try.prog 16 #[.pointer (some ⟨b, 0, none⟩), .int .i64 t] w fun e w' => e = .returned (.int .i64 0) ∧ Ck w' b (sampleC c t) ∧ Touch b w w' := by
  have A : absI (t - c.sm / 8) = -(t - c.sm / 8) := by unfold absI; split <;> omega
  have E := Lib.hid (show sampleC c t = { c with sm := c.sm + (t - c.sm / 8), sp := c.sp + (-(t - c.sm / 8) - c.sp / 4), wait := lw { c with sm := c.sm + (t - c.sm / 8), sp := c.sp + (-(t - c.sm / 8) - c.sp / 4) } } by unfold sampleC; rw [ha, A]; rfl)
  have hw : 1 ≤ c.wait := by have := g.g1; have := g.g11; omega
  have g7 := g.g7
  have g8 := g.g8
  have g9 := g.g9
  have g10 := g.g10
  have b0 := sample_bd c.sm c.sp t g7 g8 g9 g10 h0 h1
  rw [A] at b0
  clear A
  have B := Lib.hid b0
  clear b0
  have z := h.z
  have c4 := h.c4
  have c5 := h.c5
  have c6 := h.c6
  have c7 := h.c7
  rw [ha] at c4
  have h' := ck_set6 (ck_set5 h (c.sm + (t - c.sm / 8))) (c.sp + (-(t - c.sm / 8) - c.sp / 4))
  have g' : Good { c with sm := c.sm + (t - c.sm / 8), sp := c.sp + (-(t - c.sm / 8) - c.sp / 4) } := ⟨g.g1, g.g2, g.g3, g.g4, g.g5, g.g6, B.out.1, B.out.2.1, B.out.2.2.1, B.out.2.2.2.1, g.g11, g.g12, g.g13, g.g14, g.g15, g.g16⟩
  have t' : Touch b w ((w.setCell ⟨b, 5, none⟩ (.int .i64 (c.sm + (t - c.sm / 8)))).setCell ⟨b, 6, none⟩ (.int .i64 (c.sp + (-(t - c.sm / 8) - c.sp / 4)))) := ((Touch.refl _ _).set 5 _).set 6 _
  have hd := ck_drew h'
  clear ha
  have td := t'.drew
  have b5 := B.out.2.2.2.2.1
  have b6 := B.out.2.2.2.2.2
  go_enter Try.func16, Try.ntmps16
  go_wp2
  refine wp_scope_fwd 0 rfl ?_
  go_wp2_with fail
  (with_reducible refine (none_ck _ _ _ h hw).mono ?_); rintro e w1 ⟨rfl, rfl⟩
  go_wp2_with fail
  go_region
  go_wp2_with fail
  (with_reducible refine (lw_ck _ _ _ hd g').mono ?_); rintro e w1 ⟨rfl, h1, b1⟩
  have z' := h1.z 7
  have d7 := h1.c7
  go_wp2_with fail
  refine jump_ret ?_
  go_ret
  exact ⟨rfl, E.out ▸ ck_set7 h1 _, (td.trans (touch_of_below b b1)).set 7 _⟩


theorem sample_any (b : Nat) (c : Clk) (t : Int) (w : World) (h : Ck w b c) (g : Good c) (h0 : 0 ≤ t) (h1 : t ≤ 65536) :
    Calls Try.prog 16 #[.pointer (some ⟨b, 0, none⟩), .int .i64 t] w fun e w' => e = .returned (.int .i64 0) ∧ Ck w' b (sampleC c t) ∧ Touch b w w' := by
  cases ha : c.any with
  | false => exact sample_first b c t w h g h0 h1 ha
  | true =>
    by_cases hp : 0 ≤ t - c.sm / 8
    · exact sample_up b c t w h g h0 h1 ha hp
    · exact sample_dn b c t w h g h0 h1 ha (by omega)

theorem sample_no (b : Nat) (c : Clk) (t : Int) (w : World) (h : Ck w b c) (hw : 1 ≤ c.wait) (hr : t < 0 ∨ 65536 < t) :
    Calls Try.prog 16 #[.pointer (some ⟨b, 0, none⟩), .int .i64 t] w fun e w' => e = .returned (.int .i64 2) ∧ w = w' := by
  rcases hr with hr | hr
  all_goals
    go_enter Try.func16, Try.ntmps16
    go_wp2
    refine wp_scope_fwd 0 rfl ?_
    go_wp2_with fail
    (with_reducible refine (none_ck _ _ _ h hw).mono ?_); rintro e w1 ⟨rfl, rfl⟩
    go_wp2_with fail
    go_step3
    refine ⟨rfl, ?_⟩
    go_wp2
    rw [Exit.noGoto_ret]
    go_ret
    exact ⟨rfl, rfl⟩

/-- given up -/
def giveC (c : Clk) : Clk := { c with runs := false, since := 0 }
/-- tried once more -/
def moreC (c : Clk) (now : Int) : Clk := { c with tried := c.tried + 1, wait := clamp (2 * c.wait) c.least c.most, since := now }

theorem late_right (b : Nat) (c : Clk) (now : Int) (w : World) (h : Ck w b c) (hw : 1 ≤ c.wait) (hr : ¬ Right c now) :
    Calls Try.prog 20 #[.pointer (some ⟨b, 0, none⟩), .int .i64 now] w fun e w' => e = .returned (.tuple #[.bool false, .int .i64 2]) ∧ w = w' := by
  have R := Lib.hid hr; clear hr
  go_enter Try.func20, Try.ntmps20
  go_wp2
  refine wp_scope_fwd 0 rfl ?_
  go_wp2_with fail
  (with_reducible refine (none_ck _ _ _ h hw).mono ?_); rintro e w1 ⟨rfl, rfl⟩
  go_wp2_with fail
  (with_reducible refine (right_no _ _ _ _ h R.out).mono ?_); rintro e w1 ⟨rfl, rfl⟩
  go_wp2_with fail
  go_step3
  refine ⟨rfl, ?_⟩
  go_wp2
  rw [Exit.noGoto_ret]
  go_ret2
  exact ⟨rfl, rfl⟩

theorem late_due (b : Nat) (c : Clk) (now : Int) (w : World) (h : Ck w b c) (g : Good c) (hr : Right c now) (hd : ¬ Due c now) :
    Calls Try.prog 20 #[.pointer (some ⟨b, 0, none⟩), .int .i64 now] w fun e w' => e = .returned (.tuple #[.bool false, .int .i64 240]) ∧ ∃ k, w' = w.drewN k := by
  have hw : 1 ≤ c.wait := by have := g.g1; have := g.g11; omega
  have R := Lib.hid hr; clear hr
  have D := Lib.hid hd; clear hd
  go_enter Try.func20, Try.ntmps20
  go_wp2
  refine wp_scope_fwd 0 rfl ?_
  go_wp2_with fail
  (with_reducible refine (none_ck _ _ _ h hw).mono ?_); rintro e w1 ⟨rfl, rfl⟩
  go_wp2_with fail
  (with_reducible refine (right_yes _ _ _ _ h R.out).mono ?_); rintro e w1 ⟨rfl, rfl⟩
  go_wp2_with fail
  (with_reducible refine (due_no _ _ _ _ h g D.out).mono ?_); rintro e w1 ⟨rfl, kk, rfl⟩
  go_wp2_with fail
  go_step3
  refine ⟨rfl, ?_⟩
  go_wp2
  rw [Exit.noGoto_ret]
  go_ret2
  exact ⟨rfl, kk, rfl⟩

theorem due_op (b : Nat) (c : Clk) (now : Int) (w : World) (h : Ck w b c) (g : Good c) (hd : Due c now) :
    Calls Try.prog 19 #[.pointer (some ⟨b, 0, none⟩), .int .i64 now] w fun e w' => e = .returned (.bool true) ∧ Ck w' b c ∧ Below w.heap.size w w' :=
  (due_yes b c now w h g hd).mono fun _ _ ⟨he, k, hk⟩ => ⟨he, hk ▸ h.drewN k, hk ▸ below_drewN (Below.refl _ _) k⟩

set_option maxHeartbeats 2000000 in
theorem late_give (b : Nat) (c : Clk) (now : Int) (w : World) (h : Ck w b c) (g : Good c) (hd : Due c now) (ht : c.tried = c.tries) :
    Calls Try.prog 20 #[.pointer (some ⟨b, 0, none⟩), .int .i64 now] w fun e w' => e = .returned (.tuple #[.bool false, .int .i64 0]) ∧ Ck w' b (giveC c) ∧ Touch b w w' := by
  have hw : 1 ≤ c.wait := by have := g.g1; have := g.g11; omega
  have R := Lib.hid hd.1
  have D := Lib.hid hd; clear hd
  go_enter Try.func20, Try.ntmps20
  go_wp2
  refine wp_scope_fwd 0 rfl ?_
  go_wp2_with fail
  (with_reducible refine (none_ck _ _ _ h hw).mono ?_); rintro e w1 ⟨rfl, rfl⟩
  go_wp2_with fail
  (with_reducible refine (right_yes _ _ _ _ h R.out).mono ?_); rintro e w1 ⟨rfl, rfl⟩
  go_wp2_with fail
  (with_reducible refine (due_op _ _ _ _ h g D.out).mono ?_); rintro e w1 ⟨rfl, h1, b1⟩
  have z := h1.z
  have c3 := h1.c3
  have c8 := h1.c8
  rw [ht] at c8
  have c9 := h1.c9
  have c10 := h1.c10
  clear ht
  go_wp2_with fail
  go_region
  go_wp2_with fail
  refine jump_ret ?_
  go_ret2
  exact ⟨rfl, ck_set10 (ck_set9 (ck_drew h1) false) 0, ((touch_of_below b b1.drew).set 9 _).set 10 _⟩

set_option maxHeartbeats 4000000 in
theorem late_more (b : Nat) (c : Clk) (now : Int) (w : World) (h : Ck w b c) (g : Good c) (hd : Due c now) (ht : c.tried ≠ c.tries) :
    Calls Try.prog 20 #[.pointer (some ⟨b, 0, none⟩), .int .i64 now] w fun e w' => e = .returned (.tuple #[.bool true, .int .i64 0]) ∧ Ck w' b (moreC c now) ∧ Touch b w w' := by
  have hw : 1 ≤ c.wait := by have := g.g1; have := g.g11; omega
  have hne : (c.tried == c.tries) = false := by simpa using ht
  clear ht
  have g4 := g.g4
  have g6 := g.g6
  have g12 := g.g12
  have g13 := g.g13
  have g14 := g.g14
  have R := Lib.hid hd.1
  have D := Lib.hid hd; clear hd
  go_enter Try.func20, Try.ntmps20
  go_wp2
  refine wp_scope_fwd 0 rfl ?_
  go_wp2_with fail
  (with_reducible refine (none_ck _ _ _ h hw).mono ?_); rintro e w1 ⟨rfl, rfl⟩
  go_wp2_with fail
  (with_reducible refine (right_yes _ _ _ _ h R.out).mono ?_); rintro e w1 ⟨rfl, rfl⟩
  go_wp2_with fail
  (with_reducible refine (due_op _ _ _ _ h g D.out).mono ?_); rintro e w1 ⟨rfl, h1, b1⟩
  have z := h1.z
  have c1 := h1.c1
  have c2 := h1.c2
  have c3 := h1.c3
  have c7 := h1.c7
  have c8 := h1.c8
  have c10 := h1.c10
  go_wp2_with fail
  go_region
  go_wp2_with fail
  go_region_with (go_at_call 33; (with_reducible refine (within_any _ _ _ _).mono ?_); rintro e w2 ⟨rfl, rfl⟩)
  all_goals
    go_wp2_with fail
    refine jump_ret ?_
    go_ret2
    exact ⟨rfl, ck_set10 (ck_drew (ck_drew (ck_set7 (ck_set8 h1 _) _))) _, ((((touch_of_below b b1).set 8 _).set 7 _).drew.drew).set 10 _⟩

end Go.Proofs.Yteooghodfidehab
