/- The walk of the law that tries until it gives up. -/
import Derived.Test.YteooghodfidehabNew
namespace Go.Proofs.Yteooghodfidehab
open Go.RowKit

theorem Box4.touch {w w' : World} {B b : Nat} {f l m t : Int} (h : Box4 w B f l m t) (hb : Touch b w w') (hB : B ≠ b) : Box4 w' B f l m t :=
  ⟨Nat.lt_of_lt_of_le h.lt hb.size, (hb.cell 0 h.lt hB).trans h.c0, (hb.cell 1 h.lt hB).trans h.c1, (hb.cell 2 h.lt hB).trans h.c2, (hb.cell 3 h.lt hB).trans h.c3⟩

/-- the same bounds, as often tried, running alike -/
def Like (c c' : Clk) : Prop := c'.first = c.first ∧ c'.least = c.least ∧ c'.most = c.most ∧ c'.tries = c.tries ∧ c'.tried = c.tried ∧ c'.runs = c.runs ∧ c'.since = c.since
theorem Like.refl (c : Clk) : Like c c := ⟨rfl, rfl, rfl, rfl, rfl, rfl, rfl⟩
theorem Like.trans {a b c : Clk} (h : Like a b) (k : Like b c) : Like a c :=
  ⟨k.1.trans h.1, k.2.1.trans h.2.1, k.2.2.1.trans h.2.2.1, k.2.2.2.1.trans h.2.2.2.1, k.2.2.2.2.1.trans h.2.2.2.2.1, k.2.2.2.2.2.1.trans h.2.2.2.2.2.1, k.2.2.2.2.2.2.trans h.2.2.2.2.2.2⟩

def After (b : Nat) (c : Clk) (w : World) (e : Ending) (w' : World) : Prop := ∃ (c' : Clk) (v : Int), e = .returned (.int .i64 v) ∧ Ck w' b c' ∧ Good c' ∧ Like c c' ∧ Touch b w w'

theorem like_sample (c : Clk) (t : Int) : Like c (sampleC c t) := by
  unfold Like sampleC
  cases c.any <;> exact ⟨rfl, rfl, rfl, rfl, rfl, rfl, rfl⟩

theorem good_sample {c : Clk} (g : Good c) {t : Int} (h0 : 0 ≤ t) (h1 : t ≤ 65536) : Good (sampleC c t) := by
  obtain ⟨g1, g2, g3, g4, g5, g6, g7, g8, g9, g10, g11, g12, g13, g14, g15, g16⟩ := g
  cases ha : c.any with
  | false =>
    have E : sampleC c t = { c with any := true, sm := 8 * t, sp := 2 * t, wait := lw { c with any := true, sm := 8 * t, sp := 2 * t } } := by unfold sampleC; rw [ha]; rfl
    have gd : Good { c with any := true, sm := 8 * t, sp := 2 * t } := ⟨g1, g2, g3, g4, g5, g6, by simp; omega, by simp; omega, by simp; omega, by simp; omega, g11, g12, g13, g14, g15, g16⟩
    have b := lw_bd gd
    rw [E]
    exact ⟨g1, g2, g3, g4, g5, g6, gd.g7, gd.g8, gd.g9, gd.g10, b.1, b.2, g13, g14, g15, g16⟩
  | true =>
    have E : sampleC c t = { c with sm := c.sm + (t - c.sm / 8), sp := c.sp + (absI (t - c.sm / 8) - c.sp / 4), wait := lw { c with sm := c.sm + (t - c.sm / 8), sp := c.sp + (absI (t - c.sm / 8) - c.sp / 4) } } := by unfold sampleC; rw [ha]; rfl
    have B := sample_bd c.sm c.sp t g7 g8 g9 g10 h0 h1
    have gd : Good { c with sm := c.sm + (t - c.sm / 8), sp := c.sp + (absI (t - c.sm / 8) - c.sp / 4) } := ⟨g1, g2, g3, g4, g5, g6, B.1, B.2.1, B.2.2.1, B.2.2.2.1, g11, g12, g13, g14, g15, g16⟩
    have b := lw_bd gd
    rw [E]
    exact ⟨g1, g2, g3, g4, g5, g6, gd.g7, gd.g8, gd.g9, gd.g10, b.1, b.2, g13, g14, g15, g16⟩

theorem sample_all (b : Nat) (c : Clk) (t : Int) (w : World) (h : Ck w b c) (g : Good c) :
    Calls Try.prog 16 #[.pointer (some ⟨b, 0, none⟩), .int .i64 t] w (After b c w) := by
  by_cases hr : t < 0 ∨ 65536 < t
  · exact (sample_no b c t w h g.w1 hr).mono fun _ _ ⟨he, hw⟩ => ⟨c, 2, he, hw ▸ h, g, Like.refl c, hw ▸ Touch.refl b w⟩
  · exact (sample_any b c t w h g (by omega) (by omega)).mono fun _ _ ⟨he, hc, ht⟩ => ⟨_, 0, he, hc, good_sample g (by omega) (by omega), like_sample c t, ht⟩

theorem right_start {f l m t now : Int} {c : Clk} (h : Like (newC f l m t) c) (h0 : 0 ≤ now) (h1 : now ≤ 1073741824) : Right c now := by
  obtain ⟨_, _, _, _, _, _, h7⟩ := h
  refine ⟨h0, by omega, ?_⟩
  rw [h7]; simp only [newC]; exact h0

/-- it runs since a tick, and was tried so often -/
structure Inv (t m : Int) (c : Clk) (at' : Int) (k : Nat) : Prop where
  i1 : c.runs = true
  i2 : c.since = at'
  i3 : c.tried = k
  i4 : c.tries = t
  i5 : c.most = m

theorem runs_t (b : Nat) (c : Clk) (w : World) (h : Ck w b c) (g : Good c) (hr : c.runs = true) :
    Calls Try.prog 18 #[.pointer (some ⟨b, 0, none⟩)] w fun e w' => e = .returned (.bool true) ∧ w = w' := hr ▸ runs_any b c w h g.w1
theorem runs_f (b : Nat) (c : Clk) (w : World) (h : Ck w b c) (g : Good c) (hr : c.runs = false) :
    Calls Try.prog 18 #[.pointer (some ⟨b, 0, none⟩)] w fun e w' => e = .returned (.bool false) ∧ w = w' := hr ▸ runs_any b c w h g.w1
theorem due_nop (b : Nat) (c : Clk) (now : Int) (w : World) (h : Ck w b c) (g : Good c) (hd : ¬ Due c now) :
    Calls Try.prog 19 #[.pointer (some ⟨b, 0, none⟩), .int .i64 now] w fun e w' => e = .returned (.bool false) ∧ Ck w' b c ∧ Below w.heap.size w w' :=
  (due_no b c now w h g hd).mono fun _ _ ⟨he, k, hk⟩ => ⟨he, hk ▸ h.drewN k, hk ▸ below_drewN (Below.refl _ _) k⟩

theorem inv_due {t m : Int} {c : Clk} {A : Int} {j : Nat} (i : Inv t m c A j) (h0 : 0 ≤ A) (h1 : A + c.wait ≤ 2147483647) (hw : 1 ≤ c.wait) : Due c (A + c.wait) := by
  obtain ⟨i1, i2, i3, i4, i5⟩ := i
  exact ⟨⟨by omega, h1, by omega⟩, i1, by omega⟩
theorem inv_not {t m : Int} {c : Clk} {A : Int} {j : Nat} (i : Inv t m c A j) : ¬ Due c (A + c.wait - 1) := fun d => by
  have := d.2.2; rw [i.i2] at this; omega
theorem inv_more {t m : Int} {c : Clk} {A : Int} {j : Nat} (i : Inv t m c A j) : Inv t m (moreC c (A + c.wait)) (A + c.wait) (j + 1) :=
  ⟨i.i1, rfl, by simp only [moreC, i.i3]; omega, i.i4, i.i5⟩

/-- it runs yet, or has given up -/
def St (t m : Int) (c : Clk) (A : Int) (j : Nat) : Prop := (j : Int) ≤ t ∧ Inv t m c A j ∨ (j : Int) = t + 1 ∧ c.runs = false

theorem mul_bd {m t : Int} {j : Nat} (hm : 0 ≤ m) (hm1 : m ≤ 65536) (ht : t ≤ 100) (hj : (j : Int) ≤ t + 1) : 0 ≤ m * (j : Int) ∧ m * (j : Int) ≤ 6619136 := by
  have h1 : (0 : Int) ≤ j := by omega
  have h2 : (j : Int) ≤ 101 := by omega
  refine ⟨Int.mul_nonneg hm h1, ?_⟩
  calc m * (j : Int) ≤ 65536 * (j : Int) := Int.mul_le_mul_of_nonneg_right hm1 h1
    _ ≤ 65536 * 101 := Int.mul_le_mul_of_nonneg_left h2 (by omega)
    _ = 6619136 := by omega

theorem step_bd {m A now x : Int} {j : Nat} (h1 : A ≤ now + m * (j : Int)) (h2 : x ≤ m) : A + x ≤ now + m * ((j + 1 : Nat) : Int) := by
  have h3 : m * ((j + 1 : Nat) : Int) = m * (j : Int) + m := by rw [Int.natCast_add, Int.mul_add]; simp
  omega

theorem inv_start {f l m t : Int} {c : Clk} (h : Like (newC f l m t) c) (now : Int) : Inv t m (startC c now) now 0 := by
  obtain ⟨h1, h2, h3, h4, h5, h6, h7⟩ := h
  exact ⟨rfl, rfl, rfl, h4, h3⟩

set_option maxRecDepth 100000 in
set_option maxHeartbeats 4000000 in
theorem gives_row (f l m t now : Int) (b1 o1 n n1 : Nat) (s : Nat → Int) (w : World) (hb : Bd f l m t) (h0 : 0 ≤ now) (h1 : now ≤ 1073741824) (hn : n ≤ 20) (hb1 : b1 < w.heap.size) (hs : ∀ i, i < n → w.cell? ⟨b1, o1 + i, none⟩ = some (.int .i64 (s i))) :
    Calls Try.prog 4 #[.agg #[.int .i64 f, .int .i64 l, .int .i64 m, .int .i64 t], .slice (some ⟨b1, o1, none⟩) n n1, .int .i64 now] w fun e w' => e = .returned (.bool true) ∧ Below w.heap.size w w' := by
  have k1 : ¬ now < 0 := by omega
  have k2 : ¬ 1073741824 < now := by omega
  have HB := Lib.hid hb; clear hb
  have q0 := box4_new w f l m t 23
  have y0 : Below w.heap.size w (w.alloc (.cells #[.int .i64 f, .int .i64 l, .int .i64 m, .int .i64 t] 23)) := (Below.refl _ _).alloc (Nat.le_refl _) _
  have HS := Lib.hid hs; clear hs
  have k3 : ¬ (20 : Int) < (n : Int) := by omega
  go_enter Try.func4, Try.ntmps4
  go_wp2_with fail
  (with_reducible refine (new_ok _ _ _ _ _ HB.out).mono ?_); rintro e w1 ⟨b, rfl, hbb, c1, b1⟩
  have hbB : w.heap.size < b := by have := y0.size; simp at hbb; omega
  have hbb : w.heap.size ≤ b := by omega
  have q1 := q0.below b1 q0.lt
  have y1 := y0.trans (b1.mono y0.size)
  have g0 := good_new HB.out
  clear q0 y0 b1
  go_wp2_with fail
  go_loopw [9] (fun i wr => ∃ (k : Nat) (c : Clk), k ≤ n ∧ i = .int .i64 k ∧ Ck wr b c ∧ Good c ∧ Like (newC f l m t) c ∧ Box4 wr w.heap.size f l m t ∧ Below w.heap.size w wr) (fun i _ => n - (intOf i).toNat)
  case atStart => exact ⟨0, _, by omega, rfl, c1, g0, Like.refl _, q1, y1⟩
  case round =>
    obtain ⟨k, c, hk, rfl, hc, hg, hl, hq, hy⟩ := hrel
    clear q1 y1 g0 c1
    by_cases hlt : k < n
    · have cl := keep hy hb1 (HS.out k hlt)
      have L := Lib.hid hl; clear hl
      go_wp2_with fail
      (with_reducible refine (sample_all _ _ _ _ hc hg).mono ?_); rintro e w2 ⟨c', v, rfl, c2, g2, l2, t2⟩
      have L2 := Lib.hid (L.out.trans l2); clear l2
      have q2 := hq.touch t2 (by omega)
      have y2 := hy.trans (t2.below hbb hy.size)
      clear hc hg hq hy t2 cl
      go_wp2_with fail
      go_roundw
      case rel => exact ⟨k + 1, c', by omega, by go_num, c2, g2, L2.out, q2, y2⟩
      case measure => simp [intOf]; omega
    · have hd : ¬ (k : Int) < ((n : Nat) : Int) := by omega
      have L := Lib.hid hl; clear hl
      have R0 := Lib.hid (right_start L.out h0 h1)
      go_wp2_with fail
      (with_reducible refine (start_ok _ _ _ _ hc hg.w1 R0.out).mono ?_); rintro e w2 ⟨rfl, h2, t2⟩
      have q2 := hq.touch t2 (by omega)
      have y2 := hy.trans (t2.below hbb hy.size)
      have G2 := good_start hg R0.out
      have I2 := inv_start L.out now
      clear hc hg hq hy t2
      go_wp2_with fail
      have mm := HB.out.2.2.2.1
      have mt := HB.out.2.2.2.2.2
      have m0 : 0 ≤ m := by have h := HB.out; obtain ⟨x1, x2, x3, _, _, _⟩ := h; omega
      have t0 : 1 ≤ t := HB.out.2.2.2.2.1
      go_loopw [10, 11] (fun at' i wr => ∃ (j : Nat) (A : Int) (c2 : Clk), i = .int .i64 j ∧ at' = .int .i64 A ∧ (j : Int) ≤ t + 1 ∧ now ≤ A ∧ A ≤ now + m * (j : Int) ∧ Ck wr b c2 ∧ Good c2 ∧ St t m c2 A j ∧ Box4 wr w.heap.size f l m t ∧ Below w.heap.size w wr) (fun _ i _ => 200 - (intOf i).toNat)
      case atStart => exact ⟨0, now, _, rfl, rfl, by omega, by omega, by simp, h2, G2, .inl ⟨by omega, I2⟩, q2, y2⟩
      case round =>
        obtain ⟨j, A, c2, rfl, rfl, hj, ha, ha1, hc, hg, hs, hq, hy⟩ := hrel
        clear q2 y2 G2 I2 h2
        have mb := mul_bd m0 mm mt hj
        have ha2 : A ≤ 1080360960 := by omega
        have HA1 := Lib.hid ha1; clear ha1 mb
        have x3 := hq.c3
        have x2 := hq.c2
        have g11 := hg.g11
        have g12 := hg.g12
        have g1 := hg.g1
        have g4 := hg.g4
        rcases hs with ⟨hjt, iv⟩ | ⟨hjt, hrun⟩
        · have D := Lib.hid (inv_due iv (by omega) (by omega) hg.w1)
          have D1 := Lib.hid (inv_not iv)
          have IV := Lib.hid iv; clear iv
          have wm := Lib.hid (show c2.wait ≤ m by have := IV.out.i5; omega)
          go_wp2_with fail
          (with_reducible refine (runs_t _ _ _ hc hg IV.out.i1).mono ?_); rintro e w3 ⟨rfl, rfl⟩
          go_wp2_with fail
          (with_reducible refine (wait_any _ _ _ hc hg.w1).mono ?_); rintro e w3 ⟨rfl, rfl⟩
          go_wp2_with fail
          (with_reducible refine (due_nop _ _ _ _ hc hg D1.out).mono ?_); rintro e w3 ⟨rfl, c3, b3⟩
          have q3 := hq.below b3 hq.lt
          have y3 := hy.trans (b3.mono hy.size)
          have x3 := q3.c3
          have x2 := q3.c2
          clear hc hq hy b3
          go_wp2_with fail
          (with_reducible refine (wait_any _ _ _ c3 hg.w1).mono ?_); rintro e w4 ⟨rfl, rfl⟩
          go_wp2_with fail
          (with_reducible refine (due_op _ _ _ _ c3 hg D.out).mono ?_); rintro e w4 ⟨rfl, c4, b4⟩
          have q4 := q3.below b4 q3.lt
          have y4 := y3.trans (b4.mono y3.size)
          have x3 := q4.c3
          have x2 := q4.c2
          clear c3 q3 y3 b4
          go_wp2_with fail
          (with_reducible refine (wait_any _ _ _ c4 hg.w1).mono ?_); rintro e w5 ⟨rfl, rfl⟩
          go_wp2_with fail
          by_cases hlast : (j : Int) < t
          · have NT : Hid (c2.tried ≠ c2.tries) := Lib.hid (by rw [IV.out.i3, IV.out.i4]; omega)
            (with_reducible refine (late_more _ _ _ _ c4 hg D.out NT.out).mono ?_); rintro e w6 ⟨rfl, c6, t6⟩
            have q6 := q4.touch t6 (by omega)
            have y6 := y4.trans (t6.below hbb y4.size)
            have x3 := q6.c3
            have G6 := good_more hg D.out.1 NT.out
            clear c4 q4 y4 t6
            go_wp2_with fail
            go_roundw
            case rel => exact ⟨j + 1, A + c2.wait, _, by go_num, rfl, by omega, by omega, step_bd HA1.out wm.out, c6, G6, .inl ⟨by omega, inv_more IV.out⟩, q6, y6⟩
            case measure => simp [intOf]; omega
          · have NT : Hid (c2.tried = c2.tries) := Lib.hid (by rw [IV.out.i3, IV.out.i4]; omega)
            (with_reducible refine (late_give _ _ _ _ c4 hg D.out NT.out).mono ?_); rintro e w6 ⟨rfl, c6, t6⟩
            have q6 := q4.touch t6 (by omega)
            have y6 := y4.trans (t6.below hbb y4.size)
            have x3 := q6.c3
            have G6 := good_give hg
            clear c4 q4 y4 t6
            go_wp2_with fail
            go_roundw
            case rel => exact ⟨j + 1, A + c2.wait, _, by go_num, rfl, by omega, by omega, step_bd HA1.out wm.out, c6, G6, .inr ⟨by omega, rfl⟩, q6, y6⟩
            case measure => simp [intOf]; omega
        · have HR := Lib.hid hrun; clear hrun
          have hgt : ¬ (j : Int) ≤ t := by omega
          have mb := mul_bd m0 mm mt hj
          have E : (j : Int) = t + 1 := by omega
          rw [E] at mb
          have HE := Lib.hid (show A - now ≤ m * (t + 1) by have := HA1.out; rw [E] at this; omega)
          obtain ⟨mb0, mb1⟩ := mb
          have he := HE.out
          clear hjt E
          go_wp2_with fail
          (with_reducible refine (runs_f _ _ _ hc hg HR.out).mono ?_); rintro e w3 ⟨rfl, rfl⟩
          go_wp2_with fail
          (with_reducible refine (known_any _).mono ?_); rintro e w4 ⟨rfl, b4⟩
          go_wp2_with fail
          go_ret
          exact ⟨rfl, hy.trans (b4.mono hy.size)⟩

set_option maxRecDepth 100000 in
set_option maxHeartbeats 4000000 in
theorem gives_nil (f l m t now : Int) (x : Option Addr) (n1 : Nat) (w : World) (hb : Bd f l m t) (h0 : 0 ≤ now) (h1 : now ≤ 1073741824)  :
    Calls Try.prog 4 #[.agg #[.int .i64 f, .int .i64 l, .int .i64 m, .int .i64 t], .slice x 0 n1, .int .i64 now] w fun e w' => e = .returned (.bool true) ∧ Below w.heap.size w w' := by
  have k1 : ¬ now < 0 := by omega
  have k2 : ¬ 1073741824 < now := by omega
  have HB := Lib.hid hb; clear hb
  have q0 := box4_new w f l m t 23
  have y0 : Below w.heap.size w (w.alloc (.cells #[.int .i64 f, .int .i64 l, .int .i64 m, .int .i64 t] 23)) := (Below.refl _ _).alloc (Nat.le_refl _) _
  go_enter Try.func4, Try.ntmps4
  go_wp2_with fail
  (with_reducible refine (new_ok _ _ _ _ _ HB.out).mono ?_); rintro e w1 ⟨b, rfl, hbb, c1, b1⟩
  have hbB : w.heap.size < b := by have := y0.size; simp at hbb; omega
  have hbb : w.heap.size ≤ b := by omega
  have q1 := q0.below b1 q0.lt
  have y1 := y0.trans (b1.mono y0.size)
  have g0 := good_new HB.out
  clear q0 y0 b1
  go_wp2_with fail
  go_loopw [9] (fun i wr => ∃ (k : Nat) (c : Clk), k ≤ 0 ∧ i = .int .i64 k ∧ Ck wr b c ∧ Good c ∧ Like (newC f l m t) c ∧ Box4 wr w.heap.size f l m t ∧ Below w.heap.size w wr) (fun i _ => 0 - (intOf i).toNat)
  case atStart => exact ⟨0, _, by omega, rfl, c1, g0, Like.refl _, q1, y1⟩
  case round =>
    obtain ⟨k, c, hk, rfl, hc, hg, hl, hq, hy⟩ := hrel
    clear q1 y1 g0 c1
    by_cases hlt : k < 0
    · omega
    · have hd : ¬ (k : Int) < ((0 : Nat) : Int) := by omega
      have L := Lib.hid hl; clear hl
      have R0 := Lib.hid (right_start L.out h0 h1)
      go_wp2_with fail
      (with_reducible refine (start_ok _ _ _ _ hc hg.w1 R0.out).mono ?_); rintro e w2 ⟨rfl, h2, t2⟩
      have q2 := hq.touch t2 (by omega)
      have y2 := hy.trans (t2.below hbb hy.size)
      have G2 := good_start hg R0.out
      have I2 := inv_start L.out now
      clear hc hg hq hy t2
      go_wp2_with fail
      have mm := HB.out.2.2.2.1
      have mt := HB.out.2.2.2.2.2
      have m0 : 0 ≤ m := by have h := HB.out; obtain ⟨x1, x2, x3, _, _, _⟩ := h; omega
      have t0 : 1 ≤ t := HB.out.2.2.2.2.1
      go_loopw [10, 11] (fun at' i wr => ∃ (j : Nat) (A : Int) (c2 : Clk), i = .int .i64 j ∧ at' = .int .i64 A ∧ (j : Int) ≤ t + 1 ∧ now ≤ A ∧ A ≤ now + m * (j : Int) ∧ Ck wr b c2 ∧ Good c2 ∧ St t m c2 A j ∧ Box4 wr w.heap.size f l m t ∧ Below w.heap.size w wr) (fun _ i _ => 200 - (intOf i).toNat)
      case atStart => exact ⟨0, now, _, rfl, rfl, by omega, by omega, by simp, h2, G2, .inl ⟨by omega, I2⟩, q2, y2⟩
      case round =>
        obtain ⟨j, A, c2, rfl, rfl, hj, ha, ha1, hc, hg, hs, hq, hy⟩ := hrel
        clear q2 y2 G2 I2 h2
        have mb := mul_bd m0 mm mt hj
        have ha2 : A ≤ 1080360960 := by omega
        have HA1 := Lib.hid ha1; clear ha1 mb
        have x3 := hq.c3
        have x2 := hq.c2
        have g11 := hg.g11
        have g12 := hg.g12
        have g1 := hg.g1
        have g4 := hg.g4
        rcases hs with ⟨hjt, iv⟩ | ⟨hjt, hrun⟩
        · have D := Lib.hid (inv_due iv (by omega) (by omega) hg.w1)
          have D1 := Lib.hid (inv_not iv)
          have IV := Lib.hid iv; clear iv
          have wm := Lib.hid (show c2.wait ≤ m by have := IV.out.i5; omega)
          go_wp2_with fail
          (with_reducible refine (runs_t _ _ _ hc hg IV.out.i1).mono ?_); rintro e w3 ⟨rfl, rfl⟩
          go_wp2_with fail
          (with_reducible refine (wait_any _ _ _ hc hg.w1).mono ?_); rintro e w3 ⟨rfl, rfl⟩
          go_wp2_with fail
          (with_reducible refine (due_nop _ _ _ _ hc hg D1.out).mono ?_); rintro e w3 ⟨rfl, c3, b3⟩
          have q3 := hq.below b3 hq.lt
          have y3 := hy.trans (b3.mono hy.size)
          have x3 := q3.c3
          have x2 := q3.c2
          clear hc hq hy b3
          go_wp2_with fail
          (with_reducible refine (wait_any _ _ _ c3 hg.w1).mono ?_); rintro e w4 ⟨rfl, rfl⟩
          go_wp2_with fail
          (with_reducible refine (due_op _ _ _ _ c3 hg D.out).mono ?_); rintro e w4 ⟨rfl, c4, b4⟩
          have q4 := q3.below b4 q3.lt
          have y4 := y3.trans (b4.mono y3.size)
          have x3 := q4.c3
          have x2 := q4.c2
          clear c3 q3 y3 b4
          go_wp2_with fail
          (with_reducible refine (wait_any _ _ _ c4 hg.w1).mono ?_); rintro e w5 ⟨rfl, rfl⟩
          go_wp2_with fail
          by_cases hlast : (j : Int) < t
          · have NT : Hid (c2.tried ≠ c2.tries) := Lib.hid (by rw [IV.out.i3, IV.out.i4]; omega)
            (with_reducible refine (late_more _ _ _ _ c4 hg D.out NT.out).mono ?_); rintro e w6 ⟨rfl, c6, t6⟩
            have q6 := q4.touch t6 (by omega)
            have y6 := y4.trans (t6.below hbb y4.size)
            have x3 := q6.c3
            have G6 := good_more hg D.out.1 NT.out
            clear c4 q4 y4 t6
            go_wp2_with fail
            go_roundw
            case rel => exact ⟨j + 1, A + c2.wait, _, by go_num, rfl, by omega, by omega, step_bd HA1.out wm.out, c6, G6, .inl ⟨by omega, inv_more IV.out⟩, q6, y6⟩
            case measure => simp [intOf]; omega
          · have NT : Hid (c2.tried = c2.tries) := Lib.hid (by rw [IV.out.i3, IV.out.i4]; omega)
            (with_reducible refine (late_give _ _ _ _ c4 hg D.out NT.out).mono ?_); rintro e w6 ⟨rfl, c6, t6⟩
            have q6 := q4.touch t6 (by omega)
            have y6 := y4.trans (t6.below hbb y4.size)
            have x3 := q6.c3
            have G6 := good_give hg
            clear c4 q4 y4 t6
            go_wp2_with fail
            go_roundw
            case rel => exact ⟨j + 1, A + c2.wait, _, by go_num, rfl, by omega, by omega, step_bd HA1.out wm.out, c6, G6, .inr ⟨by omega, rfl⟩, q6, y6⟩
            case measure => simp [intOf]; omega
        · have HR := Lib.hid hrun; clear hrun
          have hgt : ¬ (j : Int) ≤ t := by omega
          have mb := mul_bd m0 mm mt hj
          have E : (j : Int) = t + 1 := by omega
          rw [E] at mb
          have HE := Lib.hid (show A - now ≤ m * (t + 1) by have := HA1.out; rw [E] at this; omega)
          obtain ⟨mb0, mb1⟩ := mb
          have he := HE.out
          clear hjt E
          go_wp2_with fail
          (with_reducible refine (runs_f _ _ _ hc hg HR.out).mono ?_); rintro e w3 ⟨rfl, rfl⟩
          go_wp2_with fail
          (with_reducible refine (known_any _).mono ?_); rintro e w4 ⟨rfl, b4⟩
          go_wp2_with fail
          go_ret
          exact ⟨rfl, hy.trans (b4.mono hy.size)⟩

end Go.Proofs.Yteooghodfidehab
