/- The walk of the law that learns. -/
import Derived.Test.YteooghodfidehabEqual
namespace Go.Proofs.Yteooghodfidehab
open Go.RowKit

set_option maxRecDepth 100000 in
set_option maxHeartbeats 4000000 in
theorem learns_nil (f l m t z : Int) (x : Option Addr) (n1 : Nat) (w : World) (hb : Bd f l m t) (h0 : 0 ≤ z) (h1 : z ≤ 2000)  :
    Calls Try.prog 5 #[.agg #[.int .i64 f, .int .i64 l, .int .i64 m, .int .i64 t], .int .i64 z, .slice x 0 n1] w fun e w' => e = .returned (.bool true) ∧ Below w.heap.size w w' := by
  have k1 : ¬ z < 0 := by omega
  have k2 : ¬ 2000 < z := by omega
  have HB := Lib.hid hb; clear hb
  have q0 := box4_new w f l m t 23
  have y0 : Below w.heap.size w (w.alloc (.cells #[.int .i64 f, .int .i64 l, .int .i64 m, .int .i64 t] 23)) := (Below.refl _ _).alloc (Nat.le_refl _) _
  go_enter Try.func5, Try.ntmps5
  go_wp2_with fail
  (with_reducible refine (new_ok _ _ _ _ _ HB.out).mono ?_); rintro e w1 ⟨b, rfl, hbb, c1, b1⟩
  have hbB : w.heap.size < b := by have := y0.size; simp at hbb; omega
  have hbb : w.heap.size ≤ b := by omega
  have q1 := q0.below b1 q0.lt
  have y1 := y0.trans (b1.mono y0.size)
  have g0 := good_new HB.out
  clear q0 y0 b1
  go_wp2_with fail
  go_loopw [9] (fun i wr => ∃ (k : Nat) (c : Clk), k ≤ 0 ∧ i = .int .i64 k ∧ Ck wr b c ∧ Good c ∧ Like (newC f l m t) c ∧ Low c ∧ Box4 wr w.heap.size f l m t ∧ Below w.heap.size w wr) (fun i _ => 0 - (intOf i).toNat)
  case atStart => exact ⟨0, _, by omega, rfl, c1, g0, Like.refl _, fun h => absurd h (by simp [newC]), q1, y1⟩
  case round =>
    obtain ⟨k, c, hk, rfl, hc, hg, hl, ho, hq, hy⟩ := hrel
    clear q1 y1 g0 c1
    by_cases hlt : k < 0
    · omega
    · have hd : ¬ (k : Int) < ((0 : Nat) : Int) := by omega
      have L := Lib.hid hl; clear hl
      go_wp2_with fail
      go_loopw [10] (fun i wr => ∃ (j : Nat) (c : Clk), j ≤ 300 ∧ i = .int .i64 j ∧ Ck wr b c ∧ Good c ∧ Like (newC f l m t) c ∧ Q z j c ∧ Box4 wr w.heap.size f l m t ∧ Below w.heap.size w wr) (fun i _ => 300 - (intOf i).toNat)
      case atStart => exact ⟨0, c, by omega, rfl, hc, hg, L.out, q_zero ho hg h0 h1, hq, hy⟩
      case round =>
        obtain ⟨j, c2, hj, rfl, hc2, hg2, hl2, hQ, hq2, hy2⟩ := hrel
        clear hc hg ho hq hy L
        have L := Lib.hid hl2; clear hl2
        by_cases hjt : j < 300
        · have hjt' : (j : Int) < 300 := by omega
          go_wp2_with fail
          (with_reducible refine (sample_q _ _ _ _ _ hc2 hg2 hQ h0 h1).mono ?_); rintro e w3 ⟨c3, rfl, hc3, hg3, hl3, hQ3, t3⟩
          have L3 := Lib.hid (L.out.trans hl3); clear hl3
          have q3 := hq2.touch t3 (by omega)
          have y3 := hy2.trans (t3.below hbb hy2.size)
          clear hc2 hg2 hQ hq2 hy2 t3
          go_wp2_with fail
          go_roundw
          case rel => exact ⟨j + 1, c3, by omega, by go_num, hc3, hg3, L3.out, hQ3, q3, y3⟩
          case measure => simp [intOf]; omega
        · have hjt' : ¬ (j : Int) < 300 := by omega
          have J : Hid (j = 300) := Lib.hid (by omega)
          have D := Lib.hid (by rw [J.out] at hQ; exact hQ.done hg2 : ∃ v, c2.wait = clamp v c2.least c2.most ∧ z + 1 ≤ v ∧ v ≤ z + 3)
          have e1 := L.out.2.1
          have e2 := L.out.2.2.1
          have W : Hid ((if l < (if m < z + 1 then m else z + 1) then (if m < z + 1 then m else z + 1) else l) ≤ c2.wait ∧ c2.wait ≤ (if l < (if m < z + 3 then m else z + 3) then (if m < z + 3 then m else z + 3) else l)) := Lib.hid (by
            obtain ⟨v, hv, hv1, hv2⟩ := D.out
            rw [hv, e1, e2]; simp only [newC]; unfold clamp; omega)
          clear e1 e2 D hQ
          have x1 := hq2.c1
          have x2 := hq2.c2
          go_wp2_with fail
          go_region
          have hc3 := ck_drew hc2
          have hw2 := hg2.w1
          go_wp2_with fail
          all_goals
            (with_reducible refine (wait_any _ _ _ hc3 hw2).mono ?_); rintro e w3 ⟨rfl, rfl⟩
            go_wp2_with fail
          all_goals (first | (exfalso; have h := W.out; omega) | ((with_reducible refine (wait_any _ _ _ hc3 hw2).mono ?_); rintro e w4 ⟨rfl, rfl⟩; go_wp2_with fail))
          all_goals (first | (exfalso; have h := W.out; omega) | ((with_reducible refine (known_any _).mono ?_); rintro e w5 ⟨rfl, b5⟩; go_wp2_with fail; go_ret; exact ⟨rfl, hy2.drew.trans (b5.mono hy2.size)⟩))

end Go.Proofs.Yteooghodfidehab
