/- Contracts of what writes a clock. -/
import Derived.Test.YteooghodfidehabClock
namespace Go.Proofs.Yteooghodfidehab
open Go.RowKit

theorem ck_set4 {w : World} {b : Nat} {c : Clk} (h : Ck w b c) (v : Bool) : Ck (w.setCell ⟨b, 4, none⟩ (.bool v)) b { c with any := v } :=
  ⟨by simpa using h.lt, by have := h.c0; go_simp, by have := h.c1; go_simp, by have := h.c2; go_simp, by have := h.c3; go_simp, by have := h.c4; go_simp, by have := h.c5; go_simp, by have := h.c6; go_simp, by have := h.c7; go_simp, by have := h.c8; go_simp, by have := h.c9; go_simp, by have := h.c10; go_simp, fun o => by have := h.z o; go_simp⟩

theorem ck_set5 {w : World} {b : Nat} {c : Clk} (h : Ck w b c) (v : Int) : Ck (w.setCell ⟨b, 5, none⟩ (.int .i64 v)) b { c with sm := v } :=
  ⟨by simpa using h.lt, by have := h.c0; go_simp, by have := h.c1; go_simp, by have := h.c2; go_simp, by have := h.c3; go_simp, by have := h.c4; go_simp, by have := h.c5; go_simp, by have := h.c6; go_simp, by have := h.c7; go_simp, by have := h.c8; go_simp, by have := h.c9; go_simp, by have := h.c10; go_simp, fun o => by have := h.z o; go_simp⟩

theorem ck_set6 {w : World} {b : Nat} {c : Clk} (h : Ck w b c) (v : Int) : Ck (w.setCell ⟨b, 6, none⟩ (.int .i64 v)) b { c with sp := v } :=
  ⟨by simpa using h.lt, by have := h.c0; go_simp, by have := h.c1; go_simp, by have := h.c2; go_simp, by have := h.c3; go_simp, by have := h.c4; go_simp, by have := h.c5; go_simp, by have := h.c6; go_simp, by have := h.c7; go_simp, by have := h.c8; go_simp, by have := h.c9; go_simp, by have := h.c10; go_simp, fun o => by have := h.z o; go_simp⟩

theorem ck_set7 {w : World} {b : Nat} {c : Clk} (h : Ck w b c) (v : Int) : Ck (w.setCell ⟨b, 7, none⟩ (.int .i64 v)) b { c with wait := v } :=
  ⟨by simpa using h.lt, by have := h.c0; go_simp, by have := h.c1; go_simp, by have := h.c2; go_simp, by have := h.c3; go_simp, by have := h.c4; go_simp, by have := h.c5; go_simp, by have := h.c6; go_simp, by have := h.c7; go_simp, by have := h.c8; go_simp, by have := h.c9; go_simp, by have := h.c10; go_simp, fun o => by have := h.z o; go_simp⟩

theorem ck_set8 {w : World} {b : Nat} {c : Clk} (h : Ck w b c) (v : Int) : Ck (w.setCell ⟨b, 8, none⟩ (.int .i64 v)) b { c with tried := v } :=
  ⟨by simpa using h.lt, by have := h.c0; go_simp, by have := h.c1; go_simp, by have := h.c2; go_simp, by have := h.c3; go_simp, by have := h.c4; go_simp, by have := h.c5; go_simp, by have := h.c6; go_simp, by have := h.c7; go_simp, by have := h.c8; go_simp, by have := h.c9; go_simp, by have := h.c10; go_simp, fun o => by have := h.z o; go_simp⟩

theorem ck_set9 {w : World} {b : Nat} {c : Clk} (h : Ck w b c) (v : Bool) : Ck (w.setCell ⟨b, 9, none⟩ (.bool v)) b { c with runs := v } :=
  ⟨by simpa using h.lt, by have := h.c0; go_simp, by have := h.c1; go_simp, by have := h.c2; go_simp, by have := h.c3; go_simp, by have := h.c4; go_simp, by have := h.c5; go_simp, by have := h.c6; go_simp, by have := h.c7; go_simp, by have := h.c8; go_simp, by have := h.c9; go_simp, by have := h.c10; go_simp, fun o => by have := h.z o; go_simp⟩

theorem ck_set10 {w : World} {b : Nat} {c : Clk} (h : Ck w b c) (v : Int) : Ck (w.setCell ⟨b, 10, none⟩ (.int .i64 v)) b { c with since := v } :=
  ⟨by simpa using h.lt, by have := h.c0; go_simp, by have := h.c1; go_simp, by have := h.c2; go_simp, by have := h.c3; go_simp, by have := h.c4; go_simp, by have := h.c5; go_simp, by have := h.c6; go_simp, by have := h.c7; go_simp, by have := h.c8; go_simp, by have := h.c9; go_simp, by have := h.c10; go_simp, fun o => by have := h.z o; go_simp⟩

def startC (c : Clk) (now : Int) : Clk := { c with runs := true, since := now, tried := 0 }

theorem start_ok (b : Nat) (c : Clk) (now : Int) (w : World) (h : Ck w b c) (hw : 1 ≤ c.wait) (hr : Right c now) :
    Calls Try.prog 17 #[.pointer (some ⟨b, 0, none⟩), .int .i64 now] w fun e w' => e = .returned (.int .i64 0) ∧ Ck w' b (startC c now) ∧ Touch b w w' := by
  have z := h.z
  have c8 := h.c8
  have c9 := h.c9
  have c10 := h.c10
  have R := Lib.hid hr; clear hr
  go_enter Try.func17, Try.ntmps17
  go_wp2
  refine wp_scope_fwd 0 rfl ?_
  go_wp2_with fail
  (with_reducible refine (none_ck _ _ _ h hw).mono ?_); rintro e w1 ⟨rfl, rfl⟩
  go_wp2_with fail
  (with_reducible refine (right_yes _ _ _ _ h R.out).mono ?_); rintro e w1 ⟨rfl, rfl⟩
  go_wp2_with fail
  refine jump_ret ?_
  go_ret
  exact ⟨rfl, ck_set8 (ck_set10 (ck_set9 h true) now) 0, (((Touch.refl _ _).set 9 _).set 10 _).set 8 _⟩

theorem start_no (b : Nat) (c : Clk) (now : Int) (w : World) (h : Ck w b c) (hw : 1 ≤ c.wait) (hr : ¬ Right c now) :
    Calls Try.prog 17 #[.pointer (some ⟨b, 0, none⟩), .int .i64 now] w fun e w' => e = .returned (.int .i64 2) ∧ w = w' := by
  have R := Lib.hid hr; clear hr
  go_enter Try.func17, Try.ntmps17
  go_wp2
  refine wp_scope_fwd 0 rfl ?_
  go_wp2_with fail
  (with_reducible refine (none_ck _ _ _ h hw).mono ?_); rintro e w1 ⟨rfl, rfl⟩
  go_wp2_with fail
  (with_reducible refine (right_no _ _ _ _ h R.out).mono ?_); rintro e w1 ⟨rfl, rfl⟩
  go_wp2_with fail
  go_step3
  refine ⟨rfl, ?_⟩
  go_wp2
  rw [Exit.noGoto_ret]
  go_ret
  exact ⟨rfl, rfl⟩

def stopC (c : Clk) : Clk := { c with runs := false, since := 0, tried := 0, wait := lw c }

theorem stop_any (b : Nat) (c : Clk) (w : World) (h : Ck w b c) (g : Good c) :
    Calls Try.prog 23 #[.pointer (some ⟨b, 0, none⟩)] w fun e w' => e = .returned (.int .i64 0) ∧ Ck w' b (stopC c) ∧ Touch b w w' := by
  have z := h.z
  have c7 := h.c7
  have c8 := h.c8
  have c9 := h.c9
  have c10 := h.c10
  have hw : 1 ≤ c.wait := by have := g.g1; have := g.g11; omega
  have h' := ck_set8 (ck_set10 (ck_set9 h false) 0) 0
  have g' : Good { c with runs := false, since := 0, tried := 0 } := ⟨g.g1, g.g2, g.g3, g.g4, g.g5, g.g6, g.g7, g.g8, g.g9, g.g10, g.g11, g.g12, by simp, by have := g.g5; simp; omega, by simp, by simp⟩
  have t' : Touch b w (((w.setCell ⟨b, 9, none⟩ (.bool false)).setCell ⟨b, 10, none⟩ (.int .i64 0)).setCell ⟨b, 8, none⟩ (.int .i64 0)) := (((Touch.refl _ _).set 9 _).set 10 _).set 8 _
  go_enter Try.func23, Try.ntmps23
  go_wp2_with fail
  (with_reducible refine (none_ck _ _ _ h hw).mono ?_); rintro e w1 ⟨rfl, rfl⟩
  go_wp2_with fail
  (with_reducible refine (lw_any _ _ _ h' g').mono ?_); rintro e w1 ⟨rfl, kk, rfl⟩
  have z' := (h'.drewN kk).z 7
  have d7 := (h'.drewN kk).c7
  go_wp2_with fail
  go_ret
  exact ⟨rfl, ck_set7 (h'.drewN kk) _, (t'.trans (touch_of_below b (below_drewN (Below.refl _ _) kk))).set 7 _⟩

end Go.Proofs.Yteooghodfidehab
