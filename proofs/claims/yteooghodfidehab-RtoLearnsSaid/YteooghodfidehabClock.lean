/- Contracts of what reads a clock. -/
import Derived.Test.YteooghodfidehabTouch
namespace Go.Proofs.Yteooghodfidehab
open Go.RowKit

structure Clk where
  first : Int
  least : Int
  most : Int
  tries : Int
  any : Bool
  sm : Int
  sp : Int
  wait : Int
  tried : Int
  runs : Bool
  since : Int

/-- block b is that clock -/
structure Ck (w : World) (b : Nat) (c : Clk) : Prop where
  lt : b < w.heap.size
  c0 : w.cell? ⟨b, 0, none⟩ = some (.int .i64 c.first)
  c1 : w.cell? ⟨b, 1, none⟩ = some (.int .i64 c.least)
  c2 : w.cell? ⟨b, 2, none⟩ = some (.int .i64 c.most)
  c3 : w.cell? ⟨b, 3, none⟩ = some (.int .i64 c.tries)
  c4 : w.cell? ⟨b, 4, none⟩ = some (.bool c.any)
  c5 : w.cell? ⟨b, 5, none⟩ = some (.int .i64 c.sm)
  c6 : w.cell? ⟨b, 6, none⟩ = some (.int .i64 c.sp)
  c7 : w.cell? ⟨b, 7, none⟩ = some (.int .i64 c.wait)
  c8 : w.cell? ⟨b, 8, none⟩ = some (.int .i64 c.tried)
  c9 : w.cell? ⟨b, 9, none⟩ = some (.bool c.runs)
  c10 : w.cell? ⟨b, 10, none⟩ = some (.int .i64 c.since)
  z : ∀ o, w.frozen? ⟨b, o, none⟩ = false

/-- what every clock keeps that was made -/
structure Good (c : Clk) : Prop where
  g1 : 1 ≤ c.least
  g2 : c.least ≤ c.first
  g3 : c.first ≤ c.most
  g4 : c.most ≤ 65536
  g5 : 1 ≤ c.tries
  g6 : c.tries ≤ 100
  g7 : 0 ≤ c.sm
  g8 : c.sm ≤ 524288
  g9 : 0 ≤ c.sp
  g10 : c.sp ≤ 262144
  g11 : c.least ≤ c.wait
  g12 : c.wait ≤ c.most
  g13 : 0 ≤ c.tried
  g14 : c.tried ≤ c.tries
  g15 : 0 ≤ c.since
  g16 : c.since ≤ 2147483647

theorem Ck.touch {w w' : World} {b b' : Nat} {c : Clk} (h : Ck w b c) (t : Touch b' w w') (hn : b ≠ b') : Ck w' b c :=
  ⟨Nat.lt_of_lt_of_le h.lt t.size, (t.cell 0 h.lt hn).trans h.c0, (t.cell 1 h.lt hn).trans h.c1, (t.cell 2 h.lt hn).trans h.c2, (t.cell 3 h.lt hn).trans h.c3, (t.cell 4 h.lt hn).trans h.c4, (t.cell 5 h.lt hn).trans h.c5,
   (t.cell 6 h.lt hn).trans h.c6, (t.cell 7 h.lt hn).trans h.c7, (t.cell 8 h.lt hn).trans h.c8, (t.cell 9 h.lt hn).trans h.c9, (t.cell 10 h.lt hn).trans h.c10, fun o => (t.frozen o h.lt hn).trans (h.z o)⟩
theorem Ck.below {w w' : World} {B b : Nat} {c : Clk} (h : Ck w b c) (t : Below B w w') (hn : b < B) : Ck w' b c :=
  ⟨Nat.lt_of_lt_of_le h.lt t.size, keep t hn h.c0, keep t hn h.c1, keep t hn h.c2, keep t hn h.c3, keep t hn h.c4, keep t hn h.c5, keep t hn h.c6, keep t hn h.c7, keep t hn h.c8, keep t hn h.c9, keep t hn h.c10, fun o => (t.frozen (p := ⟨b, o, none⟩) hn).trans (h.z o)⟩

theorem Ck.drewN {w : World} {b : Nat} {c : Clk} (h : Ck w b c) (n : Nat) : Ck (w.drewN n) b c :=
  h.below (B := w.heap.size) ⟨rfl, rfl, rfl, Nat.le_refl _, fun _ _ => rfl⟩ h.lt

set_option maxHeartbeats 1000000 in
theorem none_ck (b : Nat) (c : Clk) (w : World) (h : Ck w b c) (hw : 1 ≤ c.wait) :
    Calls Try.prog 30 #[.pointer (some ⟨b, 0, none⟩)] w fun e w' => e = .returned (.bool false) ∧ w = w' := by
  obtain ⟨_, c0, c1, c2, c3, c4, c5, c6, c7, c8, c9, c10, _⟩ := h
  have hne : (c.wait == 0) = false := by simp; omega
  go_enter Try.func30, Try.ntmps30
  go_wp2
  go_ret
  exact ⟨rfl, rfl⟩

theorem none_nil (w : World) : Calls Try.prog 30 #[.pointer none] w fun e w' => e = .returned (.bool true) ∧ w = w' := by
  go_enter Try.func30, Try.ntmps30
  go_wp2
  go_ret
  exact ⟨rfl, rfl⟩

def clamp (n least most : Int) : Int := if (if n ≤ most then n else most) < least then least else (if n ≤ most then n else most)

theorem within_any (n least most : Int) (w : World) :
    Calls Try.prog 33 #[.int .i64 n, .int .i64 least, .int .i64 most] w fun e w' => e = .returned (.int .i64 (clamp n least most)) ∧ w = w' := by
  go_enter Try.func33, Try.ntmps33
  go_wp2
  all_goals go_ret
  all_goals exact ⟨ret_int (by unfold clamp; (repeat' split) <;> omega), rfl⟩

def Right (c : Clk) (now : Int) : Prop := 0 ≤ now ∧ now ≤ 2147483647 ∧ c.since ≤ now

theorem right_yes (b : Nat) (c : Clk) (now : Int) (w : World) (h : Ck w b c) (hr : Right c now) :
    Calls Try.prog 32 #[.pointer (some ⟨b, 0, none⟩), .int .i64 now] w fun e w' => e = .returned (.bool true) ∧ w = w' := by
  obtain ⟨r0, r1, r2⟩ := hr
  have c10 := h.c10
  go_enter Try.func32, Try.ntmps32
  go_wp2
  go_ret
  exact ⟨rfl, rfl⟩

theorem right_no (b : Nat) (c : Clk) (now : Int) (w : World) (h : Ck w b c) (hr : ¬ Right c now) :
    Calls Try.prog 32 #[.pointer (some ⟨b, 0, none⟩), .int .i64 now] w fun e w' => e = .returned (.bool false) ∧ w = w' := by
  unfold Right at hr
  have c10 := h.c10
  by_cases r0 : 0 ≤ now
  · by_cases r1 : now ≤ 2147483647
    · have r2 : ¬ c.since ≤ now := fun x => hr ⟨r0, r1, x⟩
      clear hr
      go_enter Try.func32, Try.ntmps32
      go_wp2
      go_ret
      exact ⟨rfl, rfl⟩
    · clear hr
      go_enter Try.func32, Try.ntmps32
      go_wp2
      go_ret
      exact ⟨rfl, rfl⟩
  · clear hr
    go_enter Try.func32, Try.ntmps32
    go_wp2
    go_ret
    exact ⟨rfl, rfl⟩

theorem wait_any (b : Nat) (c : Clk) (w : World) (h : Ck w b c) (hw : 1 ≤ c.wait) :
    Calls Try.prog 14 #[.pointer (some ⟨b, 0, none⟩)] w fun e w' => e = .returned (.int .i64 c.wait) ∧ w = w' := by
  have c7 := h.c7
  go_enter Try.func14, Try.ntmps14
  go_wp2_with fail
  (with_reducible refine (none_ck _ _ _ h hw).mono ?_); rintro e w1 ⟨rfl, rfl⟩
  go_wp2_with fail
  go_ret
  exact ⟨rfl, rfl⟩

theorem tries_any (b : Nat) (c : Clk) (w : World) (h : Ck w b c) (hw : 1 ≤ c.wait) :
    Calls Try.prog 15 #[.pointer (some ⟨b, 0, none⟩)] w fun e w' => e = .returned (.int .i64 c.tried) ∧ w = w' := by
  have c8 := h.c8
  go_enter Try.func15, Try.ntmps15
  go_wp2_with fail
  (with_reducible refine (none_ck _ _ _ h hw).mono ?_); rintro e w1 ⟨rfl, rfl⟩
  go_wp2_with fail
  go_ret
  exact ⟨rfl, rfl⟩

theorem runs_any (b : Nat) (c : Clk) (w : World) (h : Ck w b c) (hw : 1 ≤ c.wait) :
    Calls Try.prog 18 #[.pointer (some ⟨b, 0, none⟩)] w fun e w' => e = .returned (.bool c.runs) ∧ w = w' := by
  have c9 := h.c9
  go_enter Try.func18, Try.ntmps18
  go_wp2_with fail
  (with_reducible refine (none_ck _ _ _ h hw).mono ?_); rintro e w1 ⟨rfl, rfl⟩
  go_wp2_with fail
  go_ret
  exact ⟨rfl, rfl⟩

def Due (c : Clk) (now : Int) : Prop := Right c now ∧ c.runs = true ∧ c.wait ≤ now - c.since

theorem due_yes (b : Nat) (c : Clk) (now : Int) (w : World) (h : Ck w b c) (g : Good c) (hd : Due c now) :
    Calls Try.prog 19 #[.pointer (some ⟨b, 0, none⟩), .int .i64 now] w fun e w' => e = .returned (.bool true) ∧ ∃ k, w' = w.drewN k := by
  obtain ⟨r, d1, d2⟩ := hd
  have hw : 1 ≤ c.wait := by have := g.g1; have := g.g11; omega
  obtain ⟨r0, r1, r2⟩ := r
  have r := Lib.hid (show Right c now from ⟨r0, r1, r2⟩)
  have g15 := g.g15
  have c7 := h.c7
  have c9 := h.c9
  have c10 := h.c10
  rw [d1] at c9
  go_enter Try.func19, Try.ntmps19
  go_wp2_with fail
  go_quiet (first | (go_at_call 30; exact Calls.quiet_of_same ((none_ck _ _ _ (h.drewN _) hw).mono fun _ _ ⟨a, b⟩ => ⟨a, b.symm⟩)) | (go_at_call 32; exact Calls.quiet_of_same ((right_yes _ _ _ _ (h.drewN _) r.out).mono fun _ _ ⟨a, b⟩ => ⟨a, b.symm⟩)))
  go_wp2_with fail
  go_ret
  exact ⟨rfl, _, rfl⟩

theorem due_no1 (b : Nat) (c : Clk) (now : Int) (w : World) (h : Ck w b c) (g : Good c) (hr : ¬ Right c now) :
    Calls Try.prog 19 #[.pointer (some ⟨b, 0, none⟩), .int .i64 now] w fun e w' => e = .returned (.bool false) ∧ ∃ k, w' = w.drewN k := by
  have hw : 1 ≤ c.wait := by have := g.g1; have := g.g11; omega
  have r := Lib.hid hr; clear hr
  have g15 := g.g15
  have c7 := h.c7
  have c9 := h.c9
  have c10 := h.c10
  (try rw [d1] at c9)
  go_enter Try.func19, Try.ntmps19
  go_wp2_with fail
  go_quiet (first | (go_at_call 30; exact Calls.quiet_of_same ((none_ck _ _ _ (h.drewN _) hw).mono fun _ _ ⟨a, b⟩ => ⟨a, b.symm⟩)) | (go_at_call 32; exact Calls.quiet_of_same ((right_no _ _ _ _ (h.drewN _) r.out).mono fun _ _ ⟨a, b⟩ => ⟨a, b.symm⟩)))
  go_wp2_with fail
  go_ret
  exact ⟨rfl, _, rfl⟩

theorem due_no2 (b : Nat) (c : Clk) (now : Int) (w : World) (h : Ck w b c) (g : Good c) (hr : Right c now) (d1 : c.runs = false) :
    Calls Try.prog 19 #[.pointer (some ⟨b, 0, none⟩), .int .i64 now] w fun e w' => e = .returned (.bool false) ∧ ∃ k, w' = w.drewN k := by
  have hw : 1 ≤ c.wait := by have := g.g1; have := g.g11; omega
  have r := Lib.hid hr; clear hr
  have g15 := g.g15
  have c7 := h.c7
  have c9 := h.c9
  have c10 := h.c10
  (try rw [d1] at c9)
  go_enter Try.func19, Try.ntmps19
  go_wp2_with fail
  go_quiet (first | (go_at_call 30; exact Calls.quiet_of_same ((none_ck _ _ _ (h.drewN _) hw).mono fun _ _ ⟨a, b⟩ => ⟨a, b.symm⟩)) | (go_at_call 32; exact Calls.quiet_of_same ((right_yes _ _ _ _ (h.drewN _) r.out).mono fun _ _ ⟨a, b⟩ => ⟨a, b.symm⟩)))
  go_wp2_with fail
  go_ret
  exact ⟨rfl, _, rfl⟩

theorem due_no3 (b : Nat) (c : Clk) (now : Int) (w : World) (h : Ck w b c) (g : Good c) (hr : Right c now) (d1 : c.runs = true) (d2 : now - c.since < c.wait) :
    Calls Try.prog 19 #[.pointer (some ⟨b, 0, none⟩), .int .i64 now] w fun e w' => e = .returned (.bool false) ∧ ∃ k, w' = w.drewN k := by
  have hw : 1 ≤ c.wait := by have := g.g1; have := g.g11; omega
  obtain ⟨r0, r1, r2⟩ := hr
  have r := Lib.hid (show Right c now from ⟨r0, r1, r2⟩)
  have d3 : decide (c.wait ≤ now - c.since) = false := by simp; omega
  have g15 := g.g15
  have c7 := h.c7
  have c9 := h.c9
  have c10 := h.c10
  (try rw [d1] at c9)
  go_enter Try.func19, Try.ntmps19
  go_wp2_with fail
  go_quiet (first | (go_at_call 30; exact Calls.quiet_of_same ((none_ck _ _ _ (h.drewN _) hw).mono fun _ _ ⟨a, b⟩ => ⟨a, b.symm⟩)) | (go_at_call 32; exact Calls.quiet_of_same ((right_yes _ _ _ _ (h.drewN _) r.out).mono fun _ _ ⟨a, b⟩ => ⟨a, b.symm⟩)))
  go_wp2_with fail
  go_ret
  exact ⟨rfl, _, rfl⟩

theorem due_no (b : Nat) (c : Clk) (now : Int) (w : World) (h : Ck w b c) (g : Good c) (hd : ¬ Due c now) :
    Calls Try.prog 19 #[.pointer (some ⟨b, 0, none⟩), .int .i64 now] w fun e w' => e = .returned (.bool false) ∧ ∃ k, w' = w.drewN k := by
  by_cases r : Right c now
  · cases d : c.runs with
    | false => exact due_no2 b c now w h g r d
    | true => exact due_no3 b c now w h g r d (by by_cases x : now - c.since < c.wait; exact x; exact absurd ⟨r, d, by omega⟩ hd)
  · exact due_no1 b c now w h g r

/-- the learned wait -/
def lw (c : Clk) : Int := if c.any = true then clamp (c.sm / 8 + (if c.sp ≤ 1 then 1 else c.sp)) c.least c.most else c.first

theorem lw_no (b : Nat) (c : Clk) (w : World) (h : Ck w b c) (ha : c.any = false) :
    Calls Try.prog 31 #[.pointer (some ⟨b, 0, none⟩)] w fun e w' => e = .returned (.int .i64 (lw c)) ∧ ∃ k, w' = w.drewN k := by
  have L := Lib.hid (show lw c = c.first by unfold lw; rw [ha]; rfl)
  have c0 := h.c0
  have c4 := h.c4
  rw [ha] at c4
  go_enter Try.func31, Try.ntmps31
  go_wp2_with fail
  go_ret
  exact ⟨ret_int L.out.symm, 0, rfl⟩

theorem lw_yes (b : Nat) (c : Clk) (w : World) (h : Ck w b c) (g : Good c) (ha : c.any = true) :
    Calls Try.prog 31 #[.pointer (some ⟨b, 0, none⟩)] w fun e w' => e = .returned (.int .i64 (lw c)) ∧ ∃ k, w' = w.drewN k := by
  have L := Lib.hid (show lw c = clamp (c.sm / 8 + (if c.sp ≤ 1 then 1 else c.sp)) c.least c.most by unfold lw; rw [ha]; rfl)
  have c1 := h.c1
  have c2 := h.c2
  have c4 := h.c4
  have c5 := h.c5
  have c6 := h.c6
  rw [ha] at c4
  have g7 := g.g7
  have g8 := g.g8
  have g9 := g.g9
  have g10 := g.g10
  go_enter Try.func31, Try.ntmps31
  go_wp2_with fail
  go_quiet ((go_at_call 33; exact Calls.quiet_of_same ((within_any _ _ _ _).mono fun _ _ ⟨a, b⟩ => ⟨a, b.symm⟩)))
  all_goals go_wp2_with fail
  all_goals go_ret
  all_goals exact ⟨ret_int (by rw [L.out]; congr 2; split <;> omega), _, rfl⟩

theorem lw_any (b : Nat) (c : Clk) (w : World) (h : Ck w b c) (g : Good c) :
    Calls Try.prog 31 #[.pointer (some ⟨b, 0, none⟩)] w fun e w' => e = .returned (.int .i64 (lw c)) ∧ ∃ k, w' = w.drewN k := by
  cases ha : c.any with
  | false => exact lw_no b c w h ha
  | true => exact lw_yes b c w h g ha

theorem copy_any (b : Nat) (c : Clk) (w : World) (h : Ck w b c) (hw : 1 ≤ c.wait) :
    Calls Try.prog 21 #[.pointer (some ⟨b, 0, none⟩)] w fun e w' => e = .returned (.pointer (some ⟨w.heap.size, 0, none⟩)) ∧
      w.alloc (.cells #[.int .i64 c.first, .int .i64 c.least, .int .i64 c.most, .int .i64 c.tries, .bool c.any, .int .i64 c.sm, .int .i64 c.sp, .int .i64 c.wait, .int .i64 c.tried, .bool c.runs, .int .i64 c.since] 56) = w' := by
  obtain ⟨_, c0, c1, c2, c3, c4, c5, c6, c7, c8, c9, c10, _⟩ := id h
  go_enter Try.func21, Try.ntmps21
  go_wp2_with fail
  (with_reducible refine (none_ck _ _ _ h hw).mono ?_); rintro e w1 ⟨rfl, rfl⟩
  go_wp2_with fail
  go_ret
  exact ⟨rfl, rfl⟩

theorem ck_new (w : World) (c : Clk) : Ck (w.alloc (.cells #[.int .i64 c.first, .int .i64 c.least, .int .i64 c.most, .int .i64 c.tries, .bool c.any, .int .i64 c.sm, .int .i64 c.sp, .int .i64 c.wait, .int .i64 c.tried, .bool c.runs, .int .i64 c.since] 56)) w.heap.size c :=
  ⟨by simp, by go_simp, by go_simp, by go_simp, by go_simp, by go_simp, by go_simp, by go_simp, by go_simp, by go_simp, by go_simp, by go_simp, fun o => by go_simp⟩

theorem copy_ck (b : Nat) (c : Clk) (w : World) (h : Ck w b c) (hw : 1 ≤ c.wait) :
    Calls Try.prog 21 #[.pointer (some ⟨b, 0, none⟩)] w fun e w' => e = .returned (.pointer (some ⟨w.heap.size, 0, none⟩)) ∧ Ck w' w.heap.size c ∧ Below w.heap.size w w' :=
  (copy_any b c w h hw).mono fun _ _ ⟨he, hw⟩ => ⟨he, hw ▸ ck_new w c, hw ▸ (Below.refl _ _).alloc (Nat.le_refl _) _⟩

set_option maxHeartbeats 1000000 in
theorem same_eq (b b' : Nat) (c : Clk) (w : World) (h : Ck w b c) (h' : Ck w b' c) (hw : 1 ≤ c.wait) :
    Calls Try.prog 22 #[.pointer (some ⟨b, 0, none⟩), .pointer (some ⟨b', 0, none⟩)] w fun e w' => e = .returned (.bool true) ∧ Below w.heap.size w w' := by
  obtain ⟨_, c0, c1, c2, c3, c4, c5, c6, c7, c8, c9, c10, _⟩ := id h
  obtain ⟨_, d0, d1, d2, d3, d4, d5, d6, d7, d8, d9, d10, _⟩ := id h'
  go_enter Try.func22, Try.ntmps22
  go_wp2_with fail
  (with_reducible refine (none_ck _ _ _ h hw).mono ?_); rintro e w1 ⟨rfl, rfl⟩
  go_wp2_with fail
  (with_reducible refine (none_ck _ _ _ h' hw).mono ?_); rintro e w1 ⟨rfl, rfl⟩
  go_wp2_with fail
  go_quiet (fail)
  go_wp2_with fail
  go_ret
  exact ⟨rfl, below_drewN (Below.refl _ _) _⟩

end Go.Proofs.Yteooghodfidehab
