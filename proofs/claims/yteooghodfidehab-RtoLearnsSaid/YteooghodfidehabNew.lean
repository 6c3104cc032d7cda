/- Contracts of what makes a clock, and of the calls that every statement of this layer makes besides. -/
import Derived.Test.YteooghodfidehabLearn
namespace Go.Proofs.Yteooghodfidehab
open Go.RowKit

/-- do so many numbers rise? -/
def Rise (n : Nat) (f : Nat → Int) : Prop := ∀ j, j + 1 < n → f j ≤ f (j + 1)

set_option maxHeartbeats 2000000 in
theorem rises_yes (b n : Nat) (f : Nat → Int) (w : World) (hn : 2 ≤ n) (hn1 : n ≤ 100) (hf : ∀ i, i < n → w.cell? ⟨b, i, none⟩ = some (.int .i64 (f i))) (hr : Rise n f) :
    Calls Try.prog 24 #[.slice (some ⟨b, 0, none⟩) n n] w fun e w' => e = .returned (.bool true) ∧ Below w.heap.size w w' := by
  have HF := Lib.hid hf; clear hf
  have HR := Lib.hid hr; clear hr
  have q1 : ¬ (n : Int) < 1 := by omega
  have q2 : n ≠ 1 := by omega
  have q3 : 1 ≤ n := by omega
  go_enter Try.func24, Try.ntmps24
  go_wp2_with fail
  go_loopw [7] (fun i wr => ∃ k : Nat, k ≤ n - 1 ∧ i = .int .i64 k ∧ ∃ m, wr = w.drewN m) (fun i _ => n - (intOf i).toNat)
  case atStart => exact ⟨0, by omega, rfl, 0, rfl⟩
  case round =>
    obtain ⟨k, hk, rfl, m, rfl⟩ := hrel
    by_cases hlt : k < n - 1
    · have d0 := HF.out k (by omega)
      have d1 := HF.out (k + 1) (by omega)
      have d2 := HR.out k (by omega)
      have d3 : (k : Int) < (n : Int) := by omega
      have d4 : (k : Int) + 1 < (n : Int) := by omega
      have d5 : ¬ f (k + 1) < f k := by omega
      go_wp2_with fail
      go_quiet (fail)
      go_wp2_with fail
      go_roundw
      case rel => exact ⟨k + 1, by omega, by go_num, _, rfl⟩
      case measure => simp [intOf]; omega
    · have hd : ¬ (k : Int) < ((n - 1 : Nat) : Int) := by omega
      go_wp2_with fail
      go_ret
      exact ⟨rfl, below_drewN (Below.refl _ _) _⟩

def Ahead (f : Nat → Int) (k : Nat) : Prop := ∀ j, j < k → f j ≤ f (j + 1)

set_option maxHeartbeats 2000000 in
theorem rises_no (b n : Nat) (f : Nat → Int) (w : World) (hn : 2 ≤ n) (hn1 : n ≤ 100) (hf : ∀ i, i < n → w.cell? ⟨b, i, none⟩ = some (.int .i64 (f i))) (hr : ¬ Rise n f) :
    Calls Try.prog 24 #[.slice (some ⟨b, 0, none⟩) n n] w fun e w' => e = .returned (.bool false) ∧ Below w.heap.size w w' := by
  have HF := Lib.hid hf; clear hf
  have HR := Lib.hid hr; clear hr
  have q1 : ¬ (n : Int) < 1 := by omega
  have q2 : n ≠ 1 := by omega
  have q3 : 1 ≤ n := by omega
  go_enter Try.func24, Try.ntmps24
  go_wp2_with fail
  go_loopw [7] (fun i wr => ∃ k : Nat, k ≤ n - 1 ∧ i = .int .i64 k ∧ Ahead f k ∧ ∃ m, wr = w.drewN m) (fun i _ => n - (intOf i).toNat)
  case atStart => exact ⟨0, by omega, rfl, fun j hj => absurd hj (by omega), 0, rfl⟩
  case round =>
    obtain ⟨k, hk, rfl, ah, m, rfl⟩ := hrel
    by_cases hlt : k < n - 1
    · have d0 := HF.out k (by omega)
      have d1 := HF.out (k + 1) (by omega)
      have d3 : (k : Int) < (n : Int) := by omega
      have d4 : (k : Int) + 1 < (n : Int) := by omega
      by_cases d2 : f k ≤ f (k + 1)
      · have d5 : ¬ f (k + 1) < f k := by omega
        have AH : Hid (Ahead f (k + 1)) := Lib.hid (fun j hj => by by_cases e : j = k; (subst e; exact d2); exact ah j (by omega))
        go_wp2_with fail
        go_quiet (fail)
        go_wp2_with fail
        go_roundw
        case rel => exact ⟨k + 1, by omega, by go_num, AH.out, _, rfl⟩
        case measure => simp [intOf]; omega
      · have d5 : f (k + 1) < f k := by omega
        clear d2
        go_wp2_with fail
        go_quiet (fail)
        go_wp2_with fail
        go_ret
        exact ⟨rfl, below_drewN (below_drewN (Below.refl _ _) _) _⟩
    · exact absurd (fun j hj => ah j (by omega)) HR.out

/-- may bounds be? -/
def Bd (f l m t : Int) : Prop := 1 ≤ l ∧ l ≤ f ∧ f ≤ m ∧ m ≤ 65536 ∧ 1 ≤ t ∧ t ≤ 100

def newC (f l m t : Int) : Clk := ⟨f, l, m, t, false, 0, 0, f, 0, false, 0⟩

theorem good_new {f l m t : Int} (h : Bd f l m t) : Good (newC f l m t) := by
  obtain ⟨h1, h2, h3, h4, h5, h6⟩ := h
  constructor <;> simp only [newC] <;> omega

def five (f l m : Int) : Nat → Int
  | 0 => 1
  | 1 => l
  | 2 => f
  | 3 => m
  | _ => 65536
def three (t : Int) : Nat → Int
  | 0 => 1
  | 1 => t
  | _ => 100

theorem five_rise {f l m : Int} (h : 1 ≤ l ∧ l ≤ f ∧ f ≤ m ∧ m ≤ 65536) : Rise 5 (five f l m) := by
  intro j hj
  obtain rfl | rfl | rfl | rfl : j = 0 ∨ j = 1 ∨ j = 2 ∨ j = 3 := by omega
  all_goals simp only [five]; omega
theorem five_not {f l m : Int} (h : ¬ (1 ≤ l ∧ l ≤ f ∧ f ≤ m ∧ m ≤ 65536)) : ¬ Rise 5 (five f l m) := fun r => h ⟨r 0 (by omega), r 1 (by omega), r 2 (by omega), r 3 (by omega)⟩
theorem three_rise {t : Int} (h : 1 ≤ t ∧ t ≤ 100) : Rise 3 (three t) := by
  intro j hj
  obtain rfl | rfl : j = 0 ∨ j = 1 := by omega
  all_goals simp only [three]; omega
theorem three_not {t : Int} (h : ¬ (1 ≤ t ∧ t ≤ 100)) : ¬ Rise 3 (three t) := fun r => h ⟨r 0 (by omega), r 1 (by omega)⟩

theorem five_cells (W : World) (f l m : Int) (T : TypeId) (k : Nat) (hk : k = W.heap.size) : ∀ i, i < 5 → (W.alloc (.cells #[.int .i64 1, .int .i64 l, .int .i64 f, .int .i64 m, .int .i64 65536] T)).cell? ⟨k, i, none⟩ = some (.int .i64 (five f l m i)) := by
  subst hk
  intro i hi
  obtain rfl | rfl | rfl | rfl | rfl : i = 0 ∨ i = 1 ∨ i = 2 ∨ i = 3 ∨ i = 4 := by omega
  all_goals (simp only [five]; go_simp)
theorem three_cells (W : World) (t : Int) (T : TypeId) : ∀ i, i < 3 → (W.alloc (.cells #[.int .i64 1, .int .i64 t, .int .i64 100] T)).cell? ⟨W.heap.size, i, none⟩ = some (.int .i64 (three t i)) := by
  intro i hi
  obtain rfl | rfl | rfl : i = 0 ∨ i = 1 ∨ i = 2 := by omega
  all_goals (simp only [three]; go_simp)

def Made (w : World) (c : Clk) (e : Ending) (w' : World) : Prop := ∃ b, e = .returned (.tuple #[.pointer (some ⟨b, 0, none⟩), .int .i64 0]) ∧ w.heap.size ≤ b ∧ Ck w' b c ∧ Below w.heap.size w w'

/-- the bounds that came in, boxed -/
structure Box4 (w : World) (b : Nat) (f l m t : Int) : Prop where
  lt : b < w.heap.size
  c0 : w.cell? ⟨b, 0, none⟩ = some (.int .i64 f)
  c1 : w.cell? ⟨b, 1, none⟩ = some (.int .i64 l)
  c2 : w.cell? ⟨b, 2, none⟩ = some (.int .i64 m)
  c3 : w.cell? ⟨b, 3, none⟩ = some (.int .i64 t)
theorem Box4.below {w w' : World} {B b : Nat} {f l m t : Int} (h : Box4 w b f l m t) (hb : Below B w w') (hB : b < B) : Box4 w' b f l m t :=
  ⟨Nat.lt_of_lt_of_le h.lt hb.size, keep hb hB h.c0, keep hb hB h.c1, keep hb hB h.c2, keep hb hB h.c3⟩
theorem box4_new (w : World) (f l m t : Int) (T : TypeId) : Box4 (w.alloc (.cells #[.int .i64 f, .int .i64 l, .int .i64 m, .int .i64 t] T)) w.heap.size f l m t :=
  ⟨by simp, by go_simp, by go_simp, by go_simp, by go_simp⟩

set_option maxHeartbeats 2000000 in
theorem new_ok (f l m t : Int) (w : World) (h : Bd f l m t) :
    Calls Try.prog 9 #[.agg #[.int .i64 f, .int .i64 l, .int .i64 m, .int .i64 t]] w (Made w (newC f l m t)) := by
  have H := Lib.hid h; clear h
  have F5 := five_cells (w.alloc (.cells #[.int .i64 f, .int .i64 l, .int .i64 m, .int .i64 t] 23)) f l m 3 (w.heap.size + 1) (by simp)
  have R5 := Lib.hid (five_rise (f := f) (l := l) (m := m) ⟨H.out.1, H.out.2.1, H.out.2.2.1, H.out.2.2.2.1⟩)
  have R3 := Lib.hid (three_rise (t := t) H.out.2.2.2.2)
  have q0 := box4_new w f l m t 23
  have q1 := q0.below ((Below.refl _ _).alloc (Nat.le_refl _) (.cells #[.int .i64 1, .int .i64 l, .int .i64 f, .int .i64 m, .int .i64 65536] 3)) q0.lt
  have y1 : Below w.heap.size w ((w.alloc (.cells #[.int .i64 f, .int .i64 l, .int .i64 m, .int .i64 t] 23)).alloc (.cells #[.int .i64 1, .int .i64 l, .int .i64 f, .int .i64 m, .int .i64 65536] 3)) := ((Below.refl _ _).alloc (Nat.le_refl _) _).alloc (by simp) _
  have G5 := Lib.hid F5; clear F5
  go_enter Try.func9, Try.ntmps9
  go_wp2_with fail
  (with_reducible refine (rises_yes _ 5 _ _ (by omega) (by omega) G5.out R5.out).mono ?_); rintro e w1 ⟨rfl, b1⟩
  have q2 := q1.below b1 q1.lt
  have y2 := y1.trans (b1.mono y1.size)
  have x3 := q2.c3
  have G3 := Lib.hid (three_cells w1 t 3)
  have q3 := q2.below ((Below.refl _ _).alloc (Nat.le_refl _) (.cells #[.int .i64 1, .int .i64 t, .int .i64 100] 3)) q2.lt
  have y3 := y2.alloc y2.size (.cells #[.int .i64 1, .int .i64 t, .int .i64 100] 3)
  clear b1
  go_wp2_with fail
  (with_reducible refine (rises_yes _ 3 _ _ (by omega) (by omega) G3.out R3.out).mono ?_); rintro e w2 ⟨rfl, b2⟩
  have q4 := q3.below b2 q3.lt
  have y4 := y3.trans (b2.mono y3.size)
  obtain ⟨_, z0, z1, z2, z3⟩ := id q4
  clear b2 x3
  go_wp2_with fail
  go_ret2
  exact ⟨w2.heap.size, rfl, y4.size, ck_new w2 (newC f l m t), y4.alloc y4.size _⟩

set_option maxHeartbeats 2000000 in
theorem new_no (f l m t : Int) (w : World) (h : ¬ Bd f l m t) :
    Calls Try.prog 9 #[.agg #[.int .i64 f, .int .i64 l, .int .i64 m, .int .i64 t]] w fun e w' => e = .returned (.tuple #[.pointer none, .int .i64 2]) ∧ Below w.heap.size w w' := by
  have F5 := five_cells (w.alloc (.cells #[.int .i64 f, .int .i64 l, .int .i64 m, .int .i64 t] 23)) f l m 3 (w.heap.size + 1) (by simp)
  have q0 := box4_new w f l m t 23
  have q1 := q0.below ((Below.refl _ _).alloc (Nat.le_refl _) (.cells #[.int .i64 1, .int .i64 l, .int .i64 f, .int .i64 m, .int .i64 65536] 3)) q0.lt
  have y1 : Below w.heap.size w ((w.alloc (.cells #[.int .i64 f, .int .i64 l, .int .i64 m, .int .i64 t] 23)).alloc (.cells #[.int .i64 1, .int .i64 l, .int .i64 f, .int .i64 m, .int .i64 65536] 3)) := ((Below.refl _ _).alloc (Nat.le_refl _) _).alloc (by simp) _
  have G5 := Lib.hid F5; clear F5
  by_cases h5 : 1 ≤ l ∧ l ≤ f ∧ f ≤ m ∧ m ≤ 65536
  · have R5 := Lib.hid (five_rise (f := f) (l := l) (m := m) h5)
    have R3 := Lib.hid (three_not (t := t) (fun x => h ⟨h5.1, h5.2.1, h5.2.2.1, h5.2.2.2, x.1, x.2⟩))
    clear h h5
    go_enter Try.func9, Try.ntmps9
    go_wp2_with fail
    (with_reducible refine (rises_yes _ 5 _ _ (by omega) (by omega) G5.out R5.out).mono ?_); rintro e w1 ⟨rfl, b1⟩
    have q2 := q1.below b1 q1.lt
    have y2 := y1.trans (b1.mono y1.size)
    have x3 := q2.c3
    have G3 := Lib.hid (three_cells w1 t 3)
    have y3 := y2.alloc y2.size (.cells #[.int .i64 1, .int .i64 t, .int .i64 100] 3)
    clear b1
    go_wp2_with fail
    (with_reducible refine (rises_no _ 3 _ _ (by omega) (by omega) G3.out R3.out).mono ?_); rintro e w2 ⟨rfl, b2⟩
    have y4 := y3.trans (b2.mono y3.size)
    go_wp2_with fail
    go_ret2
    exact ⟨rfl, y4⟩
  · have R5 := Lib.hid (five_not h5)
    clear h h5
    go_enter Try.func9, Try.ntmps9
    go_wp2_with fail
    (with_reducible refine (rises_no _ 5 _ _ (by omega) (by omega) G5.out R5.out).mono ?_); rintro e w1 ⟨rfl, b1⟩
    have y2 := y1.trans (b1.mono y1.size)
    go_wp2_with fail
    go_ret2
    exact ⟨rfl, y2⟩

theorem good_start {c : Clk} (g : Good c) {now : Int} (h : Right c now) : Good (startC c now) := by
  obtain ⟨h1, h2, h3⟩ := h
  obtain ⟨g1, g2, g3, g4, g5, g6, g7, g8, g9, g10, g11, g12, g13, g14, g15, g16⟩ := g
  constructor <;> simp only [startC] <;> omega
theorem clamp_bd {n least most : Int} (h : least ≤ most) : least ≤ clamp n least most ∧ clamp n least most ≤ most := by unfold clamp; omega
theorem lw_bd {c : Clk} (g : Good c) : c.least ≤ lw c ∧ lw c ≤ c.most := by
  obtain ⟨g1, g2, g3, g4, g5, g6, g7, g8, g9, g10, g11, g12, g13, g14, g15, g16⟩ := g
  unfold lw
  split
  · exact clamp_bd (by omega)
  · omega
theorem good_more {c : Clk} (g : Good c) {now : Int} (h : Right c now) (ht : c.tried ≠ c.tries) : Good (moreC c now) := by
  obtain ⟨h1, h2, h3⟩ := h
  obtain ⟨g1, g2, g3, g4, g5, g6, g7, g8, g9, g10, g11, g12, g13, g14, g15, g16⟩ := g
  have := clamp_bd (n := 2 * c.wait) (least := c.least) (most := c.most) (by omega)
  constructor <;> simp only [moreC] <;> omega
theorem good_give {c : Clk} (g : Good c) : Good (giveC c) := by
  obtain ⟨g1, g2, g3, g4, g5, g6, g7, g8, g9, g10, g11, g12, g13, g14, g15, g16⟩ := g
  constructor <;> simp only [giveC] <;> omega
theorem good_stop {c : Clk} (g : Good c) : Good (stopC c) := by
  have := lw_bd g
  obtain ⟨g1, g2, g3, g4, g5, g6, g7, g8, g9, g10, g11, g12, g13, g14, g15, g16⟩ := g
  constructor <;> simp only [stopC] <;> omega

theorem k0 : Bd 3 1 64 1 := by unfold Bd; omega
def kc0 : Clk := newC 3 1 64 1
def kc1 : Clk := startC kc0 10
def kc2 : Clk := moreC kc1 13
def kc3 : Clk := giveC kc2
theorem kr0 : Right kc0 10 := by unfold Right kc0 newC; simp
theorem kg0 : Good kc0 := good_new k0
theorem kg1 : Good kc1 := good_start kg0 kr0
theorem kr1 : Right kc1 13 := by unfold Right kc1 startC; simp
theorem kd1 : Due kc1 13 := ⟨kr1, rfl, by decide⟩
theorem kt1 : kc1.tried ≠ kc1.tries := by decide
theorem kg2 : Good kc2 := good_more kg1 kr1 kt1
theorem kw2 : kc2.wait = 6 := by decide
theorem kr2 : Right kc2 19 := by unfold Right kc2 moreC; simp
theorem kd2 : Due kc2 19 := ⟨kr2, rfl, by decide⟩
theorem kt2 : kc2.tried = kc2.tries := by decide
theorem kg3 : Good kc3 := good_give kg2

theorem Good.w1 {c : Clk} (g : Good c) : 1 ≤ c.wait := by have := g.g1; have := g.g11; omega

theorem wait_k (b : Nat) (w : World) (h : Ck w b kc2) : Calls Try.prog 14 #[.pointer (some ⟨b, 0, none⟩)] w fun e w' => e = .returned (.int .i64 6) ∧ w = w' :=
  kw2 ▸ wait_any b kc2 w h kg2.w1
theorem runs_k (b : Nat) (w : World) (h : Ck w b kc3) : Calls Try.prog 18 #[.pointer (some ⟨b, 0, none⟩)] w fun e w' => e = .returned (.bool false) ∧ w = w' :=
  runs_any b kc3 w h kg3.w1

set_option maxHeartbeats 2000000 in
theorem known_any (w : World) : Calls Try.prog 8 #[] w fun e w' => e = .returned (.bool true) ∧ Below w.heap.size w w' := by
  go_enter Try.func8, Try.ntmps8
  go_wp2_with fail
  (with_reducible refine (new_ok _ _ _ _ _ k0).mono ?_); rintro e w1 ⟨b, rfl, hb, h1, b1⟩
  change Ck w1 b kc0 at h1
  go_wp2_with fail
  (with_reducible refine (start_ok _ _ _ _ h1 kg0.w1 kr0).mono ?_); rintro e w2 ⟨rfl, h2, t2⟩
  change Ck w2 b kc1 at h2
  have b2 := b1.trans (t2.below hb b1.size)
  go_wp2_with fail
  (with_reducible refine (late_more _ _ _ _ h2 kg1 kd1 kt1).mono ?_); rintro e w3 ⟨rfl, h3, t3⟩
  change Ck w3 b kc2 at h3
  have b3 := b2.trans (t3.below hb b2.size)
  go_wp2_with fail
  (with_reducible refine (wait_k _ _ h3).mono ?_); rintro e w4 ⟨rfl, rfl⟩
  go_wp2_with fail
  (with_reducible refine (late_give _ _ _ _ h3 kg2 kd2 kt2).mono ?_); rintro e w5 ⟨rfl, h5, t5⟩
  change Ck w5 b kc3 at h5
  have b5 := b3.trans (t5.below hb b3.size)
  go_wp2_with fail
  (with_reducible refine (runs_k _ _ h5).mono ?_); rintro e w6 ⟨rfl, rfl⟩
  go_wp2_with fail
  go_ret
  exact ⟨rfl, b5⟩

end Go.Proofs.Yteooghodfidehab
