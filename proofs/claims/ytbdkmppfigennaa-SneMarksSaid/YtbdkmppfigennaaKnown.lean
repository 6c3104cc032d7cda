/- The calls that every statement of this layer makes besides: over the top of 32 bits, and back. -/
import Derived.Test.YtbdkmppfigennaaTake
namespace Go.Proofs.Ytbdkmppfigennaa
open Go.RowKit

/-- block b is a mark that is n -/
structure Mk (w : World) (b : Nat) (n : Int) : Prop where
  lt : b < w.heap.size
  c0 : w.cell? ⟨b, 0, none⟩ = some (.int .i64 n)
  c1 : w.cell? ⟨b, 1, none⟩ = some (.bool true)
  fz : w.frozen? ⟨b, 0, none⟩ = false

theorem Mk.below {w w' : World} {b : Nat} {n : Int} (h : Mk w b n) {B : Nat} (hb : Below B w w') (hB : b < B) : Mk w' b n :=
  ⟨Nat.lt_of_lt_of_le h.lt hb.size, (hb.cell (p := ⟨b, 0, none⟩) hB).trans h.c0, (hb.cell (p := ⟨b, 1, none⟩) hB).trans h.c1, (hb.frozen (p := ⟨b, 0, none⟩) hB).trans h.fz⟩

theorem mk_new (w : World) (n : Int) : Mk (w.alloc (.cells #[.int .i64 n, .bool true] 47)) w.heap.size n :=
  ⟨by simp, by go_simp, by go_simp, by go_simp⟩

theorem mk_set {w : World} {b : Nat} {n : Int} (h : Mk w b n) (k : Int) : Mk (w.setCell ⟨b, 0, none⟩ (.int .i64 k)) b k :=
  ⟨by simpa using h.lt, by have := h.c0; go_simp, by have := h.c1; go_simp, by have := h.fz; go_simp⟩

theorem new_mk (isn : Int) (w : World) (h0 : 0 ≤ isn) (h1 : isn < 4294967296) :
    Calls Try.prog 11 #[.int .u32 isn] w fun e w' => e = .returned (.pointer (some ⟨w.heap.size, 0, none⟩)) ∧ Mk w' w.heap.size isn ∧ Below w.heap.size w w' :=
  (new_any isn w h0 h1).mono fun _ _ ⟨he, hw⟩ => ⟨he, hw ▸ mk_new w isn, hw ▸ (Below.refl _ _).alloc (Nat.le_refl _) _⟩

theorem look_mk (b : Nat) (n seq : Int) (w : World) (h : Mk w b n) (hs : 0 ≤ seq) (hs1 : seq < 4294967296) (hn : 0 ≤ n) (hn1 : n ≤ 4611686018427387904) :
    Calls Try.prog 13 #[.pointer (some ⟨b, 0, none⟩), .int .u32 seq] w fun e w' => Told (near seq n) e ∧ Mk w' b n ∧ Below w.heap.size w w' :=
  (look_any b n seq w h.c0 h.c1 hs hs1 hn hn1).mono fun _ _ ⟨he, hw⟩ => ⟨he, h.below hw h.lt, hw⟩

theorem take_mk (b : Nat) (n seq : Int) (w : World) (h : Mk w b n) (hs : 0 ≤ seq) (hs1 : seq < 4294967296) (hn : 0 ≤ n) (hn1 : n ≤ 4611686018427387904) (hf : near seq n ≤ 4611686018427387904) :
    Calls Try.prog 16 #[.pointer (some ⟨b, 0, none⟩), .int .u32 seq] w fun e w' => e = .returned (.tuple #[.int .i64 (near seq n), .int .i64 0]) ∧ Mk w' b (if n ≤ near seq n then near seq n else n) ∧ Below b w w' :=
  (take_any b n seq w h.lt h.c0 h.c1 h.fz hs hs1 hn hn1 hf).mono fun _ _ ⟨he, _, hb, hw⟩ => ⟨he, hw ▸ mk_set (h.below hb h.lt) _, hw ▸ (hb.mono (Nat.le_of_lt h.lt)).setCell (Nat.le_refl _) _⟩

theorem value_mk (b : Nat) (n : Int) (w : World) (h : Mk w b n) :
    Calls Try.prog 14 #[.pointer (some ⟨b, 0, none⟩)] w fun e w' => e = .returned (.int .i64 n) ∧ Mk w' b n ∧ Below w.heap.size w w' :=
  (value_any b n w h.lt h.c0 h.c1).mono fun _ _ ⟨he, hw⟩ => ⟨he, h.below hw h.lt, hw⟩

theorem near_k1 : near 5 4294967290 = 4294967301 := by decide
theorem near_k2 : near 4294967290 4294967301 = 4294967290 := by decide

theorem take_k (b : Nat) (w : World) (h : Mk w b 4294967290) :
    Calls Try.prog 16 #[.pointer (some ⟨b, 0, none⟩), .int .u32 5] w fun e w' => e = .returned (.tuple #[.int .i64 4294967301, .int .i64 0]) ∧ Mk w' b 4294967301 ∧ Below b w w' := by
  have := take_mk b 4294967290 5 w h (by omega) (by omega) (by omega) (by omega) (by rw [near_k1]; omega)
  rw [near_k1] at this
  exact this
theorem look_k (b : Nat) (w : World) (h : Mk w b 4294967301) :
    Calls Try.prog 13 #[.pointer (some ⟨b, 0, none⟩), .int .u32 4294967290] w fun e w' => e = .returned (.tuple #[.int .i64 4294967290, .int .i64 0]) ∧ Mk w' b 4294967301 ∧ Below w.heap.size w w' :=
  (look_mk b 4294967301 4294967290 w h (by omega) (by omega) (by omega) (by omega)).mono fun _ _ ⟨he, hw⟩ => ⟨told_lo_eq (by omega) (near_k2 ▸ he), hw⟩
theorem ext_k (w : World) :
    Calls Try.prog 9 #[.int .i64 4294967301] w fun e w' => e = .returned (.tuple #[.int .u32 1, .int .i64 0]) ∧ w = w' :=
  ext_any 4294967301 w (by omega) (by omega)

set_option maxHeartbeats 2000000 in
theorem known_any (w : World) :
    Calls Try.prog 10 #[] w fun e w' => e = .returned (.bool true) ∧ Below w.heap.size w w' := by
  go_enter Try.func10, Try.ntmps10
  go_wp2_with fail
  (with_reducible refine (new_mk _ _ (by omega) (by omega)).mono ?_); rintro e w1 ⟨rfl, m1, b1⟩
  go_wp2_with fail
  (with_reducible refine (take_k _ _ m1).mono ?_); rintro e w2 ⟨rfl, m2, b2⟩
  go_wp2_with fail
  (with_reducible refine (look_k _ _ m2).mono ?_); rintro e w3 ⟨rfl, m3, b3⟩
  go_wp2_with fail
  (with_reducible refine (ext_k _).mono ?_); rintro e w4 ⟨rfl, rfl⟩
  go_wp2_with fail
  (with_reducible refine (value_mk _ _ _ m3).mono ?_); rintro e w5 ⟨rfl, m5, b5⟩
  go_wp2_with fail
  go_ret
  exact ⟨rfl, ((b1.trans b2).trans (b3.mono (Nat.le_of_lt m2.lt))).trans (b5.mono (Nat.le_of_lt m3.lt))⟩
end Go.Proofs.Ytbdkmppfigennaa
