/- Which marks are the same. -/
import Derived.Test.YtbdkmppfigennaaNone
import Derived.RegionTactic
import Derived.BigRegion
namespace Go.Proofs.Ytbdkmppfigennaa
open Go.RowKit

set_option maxHeartbeats 1000000 in
theorem same_eq (b b' : Nat) (n : Int) (w : World) (h : Mk w b n) (h' : Mk w b' n) : Calls Try.prog 15 #[.pointer (some ⟨b, 0, none⟩), .pointer (some ⟨b', 0, none⟩)] w fun e w' => e = .returned (.bool true) ∧ Below w.heap.size w w' := by
  obtain ⟨h0, h1, h2, h3⟩ := h
  obtain ⟨g0, g1, g2, g3⟩ := h'
  go_enter Try.func15, Try.ntmps15
  go_wp2_with fail
  (with_reducible refine (none_no _ _ _ h1 h2).mono ?_); rintro e w1 ⟨rfl, rfl⟩
  go_wp2_with fail
  (with_reducible refine (none_no _ _ _ g1 g2).mono ?_); rintro e w1 ⟨rfl, rfl⟩
  go_wp2_with fail
  go_region
  go_wp2
  go_ret
  exact ⟨rfl, by repeat (first | exact Below.refl _ _ | apply Below.drew)⟩

set_option maxHeartbeats 1000000 in
theorem same_ne (b b' : Nat) (n n' : Int) (w : World) (h : Mk w b n) (h' : Mk w b' n') (hne : n ≠ n') : Calls Try.prog 15 #[.pointer (some ⟨b, 0, none⟩), .pointer (some ⟨b', 0, none⟩)] w fun e w' => e = .returned (.bool false) ∧ Below w.heap.size w w' := by
  obtain ⟨h0, h1, h2, h3⟩ := h
  obtain ⟨g0, g1, g2, g3⟩ := h'
  have hb : (n == n') = false := by simpa using hne
  go_enter Try.func15, Try.ntmps15
  go_wp2_with fail
  (with_reducible refine (none_no _ _ _ h1 h2).mono ?_); rintro e w1 ⟨rfl, rfl⟩
  go_wp2_with fail
  (with_reducible refine (none_no _ _ _ g1 g2).mono ?_); rintro e w1 ⟨rfl, rfl⟩
  go_wp2_with fail
  go_region
  go_wp2
  go_ret
  exact ⟨rfl, by repeat (first | exact Below.refl _ _ | apply Below.drew)⟩

end Go.Proofs.Ytbdkmppfigennaa
