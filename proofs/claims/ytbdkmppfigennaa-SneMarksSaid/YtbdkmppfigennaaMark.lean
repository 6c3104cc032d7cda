/- Contracts of package sne's faces: Near, Ext, and marks. -/
import Derived.Test.YtbdkmppfigennaaRef
import Derived.WalkMore
import Derived.ScopeJumps
namespace Go.Proofs.Ytbdkmppfigennaa
open Go.RowKit

theorem bcell {W w1 : World} (hb : Below W.heap.size W w1) : (∀ b o, b < W.heap.size → w1.cell? ⟨b, o, none⟩ = W.cell? ⟨b, o, none⟩) ∧ (∀ b o, b < W.heap.size → w1.frozen? ⟨b, o, none⟩ = W.frozen? ⟨b, o, none⟩) :=
  ⟨fun b o h => hb.cell (p := ⟨b, o, none⟩) h, fun b o h => hb.frozen (p := ⟨b, o, none⟩) h⟩

/-- a scope whose only gotos go forward to one label -/
theorem wp_scope_fwd {P : Program} {a : Act} {w : World} {Q : Exit → Act → World → Prop} {c rest : Code} (l : Nat) (hf : findLabel c l = some rest)
    (first : c.wp P (Exit.jump l (fun a' w' => rest.wp P (Exit.noGoto Q) a' w') Q) a w) : (Code.scope c).wp P Q a w := by
  refine wp_scope_jumps l _ (fun _ _ => 0) hf first ?_
  intro a w h b k cs
  obtain ⟨e, a₁, w₁, hq, harr⟩ := h b k cs
  refine ⟨e, a₁, w₁, ?_, harr⟩
  cases e with
  | goto l' => exact hq.elim
  | normal => exact hq
  | exit id => exact hq
  | ret => exact hq
  | panic ch => exact hq
  | outgrown => exact hq

theorem jump_ret {l : Nat} {J : Act → World → Prop} {Q : Exit → Act → World → Prop} {a : Act} {w : World} (h : Q .ret a w) : Exit.jump l J Q .ret a w := h

set_option maxHeartbeats 1000000 in
theorem snear_out (seq to : Int) (w : World) (h0 : to < 0 ∨ 4611686018427387904 < to) :
    Calls Try.prog 7 #[.int .u32 seq, .int .i64 to] w fun e w' => e = .returned (.tuple #[.int .i64 0, .int .i64 2]) ∧ w = w' := by
  rcases h0 with h | h
  · go_enter Try.func7, Try.ntmps7
    go_wp2
    refine wp_scope_fwd 0 rfl ?_
    go_wp2_with (go_at_call 18; (with_reducible refine (right_lo _ _ h).mono ?_); rintro e w' ⟨rfl, rfl⟩)
    go_step3
    refine ⟨rfl, ?_⟩
    go_wp2
    rw [Exit.noGoto_ret]
    go_ret2
    exact ⟨rfl, rfl⟩
  · go_enter Try.func7, Try.ntmps7
    go_wp2
    refine wp_scope_fwd 0 rfl ?_
    go_wp2_with (go_at_call 18; (with_reducible refine (right_hi _ _ h).mono ?_); rintro e w' ⟨rfl, rfl⟩)
    go_step3
    refine ⟨rfl, ?_⟩
    go_wp2
    rw [Exit.noGoto_ret]
    go_ret2
    exact ⟨rfl, rfl⟩

theorem near_bd (seq to : Int) (hs : 0 ≤ seq) (hs1 : seq < 4294967296) (h0 : 0 ≤ to) (h1 : to ≤ 4611686018427387904) : 0 ≤ near seq to ∧ near seq to ≤ 4611686027017322496 := by
  unfold near below base far; omega

set_option maxHeartbeats 1000000 in
theorem snear_any (seq to : Int) (w : World) (hs : 0 ≤ seq) (hs1 : seq < 4294967296) (h0 : 0 ≤ to) (h1 : to ≤ 4611686018427387904) :
    Calls Try.prog 7 #[.int .u32 seq, .int .i64 to] w fun e w' => Told (near seq to) e ∧ Below w.heap.size w w' := by
  by_cases hf : 4611686018427387904 < near seq to
  all_goals
    have F := Lib.hid hf
    go_enter Try.func7, Try.ntmps7
    go_wp2
    refine wp_scope_fwd 0 rfl ?_
    go_wp2_with (first | (go_at_call 18; (with_reducible refine (right_yes _ _ h0 h1).mono ?_); rintro e w' ⟨rfl, rfl⟩) | (go_at_call 19; (with_reducible refine (nearest_any _ _ _ hs hs1 h0 h1).mono ?_); rintro e w' ⟨rfl, hb⟩))
  · go_step3
    refine ⟨rfl, ?_⟩
    go_wp2
    rw [Exit.noGoto_ret]
    go_ret2
    exact ⟨told_hi F.out, hb⟩
  · refine jump_ret ?_
    go_ret2
    exact ⟨told_lo F.out, hb⟩

set_option maxHeartbeats 1000000 in
theorem ext_out (to : Int) (w : World) (h0 : to < 0 ∨ 4611686018427387904 < to) :
    Calls Try.prog 9 #[.int .i64 to] w fun e w' => e = .returned (.tuple #[.int .u32 0, .int .i64 2]) ∧ w = w' := by
  rcases h0 with h | h
  · go_enter Try.func9, Try.ntmps9
    go_wp2_with (go_at_call 18; (with_reducible refine (right_lo _ _ h).mono ?_); rintro e w' ⟨rfl, rfl⟩)
    go_ret2
    exact ⟨rfl, rfl⟩
  · go_enter Try.func9, Try.ntmps9
    go_wp2_with (go_at_call 18; (with_reducible refine (right_hi _ _ h).mono ?_); rintro e w' ⟨rfl, rfl⟩)
    go_ret2
    exact ⟨rfl, rfl⟩

set_option maxHeartbeats 1000000 in
theorem ext_any (to : Int) (w : World) (h0 : 0 ≤ to) (h1 : to ≤ 4611686018427387904) :
    Calls Try.prog 9 #[.int .i64 to] w fun e w' => e = .returned (.tuple #[.int .u32 (to / 4294967296), .int .i64 0]) ∧ w = w' := by
  go_enter Try.func9, Try.ntmps9
  go_wp2_with (go_at_call 18; (with_reducible refine (right_yes _ _ h0 h1).mono ?_); rintro e w' ⟨rfl, rfl⟩)
  go_ret2
  exact ⟨rfl, rfl⟩

set_option maxHeartbeats 1000000 in
theorem none_no (b : Nat) (n : Int) (w : World) (h0 : w.cell? ⟨b, 0, none⟩ = some (.int .i64 n)) (h1 : w.cell? ⟨b, 1, none⟩ = some (.bool true)) :
    Calls Try.prog 20 #[.pointer (some ⟨b, 0, none⟩)] w fun e w' => e = .returned (.bool false) ∧ w = w' := by
  go_enter Try.func20, Try.ntmps20
  go_wp2
  go_ret
  exact ⟨rfl, rfl⟩

end Go.Proofs.Ytbdkmppfigennaa
