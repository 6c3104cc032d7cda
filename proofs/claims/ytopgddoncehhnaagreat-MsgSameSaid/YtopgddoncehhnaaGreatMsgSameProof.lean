/-
  which messages are the same: code and document say it alike, and each is the same as itself
-/
import Derived.Test.YtopgddoncehhnaaGreatRows
import Derived.Test.YtopgddoncehhnaaGreatClnP27
import Derived.Test.YtopgddoncehhnaaGreatShut
import Derived.Test.YtopgddoncehhnaaGreatClnQd
import Derived.Test.YtopgddoncehhnaaGreatClnMe
import Derived.WalkKit
import Derived.ProofKit
import Derived.ShutString
import Derived.ChangeOld
import Derived.Below
import Derived.IntWalk
namespace Go.Proofs.YtopgddoncehhnaaGreat
namespace msgSame
open Go.ChangeShapes Go.WideShapes Go.ChangeAt Go.RowKit
open Go.ChangeMaps (open_string shut_string)
set_option linter.unusedVariables false

theorem own : ownKnob Tryz.prog.godebug = none := by kernel_rfl
theorem laidOut : laidOutB Tryz.prog = true := by kernel_rfl

open Go.Cln in
theorem walk (W : World) (a0_0 : Int) (w0_0 : (Lit.int .i64 a0_0).wf = true) (a0_1 : Int) (w0_1 : (Lit.int .u32 a0_1).wf = true) (a0_2 : Int) (w0_2 : (Lit.int .u16 a0_2).wf = true) (a0_3 : Int) (w0_3 : (Lit.int .u32 a0_3).wf = true) (a0_4 : Option Addr) (n0_4 c0_4 : Nat) (s0_4 : (a0_4 = none ∧ n0_4 = 0 ∧ c0_4 = 0) ∨ ∃ b o, a0_4 = some ⟨b, o, none⟩ ∧ n0_4 ≤ c0_4 ∧ (c0_4 : Int) ≤ 9223372036854775807) (a0_5 : Option Addr) (n0_5 c0_5 : Nat) (s0_5 : (a0_5 = none ∧ n0_5 = 0 ∧ c0_5 = 0) ∨ ∃ b o, a0_5 = some ⟨b, o, none⟩ ∧ n0_5 ≤ c0_5 ∧ (c0_5 : Int) ≤ 9223372036854775807) (a0_6 : Option Addr) (n0_6 c0_6 : Nat) (s0_6 : (a0_6 = none ∧ n0_6 = 0 ∧ c0_6 = 0) ∨ ∃ b o, a0_6 = some ⟨b, o, none⟩ ∧ n0_6 ≤ c0_6 ∧ (c0_6 : Int) ≤ 9223372036854775807) (a0_7 : Int) (w0_7 : (Lit.int .u8 a0_7).wf = true) (a0_8 : Option Addr) (n0_8 c0_8 : Nat) (s0_8 : (a0_8 = none ∧ n0_8 = 0 ∧ c0_8 = 0) ∨ ∃ b o, a0_8 = some ⟨b, o, none⟩ ∧ n0_8 ≤ c0_8 ∧ (c0_8 : Int) ≤ 9223372036854775807) (a0_9 : Int) (w0_9 : (Lit.int .u32 a0_9).wf = true) (a0_10 : Bool) (a0_11 : Int) (w0_11 : (Lit.int .u32 a0_11).wf = true) (a0_12 : Bool) (a0_13 : Int) (w0_13 : (Lit.int .u32 a0_13).wf = true) (a0_14 : Option Addr) (n0_14 c0_14 : Nat) (s0_14 : (a0_14 = none ∧ n0_14 = 0 ∧ c0_14 = 0) ∨ ∃ b o, a0_14 = some ⟨b, o, none⟩ ∧ n0_14 ≤ c0_14 ∧ (c0_14 : Int) ≤ 9223372036854775807) (a0_15 : Int) (w0_15 : (Lit.int .u8 a0_15).wf = true) (a0_16 : Int) (w0_16 : (Lit.int .u8 a0_16).wf = true) (a0_17 : Option Addr) (n0_17 c0_17 : Nat) (s0_17 : (a0_17 = none ∧ n0_17 = 0 ∧ c0_17 = 0) ∨ ∃ b o, a0_17 = some ⟨b, o, none⟩ ∧ n0_17 ≤ c0_17 ∧ (c0_17 : Int) ≤ 9223372036854775807) (z0 : ∀ (j : Nat) (q : FC), ob.MSG[j]? = some q → ∃ u : Value, (Value.agg #[.int .i64 a0_0, .int .u32 a0_1, .int .u16 a0_2, .int .u32 a0_3, .slice a0_4 n0_4 c0_4, .slice a0_5 n0_5 c0_5, .slice a0_6 n0_6 c0_6, .int .u8 a0_7, .slice a0_8 n0_8 c0_8, .int .u32 a0_9, .bool a0_10, .int .u32 a0_11, .bool a0_12, .int .u32 a0_13, .slice a0_14 n0_14 c0_14, .int .u8 a0_15, .int .u8 a0_16, .slice a0_17 n0_17 c0_17]).cells.toList[j]? = some u ∧ FCv W 8 q u) (a1_0 : Int) (w1_0 : (Lit.int .i64 a1_0).wf = true) (a1_1 : Int) (w1_1 : (Lit.int .u32 a1_1).wf = true) (a1_2 : Int) (w1_2 : (Lit.int .u16 a1_2).wf = true) (a1_3 : Int) (w1_3 : (Lit.int .u32 a1_3).wf = true) (a1_4 : Option Addr) (n1_4 c1_4 : Nat) (s1_4 : (a1_4 = none ∧ n1_4 = 0 ∧ c1_4 = 0) ∨ ∃ b o, a1_4 = some ⟨b, o, none⟩ ∧ n1_4 ≤ c1_4 ∧ (c1_4 : Int) ≤ 9223372036854775807) (a1_5 : Option Addr) (n1_5 c1_5 : Nat) (s1_5 : (a1_5 = none ∧ n1_5 = 0 ∧ c1_5 = 0) ∨ ∃ b o, a1_5 = some ⟨b, o, none⟩ ∧ n1_5 ≤ c1_5 ∧ (c1_5 : Int) ≤ 9223372036854775807) (a1_6 : Option Addr) (n1_6 c1_6 : Nat) (s1_6 : (a1_6 = none ∧ n1_6 = 0 ∧ c1_6 = 0) ∨ ∃ b o, a1_6 = some ⟨b, o, none⟩ ∧ n1_6 ≤ c1_6 ∧ (c1_6 : Int) ≤ 9223372036854775807) (a1_7 : Int) (w1_7 : (Lit.int .u8 a1_7).wf = true) (a1_8 : Option Addr) (n1_8 c1_8 : Nat) (s1_8 : (a1_8 = none ∧ n1_8 = 0 ∧ c1_8 = 0) ∨ ∃ b o, a1_8 = some ⟨b, o, none⟩ ∧ n1_8 ≤ c1_8 ∧ (c1_8 : Int) ≤ 9223372036854775807) (a1_9 : Int) (w1_9 : (Lit.int .u32 a1_9).wf = true) (a1_10 : Bool) (a1_11 : Int) (w1_11 : (Lit.int .u32 a1_11).wf = true) (a1_12 : Bool) (a1_13 : Int) (w1_13 : (Lit.int .u32 a1_13).wf = true) (a1_14 : Option Addr) (n1_14 c1_14 : Nat) (s1_14 : (a1_14 = none ∧ n1_14 = 0 ∧ c1_14 = 0) ∨ ∃ b o, a1_14 = some ⟨b, o, none⟩ ∧ n1_14 ≤ c1_14 ∧ (c1_14 : Int) ≤ 9223372036854775807) (a1_15 : Int) (w1_15 : (Lit.int .u8 a1_15).wf = true) (a1_16 : Int) (w1_16 : (Lit.int .u8 a1_16).wf = true) (a1_17 : Option Addr) (n1_17 c1_17 : Nat) (s1_17 : (a1_17 = none ∧ n1_17 = 0 ∧ c1_17 = 0) ∨ ∃ b o, a1_17 = some ⟨b, o, none⟩ ∧ n1_17 ≤ c1_17 ∧ (c1_17 : Int) ≤ 9223372036854775807) (z1 : ∀ (j : Nat) (q : FC), ob.MSG[j]? = some q → ∃ u : Value, (Value.agg #[.int .i64 a1_0, .int .u32 a1_1, .int .u16 a1_2, .int .u32 a1_3, .slice a1_4 n1_4 c1_4, .slice a1_5 n1_5 c1_5, .slice a1_6 n1_6 c1_6, .int .u8 a1_7, .slice a1_8 n1_8 c1_8, .int .u32 a1_9, .bool a1_10, .int .u32 a1_11, .bool a1_12, .int .u32 a1_13, .slice a1_14 n1_14 c1_14, .int .u8 a1_15, .int .u8 a1_16, .slice a1_17 n1_17 c1_17]).cells.toList[j]? = some u ∧ FCv W 8 q u) :
    Calls Tryz.prog 3 #[.agg #[.int .i64 a0_0, .int .u32 a0_1, .int .u16 a0_2, .int .u32 a0_3, .slice a0_4 n0_4 c0_4, .slice a0_5 n0_5 c0_5, .slice a0_6 n0_6 c0_6, .int .u8 a0_7, .slice a0_8 n0_8 c0_8, .int .u32 a0_9, .bool a0_10, .int .u32 a0_11, .bool a0_12, .int .u32 a0_13, .slice a0_14 n0_14 c0_14, .int .u8 a0_15, .int .u8 a0_16, .slice a0_17 n0_17 c0_17], .agg #[.int .i64 a1_0, .int .u32 a1_1, .int .u16 a1_2, .int .u32 a1_3, .slice a1_4 n1_4 c1_4, .slice a1_5 n1_5 c1_5, .slice a1_6 n1_6 c1_6, .int .u8 a1_7, .slice a1_8 n1_8 c1_8, .int .u32 a1_9, .bool a1_10, .int .u32 a1_11, .bool a1_12, .int .u32 a1_13, .slice a1_14 n1_14 c1_14, .int .u8 a1_15, .int .u8 a1_16, .slice a1_17 n1_17 c1_17]] W fun e w' => e = .returned (.bool true) ∧ Below W.heap.size W w' :=
  ob.msgSame (a := ⟨a0_0, a0_1, a0_2, a0_3, .slice a0_4 n0_4 c0_4, .slice a0_5 n0_5 c0_5, .slice a0_6 n0_6 c0_6, a0_7, .slice a0_8 n0_8 c0_8, a0_9, a0_10, a0_11, a0_12, a0_13, .slice a0_14 n0_14 c0_14, a0_15, a0_16, .slice a0_17 n0_17 c0_17⟩) (b := ⟨a1_0, a1_1, a1_2, a1_3, .slice a1_4 n1_4 c1_4, .slice a1_5 n1_5 c1_5, .slice a1_6 n1_6 c1_6, a1_7, .slice a1_8 n1_8 c1_8, a1_9, a1_10, a1_11, a1_12, a1_13, .slice a1_14 n1_14 c1_14, a1_15, a1_16, .slice a1_17 n1_17 c1_17⟩) (ob.Typed.of z0) (ob.Typed.of z1)

set_option maxRecDepth 100000 in
theorem lifted (os : Os) (started : os.Started) (H : Type) (enc : TypeId × Value → H) :
    ReturnsInHanded {} Tryz.checked os 3 .any (Rows.msgSameSpec.pre6 enc Tryz.prog Tryz.f3 Rows.msgSameRow.domain false) (Rows.msgSameSpec.post enc Tryz.prog Tryz.f3 false true false false) := by
  refine returnsInHanded_of_change (C := Tryz.checked) own started (by kernel_rfl) Tryz.func3
    (ChangeSpec.witness6 (enc := enc) (C := Tryz.checked) false ⟨#[], #[.agg #[.int .i64 0, .int .u32 0, .int .u16 0, .int .u32 0, .slice none 0 0, .slice none 0 0, .slice none 0 0, .int .u8 0, .slice none 0 0, .int .u32 0, .bool false, .int .u32 0, .bool false, .int .u32 0, .slice none 0 0, .int .u8 0, .int .u8 0, .slice none 0 0], .agg #[.int .i64 0, .int .u32 0, .int .u16 0, .int .u32 0, .slice none 0 0, .slice none 0 0, .slice none 0 0, .int .u8 0, .slice none 0 0, .int .u32 0, .bool false, .int .u32 0, .bool false, .int .u32 0, .slice none 0 0, .int .u8 0, .int .u8 0, .slice none 0 0]], []⟩ 8 (by kernel_rfl) (by kernel_rfl) (by kernel_rfl) (by kernel_rfl)) ?_
  intro W base args ds gs before hval0 hW hcnd _
  have hval : ∀ (j : Nat) t v, Tryz.f3.params[j]? = some t → args[j]? = some v → Value.okWide Tryz.prog W .any base t v := hval0
  have hW' := hW
  obtain ⟨p, q, hA0, hV, rfl, hfz, hnd⟩ := hW
  have hA : DataW.TrodAll enc Tryz.prog W 0 (fun _ => true) true Tryz.f3.params.toList args.toList ds p := hA0
  rw [Tryz.params3] at hA hval
  obtain ⟨v0, vs0, d0, ds0, p0, q0, hargs, rfl, rfl, h0, r0⟩ := trodAll_cons hA
  obtain ⟨v1, vs1, d1, ds1, p1, q1, rfl, rfl, rfl, h1, r1⟩ := trodAll_cons r0
  obtain ⟨rfl, rfl, rfl⟩ := trodAll_nil r1
  obtain rfl : args = #[v0, v1] := by cases args; simp_all
  obtain ⟨rfl, rfl⟩ := trodVars_none hV
  have k0 := h0
  have lt0 : ∀ x ∈ p0, x.block < W.heap.size := by obtain ⟨m, hm⟩ := k0; exact DataW.trod_lt m _ _ _ hm
  have k1 := h1
  have lt1 : ∀ x ∈ p1, x.block < W.heap.size := by obtain ⟨m, hm⟩ := k1; exact DataW.trod_lt m _ _ _ hm
  obtain ⟨l0, rfl, hl0, hc0⟩ := Go.Cln.open_agg (ts := [22, 23, 24, 23, 25, 28, 28, 5, 29, 23, 4, 23, 4, 23, 30, 5, 5, 35]) (by kernel_rfl) (by kernel_rfl) (by kernel_rfl) (hval 0 39 v0 rfl rfl)
  obtain ⟨x0_0, r0_0, rfl, hm0_0⟩ := Go.Cln.uncons hl0
  obtain ⟨x0_1, r0_1, rfl, hm0_1⟩ := Go.Cln.uncons hm0_0
  obtain ⟨x0_2, r0_2, rfl, hm0_2⟩ := Go.Cln.uncons hm0_1
  obtain ⟨x0_3, r0_3, rfl, hm0_3⟩ := Go.Cln.uncons hm0_2
  obtain ⟨x0_4, r0_4, rfl, hm0_4⟩ := Go.Cln.uncons hm0_3
  obtain ⟨x0_5, r0_5, rfl, hm0_5⟩ := Go.Cln.uncons hm0_4
  obtain ⟨x0_6, r0_6, rfl, hm0_6⟩ := Go.Cln.uncons hm0_5
  obtain ⟨x0_7, r0_7, rfl, hm0_7⟩ := Go.Cln.uncons hm0_6
  obtain ⟨x0_8, r0_8, rfl, hm0_8⟩ := Go.Cln.uncons hm0_7
  obtain ⟨x0_9, r0_9, rfl, hm0_9⟩ := Go.Cln.uncons hm0_8
  obtain ⟨x0_10, r0_10, rfl, hm0_10⟩ := Go.Cln.uncons hm0_9
  obtain ⟨x0_11, r0_11, rfl, hm0_11⟩ := Go.Cln.uncons hm0_10
  obtain ⟨x0_12, r0_12, rfl, hm0_12⟩ := Go.Cln.uncons hm0_11
  obtain ⟨x0_13, r0_13, rfl, hm0_13⟩ := Go.Cln.uncons hm0_12
  obtain ⟨x0_14, r0_14, rfl, hm0_14⟩ := Go.Cln.uncons hm0_13
  obtain ⟨x0_15, r0_15, rfl, hm0_15⟩ := Go.Cln.uncons hm0_14
  obtain ⟨x0_16, r0_16, rfl, hm0_16⟩ := Go.Cln.uncons hm0_15
  obtain ⟨x0_17, r0_17, rfl, hm0_17⟩ := Go.Cln.uncons hm0_16
  obtain rfl := Go.Cln.unnil hm0_17
  obtain ⟨a0_0, rfl, w0_0⟩ := Go.Cln.cell_int Tryz.underlying22 (hc0 0 _ _ rfl rfl)
  obtain ⟨a0_1, rfl, w0_1⟩ := Go.Cln.cell_int Tryz.underlying23 (hc0 1 _ _ rfl rfl)
  obtain ⟨a0_2, rfl, w0_2⟩ := Go.Cln.cell_int Tryz.underlying24 (hc0 2 _ _ rfl rfl)
  obtain ⟨a0_3, rfl, w0_3⟩ := Go.Cln.cell_int Tryz.underlying23 (hc0 3 _ _ rfl rfl)
  obtain ⟨a0_4, n0_4, c0_4, rfl, s0_4⟩ := Go.Cln.cell_slice Tryz.underlying25 (hc0 4 _ _ rfl rfl)
  obtain ⟨a0_5, n0_5, c0_5, rfl, s0_5⟩ := Go.Cln.cell_slice Tryz.underlying28 (hc0 5 _ _ rfl rfl)
  obtain ⟨a0_6, n0_6, c0_6, rfl, s0_6⟩ := Go.Cln.cell_slice Tryz.underlying28 (hc0 6 _ _ rfl rfl)
  obtain ⟨a0_7, rfl, w0_7⟩ := Go.Cln.cell_int Tryz.underlying5 (hc0 7 _ _ rfl rfl)
  obtain ⟨a0_8, n0_8, c0_8, rfl, s0_8⟩ := Go.Cln.cell_slice Tryz.underlying29 (hc0 8 _ _ rfl rfl)
  obtain ⟨a0_9, rfl, w0_9⟩ := Go.Cln.cell_int Tryz.underlying23 (hc0 9 _ _ rfl rfl)
  obtain ⟨a0_10, rfl⟩ := Go.Cln.cell_bool Tryz.underlying4 (hc0 10 _ _ rfl rfl)
  obtain ⟨a0_11, rfl, w0_11⟩ := Go.Cln.cell_int Tryz.underlying23 (hc0 11 _ _ rfl rfl)
  obtain ⟨a0_12, rfl⟩ := Go.Cln.cell_bool Tryz.underlying4 (hc0 12 _ _ rfl rfl)
  obtain ⟨a0_13, rfl, w0_13⟩ := Go.Cln.cell_int Tryz.underlying23 (hc0 13 _ _ rfl rfl)
  obtain ⟨a0_14, n0_14, c0_14, rfl, s0_14⟩ := Go.Cln.cell_slice Tryz.underlying30 (hc0 14 _ _ rfl rfl)
  obtain ⟨a0_15, rfl, w0_15⟩ := Go.Cln.cell_int Tryz.underlying5 (hc0 15 _ _ rfl rfl)
  obtain ⟨a0_16, rfl, w0_16⟩ := Go.Cln.cell_int Tryz.underlying5 (hc0 16 _ _ rfl rfl)
  obtain ⟨a0_17, n0_17, c0_17, rfl, s0_17⟩ := Go.Cln.cell_slice Tryz.underlying35 (hc0 17 _ _ rfl rfl)
  have z0 := Go.Cln.open_deep (n := 8) (l := ob.MSG) (by kernel_rfl) h0
  obtain ⟨l1, rfl, hl1, hc1⟩ := Go.Cln.open_agg (ts := [22, 23, 24, 23, 25, 28, 28, 5, 29, 23, 4, 23, 4, 23, 30, 5, 5, 35]) (by kernel_rfl) (by kernel_rfl) (by kernel_rfl) (hval 1 39 v1 rfl rfl)
  obtain ⟨x1_0, r1_0, rfl, hm1_0⟩ := Go.Cln.uncons hl1
  obtain ⟨x1_1, r1_1, rfl, hm1_1⟩ := Go.Cln.uncons hm1_0
  obtain ⟨x1_2, r1_2, rfl, hm1_2⟩ := Go.Cln.uncons hm1_1
  obtain ⟨x1_3, r1_3, rfl, hm1_3⟩ := Go.Cln.uncons hm1_2
  obtain ⟨x1_4, r1_4, rfl, hm1_4⟩ := Go.Cln.uncons hm1_3
  obtain ⟨x1_5, r1_5, rfl, hm1_5⟩ := Go.Cln.uncons hm1_4
  obtain ⟨x1_6, r1_6, rfl, hm1_6⟩ := Go.Cln.uncons hm1_5
  obtain ⟨x1_7, r1_7, rfl, hm1_7⟩ := Go.Cln.uncons hm1_6
  obtain ⟨x1_8, r1_8, rfl, hm1_8⟩ := Go.Cln.uncons hm1_7
  obtain ⟨x1_9, r1_9, rfl, hm1_9⟩ := Go.Cln.uncons hm1_8
  obtain ⟨x1_10, r1_10, rfl, hm1_10⟩ := Go.Cln.uncons hm1_9
  obtain ⟨x1_11, r1_11, rfl, hm1_11⟩ := Go.Cln.uncons hm1_10
  obtain ⟨x1_12, r1_12, rfl, hm1_12⟩ := Go.Cln.uncons hm1_11
  obtain ⟨x1_13, r1_13, rfl, hm1_13⟩ := Go.Cln.uncons hm1_12
  obtain ⟨x1_14, r1_14, rfl, hm1_14⟩ := Go.Cln.uncons hm1_13
  obtain ⟨x1_15, r1_15, rfl, hm1_15⟩ := Go.Cln.uncons hm1_14
  obtain ⟨x1_16, r1_16, rfl, hm1_16⟩ := Go.Cln.uncons hm1_15
  obtain ⟨x1_17, r1_17, rfl, hm1_17⟩ := Go.Cln.uncons hm1_16
  obtain rfl := Go.Cln.unnil hm1_17
  obtain ⟨a1_0, rfl, w1_0⟩ := Go.Cln.cell_int Tryz.underlying22 (hc1 0 _ _ rfl rfl)
  obtain ⟨a1_1, rfl, w1_1⟩ := Go.Cln.cell_int Tryz.underlying23 (hc1 1 _ _ rfl rfl)
  obtain ⟨a1_2, rfl, w1_2⟩ := Go.Cln.cell_int Tryz.underlying24 (hc1 2 _ _ rfl rfl)
  obtain ⟨a1_3, rfl, w1_3⟩ := Go.Cln.cell_int Tryz.underlying23 (hc1 3 _ _ rfl rfl)
  obtain ⟨a1_4, n1_4, c1_4, rfl, s1_4⟩ := Go.Cln.cell_slice Tryz.underlying25 (hc1 4 _ _ rfl rfl)
  obtain ⟨a1_5, n1_5, c1_5, rfl, s1_5⟩ := Go.Cln.cell_slice Tryz.underlying28 (hc1 5 _ _ rfl rfl)
  obtain ⟨a1_6, n1_6, c1_6, rfl, s1_6⟩ := Go.Cln.cell_slice Tryz.underlying28 (hc1 6 _ _ rfl rfl)
  obtain ⟨a1_7, rfl, w1_7⟩ := Go.Cln.cell_int Tryz.underlying5 (hc1 7 _ _ rfl rfl)
  obtain ⟨a1_8, n1_8, c1_8, rfl, s1_8⟩ := Go.Cln.cell_slice Tryz.underlying29 (hc1 8 _ _ rfl rfl)
  obtain ⟨a1_9, rfl, w1_9⟩ := Go.Cln.cell_int Tryz.underlying23 (hc1 9 _ _ rfl rfl)
  obtain ⟨a1_10, rfl⟩ := Go.Cln.cell_bool Tryz.underlying4 (hc1 10 _ _ rfl rfl)
  obtain ⟨a1_11, rfl, w1_11⟩ := Go.Cln.cell_int Tryz.underlying23 (hc1 11 _ _ rfl rfl)
  obtain ⟨a1_12, rfl⟩ := Go.Cln.cell_bool Tryz.underlying4 (hc1 12 _ _ rfl rfl)
  obtain ⟨a1_13, rfl, w1_13⟩ := Go.Cln.cell_int Tryz.underlying23 (hc1 13 _ _ rfl rfl)
  obtain ⟨a1_14, n1_14, c1_14, rfl, s1_14⟩ := Go.Cln.cell_slice Tryz.underlying30 (hc1 14 _ _ rfl rfl)
  obtain ⟨a1_15, rfl, w1_15⟩ := Go.Cln.cell_int Tryz.underlying5 (hc1 15 _ _ rfl rfl)
  obtain ⟨a1_16, rfl, w1_16⟩ := Go.Cln.cell_int Tryz.underlying5 (hc1 16 _ _ rfl rfl)
  obtain ⟨a1_17, n1_17, c1_17, rfl, s1_17⟩ := Go.Cln.cell_slice Tryz.underlying35 (hc1 17 _ _ rfl rfl)
  have z1 := Go.Cln.open_deep (n := 8) (l := ob.MSG) (by kernel_rfl) h1
  clear hA0 hval0
  refine (walk W a0_0 w0_0 a0_1 w0_1 a0_2 w0_2 a0_3 w0_3 a0_4 n0_4 c0_4 s0_4 a0_5 n0_5 c0_5 s0_5 a0_6 n0_6 c0_6 s0_6 a0_7 w0_7 a0_8 n0_8 c0_8 s0_8 a0_9 w0_9 a0_10 a0_11 w0_11 a0_12 a0_13 w0_13 a0_14 n0_14 c0_14 s0_14 a0_15 w0_15 a0_16 w0_16 a0_17 n0_17 c0_17 s0_17 z0 a1_0 w1_0 a1_1 w1_1 a1_2 w1_2 a1_3 w1_3 a1_4 n1_4 c1_4 s1_4 a1_5 n1_5 c1_5 s1_5 a1_6 n1_6 c1_6 s1_6 a1_7 w1_7 a1_8 n1_8 c1_8 s1_8 a1_9 w1_9 a1_10 a1_11 w1_11 a1_12 a1_13 w1_13 a1_14 n1_14 c1_14 s1_14 a1_15 w1_15 a1_16 w1_16 a1_17 n1_17 c1_17 s1_17 z1).mono fun e W' ⟨he, bel⟩ => ?_
  subst he
  exact ⟨_, rfl, _, _, _, [], _, [], hW', trodAll_mk1 (shut_bool Tryz.underlying4 _), (trodAll_cons_mk (Below.trod laidOut (by kernel_rfl) (of_decide_eq_true (by kernel_rfl)) k0 bel lt0) (trodAll_cons_mk (Below.trod laidOut (by kernel_rfl) (of_decide_eq_true (by kernel_rfl)) k1 bel lt1) trodAll_mk0)), rfl, bel.frame _, fun h => by cases h⟩

theorem over : Rows.msgSameRow.holds Tryz.pinned (OpenSpec.ofChange Rows.msgSameSpec) :=
  OpenClaim.holds_of_wide 3 Tryz.f3 rfl rfl rfl rfl rfl rfl rfl ⟨rfl, rfl, rfl, rfl, rfl⟩ rfl rfl rfl rfl rfl (by kernel_rfl) Tryz.func3 (by kernel_rfl)
    (of_decide_eq_true (by kernel_rfl)) (by unfold Func.isWrapper; first | (rw [if_pos (by decide +kernel)]; kernel_rfl) | (rw [if_neg (by decide +kernel)]; exact ⟨rfl, rfl⟩))
    (fun os started H enc _ => lifted os started H enc)

end msgSame
theorem msgSame_holds : Rows.MsgSameSaid := msgSame.over
end Go.Proofs.YtopgddoncehhnaaGreat
