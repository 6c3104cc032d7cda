/- Read off the code by the clean reading. -/
import Derived.Test.YtopgddoncehhnaaGreatClnMd
import Derived.Test.YtopgddoncehhnaaGreatClnQd
set_option linter.unusedVariables false
set_option linter.unusedSimpArgs false
set_option linter.deprecated false
set_option maxRecDepth 100000
namespace Go.Proofs.YtopgddoncehhnaaGreat
open Go.ChangeShapes Go.WideShapes Go.ChangeAt Go.RowKit Go.Cln
namespace ob
set_option linter.unusedVariables false
noncomputable section
def okRow (W : World) (a : Value → Prop) (b : Value → Prop) (P i : Nat) : Prop := ∃ u v, W.cell? ⟨blkOf P, baseOf P + i * 2, none⟩ = some u ∧ W.cell? ⟨blkOf P, baseOf P + (i * 2 + 1), none⟩ = some v ∧ a u ∧ b v
def isB (v : Value) : Prop := ∃ z, v = .bool z
def isI (k : IntKind) (v : Value) : Prop := ∃ z, v = .int k z
def isR (v : Value) : Prop := AbsOk (rowQ v) 0 (rowM v) (rowC v) v
noncomputable def xW (B : Nat) (W : World) : MX where
  D := worldK .u8 W
  U := worldK .u32 W
  LN P := lead (okRow W isB isR P) B
  LS P i := bV (cW W P (i * 2))
  LQ P i := rowQ (cW W P (i * 2 + 1))
  LM P i := rowM (cW W P (i * 2 + 1))
  LC P i := rowC (cW W P (i * 2 + 1))
  CN P := lead (okRow W (isI .u8) isR P) B
  CK P i := iV (cW W P (i * 2))
  CQ P i := rowQ (cW W P (i * 2 + 1))
  CM P i := rowM (cW W P (i * 2 + 1))
  CC P i := rowC (cW W P (i * 2 + 1))
  PN P := lead (okRow W (isI .u32) (isI .u8) P) B
  PA P i := iV (cW W P (i * 2))
  PL P i := iV (cW W P (i * 2 + 1))
theorem row2 {W : World} {a b : Value → Prop} {P n i : Nat} {f : Nat → Value → Value → List Value} {v : Value} (g : Nat → List Value) (h : (Cells.rows (lead (okRow W a b P) n) 2 g).get i = some v)
    (hg : ∀ i u w, cW W P (i * 2) = u → cW W P (i * 2 + 1) = w → a u → b w → ∃ x y, g i = [x, y] ∧ ((∀ (N : Nat → Prop) (ρ : Nat → PB), N 0 → VR N ρ x u) ∧ famV x = true) ∧ ((∀ (N : Nat → Prop) (ρ : Nat → PB), N 0 → VR N ρ y w) ∧ famV y = true)) :
    ∃ pc t fr v', W.heap[blkOf P]? = some (.cells pc t fr) ∧ pc[baseOf P + i]? = some v' ∧ (∀ (N : Nat → Prop) (ρ : Nat → PB), N 0 → VR N ρ v v') ∧ famV v = true := by
  simp only [Cells.get] at h
  split at h
  · rename_i hi
    obtain ⟨u, w, h1, h2, h3, h4⟩ := lead_ok hi
    obtain ⟨x, y, e, hx, hy⟩ := hg (i / 2) u w (cW_eq h1) (cW_eq h2) h3 h4
    rw [e] at h
    have hd := Nat.div_add_mod i 2
    rcases Nat.mod_two_eq_zero_or_one i with hm | hm
    · rw [hm] at h
      simp only [List.getElem?_cons_zero, Option.some.injEq] at h
      subst h
      obtain ⟨pc, t, fr, k1, k2⟩ := cell_in h1
      exact ⟨pc, t, fr, u, k1, by rw [← k2]; congr 1; omega, hx.1, hx.2⟩
    · rw [hm] at h
      simp only [List.getElem?_cons_succ, List.getElem?_cons_zero, Option.some.injEq] at h
      subst h
      obtain ⟨pc, t, fr, k1, k2⟩ := cell_in h2
      exact ⟨pc, t, fr, w, k1, by rw [← k2]; congr 1; omega, hy.1, hy.2⟩
  · cases h
theorem vrI {k : IntKind} {u : Value} (h : isI k u) : (∀ (N : Nat → Prop) (ρ : Nat → PB), N 0 → VR N ρ (.int k (iV u)) u) ∧ famV (.int k (iV u)) = true := by
  obtain ⟨z, rfl⟩ := h
  exact ⟨fun _ _ _ => .same rfl, rfl⟩
theorem vrB {u : Value} (h : isB u) : (∀ (N : Nat → Prop) (ρ : Nat → PB), N 0 → VR N ρ (.bool (bV u)) u) ∧ famV (.bool (bV u)) = true := by
  obtain ⟨z, rfl⟩ := h
  exact ⟨fun _ _ _ => .same rfl, rfl⟩
theorem vrR {g : Nat} (hg : Nat.ble 1000 g = true) {u : Value} (h : isR u) : (∀ (N : Nat → Prop) (ρ : Nat → PB), N 0 → VR N ρ (.slice (some ⟨rowQ u, 0, some g⟩) (rowM u) (rowC u)) u) ∧ famV (.slice (some ⟨rowQ u, 0, some g⟩) (rowM u) (rowC u)) = true :=
  ⟨fun _ _ h0 => .abs h0 hg h, hg⟩
theorem famX (B : Nat) (W : World) : FamOk W (xW B W).F := by
  intro g P i v hv
  unfold MX.F at hv
  split at hv
  · simp only [xW, Cells.get, Option.map_eq_some_iff] at hv
    obtain ⟨y, hy, rfl⟩ := hv
    obtain ⟨pc, t, fr, k1, k2⟩ := worldK_get hy
    exact ⟨pc, t, fr, _, k1, k2, fun _ _ _ => .same rfl, rfl⟩
  · split at hv
    · simp only [xW, Cells.get, Option.map_eq_some_iff] at hv
      obtain ⟨y, hy, rfl⟩ := hv
      obtain ⟨pc, t, fr, k1, k2⟩ := worldK_get hy
      exact ⟨pc, t, fr, _, k1, k2, fun _ _ _ => .same rfl, rfl⟩
    · split at hv
      · refine row2 (f := fun _ _ _ => []) _ hv fun i u w hu hw h3 h4 => ⟨_, _, rfl, ?_, ?_⟩
        · show (∀ (N : Nat → Prop) (ρ : Nat → PB), N 0 → VR N ρ (.bool (bV (cW W P (i * 2)))) u) ∧ _
          rw [hu]; exact vrB h3
        · show (∀ (N : Nat → Prop) (ρ : Nat → PB), N 0 → VR N ρ (.slice (some ⟨rowQ (cW W P (i * 2 + 1)), 0, some 1001⟩) (rowM (cW W P (i * 2 + 1))) (rowC (cW W P (i * 2 + 1)))) w) ∧ _
          rw [hw]; exact vrR rfl h4
      · split at hv
        · refine row2 (f := fun _ _ _ => []) _ hv fun i u w hu hw h3 h4 => ⟨_, _, rfl, ?_, ?_⟩
          · show (∀ (N : Nat → Prop) (ρ : Nat → PB), N 0 → VR N ρ (.int .u8 (iV (cW W P (i * 2)))) u) ∧ _
            rw [hu]; exact vrI h3
          · show (∀ (N : Nat → Prop) (ρ : Nat → PB), N 0 → VR N ρ (.slice (some ⟨rowQ (cW W P (i * 2 + 1)), 0, some 1000⟩) (rowM (cW W P (i * 2 + 1))) (rowC (cW W P (i * 2 + 1)))) w) ∧ _
            rw [hw]; exact vrR rfl h4
        · refine row2 (f := fun _ _ _ => []) _ hv fun i u w hu hw h3 h4 => ⟨_, _, rfl, ?_, ?_⟩
          · show (∀ (N : Nat → Prop) (ρ : Nat → PB), N 0 → VR N ρ (.int .u32 (iV (cW W P (i * 2)))) u) ∧ _
            rw [hu]; exact vrI h3
          · show (∀ (N : Nat → Prop) (ρ : Nat → PB), N 0 → VR N ρ (.int .u8 (iV (cW W P (i * 2 + 1)))) w) ∧ _
            rw [hw]; exact vrI h4
def shCap : List FC := [.int .u8, .list [.int .u8]]
def shLeg : List FC := [.bool, .list [.int .u32]]
def shPre : List FC := [.int .u32, .int .u8]
theorem fcI {W : World} {n : Nat} {k : IntKind} {v : Value} (h : FCv W n (.int k) v) : isI k v := by
  cases n with
  | zero => exact h.elim
  | succ n => obtain ⟨z, e, _⟩ := h; exact ⟨z, e⟩
theorem fcB {W : World} {n : Nat} {v : Value} (h : FCv W n .bool v) : isB v := by
  cases n with
  | zero => exact h.elim
  | succ n => exact h
theorem lenLeg {B : Nat} (hB : maxLen ≤ B) {W : World} {v : Value} (h : FCv W 8 (.list shLeg) v) : rowM v ≤ (xW B W).LN (rowQ v) ∧ ∀ i, i < rowM v → (xW B W).LM (rowQ v) i ≤ ((xW B W).U ((xW B W).LQ (rowQ v) i)).length := by
  have key : ∀ i, i < rowM v → ∃ u w, W.cell? ⟨blkOf (rowQ v), baseOf (rowQ v) + i * 2, none⟩ = some u ∧ W.cell? ⟨blkOf (rowQ v), baseOf (rowQ v) + (i * 2 + 1), none⟩ = some w ∧ FCv W 7 .bool u ∧ FCv W 7 (.list [.int .u32]) w := fun i hi => by
    obtain ⟨u, h1, h2⟩ := h.row hi (j := 0) (q := .bool) rfl
    obtain ⟨w, h3, h4⟩ := h.row hi (j := 1) (q := .list [.int .u32]) rfl
    exact ⟨u, w, h1, h3, h2, h4⟩
  refine ⟨lead_ge (fun i hi => ?_) (Nat.le_trans h.le hB), fun i hi => ?_⟩
  · obtain ⟨u, w, h1, h2, h3, h4⟩ := key i hi
    exact ⟨u, w, h1, h2, fcB (n := 7) h3, h4.abs⟩
  · obtain ⟨u, w, h1, h2, h3, h4⟩ := key i hi
    show rowM (cW W (rowQ v) (i * 2 + 1)) ≤ (worldK .u32 W (rowQ (cW W (rowQ v) (i * 2 + 1)))).length
    rw [cW_eq h2]; exact h4.nums
theorem lenCap {B : Nat} (hB : maxLen ≤ B) {W : World} {v : Value} (h : FCv W 8 (.list shCap) v) : rowM v ≤ (xW B W).CN (rowQ v) ∧ ∀ i, i < rowM v → (xW B W).CM (rowQ v) i ≤ ((xW B W).D ((xW B W).CQ (rowQ v) i)).length := by
  have key : ∀ i, i < rowM v → ∃ u w, W.cell? ⟨blkOf (rowQ v), baseOf (rowQ v) + i * 2, none⟩ = some u ∧ W.cell? ⟨blkOf (rowQ v), baseOf (rowQ v) + (i * 2 + 1), none⟩ = some w ∧ FCv W 7 (.int .u8) u ∧ FCv W 7 (.list [.int .u8]) w := fun i hi => by
    obtain ⟨u, h1, h2⟩ := h.row hi (j := 0) (q := .int .u8) rfl
    obtain ⟨w, h3, h4⟩ := h.row hi (j := 1) (q := .list [.int .u8]) rfl
    exact ⟨u, w, h1, h3, h2, h4⟩
  refine ⟨lead_ge (fun i hi => ?_) (Nat.le_trans h.le hB), fun i hi => ?_⟩
  · obtain ⟨u, w, h1, h2, h3, h4⟩ := key i hi
    exact ⟨u, w, h1, h2, fcI (n := 7) h3, h4.abs⟩
  · obtain ⟨u, w, h1, h2, h3, h4⟩ := key i hi
    show rowM (cW W (rowQ v) (i * 2 + 1)) ≤ (worldK .u8 W (rowQ (cW W (rowQ v) (i * 2 + 1)))).length
    rw [cW_eq h2]; exact h4.nums
theorem lenPre {B : Nat} (hB : maxLen ≤ B) {W : World} {v : Value} (h : FCv W 8 (.list shPre) v) : rowM v ≤ (xW B W).PN (rowQ v) := by
  refine lead_ge (fun i hi => ?_) (Nat.le_trans h.le hB)
  obtain ⟨u, h1, h2⟩ := h.row hi (j := 0) (q := .int .u32) rfl
  obtain ⟨w, h3, h4⟩ := h.row hi (j := 1) (q := .int .u8) rfl
  exact ⟨u, w, h1, h3, fcI (n := 7) h2, fcI (n := 7) h4⟩
structure Raw (x : MX) (a : MV) : Prop where
  c1 : a.op.n ≤ x.CN a.op.P
  c2 : ∀ i, i < a.op.n → x.CM a.op.P i ≤ (x.D (x.CQ a.op.P i)).length
  g : a.gn ≤ x.PN a.gP
  n : a.nn ≤ x.PN a.nP
  l1 : a.at_.n ≤ x.LN a.at_.P
  l2 : ∀ i, i < a.at_.n → x.LM a.at_.P i ≤ (x.U (x.LQ a.at_.P i)).length
  t : a.at_.m ≤ (x.U a.at_.Q).length
  d : a.dn ≤ (x.D a.dP).length
  b1 : a.op.n ≤ maxLen
  b2 : a.at_.n ≤ maxLen
theorem Raw.few {x : MX} {a : MV} (h : Raw x a) : fewOk x a := ⟨h.c1, h.l1, by have := h.b1; unfold maxLen at this; omega, by have := h.b2; unfold maxLen at this; omega⟩
theorem Raw.ok {x : MX} {a : MV} (h : Raw x a) (hf : fewE x a = true) : msgOk x a := by
  simp only [fewE, Bool.and_eq_true, decide_eq_true_eq] at hf
  obtain ⟨f1, f2, f3, f4, f5, f6, f7, f8⟩ := hf
  unfold nI at f3 f4 f5 f6 f7 f8
  refine ⟨⟨h.c1, by omega, fun i hi => ⟨h.c2 i hi, ?_⟩⟩, ⟨h.g, by omega⟩, ⟨h.n, by omega⟩, ⟨h.l1, by omega, fun i hi => ⟨h.l2 i hi, ?_⟩⟩, ⟨h.t, by omega⟩, ⟨h.d, by omega⟩⟩
  · have := allB_at f1 i hi
    unfold fewA at this
    simp only [ix3_eq, Bool.not_eq_true', decide_eq_false_iff_not] at this
    unfold nI at this; omega
  · have := allB_at f2 i hi
    unfold fewB at this
    simp only [ix3_eq, Bool.not_eq_true', decide_eq_false_iff_not] at this
    unfold nI at this; omega
theorem strE_self (x : MX) (P n : Nat) : strE x P n P n = true := beqB_of rfl
theorem rowE_self (x : MX) (P n : Nat) : rowE x P n P n = true := by
  unfold rowE; rw [beq_self, allB_all fun i _ => by unfold u32E; exact beq_self_eq_true _]; rfl
theorem presE_self (x : MX) (P n : Nat) : presE x P n P n = true := by
  unfold presE; rw [beq_self, allB_all fun i _ => by unfold preE; simp]; rfl
theorem capsE_self (x : MX) (P n : Nat) : capsE x P n P n = true := by
  unfold capsE; rw [beq_self, allB_all fun i _ => by unfold capE; rw [strE_self]; simp]; rfl
theorem legsE_self (x : MX) (P n : Nat) : legsE x P n P n = true := by
  unfold legsE; rw [beq_self, allB_all fun i _ => by unfold legE; rw [rowE_self]; simp]; rfl
theorem msgE_self (x : MX) (a : MV) : msgE x a a = true := by
  unfold msgE openE attrsE
  rw [strE_self, rowE_self, presE_self, presE_self, capsE_self, legsE_self]
  simp
theorem rd3 {x : MX} {a b : MV} (ha : Raw x a) (hb : Raw x b) : Rd Tryz.prog x.F 3 [a.v, b.v] (.bool true) := by
  by_cases h1 : fewE x a = true
  rotate_left
  · have h1 : fewE x a = false := Bool.eq_false_iff.2 h1
    exact Rd.run pg (K4_ok x) (m1 x a b) ⟨⟨trivial, rfl, ha.few⟩, by rw [h1]; rfl⟩ rfl
  by_cases h2 : fewE x b = true
  rotate_left
  · have h2 : fewE x b = false := Bool.eq_false_iff.2 h2
    exact Rd.run pg (K4_ok x) (m2 x a b) ⟨⟨⟨⟨trivial, rfl, ha.few⟩, by rw [h1]; rfl⟩, rfl, hb.few⟩, by rw [h2]; rfl⟩ rfl
  have s := beq_self_eq_true (msgE x a b)
  exact Rd.run pg (K4_ok x) (m3 x a b) ⟨⟨⟨⟨⟨⟨⟨⟨⟨⟨⟨⟨⟨trivial, rfl, ha.few⟩, by rw [h1]; rfl⟩, rfl, hb.few⟩, by rw [h2]; rfl⟩, rfl, ha.ok h1, hb.ok h2⟩, rfl, ha.ok h1, hb.ok h2⟩, s⟩, s⟩, s⟩, rfl, ha.ok h1, ha.ok h1⟩, s⟩, msgE_self x a⟩, msgE_self x a⟩ rfl
end
end ob
end Go.Proofs.YtopgddoncehhnaaGreat
namespace Go.Proofs.YtopgddoncehhnaaGreat
open Go.ChangeShapes Go.WideShapes Go.ChangeAt Go.RowKit Go.Cln
namespace ob
set_option linter.unusedVariables false
noncomputable section
structure CW where
  k : Int
  o1 : Int
  o2 : Int
  o3 : Int
  v4 : Value
  v5 : Value
  v6 : Value
  a1 : Int
  v8 : Value
  a2 : Int
  a3 : Bool
  a4 : Int
  a5 : Bool
  a6 : Int
  v14 : Value
  d1 : Int
  d2 : Int
  v17 : Value
def CW.l (c : CW) : List Value := [.int .i64 c.k, .int .u32 c.o1, .int .u16 c.o2, .int .u32 c.o3, c.v4, c.v5, c.v6, .int .u8 c.a1, c.v8, .int .u32 c.a2, .bool c.a3, .int .u32 c.a4, .bool c.a5, .int .u32 c.a6, c.v14, .int .u8 c.d1, .int .u8 c.d2, c.v17]
def CW.m (c : CW) : MV := ⟨c.k, ⟨c.o1, c.o2, c.o3, rowQ c.v4, rowM c.v4, rowC c.v4⟩, rowQ c.v5, rowM c.v5, rowC c.v5, rowQ c.v6, rowM c.v6, rowC c.v6, ⟨c.a1, rowQ c.v8, rowM c.v8, rowC c.v8, c.a2, c.a3, c.a4, c.a5, c.a6, rowQ c.v14, rowM c.v14, rowC c.v14⟩, c.d1, c.d2, rowQ c.v17, rowM c.v17, rowC c.v17⟩
def MSG : List FC := [.int .i64, .int .u32, .int .u16, .int .u32, .list shCap, .list shPre, .list shPre, .int .u8, .list shLeg, .int .u32, .bool, .int .u32, .bool, .int .u32, .list [.int .u32], .int .u8, .int .u8, .list [.int .u8]]
structure Typed (W : World) (c : CW) : Prop where
  t4 : FCv W 8 (.list shCap) c.v4
  t5 : FCv W 8 (.list shPre) c.v5
  t6 : FCv W 8 (.list shPre) c.v6
  t8 : FCv W 8 (.list shLeg) c.v8
  t14 : FCv W 8 (.list [.int .u32]) c.v14
  t17 : FCv W 8 (.list [.int .u8]) c.v17
theorem Typed.of {W : World} {c : CW} (h : ∀ (j : Nat) (q : FC), MSG[j]? = some q → ∃ u : Value, c.l[j]? = some u ∧ FCv W 8 q u) : Typed W c := by
  refine ⟨?_, ?_, ?_, ?_, ?_, ?_⟩
  · obtain ⟨u, h1, h2⟩ := h 4 _ rfl; cases h1; exact h2
  · obtain ⟨u, h1, h2⟩ := h 5 _ rfl; cases h1; exact h2
  · obtain ⟨u, h1, h2⟩ := h 6 _ rfl; cases h1; exact h2
  · obtain ⟨u, h1, h2⟩ := h 8 _ rfl; cases h1; exact h2
  · obtain ⟨u, h1, h2⟩ := h 14 _ rfl; cases h1; exact h2
  · obtain ⟨u, h1, h2⟩ := h 17 _ rfl; cases h1; exact h2
theorem Typed.raw {W : World} {c : CW} (h : Typed W c) {B : Nat} (hB : maxLen ≤ B) : Raw (xW B W) c.m where
  c1 := (lenCap hB h.t4).1
  c2 := (lenCap hB h.t4).2
  g := lenPre hB h.t5
  n := lenPre hB h.t6
  l1 := (lenLeg hB h.t8).1
  l2 := (lenLeg hB h.t8).2
  t := FCv.nums (n := 6) h.t14
  d := FCv.nums (n := 6) h.t17
  b1 := h.t4.le
  b2 := h.t8.le
theorem Typed.vr {W : World} {c : CW} (h : Typed W c) {N : Nat → Prop} {ρ : Nat → PB} (h0 : N 0) : VR N ρ c.m.v (.agg c.l.toArray) := by
  refine .agg rfl fun i v w hv hw => ?_
  have hv : c.m.l[i]? = some v := hv
  have hw : c.l[i]? = some w := hw
  rcases i with _ | _ | _ | _ | _ | _ | _ | _ | _ | _ | _ | _ | _ | _ | _ | _ | _ | _ | i
  · cases hv; cases hw; exact .same rfl
  · cases hv; cases hw; exact .same rfl
  · cases hv; cases hw; exact .same rfl
  · cases hv; cases hw; exact .same rfl
  · cases hv; cases hw; exact .abs h0 rfl h.t4.abs
  · cases hv; cases hw; exact .abs h0 rfl h.t5.abs
  · cases hv; cases hw; exact .abs h0 rfl h.t6.abs
  · cases hv; cases hw; exact .same rfl
  · cases hv; cases hw; exact .abs h0 rfl h.t8.abs
  · cases hv; cases hw; exact .same rfl
  · cases hv; cases hw; exact .same rfl
  · cases hv; cases hw; exact .same rfl
  · cases hv; cases hw; exact .same rfl
  · cases hv; cases hw; exact .same rfl
  · cases hv; cases hw; exact .abs h0 rfl h.t14.abs
  · cases hv; cases hw; exact .same rfl
  · cases hv; cases hw; exact .same rfl
  · cases hv; cases hw; exact .abs h0 rfl h.t17.abs
  · cases hv
theorem lawW {W : World} (hW : 0 < W.heap.size) {a b : CW} (ha : Typed W a) (hb : Typed W b) :
    Calls Tryz.prog 3 #[.agg a.l.toArray, .agg b.l.toArray] W fun e w' => e = .returned (.bool true) ∧ Go.RowKit.Below W.heap.size W w' :=
  rd3 (ha.raw (Nat.le_refl _)) (hb.raw (Nat.le_refl _)) _ W [.agg a.l.toArray, .agg b.l.toArray] ((famX maxLen W).hs hW []) (Go.Cln.VL.cons (ha.vr fam_dm) (Go.Cln.VL.cons (hb.vr fam_dm) Go.Cln.VL.nil))
theorem FCv.zero {W : World} (hW : W.heap.size = 0) {n : Nat} {l : List FC} {v : Value} (hl : l ≠ []) (h : FCv W (n + 1) (.list l) v) : rowQ v = 0 ∧ rowM v = 0 ∧ rowC v = 0 := by
  obtain ⟨a, m, c, rfl, hle, _, hm⟩ := h
  cases m with
  | zero => cases a <;> exact ⟨rfl, rfl, rfl⟩
  | succ m =>
    rcases hm with h0 | ⟨b, o, rfl, hx⟩
    · cases h0
    · cases l with
      | nil => exact absurd rfl hl
      | cons q l =>
        obtain ⟨u, h1, _⟩ := hx 0 (by omega) 0 q rfl
        obtain ⟨pc, t, fr, k1, _⟩ := cell_in h1
        rw [Array.getElem?_eq_none (by omega)] at k1
        cases k1
structure ZV where
  k : Int
  o1 : Int
  o2 : Int
  o3 : Int
  a1 : Int
  a2 : Int
  a3 : Bool
  a4 : Int
  a5 : Bool
  a6 : Int
  d1 : Int
  d2 : Int
def ZV.m (a : ZV) : MV := ⟨a.k, ⟨a.o1, a.o2, a.o3, 0, 0, 0⟩, 0, 0, 0, 0, 0, 0, ⟨a.a1, 0, 0, 0, a.a2, a.a3, a.a4, a.a5, a.a6, 0, 0, 0⟩, a.d1, a.d2, 0, 0, 0⟩
def CW.z (c : CW) : ZV := ⟨c.k, c.o1, c.o2, c.o3, c.a1, c.a2, c.a3, c.a4, c.a5, c.a6, c.d1, c.d2⟩
theorem Typed.zero {W : World} {c : CW} (hW : W.heap.size = 0) (h : Typed W c) : c.m = c.z.m := by
  obtain ⟨e1, e2, e3⟩ := FCv.zero (n := 7) hW (by intro e; cases e) h.t4
  obtain ⟨f1, f2, f3⟩ := FCv.zero (n := 7) hW (by intro e; cases e) h.t5
  obtain ⟨g1, g2, g3⟩ := FCv.zero (n := 7) hW (by intro e; cases e) h.t6
  obtain ⟨h1, h2, h3⟩ := FCv.zero (n := 7) hW (by intro e; cases e) h.t8
  obtain ⟨i1, i2, i3⟩ := FCv.zero (n := 7) hW (by intro e; cases e) h.t14
  obtain ⟨j1, j2, j3⟩ := FCv.zero (n := 7) hW (by intro e; cases e) h.t17
  unfold CW.m ZV.m CW.z
  rw [e1, e2, e3, f1, f2, f3, g1, g2, g3, h1, h2, h3, i1, i2, i3, j1, j2, j3]
def callZ (K : Given) (f : FuncId) (args : List Value) (o : List (Option Bool)) : Option (Value × St) := (mk Tryz.prog K 300).call f args (St.start 1 .leaf o)
end
end ob
end Go.Proofs.YtopgddoncehhnaaGreat
namespace Go.Proofs.YtopgddoncehhnaaGreat
open Go.ChangeShapes Go.WideShapes Go.ChangeAt Go.RowKit Go.Cln
namespace ob
set_option linter.unusedVariables false
noncomputable section
def Rd0 (f : FuncId) (args : List Value) (v : Value) : Prop := ∀ (ρ : Nat → PB) (w : World) (args' : List Value), VL (Dm (St.start 1 .leaf [])) ρ args args' → Calls Tryz.prog f args'.toArray w fun e w' => e = .returned v ∧ Go.RowKit.Below w.heap.size w w'
theorem Rd0.run {K : Given} (hK : GivenOk Tryz.prog K) {f : FuncId} {args : List Value} {orc : List (Option Bool)} {v : Value} {p : Prop} (hr : (callZ K f args orc).map (fun r => (r.1, r.2.obl)) = some (v, p)) (hp : p) (hv : flat v = true) : Rd0 f args v :=
  fun ρ w args' ha => ranG pg hK hr hp hv (named_hs 1 orc ρ w) (by rw [show Dm (St.start 1 .leaf orc) = Dm (St.start 1 .leaf []) from rfl]; exact ha)
def K0 (T : FuncId → List Value → Option Value) (K : Given) : Given := K.readsP fun f args _ => (T f args).map fun v => (v, True)
theorem K0_ok {T : FuncId → List Value → Option Value} {K : Given} (hK : GivenOk Tryz.prog K) (h : ∀ f args v, T f args = some v → flat v = true ∧ args.all farV = true ∧ Rd0 f args v) : GivenOk Tryz.prog (K0 T K) :=
  hK.readsP fun f args s r hr => by
    simp only [Option.map_eq_some_iff] at hr
    obtain ⟨v, hv, rfl⟩ := hr
    obtain ⟨h1, h2, h3⟩ := h f args v hv
    exact ⟨h1, fun _ ρ w args' hs hl => h3 ρ w args' ⟨hl.1, fun i a b ha hb => farV_vr (hl.2 i a b ha hb) (List.all_eq_true.1 h2 a (List.mem_of_getElem? ha)) ⟨Nat.zero_lt_one, rfl⟩⟩⟩
theorem y17 : (callZ KN 17 [.slice (some ⟨0, 0, some 1000⟩) 0 0, .slice (some ⟨0, 0, some 1000⟩) 0 0] []).map (fun r => (r.1, r.2.obl)) = some (.bool true, True) := by kernel_rfl
theorem y31 : (callZ KN 31 [.slice (some ⟨0, 0, some 1004⟩) 0 0, .slice (some ⟨0, 0, some 1004⟩) 0 0] []).map (fun r => (r.1, r.2.obl)) = some (.bool true, True) := by kernel_rfl
theorem y33 : (callZ KN 33 [.slice (some ⟨0, 0, some 1004⟩) 0 0, .slice (some ⟨0, 0, some 1004⟩) 0 0] []).map (fun r => (r.1, r.2.obl)) = some (.bool true, True) := by kernel_rfl
theorem y77 : (callZ KN 77 [.slice (some ⟨0, 0, some 1001⟩) 0 0, .slice (some ⟨0, 0, some 1001⟩) 0 0] []).map (fun r => (r.1, r.2.obl)) = some (.bool true, True) := by kernel_rfl
theorem y79 : (callZ KN 79 [.slice (some ⟨0, 0, some 1001⟩) 0 0, .slice (some ⟨0, 0, some 1001⟩) 0 0] []).map (fun r => (r.1, r.2.obl)) = some (.bool true, True) := by kernel_rfl
theorem y30 : (callZ KN 30 [.slice (some ⟨0, 0, some 1003⟩) 0 0, .slice (some ⟨0, 0, some 1003⟩) 0 0, .func (.func 29) #[] #[]] []).map (fun r => (r.1, r.2.obl)) = some (.bool true, True) := by kernel_rfl
theorem y78 : (callZ KN 78 [.slice (some ⟨0, 0, some 1002⟩) 0 0, .slice (some ⟨0, 0, some 1002⟩) 0 0, .func (.func 76) #[] #[]] []).map (fun r => (r.1, r.2.obl)) = some (.bool true, True) := by kernel_rfl
def op0 (a b : OV) : Bool := (a.asn == b.asn) && ((a.hold == b.hold) && ((a.id == b.id)))
def at0 (a b : AV) : Bool := (a.o == b.o) && ((a.nx == b.nx) && ((a.hm == b.hm) && ((a.md == b.md) && ((a.hp == b.hp) && ((a.pf == b.pf))))))
def OV.z (a : OV) : OV := ⟨a.asn, a.hold, a.id, 0, 0, 0⟩
def AV.z (a : AV) : AV := ⟨a.o, 0, 0, 0, a.nx, a.hm, a.md, a.hp, a.pf, 0, 0, 0⟩
theorem z18_0 (a b : OV) : (callZ KN 18 [a.z.v, b.z.v] [some true]).map (fun r => (r.1, r.2.obl)) = some (.bool false, (True ∧ (a.asn != b.asn) = true)) := by kernel_rfl
theorem z18_1 (a b : OV) : (callZ KN 18 [a.z.v, b.z.v] [some false, none, none, none, none, none, some true]).map (fun r => (r.1, r.2.obl)) = some (.bool false, ((True ∧ (a.asn != b.asn) = false) ∧ (a.hold != b.hold) = true)) := by kernel_rfl
theorem z18_2 (a b : OV) : (callZ KN 18 [a.z.v, b.z.v] [some false, none, none, none, none, none, some false, none, none, none, none, none, some true]).map (fun r => (r.1, r.2.obl)) = some (.bool false, (((True ∧ (a.asn != b.asn) = false) ∧ (a.hold != b.hold) = false) ∧ (a.id != b.id) = true)) := by kernel_rfl
theorem z18_3 (a b : OV) : (callZ KN 18 [a.z.v, b.z.v] [some false, none, none, none, none, none, some false, none, none, none, none, none, some false]).map (fun r => (r.1, r.2.obl)) = some (.bool true, (((True ∧ (a.asn != b.asn) = false) ∧ (a.hold != b.hold) = false) ∧ (a.id != b.id) = false)) := by kernel_rfl
theorem rz18 (a b : OV) : Rd0 18 [a.z.v, b.z.v] (.bool (op0 a b)) := by
  by_cases g0 : (a.asn == b.asn) = true
  rotate_left
  · have g0 : (a.asn == b.asn) = false := Bool.eq_false_iff.2 g0
    rw [show op0 a b = false by simp only [op0, g0, Bool.false_and, Bool.true_and, Bool.and_false]]
    exact Rd0.run KN_ok (z18_0 a b) ⟨trivial, bne_t g0⟩ rfl
  by_cases g1 : (a.hold == b.hold) = true
  rotate_left
  · have g1 : (a.hold == b.hold) = false := Bool.eq_false_iff.2 g1
    rw [show op0 a b = false by simp only [op0, g0, g1, Bool.false_and, Bool.true_and, Bool.and_false]]
    exact Rd0.run KN_ok (z18_1 a b) ⟨⟨trivial, bne_f g0⟩, bne_t g1⟩ rfl
  by_cases g2 : (a.id == b.id) = true
  rotate_left
  · have g2 : (a.id == b.id) = false := Bool.eq_false_iff.2 g2
    rw [show op0 a b = false by simp only [op0, g0, g1, g2, Bool.false_and, Bool.true_and, Bool.and_false]]
    exact Rd0.run KN_ok (z18_2 a b) ⟨⟨⟨trivial, bne_f g0⟩, bne_f g1⟩, bne_t g2⟩ rfl
  rw [show op0 a b = true by simp only [op0, g0, g1, g2, Bool.true_and]]
  exact Rd0.run KN_ok (z18_3 a b) ⟨⟨⟨trivial, bne_f g0⟩, bne_f g1⟩, bne_f g2⟩ rfl
theorem z34_0 (a b : AV) : (callZ KN 34 [a.z.v, b.z.v] [some true]).map (fun r => (r.1, r.2.obl)) = some (.bool false, (True ∧ (a.o != b.o) = true)) := by kernel_rfl
theorem z34_1 (a b : AV) : (callZ KN 34 [a.z.v, b.z.v] [some false, none, none, none, none, none, some true]).map (fun r => (r.1, r.2.obl)) = some (.bool false, ((True ∧ (a.o != b.o) = false) ∧ (a.nx != b.nx) = true)) := by kernel_rfl
theorem z34_2 (a b : AV) : (callZ KN 34 [a.z.v, b.z.v] [some false, none, none, none, none, none, some false, none, none, none, none, none, some true]).map (fun r => (r.1, r.2.obl)) = some (.bool false, (((True ∧ (a.o != b.o) = false) ∧ (a.nx != b.nx) = false) ∧ (a.hm != b.hm) = true)) := by kernel_rfl
theorem z34_3 (a b : AV) : (callZ KN 34 [a.z.v, b.z.v] [some false, none, none, none, none, none, some false, none, none, none, none, none, some false, none, none, none, none, none, some true]).map (fun r => (r.1, r.2.obl)) = some (.bool false, ((((True ∧ (a.o != b.o) = false) ∧ (a.nx != b.nx) = false) ∧ (a.hm != b.hm) = false) ∧ (a.md != b.md) = true)) := by kernel_rfl
theorem z34_4 (a b : AV) : (callZ KN 34 [a.z.v, b.z.v] [some false, none, none, none, none, none, some false, none, none, none, none, none, some false, none, none, none, none, none, some false, none, none, none, none, none, some true]).map (fun r => (r.1, r.2.obl)) = some (.bool false, (((((True ∧ (a.o != b.o) = false) ∧ (a.nx != b.nx) = false) ∧ (a.hm != b.hm) = false) ∧ (a.md != b.md) = false) ∧ (a.hp != b.hp) = true)) := by kernel_rfl
theorem z34_5 (a b : AV) : (callZ KN 34 [a.z.v, b.z.v] [some false, none, none, none, none, none, some false, none, none, none, none, none, some false, none, none, none, none, none, some false, none, none, none, none, none, some false, none, none, none, none, none, some true]).map (fun r => (r.1, r.2.obl)) = some (.bool false, ((((((True ∧ (a.o != b.o) = false) ∧ (a.nx != b.nx) = false) ∧ (a.hm != b.hm) = false) ∧ (a.md != b.md) = false) ∧ (a.hp != b.hp) = false) ∧ (a.pf != b.pf) = true)) := by kernel_rfl
theorem z34_6 (a b : AV) : (callZ KN 34 [a.z.v, b.z.v] [some false, none, none, none, none, none, some false, none, none, none, none, none, some false, none, none, none, none, none, some false, none, none, none, none, none, some false, none, none, none, none, none, some false]).map (fun r => (r.1, r.2.obl)) = some (.bool true, ((((((True ∧ (a.o != b.o) = false) ∧ (a.nx != b.nx) = false) ∧ (a.hm != b.hm) = false) ∧ (a.md != b.md) = false) ∧ (a.hp != b.hp) = false) ∧ (a.pf != b.pf) = false)) := by kernel_rfl
theorem rz34 (a b : AV) : Rd0 34 [a.z.v, b.z.v] (.bool (at0 a b)) := by
  by_cases g0 : (a.o == b.o) = true
  rotate_left
  · have g0 : (a.o == b.o) = false := Bool.eq_false_iff.2 g0
    rw [show at0 a b = false by simp only [at0, g0, Bool.false_and, Bool.true_and, Bool.and_false]]
    exact Rd0.run KN_ok (z34_0 a b) ⟨trivial, bne_t g0⟩ rfl
  by_cases g1 : (a.nx == b.nx) = true
  rotate_left
  · have g1 : (a.nx == b.nx) = false := Bool.eq_false_iff.2 g1
    rw [show at0 a b = false by simp only [at0, g0, g1, Bool.false_and, Bool.true_and, Bool.and_false]]
    exact Rd0.run KN_ok (z34_1 a b) ⟨⟨trivial, bne_f g0⟩, bne_t g1⟩ rfl
  by_cases g2 : (a.hm == b.hm) = true
  rotate_left
  · have g2 : (a.hm == b.hm) = false := Bool.eq_false_iff.2 g2
    rw [show at0 a b = false by simp only [at0, g0, g1, g2, Bool.false_and, Bool.true_and, Bool.and_false]]
    exact Rd0.run KN_ok (z34_2 a b) ⟨⟨⟨trivial, bne_f g0⟩, bne_f g1⟩, bne_t g2⟩ rfl
  by_cases g3 : (a.md == b.md) = true
  rotate_left
  · have g3 : (a.md == b.md) = false := Bool.eq_false_iff.2 g3
    rw [show at0 a b = false by simp only [at0, g0, g1, g2, g3, Bool.false_and, Bool.true_and, Bool.and_false]]
    exact Rd0.run KN_ok (z34_3 a b) ⟨⟨⟨⟨trivial, bne_f g0⟩, bne_f g1⟩, bne_f g2⟩, bne_t g3⟩ rfl
  by_cases g4 : (a.hp == b.hp) = true
  rotate_left
  · have g4 : (a.hp == b.hp) = false := Bool.eq_false_iff.2 g4
    rw [show at0 a b = false by simp only [at0, g0, g1, g2, g3, g4, Bool.false_and, Bool.true_and, Bool.and_false]]
    exact Rd0.run KN_ok (z34_4 a b) ⟨⟨⟨⟨⟨trivial, bne_f g0⟩, bne_f g1⟩, bne_f g2⟩, bne_f g3⟩, bne_t g4⟩ rfl
  by_cases g5 : (a.pf == b.pf) = true
  rotate_left
  · have g5 : (a.pf == b.pf) = false := Bool.eq_false_iff.2 g5
    rw [show at0 a b = false by simp only [at0, g0, g1, g2, g3, g4, g5, Bool.false_and, Bool.true_and, Bool.and_false]]
    exact Rd0.run KN_ok (z34_5 a b) ⟨⟨⟨⟨⟨⟨trivial, bne_f g0⟩, bne_f g1⟩, bne_f g2⟩, bne_f g3⟩, bne_f g4⟩, bne_t g5⟩ rfl
  rw [show at0 a b = true by simp only [at0, g0, g1, g2, g3, g4, g5, Bool.true_and]]
  exact Rd0.run KN_ok (z34_6 a b) ⟨⟨⟨⟨⟨⟨trivial, bne_f g0⟩, bne_f g1⟩, bne_f g2⟩, bne_f g3⟩, bne_f g4⟩, bne_f g5⟩ rfl
noncomputable def ovOf (l : List Value) : Option OV := match l with
  | [.int .u32 a1, .int .u16 a2, .int .u32 a3, .slice (some ⟨0, 0, some 1003⟩) 0 0] => some ⟨a1, a2, a3, 0, 0, 0⟩
  | _ => none
noncomputable def avOf (l : List Value) : Option AV := match l with
  | [.int .u8 a1, .slice (some ⟨0, 0, some 1002⟩) 0 0, .int .u32 a2, .bool a3, .int .u32 a4, .bool a5, .int .u32 a6, .slice (some ⟨0, 0, some 1001⟩) 0 0] => some ⟨a1, 0, 0, 0, a2, a3, a4, a5, a6, 0, 0, 0⟩
  | _ => none
theorem ovOf_eq {l : List Value} {m : OV} (h : ovOf l = some m) : l = m.z.l := by
  unfold ovOf at h
  split at h
  · cases h; rfl
  · cases h
theorem avOf_eq {l : List Value} {m : AV} (h : avOf l = some m) : l = m.z.l := by
  unfold avOf at h
  split at h
  · cases h; rfl
  · cases h
noncomputable def T0 (f : FuncId) (args : List Value) : Option Value :=
  if f == 17 then (match args with
    | [.slice (some ⟨0, 0, some 1000⟩) 0 0, .slice (some ⟨0, 0, some 1000⟩) 0 0] => some (.bool true)
    | _ => none)
  else if f == 31 then (match args with
    | [.slice (some ⟨0, 0, some 1004⟩) 0 0, .slice (some ⟨0, 0, some 1004⟩) 0 0] => some (.bool true)
    | _ => none)
  else if f == 33 then (match args with
    | [.slice (some ⟨0, 0, some 1004⟩) 0 0, .slice (some ⟨0, 0, some 1004⟩) 0 0] => some (.bool true)
    | _ => none)
  else if f == 77 then (match args with
    | [.slice (some ⟨0, 0, some 1001⟩) 0 0, .slice (some ⟨0, 0, some 1001⟩) 0 0] => some (.bool true)
    | _ => none)
  else if f == 79 then (match args with
    | [.slice (some ⟨0, 0, some 1001⟩) 0 0, .slice (some ⟨0, 0, some 1001⟩) 0 0] => some (.bool true)
    | _ => none)
  else if f == 30 then (match args with
    | [.slice (some ⟨0, 0, some 1003⟩) 0 0, .slice (some ⟨0, 0, some 1003⟩) 0 0, .func (.func 29) u w] => (match u.toList, w.toList with
      | [], [] => some (.bool true)
      | _, _ => none)
    | _ => none)
  else if f == 78 then (match args with
    | [.slice (some ⟨0, 0, some 1002⟩) 0 0, .slice (some ⟨0, 0, some 1002⟩) 0 0, .func (.func 76) u w] => (match u.toList, w.toList with
      | [], [] => some (.bool true)
      | _, _ => none)
    | _ => none)
  else if f == 18 then (match args with
    | [.agg a, .agg b] => (match ovOf a.toList with
      | some A => (match ovOf b.toList with
        | some B => some (.bool (op0 A B))
        | none => none)
      | none => none)
    | _ => none)
  else if f == 34 then (match args with
    | [.agg a, .agg b] => (match avOf a.toList with
      | some A => (match avOf b.toList with
        | some B => some (.bool (at0 A B))
        | none => none)
      | none => none)
    | _ => none)
  else none
theorem T0_ok (f : FuncId) (args : List Value) (v : Value) (h : T0 f args = some v) : flat v = true ∧ args.all farV = true ∧ Rd0 f args v := by
  unfold T0 at h
  split at h
  · rename_i hf
    have hf : f = 17 := by simpa using hf
    subst hf
    split at h
    · cases h; exact ⟨rfl, rfl, Rd0.run KN_ok y17 trivial rfl⟩
    · cases h
  · rename_i hf17
    clear hf17
    split at h
    · rename_i hf
      have hf : f = 31 := by simpa using hf
      subst hf
      split at h
      · cases h; exact ⟨rfl, rfl, Rd0.run KN_ok y31 trivial rfl⟩
      · cases h
    · rename_i hf31
      clear hf31
      split at h
      · rename_i hf
        have hf : f = 33 := by simpa using hf
        subst hf
        split at h
        · cases h; exact ⟨rfl, rfl, Rd0.run KN_ok y33 trivial rfl⟩
        · cases h
      · rename_i hf33
        clear hf33
        split at h
        · rename_i hf
          have hf : f = 77 := by simpa using hf
          subst hf
          split at h
          · cases h; exact ⟨rfl, rfl, Rd0.run KN_ok y77 trivial rfl⟩
          · cases h
        · rename_i hf77
          clear hf77
          split at h
          · rename_i hf
            have hf : f = 79 := by simpa using hf
            subst hf
            split at h
            · cases h; exact ⟨rfl, rfl, Rd0.run KN_ok y79 trivial rfl⟩
            · cases h
          · rename_i hf79
            clear hf79
            split at h
            · rename_i hf
              have hf : f = 30 := by simpa using hf
              subst hf
              split at h
              · split at h
                · rename_i u w hu hw
                  cases h
                  have eu := agg_eq hu
                  have ew := agg_eq hw
                  subst eu
                  subst ew
                  exact ⟨rfl, rfl, Rd0.run KN_ok y30 trivial rfl⟩
                · cases h
              · cases h
            · rename_i hf30
              clear hf30
              split at h
              · rename_i hf
                have hf : f = 78 := by simpa using hf
                subst hf
                split at h
                · split at h
                  · rename_i u w hu hw
                    cases h
                    have eu := agg_eq hu
                    have ew := agg_eq hw
                    subst eu
                    subst ew
                    exact ⟨rfl, rfl, Rd0.run KN_ok y78 trivial rfl⟩
                  · cases h
                · cases h
              · rename_i hf78
                clear hf78
                split at h
                · rename_i hf
                  have hf : f = 18 := by simpa using hf
                  subst hf
                  split at h
                  · rename_i a b
                    split at h
                    · rename_i A ha
                      split at h
                      · rename_i B hb
                        cases h
                        have ea := agg_eq (ovOf_eq ha)
                        have eb := agg_eq (ovOf_eq hb)
                        subst ea
                        subst eb
                        exact ⟨rfl, rfl, rz18 A B⟩
                      · cases h
                    · cases h
                  · cases h
                · rename_i hf18
                  clear hf18
                  split at h
                  · rename_i hf
                    have hf : f = 34 := by simpa using hf
                    subst hf
                    split at h
                    · rename_i a b
                      split at h
                      · rename_i A ha
                        split at h
                        · rename_i B hb
                          cases h
                          have ea := agg_eq (avOf_eq ha)
                          have eb := agg_eq (avOf_eq hb)
                          subst ea
                          subst eb
                          exact ⟨rfl, rfl, rz34 A B⟩
                        · cases h
                      · cases h
                    · cases h
                  · rename_i hf34
                    clear hf34
                    cases h
noncomputable def KZ : Given := { K0 T0 Given.nothing with fits := true }
theorem KZ_ok : GivenOk Tryz.prog KZ := frames_fits (K0_ok (GivenOk.nothing _) T0_ok) true
end
end ob
end Go.Proofs.YtopgddoncehhnaaGreat
namespace Go.Proofs.YtopgddoncehhnaaGreat
open Go.ChangeShapes Go.WideShapes Go.ChangeAt Go.RowKit Go.Cln
namespace ob
set_option linter.unusedVariables false
noncomputable section
def msg0 (a b : ZV) : Bool := (a.k == b.k) && (op0 a.m.op b.m.op && (at0 a.m.at_ b.m.at_ && ((a.d1 == b.d1) && (a.d2 == b.d2))))
theorem q6_0 (a b : ZV) : (callZ KZ 6 [a.m.v, b.m.v] [some false]).map (fun r => (r.1, r.2.obl)) = some (.bool false, (True ∧ (a.k == b.k) = false)) := by kernel_rfl
theorem q6_1 (a b : ZV) : (callZ KZ 6 [a.m.v, b.m.v] [some true, none, none, none, none, some false]).map (fun r => (r.1, r.2.obl)) = some (.bool false, ((True ∧ (a.k == b.k) = true) ∧ (a.o1 == b.o1) = false)) := by kernel_rfl
theorem q6_2 (a b : ZV) : (callZ KZ 6 [a.m.v, b.m.v] [some true, none, none, none, none, some true, none, none, none, none, none, some false]).map (fun r => (r.1, r.2.obl)) = some (.bool false, (((True ∧ (a.k == b.k) = true) ∧ (a.o1 == b.o1) = true) ∧ (a.o2 == b.o2) = false)) := by kernel_rfl
theorem q6_3 (a b : ZV) : (callZ KZ 6 [a.m.v, b.m.v] [some true, none, none, none, none, some true, none, none, none, none, none, some true, none, none, none, none, none, some false]).map (fun r => (r.1, r.2.obl)) = some (.bool false, ((((True ∧ (a.k == b.k) = true) ∧ (a.o1 == b.o1) = true) ∧ (a.o2 == b.o2) = true) ∧ (a.o3 == b.o3) = false)) := by kernel_rfl
theorem q6_4 (a b : ZV) : (callZ KZ 6 [a.m.v, b.m.v] [some true, none, none, none, none, some true, none, none, none, none, none, some true, none, none, none, none, none, some true, none, none, none, none, none, none, none, none, none, none, none, none, none, none, none, none, none, none, none, none, none, none, none, some false]).map (fun r => (r.1, r.2.obl)) = some (.bool false, ((((((((True ∧ (a.k == b.k) = true) ∧ (a.o1 == b.o1) = true) ∧ (a.o2 == b.o2) = true) ∧ (a.o3 == b.o3) = true) ∧ True) ∧ True) ∧ True) ∧ (a.a1 == b.a1) = false)) := by kernel_rfl
theorem q6_5 (a b : ZV) : (callZ KZ 6 [a.m.v, b.m.v] [some true, none, none, none, none, some true, none, none, none, none, none, some true, none, none, none, none, none, some true, none, none, none, none, none, none, none, none, none, none, none, none, none, none, none, none, none, none, none, none, none, none, none, some true, none, none, none, none, none, some false]).map (fun r => (r.1, r.2.obl)) = some (.bool false, (((((((((True ∧ (a.k == b.k) = true) ∧ (a.o1 == b.o1) = true) ∧ (a.o2 == b.o2) = true) ∧ (a.o3 == b.o3) = true) ∧ True) ∧ True) ∧ True) ∧ (a.a1 == b.a1) = true) ∧ (a.a2 == b.a2) = false)) := by kernel_rfl
theorem q6_6 (a b : ZV) : (callZ KZ 6 [a.m.v, b.m.v] [some true, none, none, none, none, some true, none, none, none, none, none, some true, none, none, none, none, none, some true, none, none, none, none, none, none, none, none, none, none, none, none, none, none, none, none, none, none, none, none, none, none, none, some true, none, none, none, none, none, some true, none, none, none, none, none, some false]).map (fun r => (r.1, r.2.obl)) = some (.bool false, ((((((((((True ∧ (a.k == b.k) = true) ∧ (a.o1 == b.o1) = true) ∧ (a.o2 == b.o2) = true) ∧ (a.o3 == b.o3) = true) ∧ True) ∧ True) ∧ True) ∧ (a.a1 == b.a1) = true) ∧ (a.a2 == b.a2) = true) ∧ (a.a3 == b.a3) = false)) := by kernel_rfl
theorem q6_7 (a b : ZV) : (callZ KZ 6 [a.m.v, b.m.v] [some true, none, none, none, none, some true, none, none, none, none, none, some true, none, none, none, none, none, some true, none, none, none, none, none, none, none, none, none, none, none, none, none, none, none, none, none, none, none, none, none, none, none, some true, none, none, none, none, none, some true, none, none, none, none, none, some true, none, none, none, none, none, some false]).map (fun r => (r.1, r.2.obl)) = some (.bool false, (((((((((((True ∧ (a.k == b.k) = true) ∧ (a.o1 == b.o1) = true) ∧ (a.o2 == b.o2) = true) ∧ (a.o3 == b.o3) = true) ∧ True) ∧ True) ∧ True) ∧ (a.a1 == b.a1) = true) ∧ (a.a2 == b.a2) = true) ∧ (a.a3 == b.a3) = true) ∧ (a.a4 == b.a4) = false)) := by kernel_rfl
theorem q6_8 (a b : ZV) : (callZ KZ 6 [a.m.v, b.m.v] [some true, none, none, none, none, some true, none, none, none, none, none, some true, none, none, none, none, none, some true, none, none, none, none, none, none, none, none, none, none, none, none, none, none, none, none, none, none, none, none, none, none, none, some true, none, none, none, none, none, some true, none, none, none, none, none, some true, none, none, none, none, none, some true, none, none, none, none, none, some false]).map (fun r => (r.1, r.2.obl)) = some (.bool false, ((((((((((((True ∧ (a.k == b.k) = true) ∧ (a.o1 == b.o1) = true) ∧ (a.o2 == b.o2) = true) ∧ (a.o3 == b.o3) = true) ∧ True) ∧ True) ∧ True) ∧ (a.a1 == b.a1) = true) ∧ (a.a2 == b.a2) = true) ∧ (a.a3 == b.a3) = true) ∧ (a.a4 == b.a4) = true) ∧ (a.a5 == b.a5) = false)) := by kernel_rfl
theorem q6_9 (a b : ZV) : (callZ KZ 6 [a.m.v, b.m.v] [some true, none, none, none, none, some true, none, none, none, none, none, some true, none, none, none, none, none, some true, none, none, none, none, none, none, none, none, none, none, none, none, none, none, none, none, none, none, none, none, none, none, none, some true, none, none, none, none, none, some true, none, none, none, none, none, some true, none, none, none, none, none, some true, none, none, none, none, none, some true, none, none, none, none, none, some false]).map (fun r => (r.1, r.2.obl)) = some (.bool false, (((((((((((((True ∧ (a.k == b.k) = true) ∧ (a.o1 == b.o1) = true) ∧ (a.o2 == b.o2) = true) ∧ (a.o3 == b.o3) = true) ∧ True) ∧ True) ∧ True) ∧ (a.a1 == b.a1) = true) ∧ (a.a2 == b.a2) = true) ∧ (a.a3 == b.a3) = true) ∧ (a.a4 == b.a4) = true) ∧ (a.a5 == b.a5) = true) ∧ (a.a6 == b.a6) = false)) := by kernel_rfl
theorem q6_10 (a b : ZV) : (callZ KZ 6 [a.m.v, b.m.v] [some true, none, none, none, none, some true, none, none, none, none, none, some true, none, none, none, none, none, some true, none, none, none, none, none, none, none, none, none, none, none, none, none, none, none, none, none, none, none, none, none, none, none, some true, none, none, none, none, none, some true, none, none, none, none, none, some true, none, none, none, none, none, some true, none, none, none, none, none, some true, none, none, none, none, none, some true, none, none, none, none, none, none, none, none, none, none, none, none, none, none, none, none, none, none, none, none, none, none, some false]).map (fun r => (r.1, r.2.obl)) = some (.bool false, ((((((((((((((((True ∧ (a.k == b.k) = true) ∧ (a.o1 == b.o1) = true) ∧ (a.o2 == b.o2) = true) ∧ (a.o3 == b.o3) = true) ∧ True) ∧ True) ∧ True) ∧ (a.a1 == b.a1) = true) ∧ (a.a2 == b.a2) = true) ∧ (a.a3 == b.a3) = true) ∧ (a.a4 == b.a4) = true) ∧ (a.a5 == b.a5) = true) ∧ (a.a6 == b.a6) = true) ∧ True) ∧ True) ∧ (a.d1 == b.d1) = false)) := by kernel_rfl
theorem q6_11 (a b : ZV) : (callZ KZ 6 [a.m.v, b.m.v] [some true, none, none, none, none, some true, none, none, none, none, none, some true, none, none, none, none, none, some true, none, none, none, none, none, none, none, none, none, none, none, none, none, none, none, none, none, none, none, none, none, none, none, some true, none, none, none, none, none, some true, none, none, none, none, none, some true, none, none, none, none, none, some true, none, none, none, none, none, some true, none, none, none, none, none, some true, none, none, none, none, none, none, none, none, none, none, none, none, none, none, none, none, none, none, none, none, none, none, some true, none, none, none, none, none, none, none, some false]).map (fun r => (r.1, r.2.obl)) = some (.bool false, (((((((((((((((((True ∧ (a.k == b.k) = true) ∧ (a.o1 == b.o1) = true) ∧ (a.o2 == b.o2) = true) ∧ (a.o3 == b.o3) = true) ∧ True) ∧ True) ∧ True) ∧ (a.a1 == b.a1) = true) ∧ (a.a2 == b.a2) = true) ∧ (a.a3 == b.a3) = true) ∧ (a.a4 == b.a4) = true) ∧ (a.a5 == b.a5) = true) ∧ (a.a6 == b.a6) = true) ∧ True) ∧ True) ∧ (a.d1 == b.d1) = true) ∧ (a.d2 == b.d2) = false)) := by kernel_rfl
theorem q6_12 (a b : ZV) : (callZ KZ 6 [a.m.v, b.m.v] [some true, none, none, none, none, some true, none, none, none, none, none, some true, none, none, none, none, none, some true, none, none, none, none, none, none, none, none, none, none, none, none, none, none, none, none, none, none, none, none, none, none, none, some true, none, none, none, none, none, some true, none, none, none, none, none, some true, none, none, none, none, none, some true, none, none, none, none, none, some true, none, none, none, none, none, some true, none, none, none, none, none, none, none, none, none, none, none, none, none, none, none, none, none, none, none, none, none, none, some true, none, none, none, none, none, none, none, some true]).map (fun r => (r.1, r.2.obl)) = some (.bool true, ((((((((((((((((((True ∧ (a.k == b.k) = true) ∧ (a.o1 == b.o1) = true) ∧ (a.o2 == b.o2) = true) ∧ (a.o3 == b.o3) = true) ∧ True) ∧ True) ∧ True) ∧ (a.a1 == b.a1) = true) ∧ (a.a2 == b.a2) = true) ∧ (a.a3 == b.a3) = true) ∧ (a.a4 == b.a4) = true) ∧ (a.a5 == b.a5) = true) ∧ (a.a6 == b.a6) = true) ∧ True) ∧ True) ∧ (a.d1 == b.d1) = true) ∧ (a.d2 == b.d2) = true) ∧ True)) := by kernel_rfl
theorem rq6 (a b : ZV) : Rd0 6 [a.m.v, b.m.v] (.bool (msg0 a b)) := by
  by_cases g0 : ((a.k == b.k)) = true
  rotate_left
  · have g0 : ((a.k == b.k)) = false := Bool.eq_false_iff.2 g0
    rw [show msg0 a b = false by simp only [msg0, op0, at0, ZV.m, g0, Bool.false_and, Bool.true_and, Bool.and_false]]
    exact Rd0.run KZ_ok (q6_0 a b) ⟨trivial, g0⟩ rfl
  by_cases g1 : ((a.o1 == b.o1)) = true
  rotate_left
  · have g1 : ((a.o1 == b.o1)) = false := Bool.eq_false_iff.2 g1
    rw [show msg0 a b = false by simp only [msg0, op0, at0, ZV.m, g0, g1, Bool.false_and, Bool.true_and, Bool.and_false]]
    exact Rd0.run KZ_ok (q6_1 a b) ⟨⟨trivial, g0⟩, g1⟩ rfl
  by_cases g2 : ((a.o2 == b.o2)) = true
  rotate_left
  · have g2 : ((a.o2 == b.o2)) = false := Bool.eq_false_iff.2 g2
    rw [show msg0 a b = false by simp only [msg0, op0, at0, ZV.m, g0, g1, g2, Bool.false_and, Bool.true_and, Bool.and_false]]
    exact Rd0.run KZ_ok (q6_2 a b) ⟨⟨⟨trivial, g0⟩, g1⟩, g2⟩ rfl
  by_cases g3 : ((a.o3 == b.o3)) = true
  rotate_left
  · have g3 : ((a.o3 == b.o3)) = false := Bool.eq_false_iff.2 g3
    rw [show msg0 a b = false by simp only [msg0, op0, at0, ZV.m, g0, g1, g2, g3, Bool.false_and, Bool.true_and, Bool.and_false]]
    exact Rd0.run KZ_ok (q6_3 a b) ⟨⟨⟨⟨trivial, g0⟩, g1⟩, g2⟩, g3⟩ rfl
  by_cases g4 : ((a.a1 == b.a1)) = true
  rotate_left
  · have g4 : ((a.a1 == b.a1)) = false := Bool.eq_false_iff.2 g4
    rw [show msg0 a b = false by simp only [msg0, op0, at0, ZV.m, g0, g1, g2, g3, g4, Bool.false_and, Bool.true_and, Bool.and_false]]
    exact Rd0.run KZ_ok (q6_4 a b) ⟨⟨⟨⟨⟨⟨⟨⟨trivial, g0⟩, g1⟩, g2⟩, g3⟩, trivial⟩, trivial⟩, trivial⟩, g4⟩ rfl
  by_cases g5 : ((a.a2 == b.a2)) = true
  rotate_left
  · have g5 : ((a.a2 == b.a2)) = false := Bool.eq_false_iff.2 g5
    rw [show msg0 a b = false by simp only [msg0, op0, at0, ZV.m, g0, g1, g2, g3, g4, g5, Bool.false_and, Bool.true_and, Bool.and_false]]
    exact Rd0.run KZ_ok (q6_5 a b) ⟨⟨⟨⟨⟨⟨⟨⟨⟨trivial, g0⟩, g1⟩, g2⟩, g3⟩, trivial⟩, trivial⟩, trivial⟩, g4⟩, g5⟩ rfl
  by_cases g6 : ((a.a3 == b.a3)) = true
  rotate_left
  · have g6 : ((a.a3 == b.a3)) = false := Bool.eq_false_iff.2 g6
    rw [show msg0 a b = false by simp only [msg0, op0, at0, ZV.m, g0, g1, g2, g3, g4, g5, g6, Bool.false_and, Bool.true_and, Bool.and_false]]
    exact Rd0.run KZ_ok (q6_6 a b) ⟨⟨⟨⟨⟨⟨⟨⟨⟨⟨trivial, g0⟩, g1⟩, g2⟩, g3⟩, trivial⟩, trivial⟩, trivial⟩, g4⟩, g5⟩, g6⟩ rfl
  by_cases g7 : ((a.a4 == b.a4)) = true
  rotate_left
  · have g7 : ((a.a4 == b.a4)) = false := Bool.eq_false_iff.2 g7
    rw [show msg0 a b = false by simp only [msg0, op0, at0, ZV.m, g0, g1, g2, g3, g4, g5, g6, g7, Bool.false_and, Bool.true_and, Bool.and_false]]
    exact Rd0.run KZ_ok (q6_7 a b) ⟨⟨⟨⟨⟨⟨⟨⟨⟨⟨⟨trivial, g0⟩, g1⟩, g2⟩, g3⟩, trivial⟩, trivial⟩, trivial⟩, g4⟩, g5⟩, g6⟩, g7⟩ rfl
  by_cases g8 : ((a.a5 == b.a5)) = true
  rotate_left
  · have g8 : ((a.a5 == b.a5)) = false := Bool.eq_false_iff.2 g8
    rw [show msg0 a b = false by simp only [msg0, op0, at0, ZV.m, g0, g1, g2, g3, g4, g5, g6, g7, g8, Bool.false_and, Bool.true_and, Bool.and_false]]
    exact Rd0.run KZ_ok (q6_8 a b) ⟨⟨⟨⟨⟨⟨⟨⟨⟨⟨⟨⟨trivial, g0⟩, g1⟩, g2⟩, g3⟩, trivial⟩, trivial⟩, trivial⟩, g4⟩, g5⟩, g6⟩, g7⟩, g8⟩ rfl
  by_cases g9 : ((a.a6 == b.a6)) = true
  rotate_left
  · have g9 : ((a.a6 == b.a6)) = false := Bool.eq_false_iff.2 g9
    rw [show msg0 a b = false by simp only [msg0, op0, at0, ZV.m, g0, g1, g2, g3, g4, g5, g6, g7, g8, g9, Bool.false_and, Bool.true_and, Bool.and_false]]
    exact Rd0.run KZ_ok (q6_9 a b) ⟨⟨⟨⟨⟨⟨⟨⟨⟨⟨⟨⟨⟨trivial, g0⟩, g1⟩, g2⟩, g3⟩, trivial⟩, trivial⟩, trivial⟩, g4⟩, g5⟩, g6⟩, g7⟩, g8⟩, g9⟩ rfl
  by_cases g10 : ((a.d1 == b.d1)) = true
  rotate_left
  · have g10 : ((a.d1 == b.d1)) = false := Bool.eq_false_iff.2 g10
    rw [show msg0 a b = false by simp only [msg0, op0, at0, ZV.m, g0, g1, g2, g3, g4, g5, g6, g7, g8, g9, g10, Bool.false_and, Bool.true_and, Bool.and_false]]
    exact Rd0.run KZ_ok (q6_10 a b) ⟨⟨⟨⟨⟨⟨⟨⟨⟨⟨⟨⟨⟨⟨⟨⟨trivial, g0⟩, g1⟩, g2⟩, g3⟩, trivial⟩, trivial⟩, trivial⟩, g4⟩, g5⟩, g6⟩, g7⟩, g8⟩, g9⟩, trivial⟩, trivial⟩, g10⟩ rfl
  by_cases g11 : ((a.d2 == b.d2)) = true
  rotate_left
  · have g11 : ((a.d2 == b.d2)) = false := Bool.eq_false_iff.2 g11
    rw [show msg0 a b = false by simp only [msg0, op0, at0, ZV.m, g0, g1, g2, g3, g4, g5, g6, g7, g8, g9, g10, g11, Bool.false_and, Bool.true_and, Bool.and_false]]
    exact Rd0.run KZ_ok (q6_11 a b) ⟨⟨⟨⟨⟨⟨⟨⟨⟨⟨⟨⟨⟨⟨⟨⟨⟨trivial, g0⟩, g1⟩, g2⟩, g3⟩, trivial⟩, trivial⟩, trivial⟩, g4⟩, g5⟩, g6⟩, g7⟩, g8⟩, g9⟩, trivial⟩, trivial⟩, g10⟩, g11⟩ rfl
  rw [show msg0 a b = true by simp only [msg0, op0, at0, ZV.m, g0, g1, g2, g3, g4, g5, g6, g7, g8, g9, g10, g11, Bool.true_and]]
  exact Rd0.run KZ_ok (q6_12 a b) ⟨⟨⟨⟨⟨⟨⟨⟨⟨⟨⟨⟨⟨⟨⟨⟨⟨⟨trivial, g0⟩, g1⟩, g2⟩, g3⟩, trivial⟩, trivial⟩, trivial⟩, g4⟩, g5⟩, g6⟩, g7⟩, g8⟩, g9⟩, trivial⟩, trivial⟩, g10⟩, g11⟩, trivial⟩ rfl
theorem q7_0 (a b : ZV) : (callZ KZ 7 [a.m.v, b.m.v] [some false]).map (fun r => (r.1, r.2.obl)) = some (.bool false, (True ∧ (a.k == b.k) = false)) := by kernel_rfl
theorem q7_1 (a b : ZV) : (callZ KZ 7 [a.m.v, b.m.v] [some true, none, none, none, none, none, some false]).map (fun r => (r.1, r.2.obl)) = some (.bool false, (((True ∧ (a.k == b.k) = true) ∧ True) ∧ op0 a.m.op b.m.op = false)) := by kernel_rfl
theorem q7_2 (a b : ZV) : (callZ KZ 7 [a.m.v, b.m.v] [some true, none, none, none, none, none, some true, none, none, none, none, none, none, none, none, none, none, none, none, none, none, none, none, none, some false]).map (fun r => (r.1, r.2.obl)) = some (.bool false, (((((((True ∧ (a.k == b.k) = true) ∧ True) ∧ op0 a.m.op b.m.op = true) ∧ True) ∧ True) ∧ True) ∧ at0 a.m.at_ b.m.at_ = false)) := by kernel_rfl
theorem q7_3 (a b : ZV) : (callZ KZ 7 [a.m.v, b.m.v] [some true, none, none, none, none, none, some true, none, none, none, none, none, none, none, none, none, none, none, none, none, none, none, none, none, some true, none, none, none, none, none, some false]).map (fun r => (r.1, r.2.obl)) = some (.bool false, ((((((((True ∧ (a.k == b.k) = true) ∧ True) ∧ op0 a.m.op b.m.op = true) ∧ True) ∧ True) ∧ True) ∧ at0 a.m.at_ b.m.at_ = true) ∧ (a.d1 == b.d1) = false)) := by kernel_rfl
theorem q7_4 (a b : ZV) : (callZ KZ 7 [a.m.v, b.m.v] [some true, none, none, none, none, none, some true, none, none, none, none, none, none, none, none, none, none, none, none, none, none, none, none, none, some true, none, none, none, none, none, some true, none, none, none, none, none, some false]).map (fun r => (r.1, r.2.obl)) = some (.bool false, (((((((((True ∧ (a.k == b.k) = true) ∧ True) ∧ op0 a.m.op b.m.op = true) ∧ True) ∧ True) ∧ True) ∧ at0 a.m.at_ b.m.at_ = true) ∧ (a.d1 == b.d1) = true) ∧ (a.d2 == b.d2) = false)) := by kernel_rfl
theorem q7_5 (a b : ZV) : (callZ KZ 7 [a.m.v, b.m.v] [some true, none, none, none, none, none, some true, none, none, none, none, none, none, none, none, none, none, none, none, none, none, none, none, none, some true, none, none, none, none, none, some true, none, none, none, none, none, some true]).map (fun r => (r.1, r.2.obl)) = some (.bool true, (((((((((True ∧ (a.k == b.k) = true) ∧ True) ∧ op0 a.m.op b.m.op = true) ∧ True) ∧ True) ∧ True) ∧ at0 a.m.at_ b.m.at_ = true) ∧ (a.d1 == b.d1) = true) ∧ (a.d2 == b.d2) = true)) := by kernel_rfl
theorem rq7 (a b : ZV) : Rd0 7 [a.m.v, b.m.v] (.bool (msg0 a b)) := by
  by_cases g0 : ((a.k == b.k)) = true
  rotate_left
  · have g0 : ((a.k == b.k)) = false := Bool.eq_false_iff.2 g0
    rw [show msg0 a b = false by simp only [msg0, g0, Bool.false_and, Bool.true_and, Bool.and_false]]
    exact Rd0.run KZ_ok (q7_0 a b) ⟨trivial, g0⟩ rfl
  by_cases g1 : (op0 a.m.op b.m.op) = true
  rotate_left
  · have g1 : (op0 a.m.op b.m.op) = false := Bool.eq_false_iff.2 g1
    rw [show msg0 a b = false by simp only [msg0, g0, g1, Bool.false_and, Bool.true_and, Bool.and_false]]
    exact Rd0.run KZ_ok (q7_1 a b) ⟨⟨⟨trivial, g0⟩, trivial⟩, g1⟩ rfl
  by_cases g2 : (at0 a.m.at_ b.m.at_) = true
  rotate_left
  · have g2 : (at0 a.m.at_ b.m.at_) = false := Bool.eq_false_iff.2 g2
    rw [show msg0 a b = false by simp only [msg0, g0, g1, g2, Bool.false_and, Bool.true_and, Bool.and_false]]
    exact Rd0.run KZ_ok (q7_2 a b) ⟨⟨⟨⟨⟨⟨⟨trivial, g0⟩, trivial⟩, g1⟩, trivial⟩, trivial⟩, trivial⟩, g2⟩ rfl
  by_cases g3 : ((a.d1 == b.d1)) = true
  rotate_left
  · have g3 : ((a.d1 == b.d1)) = false := Bool.eq_false_iff.2 g3
    rw [show msg0 a b = false by simp only [msg0, g0, g1, g2, g3, Bool.false_and, Bool.true_and, Bool.and_false]]
    exact Rd0.run KZ_ok (q7_3 a b) ⟨⟨⟨⟨⟨⟨⟨⟨trivial, g0⟩, trivial⟩, g1⟩, trivial⟩, trivial⟩, trivial⟩, g2⟩, g3⟩ rfl
  by_cases g4 : ((a.d2 == b.d2)) = true
  rotate_left
  · have g4 : ((a.d2 == b.d2)) = false := Bool.eq_false_iff.2 g4
    rw [show msg0 a b = false by simp only [msg0, g0, g1, g2, g3, g4, Bool.false_and, Bool.true_and, Bool.and_false]]
    exact Rd0.run KZ_ok (q7_4 a b) ⟨⟨⟨⟨⟨⟨⟨⟨⟨trivial, g0⟩, trivial⟩, g1⟩, trivial⟩, trivial⟩, trivial⟩, g2⟩, g3⟩, g4⟩ rfl
  rw [show msg0 a b = true by simp only [msg0, g0, g1, g2, g3, g4, Bool.true_and]]
  exact Rd0.run KZ_ok (q7_5 a b) ⟨⟨⟨⟨⟨⟨⟨⟨⟨trivial, g0⟩, trivial⟩, g1⟩, trivial⟩, trivial⟩, trivial⟩, g2⟩, g3⟩, g4⟩ rfl
noncomputable def zvOf (l : List Value) : Option ZV := match l with
  | [.int .i64 k, .int .u32 o1, .int .u16 o2, .int .u32 o3, .slice (some ⟨0, 0, some 1003⟩) 0 0, .slice (some ⟨0, 0, some 1004⟩) 0 0, .slice (some ⟨0, 0, some 1004⟩) 0 0, .int .u8 a1, .slice (some ⟨0, 0, some 1002⟩) 0 0, .int .u32 a2, .bool a3, .int .u32 a4, .bool a5, .int .u32 a6, .slice (some ⟨0, 0, some 1001⟩) 0 0, .int .u8 d1, .int .u8 d2, .slice (some ⟨0, 0, some 1000⟩) 0 0] => some ⟨k, o1, o2, o3, a1, a2, a3, a4, a5, a6, d1, d2⟩
  | _ => none
theorem zvOf_eq {l : List Value} {m : ZV} (h : zvOf l = some m) : l = m.m.l := by
  unfold zvOf at h
  split at h
  · cases h; rfl
  · cases h
theorem y4 (a : ZV) : (callZ KN 4 [a.m.v] []).map (fun r => (r.1, r.2.obl)) = some (.bool true, True) := by kernel_rfl
noncomputable def T9 (f : FuncId) (args : List Value) : Option Value :=
  if f == 4 then (match args with
    | [.agg a] => (match zvOf a.toList with
      | some A => some (.bool true)
      | none => none)
    | _ => none)
  else if f == 6 || f == 7 then (match args with
    | [.agg a, .agg b] => (match zvOf a.toList with
      | some A => (match zvOf b.toList with
        | some B => some (.bool (msg0 A B))
        | none => none)
      | none => none)
    | _ => none)
  else none
theorem T9_ok (f : FuncId) (args : List Value) (v : Value) (h : T9 f args = some v) : flat v = true ∧ args.all farV = true ∧ Rd0 f args v := by
  unfold T9 at h
  split at h
  · rename_i hf
    have hf : f = 4 := by simpa using hf
    subst hf
    split at h
    · split at h
      · rename_i a A ha
        cases h
        have ea := agg_eq (zvOf_eq ha)
        subst ea
        exact ⟨rfl, by show (farV A.m.v && true) = true; rw [far_v]; rfl, Rd0.run KN_ok (y4 A) trivial rfl⟩
      · cases h
    · cases h
  · split at h
    · rename_i _ hf
      have hf : f = 6 ∨ f = 7 := by simpa using hf
      split at h
      · split at h
        · rename_i a b A ha
          split at h
          · rename_i B hb
            cases h
            have ea := agg_eq (zvOf_eq ha)
            have eb := agg_eq (zvOf_eq hb)
            subst ea
            subst eb
            refine ⟨rfl, by show (farV A.m.v && (farV B.m.v && true)) = true; rw [far_v, far_v]; rfl, ?_⟩
            rcases hf with rfl | rfl
            · exact rq6 A B
            · exact rq7 A B
          · cases h
        · cases h
      · cases h
    · cases h
noncomputable def K9 : Given := { K0 T9 (Given.one 5 (.bool true)) with fits := true }
theorem K9_ok : GivenOk Tryz.prog K9 := frames_fits (K0_ok (GivenOk.one (P := Tryz.prog) (f := 5) (v := .bool true) rfl works) T9_ok) true
theorem m9 (a b : ZV) : (callZ K9 3 [a.m.v, b.m.v] [none, none, none, none, none, some true, some true, some true, some true, some true, some true]).map (fun r => (r.1, r.2.obl)) = some (.bool true, (((((((((((True ∧ True) ∧ True) ∧ True) ∧ True) ∧ (msg0 a b == msg0 a b) = true) ∧ (msg0 a b == msg0 a b) = true) ∧ (msg0 a b == msg0 a b) = true) ∧ True) ∧ (msg0 a b == msg0 a b) = true) ∧ msg0 a a = true) ∧ msg0 a a = true)) := by kernel_rfl
theorem msg0_self (a : ZV) : msg0 a a = true := by unfold msg0 op0 at0; simp
theorem msgSame {W : World} {a b : CW} (ha : Typed W a) (hb : Typed W b) : Calls Tryz.prog 3 #[.agg a.l.toArray, .agg b.l.toArray] W fun e w' => e = .returned (.bool true) ∧ Go.RowKit.Below W.heap.size W w' := by
  rcases Nat.eq_zero_or_pos W.heap.size with h0 | h0
  · have s := beq_self_eq_true (msg0 a.z b.z)
    have r : Rd0 3 [a.z.m.v, b.z.m.v] (.bool true) := Rd0.run K9_ok (m9 a.z b.z) ⟨⟨⟨⟨⟨⟨⟨⟨⟨⟨⟨trivial, trivial⟩, trivial⟩, trivial⟩, trivial⟩, s⟩, s⟩, s⟩, trivial⟩, s⟩, msg0_self a.z⟩, msg0_self a.z⟩ rfl
    have d0 : Dm (St.start 1 .leaf []) 0 := ⟨Nat.zero_lt_one, rfl⟩
    have ea := ha.vr (N := Dm (St.start 1 .leaf [])) (ρ := fun _ => ⟨0, 0, 0⟩) d0
    have eb := hb.vr (N := Dm (St.start 1 .leaf [])) (ρ := fun _ => ⟨0, 0, 0⟩) d0
    rw [ha.zero h0] at ea
    rw [hb.zero h0] at eb
    exact r _ W [.agg a.l.toArray, .agg b.l.toArray] (Go.Cln.VL.cons ea (Go.Cln.VL.cons eb Go.Cln.VL.nil))
  · exact lawW h0 ha hb
end
end ob
end Go.Proofs.YtopgddoncehhnaaGreat
