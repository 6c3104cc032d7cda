/- Read off the code by the clean reading. -/
import Derived.Test.YteknepfcbpoooaaClnQc
import Derived.Test.YteknepfcbpoooaaClnSa
set_option linter.unusedVariables false
set_option linter.unusedSimpArgs false
set_option linter.deprecated false
set_option maxRecDepth 100000
namespace Go.Proofs.Yteknepfcbpoooaa
open Go.ChangeShapes Go.WideShapes Go.ChangeAt Go.RowKit Go.Cln
namespace hv
set_option linter.unusedVariables false
noncomputable section
open hc
noncomputable def EH (L : List Int) (o n c po pl pc : Nat) (b : Nat → Int) (rn : Int) (s : sw.N5) (sz z0 z1 z2 : Int) : Nat → Option Ob := fun i => match i with
  | 0 => some (.cells (.ints .u8 L) 5)
  | 1 => some (.cells (.lit (rowV .u8 64 b ++ (.int .i64 rn :: (s.row ++ [.int .i64 sz, .bool true])))) 73)
  | 2 => some (.cells (.lit ([.pointer (some ⟨1, 0, none⟩)])) 47)
  | 3 => some (.cells (.lit ([.slice (some ⟨0, o, some 1⟩) n c])) 22)
  | 4 => some (.cells (.lit ([.pointer (some ⟨1, 0, none⟩)])) 80)
  | 5 => some (.cells (.lit ([.slice (some ⟨3, 0, none⟩) 1 1])) 27)
  | 6 => some (.marks)
  | 7 => some (.loop ⟨.ready, none, [.pointer (some ⟨1, 0, none⟩), .slice (some ⟨0, o, some 1⟩) n c, .pointer (some ⟨2, 0, none⟩), undef, .int .i64 0, undef, .pointer (some ⟨1, 0, none⟩), .bool false, .pointer (some ⟨1, 0, none⟩), .pointer (some ⟨1, 0, none⟩), .pointer (some ⟨1, 70, none⟩), .int .i64 z0, .slice (some ⟨0, o, some 1⟩) n c, .int .i64 z1, .int .i64 z2, .pointer (some ⟨1, 0, none⟩), .pointer (some ⟨1, 70, none⟩), .pointer (some ⟨1, 0, none⟩), .pointer (some ⟨1, 0, none⟩), .pointer (some ⟨1, 0, none⟩), .slice (some ⟨0, o, some 1⟩) n c, .slice (some ⟨3, 0, none⟩) 1 1, .func (.func 40) #[] #[.pointer (some ⟨5, 0, none⟩), .pointer (some ⟨4, 0, none⟩)]] ++ U 10, #[23], (rngAt Try.prog 22 0).2.1, (rngAt Try.prog 22 0).2.2, 6⟩)
  | _ => none
noncomputable def E (L : List Int) (o n c po pl pc : Nat) (b : Nat → Int) (rn : Int) (s : sw.N5) (sz z0 z1 z2 : Int) : St := ⟨[.func (.yield 7) #[] #[], .pointer (some ⟨5, 0, none⟩), .pointer (some ⟨4, 0, none⟩), undef, undef, .slice (some ⟨0, po, some 1⟩) pl pc, undef, .slice (some ⟨3, 0, none⟩) 1 1, .int .i64 1, .int .i64 0, .bool true, .pointer (some ⟨3, 0, none⟩), .slice (some ⟨0, o, some 1⟩) n c] ++ U 40, [], Tr.rebuild (EH L o n c po pl pc b rn s sz z0 z1 z2) 8, 8, 1, [], fun _ => false, True, []⟩
noncomputable def RH (L : List Int) (o n c po pl pc : Nat) (b : Nat → Int) (rn : Int) (s : sw.N5) (sz z0 z1 z2 : Int) : Nat → Option Ob := fun i => match i with
  | 0 => some (.cells (.ints .u8 L) 5)
  | 1 => some (.cells (.lit (rowV .u8 64 b ++ (.int .i64 rn :: (s.row ++ [.int .i64 sz, .bool true])))) 73)
  | 2 => some (.cells (.lit ([.pointer (some ⟨1, 0, none⟩)])) 47)
  | 3 => some (.cells (.lit ([.slice (some ⟨0, o, some 1⟩) n c])) 22)
  | 4 => some (.cells (.lit ([.pointer (some ⟨1, 0, none⟩)])) 80)
  | 5 => some (.cells (.lit ([.slice (some ⟨3, 0, none⟩) 1 1])) 27)
  | 6 => some (.marks)
  | 7 => some (.loop ⟨.ready, none, [.pointer (some ⟨1, 0, none⟩), .slice (some ⟨0, o, some 1⟩) n c, .pointer (some ⟨2, 0, none⟩), undef, .int .i64 0, undef, .pointer (some ⟨1, 0, none⟩), .bool false, .pointer (some ⟨1, 0, none⟩), .pointer (some ⟨1, 0, none⟩), .pointer (some ⟨1, 70, none⟩), .int .i64 z0, .slice (some ⟨0, o, some 1⟩) n c, .int .i64 z1, .int .i64 z2, .pointer (some ⟨1, 0, none⟩), .pointer (some ⟨1, 70, none⟩), .pointer (some ⟨1, 0, none⟩), .pointer (some ⟨1, 0, none⟩), .pointer (some ⟨1, 0, none⟩), .slice (some ⟨0, o, some 1⟩) n c, .slice (some ⟨3, 0, none⟩) 1 1, .func (.func 40) #[] #[.pointer (some ⟨5, 0, none⟩), .pointer (some ⟨4, 0, none⟩)]] ++ U 10, #[23], (rngAt Try.prog 22 0).2.1, (rngAt Try.prog 22 0).2.2, 6⟩)
  | _ => none
noncomputable def R (L : List Int) (o n c po pl pc : Nat) (b : Nat → Int) (rn : Int) (s : sw.N5) (sz z0 z1 z2 : Int) : St := ⟨[.func (.yield 7) #[] #[], .pointer (some ⟨5, 0, none⟩), .pointer (some ⟨4, 0, none⟩), undef, undef, .slice (some ⟨0, po, some 1⟩) pl pc, junk, .slice (some ⟨3, 0, none⟩) 1 1, .int .i64 1, .int .i64 0, .bool true, .pointer (some ⟨3, 0, none⟩), .slice (some ⟨0, o, some 1⟩) n c, junk, junk, .bool true, .pointer (some ⟨1, 0, none⟩), .pointer (some ⟨1, 0, none⟩), .pointer (some ⟨1, 0, none⟩), .pointer (some ⟨1, 0, none⟩), .pointer (some ⟨1, 0, none⟩), .pointer (some ⟨1, 64, none⟩)] ++ J 7 ++ [.pointer (some ⟨1, 0, none⟩), .pointer (some ⟨1, 0, none⟩), .pointer (some ⟨1, 64, none⟩)] ++ J 3 ++ [.pointer (some ⟨1, 0, none⟩), .pointer (some ⟨1, 64, none⟩), .pointer (some ⟨1, 0, none⟩), .pointer (some ⟨1, 0, none⟩), .pointer (some ⟨1, 64, none⟩), junk, .bool false, .pointer (some ⟨1, 0, none⟩), .pointer (some ⟨1, 0, none⟩), .pointer (some ⟨1, 64, none⟩), .func (.yield 7) #[] #[], .pointer (some ⟨1, 0, none⟩), .pointer (some ⟨1, 0, none⟩), .pointer (some ⟨1, 0, none⟩), .agg #[junk, junk, junk, junk, junk, junk, junk, junk, junk, junk, junk, junk, junk, junk, junk, junk, junk, junk, junk, junk, junk, junk, junk, junk, junk, junk, junk, junk, junk, junk, junk, junk, junk, junk, junk, junk, junk, junk, junk, junk, junk, junk, junk, junk, junk, junk, junk, junk, junk, junk, junk, junk, junk, junk, junk, junk, junk, junk, junk, junk, junk, junk, junk, junk], .bool true, .bool false, undef], [], Tr.rebuild (RH L o n c po pl pc b rn s sz z0 z1 z2) 8, 8, 1, [], fun _ => false, True, []⟩
noncomputable def XH (L : List Int) (o n c : Nat) (b : Nat → Int) (rn : Int) (s : sw.N5) (sz z0 z1 z2 : Int) : Nat → Option Ob := fun i => match i with
  | 0 => some (.cells (.ints .u8 L) 5)
  | 1 => some (.cells (.lit (rowV .u8 64 b ++ (.int .i64 rn :: (s.row ++ [.int .i64 sz, .bool true])))) 73)
  | 2 => some (.cells (.lit ([.pointer (some ⟨1, 0, none⟩)])) 47)
  | 3 => some (.cells (.lit ([.slice (some ⟨0, o, some 1⟩) n c])) 22)
  | 4 => some (.cells (.lit ([.pointer (some ⟨1, 0, none⟩)])) 80)
  | 5 => some (.cells (.lit ([.slice (some ⟨3, 0, none⟩) 1 1])) 27)
  | 6 => some (.marks)
  | 7 => some (.loop ⟨.ready, none, [.pointer (some ⟨1, 0, none⟩), .slice (some ⟨0, o, some 1⟩) n c, .pointer (some ⟨2, 0, none⟩), undef, .int .i64 0, undef, .pointer (some ⟨1, 0, none⟩), .bool false, .pointer (some ⟨1, 0, none⟩), .pointer (some ⟨1, 0, none⟩), .pointer (some ⟨1, 70, none⟩), .int .i64 z0, .slice (some ⟨0, o, some 1⟩) n c, .int .i64 z1, .int .i64 z2, .pointer (some ⟨1, 0, none⟩), .pointer (some ⟨1, 70, none⟩), .pointer (some ⟨1, 0, none⟩), .pointer (some ⟨1, 0, none⟩), .pointer (some ⟨1, 0, none⟩), .slice (some ⟨0, o, some 1⟩) n c, .slice (some ⟨3, 0, none⟩) 1 1, .func (.func 40) #[] #[.pointer (some ⟨5, 0, none⟩), .pointer (some ⟨4, 0, none⟩)]] ++ U 10, #[23], (rngAt Try.prog 22 0).2.1, (rngAt Try.prog 22 0).2.2, 6⟩)
  | _ => none
noncomputable def X (L : List Int) (o n c : Nat) (b : Nat → Int) (rn : Int) (s : sw.N5) (sz z0 z1 z2 : Int) : St := ⟨[.func (.yield 7) #[] #[], .pointer (some ⟨5, 0, none⟩), .pointer (some ⟨4, 0, none⟩), undef, undef, junk, junk, .slice (some ⟨3, 0, none⟩) 1 1, .int .i64 1, .int .i64 0, .bool true, .pointer (some ⟨3, 0, none⟩), .slice (some ⟨0, o, some 1⟩) n c, junk, junk, junk, .pointer (some ⟨1, 0, none⟩), .pointer (some ⟨1, 0, none⟩), .pointer (some ⟨1, 0, none⟩), .pointer (some ⟨1, 0, none⟩), .pointer (some ⟨1, 0, none⟩), .pointer (some ⟨1, 64, none⟩)] ++ J 7 ++ [.pointer (some ⟨1, 0, none⟩), .pointer (some ⟨1, 0, none⟩), .pointer (some ⟨1, 64, none⟩)] ++ J 3 ++ [.pointer (some ⟨1, 0, none⟩), .pointer (some ⟨1, 64, none⟩), .pointer (some ⟨1, 0, none⟩), .pointer (some ⟨1, 0, none⟩), .pointer (some ⟨1, 64, none⟩), junk, junk, .pointer (some ⟨1, 0, none⟩), .pointer (some ⟨1, 0, none⟩), .pointer (some ⟨1, 64, none⟩), .func (.yield 7) #[] #[], .pointer (some ⟨1, 0, none⟩), .pointer (some ⟨1, 0, none⟩), .pointer (some ⟨1, 0, none⟩), .agg #[junk, junk, junk, junk, junk, junk, junk, junk, junk, junk, junk, junk, junk, junk, junk, junk, junk, junk, junk, junk, junk, junk, junk, junk, junk, junk, junk, junk, junk, junk, junk, junk, junk, junk, junk, junk, junk, junk, junk, junk, junk, junk, junk, junk, junk, junk, junk, junk, junk, junk, junk, junk, junk, junk, junk, junk, junk, junk, junk, junk, junk, junk, junk, junk], .bool true, .bool false, undef], [], Tr.rebuild (XH L o n c b rn s sz z0 z1 z2) 8, 8, 1, [], fun _ => false, True, []⟩
noncomputable def pR (L : List Int) (po pl pc : Nat) (rn : Int) (e : Bool) : Prop := ((((True ∧ decide ((pl : Int) > 0) = true) ∧ (0 ≤ ((64 : Nat) : Int) ∧ ((64 : Nat) : Int) ≤ ((64 : Nat) : Int) ∧ 0 ≤ rn ∧ rn ≤ ((64 : Nat) : Int))) ∧ (po + mm rn pl ≤ L.length ∧ 0 ≤ 0 + rn.toNat * 1 ∧ 0 + rn.toNat * 1 + mm rn pl ≤ 64)) ∧ (0 ≤ (pl : Int) ∧ (pl : Int) ≤ (pc : Int) ∧ 0 ≤ ((mm rn pl : Nat) : Int) ∧ ((mm rn pl : Nat) : Int) ≤ (pl : Int))) ∧ decide (IntKind.i64.wrap (rn + ((mm rn pl : Nat) : Int)) < 64) = e
theorem kE (B : BF) (L : List Int) (o n c po pl pc : Nat) (b : Nat → Int) (rn : Int) (s : sw.N5) (sz z0 z1 z2 : Int) (rd : Option Nat) : ((mk Try.prog (Given.calls (FB B)) 200).code 40 rd body { E L o n c po pl pc b rn s sz z0 z1 z2 with obl := True, orc := [some true, some true, some true, some false] }).map (fun r => (r.1, r.2.obl, seenIn r.2 (R L o n c (po + ((mm rn pl : Nat) : Int).toNat * 1) ((pl : Int).toNat - ((mm rn pl : Nat) : Int).toNat) (pc - ((mm rn pl : Nat) : Int).toNat) (nb L po pl b rn) 0 (B s (intAt (rowV .u8 64 (nb L po pl b rn)))) sz z0 z1 z2) [])) = some (.normal, pR L po pl pc rn false, seenAs (R L o n c (po + ((mm rn pl : Nat) : Int).toNat * 1) ((pl : Int).toNat - ((mm rn pl : Nat) : Int).toNat) (pc - ((mm rn pl : Nat) : Int).toNat) (nb L po pl b rn) 0 (B s (intAt (rowV .u8 64 (nb L po pl b rn)))) sz z0 z1 z2) [] 9) := by kernel_rfl
theorem kR (B : BF) (L : List Int) (o n c po pl pc : Nat) (b : Nat → Int) (rn : Int) (s : sw.N5) (sz z0 z1 z2 : Int) (rd : Option Nat) : ((mk Try.prog (Given.calls (FB B)) 200).code 40 rd body { R L o n c po pl pc b rn s sz z0 z1 z2 with obl := True, orc := [some true, some true, some true, some false] }).map (fun r => (r.1, r.2.obl, seenIn r.2 (R L o n c (po + ((mm rn pl : Nat) : Int).toNat * 1) ((pl : Int).toNat - ((mm rn pl : Nat) : Int).toNat) (pc - ((mm rn pl : Nat) : Int).toNat) (nb L po pl b rn) 0 (B s (intAt (rowV .u8 64 (nb L po pl b rn)))) sz z0 z1 z2) [])) = some (.normal, pR L po pl pc rn false, seenAs (R L o n c (po + ((mm rn pl : Nat) : Int).toNat * 1) ((pl : Int).toNat - ((mm rn pl : Nat) : Int).toNat) (pc - ((mm rn pl : Nat) : Int).toNat) (nb L po pl b rn) 0 (B s (intAt (rowV .u8 64 (nb L po pl b rn)))) sz z0 z1 z2) [] 9) := by kernel_rfl
theorem kP (B : BF) (L : List Int) (o n c po pl pc : Nat) (b : Nat → Int) (rn : Int) (s : sw.N5) (sz z0 z1 z2 : Int) (rd : Option Nat) : ((mk Try.prog (Given.calls (FB B)) 200).code 40 rd body { R L o n c po pl pc b rn s sz z0 z1 z2 with obl := True, orc := [some true, some true, some true, some true] }).map (fun r => (r.1, r.2.obl, seenIn r.2 (X L o n c (nb L po pl b rn) (IntKind.i64.wrap (rn + ((mm rn pl : Nat) : Int))) s sz z0 z1 z2) [])) = some (.exit 2, pR L po pl pc rn true, seenAs (X L o n c (nb L po pl b rn) (IntKind.i64.wrap (rn + ((mm rn pl : Nat) : Int))) s sz z0 z1 z2) [] 8) := by kernel_rfl
theorem kX (B : BF) (L : List Int) (o n c po pl pc : Nat) (b : Nat → Int) (rn : Int) (s : sw.N5) (sz z0 z1 z2 : Int) (rd : Option Nat) : ((mk Try.prog (Given.calls (FB B)) 200).code 40 rd body { R L o n c po pl pc b rn s sz z0 z1 z2 with obl := True, orc := [some false] }).map (fun r => (r.1, r.2.obl, seenIn r.2 (X L o n c b rn s sz z0 z1 z2) [])) = some (.exit 2, True ∧ decide ((pl : Int) > 0) = false, seenAs (X L o n c b rn s sz z0 z1 z2) [] 8) := by kernel_rfl
end
end hv
end Go.Proofs.Yteknepfcbpoooaa
namespace Go.Proofs.Yteknepfcbpoooaa
open Go.ChangeShapes Go.WideShapes Go.ChangeAt Go.RowKit Go.Cln
namespace hv
open hc
set_option linter.unusedVariables false
noncomputable section
theorem pR_of {L : List Int} {po pl pc : Nat} {rn : Int} {e : Bool} (h0 : 0 ≤ rn) (h1 : rn < 64) (h2 : po + pl ≤ L.length) (h3 : pl ≤ pc) (h4 : 0 < pl) (h5 : (rn.toNat + pl < 64) = (e = true)) : pR L po pl pc rn e := by
  obtain ⟨m1, m2, m3⟩ := mm_le rn pl
  unfold pR
  refine ⟨⟨⟨⟨⟨trivial, by rw [decide_eq_true_eq]; omega⟩, by omega⟩, by omega⟩, by omega⟩, ?_⟩
  have ew : IntKind.i64.wrap (rn + ((mm rn pl : Nat) : Int)) = rn + ((mm rn pl : Nat) : Int) := by rw [IntKind.wrap_i64]; omega
  rw [ew]
  cases e with
  | true => have : rn.toNat + pl < 64 := by rw [h5]
            rw [decide_eq_true_eq]; omega
  | false => have : ¬ rn.toNat + pl < 64 := by rw [h5]; simp
             rw [decide_eq_false_iff_not]; omega
theorem stE0 (L : List Int) (o n c po pl pc : Nat) (b : Nat → Int) (rn : Int) (s : sw.N5) (sz z0 z1 z2 : Int)  (rd : Option Nat) (hp : pR L po pl pc rn false) :
    Step Try.prog rd (E L o n c po pl pc b rn s sz z0 z1 z2) body (E L o n c po pl pc b rn s sz z0 z1 z2) (fun e t => e = .normal ∧ t = R L o n c (po + ((mm rn pl : Nat) : Int).toNat * 1) ((pl : Int).toNat - ((mm rn pl : Nat) : Int).toNat) (pc - ((mm rn pl : Nat) : Int).toNat) (nb L po pl b rn) 0 (sw.blk s (intAt (rowV .u8 64 (nb L po pl b rn)))) sz z0 z1 z2) :=
  Step.std sw.pg F_eq (kE sw.blk L o n c po pl pc b rn s sz z0 z1 z2 rd) hp (Nat.le_refl _) (g := RH L o n c (po + ((mm rn pl : Nat) : Int).toNat * 1) ((pl : Int).toNat - ((mm rn pl : Nat) : Int).toNat) (pc - ((mm rn pl : Nat) : Int).toNat) (nb L po pl b rn) 0 (sw.blk s (intAt (rowV .u8 64 (nb L po pl b rn)))) sz z0 z1 z2) rfl (by kernel_rfl)
theorem stR0 (L : List Int) (o n c po pl pc : Nat) (b : Nat → Int) (rn : Int) (s : sw.N5) (sz z0 z1 z2 : Int) (po0 pl0 pc0 : Nat) (b0 : Nat → Int) (rn0 : Int) (s0 : sw.N5) (rd : Option Nat) (hp : pR L po pl pc rn false) :
    Step Try.prog rd (E L o n c po0 pl0 pc0 b0 rn0 s0 sz z0 z1 z2) body (R L o n c po pl pc b rn s sz z0 z1 z2) (fun e t => e = .normal ∧ t = R L o n c (po + ((mm rn pl : Nat) : Int).toNat * 1) ((pl : Int).toNat - ((mm rn pl : Nat) : Int).toNat) (pc - ((mm rn pl : Nat) : Int).toNat) (nb L po pl b rn) 0 (sw.blk s (intAt (rowV .u8 64 (nb L po pl b rn)))) sz z0 z1 z2) :=
  Step.std sw.pg F_eq (kR sw.blk L o n c po pl pc b rn s sz z0 z1 z2 rd) hp (Nat.le_refl _) (g := RH L o n c (po + ((mm rn pl : Nat) : Int).toNat * 1) ((pl : Int).toNat - ((mm rn pl : Nat) : Int).toNat) (pc - ((mm rn pl : Nat) : Int).toNat) (nb L po pl b rn) 0 (sw.blk s (intAt (rowV .u8 64 (nb L po pl b rn)))) sz z0 z1 z2) rfl (by kernel_rfl)
theorem stP0 (L : List Int) (o n c po pl pc : Nat) (b : Nat → Int) (rn : Int) (s : sw.N5) (sz z0 z1 z2 : Int) (po0 pl0 pc0 : Nat) (b0 : Nat → Int) (rn0 : Int) (s0 : sw.N5) (rd : Option Nat) (hp : pR L po pl pc rn true) :
    Step Try.prog rd (E L o n c po0 pl0 pc0 b0 rn0 s0 sz z0 z1 z2) body (R L o n c po pl pc b rn s sz z0 z1 z2) (fun e t => e = .exit 2 ∧ t = X L o n c (nb L po pl b rn) (IntKind.i64.wrap (rn + ((mm rn pl : Nat) : Int))) s sz z0 z1 z2) :=
  Step.std sw.pg F_eq (kP sw.blk L o n c po pl pc b rn s sz z0 z1 z2 rd) hp (Nat.le_refl _) (g := XH L o n c (nb L po pl b rn) (IntKind.i64.wrap (rn + ((mm rn pl : Nat) : Int))) s sz z0 z1 z2) rfl (by kernel_rfl)
theorem stX (L : List Int) (o n c po pl pc : Nat) (b : Nat → Int) (rn : Int) (s : sw.N5) (sz z0 z1 z2 : Int) (po0 pl0 pc0 : Nat) (b0 : Nat → Int) (rn0 : Int) (s0 : sw.N5) (rd : Option Nat) (hp : True ∧ decide ((pl : Int) > 0) = false) :
    Step Try.prog rd (E L o n c po0 pl0 pc0 b0 rn0 s0 sz z0 z1 z2) body (R L o n c po pl pc b rn s sz z0 z1 z2) (fun e t => e = .exit 2 ∧ t = X L o n c b rn s sz z0 z1 z2) :=
  Step.std sw.pg F_eq (kX sw.blk L o n c po pl pc b rn s sz z0 z1 z2 rd) hp (Nat.le_refl _) (g := XH L o n c b rn s sz z0 z1 z2) rfl (by kernel_rfl)
theorem loopW (L : List Int) (o n c po pl pc : Nat) (b : Nat → Int) (rn : Int) (s : sw.N5) (sz z0 z1 z2 : Int) (rd : Option Nat) (h0 : 0 ≤ rn) (h1 : rn < 64) (h2 : po + pl ≤ L.length) (h3 : pl ≤ pc) (h5 : 64 ≤ rn.toNat + pl) :
    CodeOk Try.prog rd (.loop body) (E L o n c po pl pc b rn s sz z0 z1 z2) (.exit 2) (X L o n c (ab sw.blk L pl po pl b rn s).1 (ab sw.blk L pl po pl b rn s).2.1 (ab sw.blk L pl po pl b rn s).2.2 sz z0 z1 z2) := by
  refine CodeOk.of_step (Step.loop (fun k t => (k = pl ∧ t = E L o n c po pl pc b rn s sz z0 z1 z2) ∨ ∃ (po' pl' pc' : Nat) (b' : Nat → Int) (s' : sw.N5), k = pl' ∧ pl' < pl ∧ pl' ≤ pc' ∧ po' + pl' ≤ L.length ∧ t = R L o n c po' pl' pc' b' 0 s' sz z0 z1 z2 ∧ (∀ f, pl' ≤ f → ab sw.blk L f po' pl' b' 0 s' = ab sw.blk L pl po pl b rn s)) ?_ pl _ (.inl ⟨rfl, rfl⟩))
  rintro k t (⟨rfl, rfl⟩ | ⟨po', pl', pc', b', s', rfl, g1, g2, g3, rfl, g4⟩)
  · refine (stE0 L o n c po k pc b rn s sz z0 z1 z2 rd (pR_of h0 h1 h2 h3 (by omega) (by simp; omega))).mono ?_
    rintro e t ⟨rfl, rfl⟩
    obtain ⟨m1, m2, m3⟩ := mm_le rn k
    obtain ⟨e1, e2, e3⟩ := nx_eq rn po k pc
    exact .inl ⟨rfl, k - mm rn k, by omega, .inr ⟨po + mm rn k, k - mm rn k, pc - mm rn k, _, _, rfl, by omega, by omega, by omega, by rw [e1, e2, e3], fun f hf => ab_next h1 (by omega) (by omega) (Nat.le_refl _) hf⟩⟩
  · by_cases hz : k = 0
    · subst hz
      refine (stX L o n c po' 0 pc' b' 0 s' sz z0 z1 z2 po pl pc b rn s rd ⟨trivial, by simp⟩).mono ?_
      rintro e t ⟨rfl, rfl⟩
      refine .inr ⟨(by intro x; cases x), rfl, ?_⟩
      rw [← g4 0 (by omega), ab_zero]
    · by_cases hp : (0 : Int).toNat + k < 64
      · refine (stP0 L o n c po' k pc' b' 0 s' sz z0 z1 z2 po pl pc b rn s rd (pR_of (by omega) (by omega) g3 g2 (by omega) (by simp at hp ⊢; omega))).mono ?_
        rintro e t ⟨rfl, rfl⟩
        refine .inr ⟨(by intro x; cases x), rfl, ?_⟩
        rw [← g4 k (by omega), ab_part (by omega) (Nat.le_refl _) hp]
        obtain ⟨m1, m2, m3⟩ := mm_le 0 k
        have ew : IntKind.i64.wrap ((0 : Int) + ((mm 0 k : Nat) : Int)) = 0 + (k : Int) := by rw [IntKind.wrap_i64]; omega
        rw [ew]
      · refine (stR0 L o n c po' k pc' b' 0 s' sz z0 z1 z2 po pl pc b rn s rd (pR_of (by omega) (by omega) g3 g2 (by omega) (by simp at hp ⊢; omega))).mono ?_
        rintro e t ⟨rfl, rfl⟩
        obtain ⟨m1, m2, m3⟩ := mm_le 0 k
        obtain ⟨e1, e2, e3⟩ := nx_eq 0 po' k pc'
        exact .inl ⟨rfl, k - mm 0 k, by omega, .inr ⟨po' + mm 0 k, k - mm 0 k, pc' - mm 0 k, _, _, rfl, by omega, by omega, by omega, by rw [e1, e2, e3], fun f hf => (ab_next (by omega) (by omega) hp (Nat.le_refl _) hf).trans (g4 k (Nat.le_refl _))⟩⟩
end
end hv
end Go.Proofs.Yteknepfcbpoooaa
namespace Go.Proofs.Yteknepfcbpoooaa
open Go.ChangeShapes Go.WideShapes Go.ChangeAt Go.RowKit Go.Cln
namespace hv
open hc
set_option linter.unusedVariables false
noncomputable section
noncomputable def askW (X : St) (f : FuncId) (c : Code) (S : St) : Option Ask2 := if f == 40 then match getL S.tmps 5 with
  | .slice (some _) _ _ => some ⟨⟨[], [], [], []⟩, .exit 2, fun _ => X⟩
  | _ => none else none
theorem wC (L : List Int) (o n c : Nat) (b : Nat → Int) (rn : Int) (s : sw.N5) (sz : Int) (b1 : Nat → Int) (rn1 : Int) (s1 : sw.N5) : ((mk Try.prog (Given.asking2 Given.nothing Try.prog (askW (X L o n c b1 rn1 s1 (IntKind.i64.wrap (sz + (n : Int))) sz (n : Int) (IntKind.i64.wrap (sz + (n : Int)))))) 200).call 22 [.pointer (some ⟨1, 0, none⟩), .slice (some ⟨0, o, (some 1)⟩) n c] (smSt 1 [some (Ob.cells (.ints .u8 L) 5), some (Ob.cells (.lit (rowV .u8 64 b ++ (.int .i64 rn :: ((s).row ++ [.int .i64 sz, .bool true])))) 73)] [])).map (fun r => (r.1, r.2.obl, r.2.next, keepL [true, true, false, false, false, false, false, false] r.2.heap.get 0)) = some (.int .i64 0, True ∧ (∀ rd, CodeOk Try.prog rd (.loop body) (E L o n c o n c b rn s (IntKind.i64.wrap (sz + (n : Int))) sz (n : Int) (IntKind.i64.wrap (sz + (n : Int)))) (.exit 2) (X L o n c b1 rn1 s1 (IntKind.i64.wrap (sz + (n : Int))) sz (n : Int) (IntKind.i64.wrap (sz + (n : Int))))), (some (Ob.cells (.ints .u8 L) 5) :: some (Ob.cells (.lit (rowV .u8 64 b1 ++ (.int .i64 rn1 :: ((s1).row ++ [.int .i64 (IntKind.i64.wrap (sz + (n : Int))), .bool true])))) 73) :: List.replicate 6 none).length, (some (Ob.cells (.ints .u8 L) 5) :: some (Ob.cells (.lit (rowV .u8 64 b1 ++ (.int .i64 rn1 :: ((s1).row ++ [.int .i64 (IntKind.i64.wrap (sz + (n : Int))), .bool true])))) 73) :: List.replicate 6 none)) := by kernel_rfl
theorem wA (L : List Int) (o n c : Nat) (b : Nat → Int) (rn : Int) (s : sw.N5) (sz : Int) : ((mk Try.prog Given.nothing 200).call 22 [.pointer (some ⟨1, 0, none⟩), .slice (some ⟨0, o, (some 1)⟩) n c] (smSt 1 [some (Ob.cells (.ints .u8 L) 5), some (Ob.cells (.lit (rowV .u8 64 b ++ (.int .i64 rn :: ((s).row ++ [.int .i64 sz, .bool true])))) 73)] [none, none, none, none, none, none, none, none, none, some false])).map (fun r => (r.1, r.2.obl, r.2.next, keepL [true, true, false, false, false, false, false, false] r.2.heap.get 0)) = some (.int .i64 0, True ∧ decide ((n : Int) > 0) = false, (some (Ob.cells (.ints .u8 L) 5) :: some (Ob.cells (.lit (rowV .u8 64 b ++ (.int .i64 rn :: ((s).row ++ [.int .i64 (IntKind.i64.wrap (sz + (n : Int))), .bool true])))) 73) :: List.replicate 6 none).length, (some (Ob.cells (.ints .u8 L) 5) :: some (Ob.cells (.lit (rowV .u8 64 b ++ (.int .i64 rn :: ((s).row ++ [.int .i64 (IntKind.i64.wrap (sz + (n : Int))), .bool true])))) 73) :: List.replicate 6 none)) := by kernel_rfl
theorem wB (L : List Int) (o n c : Nat) (b : Nat → Int) (rn : Int) (s : sw.N5) (sz : Int) : ((mk Try.prog Given.nothing 200).call 22 [.pointer (some ⟨1, 0, none⟩), .slice (some ⟨0, o, (some 1)⟩) n c] (smSt 1 [some (Ob.cells (.ints .u8 L) 5), some (Ob.cells (.lit (rowV .u8 64 b ++ (.int .i64 rn :: ((s).row ++ [.int .i64 sz, .bool true])))) 73)] [none, none, none, none, none, none, none, none, none, some true, some true, some true, some true])).map (fun r => (r.1, r.2.obl, r.2.next, keepL [true, true, false, false, false, false, false, false] r.2.heap.get 0)) = some (.int .i64 0, pR L o n c rn true, (some (Ob.cells (.ints .u8 L) 5) :: some (Ob.cells (.lit (rowV .u8 64 (nb L o n b rn) ++ (.int .i64 (IntKind.i64.wrap (rn + ((mm rn n : Nat) : Int))) :: ((s).row ++ [.int .i64 (IntKind.i64.wrap (sz + (n : Int))), .bool true])))) 73) :: List.replicate 6 none).length, (some (Ob.cells (.ints .u8 L) 5) :: some (Ob.cells (.lit (rowV .u8 64 (nb L o n b rn) ++ (.int .i64 (IntKind.i64.wrap (rn + ((mm rn n : Nat) : Int))) :: ((s).row ++ [.int .i64 (IntKind.i64.wrap (sz + (n : Int))), .bool true])))) 73) :: List.replicate 6 none)) := by kernel_rfl
theorem wr_ok (L : List Int) (o n c : Nat) (b : Nat → Int) (rn : Int) (s : sw.N5) (sz : Int) (h0 : 0 ≤ rn) (h1 : rn < 64) (h2 : o + n ≤ L.length) (h3 : n ≤ c) : CallOk Try.prog 22 [.pointer (some ⟨1, 0, none⟩), .slice (some ⟨0, o, (some 1)⟩) n c] (smSt 1 [some (Ob.cells (.ints .u8 L) 5), some (Ob.cells (.lit (rowV .u8 64 b ++ (.int .i64 rn :: ((s).row ++ [.int .i64 sz, .bool true])))) 73)] []) (.int .i64 0) (smSt 1 (some (Ob.cells (.ints .u8 L) 5) :: some (Ob.cells (.lit (rowV .u8 64 (ab sw.blk L n o n b rn s).1 ++ (.int .i64 (ab sw.blk L n o n b rn s).2.1 :: (((ab sw.blk L n o n b rn s).2.2).row ++ [.int .i64 (IntKind.i64.wrap (sz + (n : Int))), .bool true])))) 73) :: List.replicate 6 none) []) := by
  by_cases hz : n = 0
  · subst hz
    rw [ab_zero]
    exact frame_by sw.pg (GivenOk.nothing _) _ (wA L o 0 c b rn s sz) ⟨trivial, by simp⟩ (by rfl) rfl
  · by_cases hp : rn.toNat + n < 64
    · have := frame_by sw.pg (GivenOk.nothing _) _ (wB L o n c b rn s sz) (pR_of h0 h1 h2 h3 (by omega) (by simp [hp])) (by rfl) rfl
      obtain ⟨m1, m2, m3⟩ := mm_le rn n
      have ew : IntKind.i64.wrap (rn + ((mm rn n : Nat) : Int)) = rn + (n : Int) := by rw [IntKind.wrap_i64]; omega
      rw [ew] at this
      rw [ab_part (by omega) (Nat.le_refl _) hp]; exact this
    · exact frame_by sw.pg (GivenOk.asking2 (GivenOk.nothing _) _) _ (wC L o n c b rn s sz _ _ _) ⟨trivial, fun rd => loopW L o n c o n c b rn s _ _ _ _ rd h0 h1 h2 h3 (by omega)⟩ (by rfl) rfl
end
end hv
end Go.Proofs.Yteknepfcbpoooaa
