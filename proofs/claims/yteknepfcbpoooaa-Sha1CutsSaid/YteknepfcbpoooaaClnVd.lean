/- Read off the code by the clean reading. -/
import Derived.Test.YteknepfcbpoooaaClnVb
import Derived.Test.YteknepfcbpoooaaClnVc
import Derived.Test.YteknepfcbpoooaaClnQc
set_option linter.unusedVariables false
set_option linter.unusedSimpArgs false
set_option linter.deprecated false
set_option maxRecDepth 100000
namespace Go.Proofs.Yteknepfcbpoooaa
open Go.ChangeShapes Go.WideShapes Go.ChangeAt Go.RowKit Go.Cln
namespace sk
open hc hx hy hz tb na
set_option linter.unusedVariables false
noncomputable section
def tmQ (v : VF) (y : Y) (pt : Value) (f : Int) : List Value := (PV y.P 0 y.n y.c :: cv y.Q y.m y.d :: v 2 :: v 3 :: .bool false :: P0 1 0 :: pt :: .int .i64 f :: vs v 8 142 [])
theorem tmQ_dead {v : VF} {y : Y} {pt : Value} {f : Int} {B : Nat → Bool} (h : ∀ i, DeadV (v i)) (hB : ∀ i, ((Nat.ble 0 i && Nat.ble i 1) || (Nat.ble 4 i && Nat.ble i 7)) = true → B i = true) : deadT B 0 (tmQ v y pt f) :=
  ⟨fun e => absurd e (by rw [hB 0 rfl]; decide), ⟨fun e => absurd e (by rw [hB 1 rfl]; decide), ⟨fun _ => h 2, ⟨fun _ => h 3, ⟨fun e => absurd e (by rw [hB 4 rfl]; decide), ⟨fun e => absurd e (by rw [hB 5 rfl]; decide), ⟨fun e => absurd e (by rw [hB 6 rfl]; decide), ⟨fun e => absurd e (by rw [hB 7 rfl]; decide), deadT_vs h 142 (trivial)⟩⟩⟩⟩⟩⟩⟩⟩
def W0 (i : Nat) : Bool := (Nat.ble 18 i && Nat.ble i 25) || Nat.beq i 27
def V0 (v : VF) : VF := fun i => match W0 i with
  | true => junk
  | false => v i
def B0 (i : Nat) : Bool := ((Nat.ble 0 i && Nat.ble i 1) || (Nat.ble 4 i && Nat.ble i 7)) || W0 i
theorem V0_dead {v : VF} (h : ∀ i, DeadV (v i)) (i : Nat) : DeadV (V0 v i) := by
  unfold V0
  split
  · exact DeadV.junk
  · exact h i
theorem lv0 (i : Nat) (h : ((Nat.ble 0 i && Nat.ble i 1) || (Nat.ble 4 i && Nat.ble i 7)) = true) : B0 i = true := by
  unfold B0
  simp only [Bool.or_eq_true] at h ⊢
  exact .inl h
def sQ (x : HX) (y : Y) (h : HS) (v : VF) : St := ⟨tmQ v y (.slice none 0 0) 0, [], Tr.rebuild (hS x h 0 none) 2, 2, 1, [], fun _ => false, True, []⟩
def v00 : VF := fun _ => undef
variable (A : AT) (E : ET) (V : List Int → sw.N5) (B : BF) (x : HX) (y : Y) (v : VF)
def pP : Prop := (True ∧ decide (nI y.n > 2000) = false) ∧ decide (nI y.m > 30) = false
theorem rP : (runRow (mk Try.prog (KZ x A E V B) 300) 9 none 5 bodyC { s00 x y.P y.n y.c y.Q y.m y.d 148 with obl := True, orc := [some false, none, none, none, some false] }).map (fun r => (r.2, r.1.obl, seenInT B0 r.1 (sQ x y (hOf l0) (V0 v00)) [0, 2])) = some (c5, pP y, seenAsT B0 (sQ x y (hOf l0) (V0 v00)) [0, 2] 3) := by kernel_rfl
theorem rQ : (runRow (mk Try.prog (KZ x A E V B) 300) 9 none 1 cX { (sQ x y (hOf l0) (V0 v00)) with obl := True, orc := [] }).map (fun r => (r.2, r.1.obl, seenInT allB r.1 (sN x y (hOf l0) 0 0 0 (V0 v00)) [0, 1])) = some (.block 0 (.loop lb), True, seenAsT allB (sN x y (hOf l0) 0 0 0 (V0 v00)) [0, 1] 2) := by kernel_rfl
theorem c5_eq : c5 = .seq cX c6 := by kernel_rfl
theorem okQ : picOkT B0 (s0 x y) (sQ x y (hOf l0) (V0 v00)) [0, 2] = true := by kernel_rfl
theorem okQ2 : picOkT allB (s0 x y) (sN x y (hOf l0) 0 0 0 (V0 v00)) [0, 1] = true := by kernel_rfl
theorem fn9 : (Try.prog.funcs[9]?).map (fun f => (f.body, f.results.toList, f.ntmps)) = some (some bodyC, [.tmp 4], 150) := by kernel_rfl
end
end sk
end Go.Proofs.Yteknepfcbpoooaa
namespace Go.Proofs.Yteknepfcbpoooaa
open Go.ChangeShapes Go.WideShapes Go.ChangeAt Go.RowKit Go.Cln
namespace sk
open hc hx hy hz tb na
set_option linter.unusedVariables false
noncomputable section
def X0 : HX := ⟨fun _ => [], fun _ => []⟩
def zs (i c : Nat) : Value := .slice (some ⟨i, 0, none⟩) 0 c
def cN9 (A : AT) (E : ET) (V : List Int → sw.N5) (B : BF) (v1 v2 : Value) (k : Nat) (o : List (Option Bool)) : Option (Value × St) := (mk Try.prog (KZ X0 A E V B) 300).call 9 [v1, v2] (St.start k .leaf o)
def c9 (A : AT) (E : ET) (V : List Int → sw.N5) (B : BF) (x : HX) (y : Y) (o : List (Option Bool)) : Option (Value × St) := (mk Try.prog (KZ x A E V B) 300).call 9 [PV y.P 0 y.n y.c, cv y.Q y.m y.d] (smSt 1 [some (.fam x.F)] o)
def kz (E : ET) : Prop := E = DS ∧ 0 ≤ intAt l0 70 ∧ intAt l0 70 ≤ 1152921504606846976 ∧ intAt l0 64 = (((intAt l0 70).toNat % 64 : Nat) : Int)
def zE (E : ET) : sw.N5 := E (hOf l0) (intAt l0 70).toNat
def zB (B : BF) : sw.N5 := B (sw.n5L F0.row) (xb (T 0) 0)
def oNN (k : Nat) : List (Option Bool) := List.replicate k none ++ (some false :: r9 19 (List.replicate 28 none ++ (List.replicate 20 (some true) ++ (List.replicate 5 none ++ (List.replicate 20 (some true) ++ List.replicate 16 none)))))
variable (A : AT) (E : ET) (V : List Int → sw.N5) (B : BF) (x : HX) (y : Y)
def pN : Prop := ((((((((((((((((((((((((((((((((((((((((((((((((((((((((((((((((((True ∧ 0 ≤ 1152921504606846976) ∧ (64 ≤ 64 ∧ 0 ≤ 0 ∧ 64 ≤ mostBytes ∧ 64 ≤ mostBytes)) ∧ (64 ≤ 64 ∧ 0 ≤ 0 ∧ 64 ≤ 64)) ∧ kz E) ∧ nq (zE E).a (zB B).a 3) ∧ nq (zE E).a (zB B).a 2) ∧ nq (zE E).a (zB B).a 1) ∧ nq (zE E).a (zB B).a 0) ∧ nq (zE E).b (zB B).b 3) ∧ nq (zE E).b (zB B).b 2) ∧ nq (zE E).b (zB B).b 1) ∧ nq (zE E).b (zB B).b 0) ∧ nq (zE E).c (zB B).c 3) ∧ nq (zE E).c (zB B).c 2) ∧ nq (zE E).c (zB B).c 1) ∧ nq (zE E).c (zB B).c 0) ∧ nq (zE E).d (zB B).d 3) ∧ nq (zE E).d (zB B).d 2) ∧ nq (zE E).d (zB B).d 1) ∧ nq (zE E).d (zB B).d 0) ∧ nq (zE E).e (zB B).e 3) ∧ nq (zE E).e (zB B).e 2) ∧ nq (zE E).e (zB B).e 1) ∧ nq (zE E).e (zB B).e 0) ∧ kz E) ∧ eq (zE E).a (zE E).a 3) ∧ eq (zE E).a (zE E).a 2) ∧ eq (zE E).a (zE E).a 1) ∧ eq (zE E).a (zE E).a 0) ∧ eq (zE E).b (zE E).b 3) ∧ eq (zE E).b (zE E).b 2) ∧ eq (zE E).b (zE E).b 1) ∧ eq (zE E).b (zE E).b 0) ∧ eq (zE E).c (zE E).c 3) ∧ eq (zE E).c (zE E).c 2) ∧ eq (zE E).c (zE E).c 1) ∧ eq (zE E).c (zE E).c 0) ∧ eq (zE E).d (zE E).d 3) ∧ eq (zE E).d (zE E).d 2) ∧ eq (zE E).d (zE E).d 1) ∧ eq (zE E).d (zE E).d 0) ∧ eq (zE E).e (zE E).e 3) ∧ eq (zE E).e (zE E).e 2) ∧ eq (zE E).e (zE E).e 1) ∧ eq (zE E).e (zE E).e 0) ∧ kz E) ∧ eq (zE E).a (zE E).a 3) ∧ eq (zE E).a (zE E).a 2) ∧ eq (zE E).a (zE E).a 1) ∧ eq (zE E).a (zE E).a 0) ∧ eq (zE E).b (zE E).b 3) ∧ eq (zE E).b (zE E).b 2) ∧ eq (zE E).b (zE E).b 1) ∧ eq (zE E).b (zE E).b 0) ∧ eq (zE E).c (zE E).c 3) ∧ eq (zE E).c (zE E).c 2) ∧ eq (zE E).c (zE E).c 1) ∧ eq (zE E).c (zE E).c 0) ∧ eq (zE E).d (zE E).d 3) ∧ eq (zE E).d (zE E).d 2) ∧ eq (zE E).d (zE E).d 1) ∧ eq (zE E).d (zE E).d 0) ∧ eq (zE E).e (zE E).e 3) ∧ eq (zE E).e (zE E).e 2) ∧ eq (zE E).e (zE E).e 1) ∧ eq (zE E).e (zE E).e 0) ∧ True
theorem enn : (cN9 A E V B (.slice none 0 0) (.slice none 0 0) 0 (oNN 52)).map (fun r => (r.1, r.2.obl)) = some (.bool true, pN E B) := by kernel_rfl
theorem ezn (c : Nat) : (cN9 A E V B (zs 0 c) (.slice none 0 0) 1 (oNN 54)).map (fun r => (r.1, r.2.obl)) = some (.bool true, pN E B) := by kernel_rfl
theorem enz (d : Nat) : (cN9 A E V B (.slice none 0 0) (zs 0 d) 1 (oNN 52)).map (fun r => (r.1, r.2.obl)) = some (.bool true, pN E B) := by kernel_rfl
theorem ezz (c d : Nat) : (cN9 A E V B (zs 0 c) (zs 1 d) 2 (oNN 54)).map (fun r => (r.1, r.2.obl)) = some (.bool true, pN E B) := by kernel_rfl
theorem big1 : (c9 A E V B x y [some true]).map (fun r => (r.1, r.2.obl)) = some (.bool true, (True ∧ decide (nI y.n > 2000) = true) ∧ True) := by kernel_rfl
theorem big2 : (c9 A E V B x y [some false, none, none, none, some true]).map (fun r => (r.1, r.2.obl)) = some (.bool true, ((True ∧ decide (nI y.n > 2000) = false) ∧ decide (nI y.m > 30) = true) ∧ True) := by kernel_rfl
theorem pN_ok : pN DS sw.blk := by
  have e1 : zE DS = shaN [] := by
    have h := SemH.DS (M := []) SemH.zero (fun x hx => by cases hx)
    rw [List.length_nil] at h
    have e : (intAt l0 70).toNat = 0 := by decide
    unfold zE
    rw [e, h]
  have e2 : zB sw.blk = shaN [] := by
    have h := zS_fold (L := T 0) (byt_T 0) 1 (by rw [T_len]; decide)
    have : zS (T 0) 1 = zB sw.blk := rfl
    rw [← this, h]; rfl
  have k0 : kz DS := ⟨rfl, by decide, by decide, by decide⟩
  have hX := shaN_ok []
  unfold pN
  rw [e1, e2]
  generalize shaN [] = X at hX
  obtain ⟨ka, kb, kc, kd, ke⟩ := hX
  exact ⟨⟨⟨⟨⟨⟨⟨⟨⟨⟨⟨⟨⟨⟨⟨⟨⟨⟨⟨⟨⟨⟨⟨⟨⟨⟨⟨⟨⟨⟨⟨⟨⟨⟨⟨⟨⟨⟨⟨⟨⟨⟨⟨⟨⟨⟨⟨⟨⟨⟨⟨⟨⟨⟨⟨⟨⟨⟨⟨⟨⟨⟨⟨⟨⟨⟨⟨trivial, Nat.zero_le _⟩, ⟨Nat.le_refl _, Nat.le_refl _, by decide, by decide⟩⟩, ⟨Nat.le_refl _, Nat.le_refl _, Nat.le_refl _⟩⟩, k0⟩, nq_ok ka 3⟩, nq_ok ka 2⟩, nq_ok ka 1⟩, nq_ok ka 0⟩, nq_ok kb 3⟩, nq_ok kb 2⟩, nq_ok kb 1⟩, nq_ok kb 0⟩, nq_ok kc 3⟩, nq_ok kc 2⟩, nq_ok kc 1⟩, nq_ok kc 0⟩, nq_ok kd 3⟩, nq_ok kd 2⟩, nq_ok kd 1⟩, nq_ok kd 0⟩, nq_ok ke 3⟩, nq_ok ke 2⟩, nq_ok ke 1⟩, nq_ok ke 0⟩, k0⟩, eq_ok _ 3⟩, eq_ok _ 2⟩, eq_ok _ 1⟩, eq_ok _ 0⟩, eq_ok _ 3⟩, eq_ok _ 2⟩, eq_ok _ 1⟩, eq_ok _ 0⟩, eq_ok _ 3⟩, eq_ok _ 2⟩, eq_ok _ 1⟩, eq_ok _ 0⟩, eq_ok _ 3⟩, eq_ok _ 2⟩, eq_ok _ 1⟩, eq_ok _ 0⟩, eq_ok _ 3⟩, eq_ok _ 2⟩, eq_ok _ 1⟩, eq_ok _ 0⟩, k0⟩, eq_ok _ 3⟩, eq_ok _ 2⟩, eq_ok _ 1⟩, eq_ok _ 0⟩, eq_ok _ 3⟩, eq_ok _ 2⟩, eq_ok _ 1⟩, eq_ok _ 0⟩, eq_ok _ 3⟩, eq_ok _ 2⟩, eq_ok _ 1⟩, eq_ok _ 0⟩, eq_ok _ 3⟩, eq_ok _ 2⟩, eq_ok _ 1⟩, eq_ok _ 0⟩, eq_ok _ 3⟩, eq_ok _ 2⟩, eq_ok _ 1⟩, eq_ok _ 0⟩, trivial⟩
theorem bodyT {x : HX} {y : Y} (h : By x y) : StepG Try.prog none (s0 x y) bodyC (s0 x y) Fin := by
  have hd : ∀ i, DeadV (V0 v00 i) := V0_dead fun _ => DeadV.undef
  have f1 := h.few
  have f2 := h.few2
  refine StepG.seqs (s0 := s0 x y) (c' := c5) (s2 := sQ x y (hOf l0) (V0 v00)) (σ := [0, 2]) sw.pg (KZ_ok x AB DS shaN) (B := B0) (k := 5) (n := 300) (g := hS x (hOf l0) 0 none) (rP AB DS shaN sw.blk x y) ⟨⟨trivial, by unfold nI; rw [decide_eq_false_iff_not]; omega⟩, by unfold nI; rw [decide_eq_false_iff_not]; omega⟩ (Nat.le_refl _) (tmQ_dead hd lv0) (hS_ok x (hOf l0) 0 none fun _ _ _ _ h => by cases h) rfl (okQ x y) ?_
  rw [c5_eq]
  refine StepG.seq (StepG.mono (Q := fun e s => e = .normal ∧ Good x y y.m s) ?_ ?_)
  · refine StepG.seqs (s0 := s0 x y) (c' := .block 0 (.loop lb)) (s2 := sN x y (hOf l0) 0 0 0 (V0 v00)) (σ := [0, 1]) sw.pg (KZ_ok x AB DS shaN) (B := allB) (k := 1) (n := 300) (g := hS x (hOf l0) 0 none) (rQ AB DS shaN sw.blk x y) trivial (show 1 ≤ 2 by decide) (tmS_dead hd fun _ _ => rfl) (hS_ok x (hOf l0) 0 none fun _ _ _ _ h => by cases h) rfl (okQ2 x y) ?_
    refine StepG.block ?_
    refine (loopT h (Good.n hd ⟨by rw [show (0 : Int).toNat = 0 from rfl, List.take_zero]; exact SemH.zero, rfl⟩)).mono ?_
    rintro e s ⟨rfl, h⟩
    exact ⟨rfl, h⟩
  · rintro e s ⟨rfl, hg⟩
    exact .inl ⟨rfl, middleT h (endT h) hg⟩
end
end sk
end Go.Proofs.Yteknepfcbpoooaa
namespace Go.Proofs.Yteknepfcbpoooaa
open Go.ChangeShapes Go.WideShapes Go.ChangeAt Go.RowKit Go.Cln
namespace sk
open hc hx hy hz tb na
set_option linter.unusedVariables false
noncomputable section
def wordsAt : List Value → List Int
  | .int .i64 y :: l => y :: wordsAt l
  | _ => []
theorem wordsAt_get : ∀ {l : List Value} {j : Nat} {y : Int}, (wordsAt l)[j]? = some y → l[j]? = some (.int .i64 y)
  | [], j, y, h => by simp [wordsAt] at h
  | v :: l, j, y, h => by
    unfold wordsAt at h
    split at h
    · rename_i z r e
      cases e
      cases j with
      | zero => simp only [List.getElem?_cons_zero, Option.some.injEq] at h ⊢; rw [h]
      | succ j => simp only [List.getElem?_cons_succ] at h ⊢; exact wordsAt_get h
    · simp at h
theorem wordsAt_len : ∀ {l : List Value} {m : Nat}, (∀ j, j < m → ∃ y, l[j]? = some (.int .i64 y)) → m ≤ (wordsAt l).length
  | l, 0, _ => Nat.zero_le _
  | [], m + 1, h => by obtain ⟨y, hy⟩ := h 0 (by omega); simp at hy
  | v :: l, m + 1, h => by
    obtain ⟨y, hy⟩ := h 0 (by omega)
    simp only [List.getElem?_cons_zero, Option.some.injEq] at hy
    subst hy
    have := wordsAt_len (l := l) (m := m) fun j hj => by
      obtain ⟨z, hz⟩ := h (j + 1) (by omega)
      exact ⟨z, by simpa using hz⟩
    simp only [wordsAt, List.length_cons]; omega
def worldI (W : World) (P : Nat) : List Int := match W.heap[blkOf P]? with
  | some (.cells pc _ _) => wordsAt (pc.toList.drop (baseOf P))
  | _ => []
theorem worldI_get {W : World} {P j : Nat} {y : Int} (h : (worldI W P)[j]? = some y) : ∃ pc t fr, W.heap[blkOf P]? = some (.cells pc t fr) ∧ pc[baseOf P + j]? = some (.int .i64 y) := by
  unfold worldI at h
  split at h
  · rename_i pc t fr hc
    have := wordsAt_get h
    rw [List.getElem?_drop] at this
    exact ⟨pc, t, fr, hc, by simpa using this⟩
  · simp at h
theorem worldI_row {W : World} {b o m : Nat} {f : Nat → Int} (h : ∀ j, j < m → W.cell? ⟨b, o + j, none⟩ = some (.int .i64 (f j)) ∧ (Lit.int .i64 (f j)).wf = true) (h0 : m ≠ 0) : m ≤ (worldI W (plc b o)).length := by
  obtain ⟨pc, t, fr, k1, _⟩ := cell_in (h 0 (by omega)).1
  have at_ : ∀ j, j < m → pc[o + j]? = some (.int .i64 (f j)) := fun j hj => by
    obtain ⟨pc', t', fr', q1, q2⟩ := cell_in (h j hj).1
    rw [k1] at q1; cases q1; exact q2
  unfold worldI
  rw [blkOf_plc, baseOf_plc, k1]
  refine wordsAt_len fun j hj => ⟨f j, ?_⟩
  rw [List.getElem?_drop]
  simpa using at_ j hj
def hxW (W : World) : HX := ⟨worldB W, worldI W⟩
theorem startH {W : World} (hW : 0 < W.heap.size) (orc : List (Option Bool)) : ∃ ρ : Nat → PB, Hs (smSt 1 [some (.fam (hxW W).F)] orc) ρ W := by
  have get : ∀ (k : Nat) (ob : Ob), (smSt 1 [some (.fam (hxW W).F)] orc).heap.get k = some ob → k = 0 ∧ ob = .fam (hxW W).F := fun k ob hk => by
    have hk : (Tr.ofL [some (.fam (hxW W).F)]).get k = some ob := hk
    rw [ofL_get (by simp)] at hk
    rcases k with _ | k
    · simp only [hget, List.getElem?_cons_zero] at hk
      cases hk; exact ⟨rfl, rfl⟩
    · simp [hget] at hk
  have d0 : Dm (smSt 1 [some (.fam (hxW W).F)] orc) 0 := ⟨(show 0 < 1 by decide), rfl⟩
  refine ⟨fun _ => ⟨0, 0, 0⟩, ⟨⟨fun k ob hk => ?_, fun k k' ob ob' hk hk' hm _ => ?_, fun k k' ob ob' B hk hB hk' hm => ?_⟩, fun _ _ => rfl, ⟨Nat.le_refl _, fun z hz => by simp [smSt] at hz⟩⟩⟩
  · obtain ⟨rfl, rfl⟩ := get k ob hk
    refine ⟨d0, fun hm => absurd (show 1 ≤ 0 from hm) (by omega), hW, fun g P i v hv => ?_⟩
    unfold HX.F at hv
    split at hv
    · simp only [Cells.get, Option.map_eq_some_iff] at hv
      obtain ⟨y, hy, rfl⟩ := hv
      obtain ⟨pc, t, fr, k1, k2⟩ := worldI_get hy
      exact ⟨pc, t, fr, _, k1, k2, .same rfl, rfl⟩
    · simp only [Cells.get, Option.map_eq_some_iff] at hv
      obtain ⟨y, hy, rfl⟩ := hv
      obtain ⟨pc, t, fr, k1, k2⟩ := worldB_get hy
      exact ⟨pc, t, fr, _, k1, k2, .same rfl, rfl⟩
  · have hm : 1 ≤ k ∨ 1 ≤ k' := hm
    have e1 : k < 1 := by have := (get k ob hk).1; omega
    have e2 : k' < 1 := by have := (get k' ob' hk').1; omega
    omega
  · have hm : 1 ≤ k' := hm
    have e2 : k' < 1 := by have := (get k' ob' hk').1; omega
    omega
theorem by_of {W : World} {a : Option Addr} {n c : Nat} (s : (a = none ∧ n = 0 ∧ c = 0) ∨ ∃ b o, a = some ⟨b, o, none⟩ ∧ n ≤ c ∧ (c : Int) ≤ 9223372036854775807)
    (z : n = 0 ∨ ∃ (b o : Nat) (f : Nat → Int), a = some ⟨b, o, none⟩ ∧ b < W.heap.size ∧ ∀ j, j < n → W.cell? ⟨b, o + j, none⟩ = some (.int .u8 (f j)) ∧ (Lit.int .u8 (f j)).wf = true) :
    ∃ P c2 : Nat, AbsOk P 0 n c2 (.slice a n c) ∧ (wx (hxW W) P 0 n).length = n ∧ n ≤ c2 ∧ Byt (wx (hxW W) P 0 n) := by
  by_cases h0 : n = 0
  · subst h0
    have e : wx (hxW W) (plc 0 0) 0 0 = [] := by
      show ((worldB W (plc 0 0)).drop 0).take 0 = []
      rw [List.take_zero]
    exact ⟨plc 0 0, 0, AbsOk.none, by rw [e]; rfl, Nat.le_refl _, by rw [e]; exact fun z hz => by cases hz⟩
  · rcases z with h | ⟨b, o, f, rfl, hb, hf⟩
    · exact absurd h h0
    · have hc : n ≤ c := by
        rcases s with ⟨h, _⟩ | ⟨_, _, _, hc, _⟩
        · cases h
        · exact hc
      obtain ⟨q1, q2⟩ := worldB_row hf h0
      refine ⟨plc b o, c, AbsOk.of hc, ?_, hc, ?_⟩
      · show (((worldB W (plc b o)).drop 0).take n).length = n
        rw [List.drop_zero]; exact q1
      · show Byt (((worldB W (plc b o)).drop 0).take n)
        rw [List.drop_zero]; exact q2
theorem cuts_of {W : World} {a : Option Addr} {n c : Nat} (s : (a = none ∧ n = 0 ∧ c = 0) ∨ ∃ b o, a = some ⟨b, o, none⟩ ∧ n ≤ c ∧ (c : Int) ≤ 9223372036854775807)
    (z : n = 0 ∨ ∃ (b o : Nat) (f : Nat → Int), a = some ⟨b, o, none⟩ ∧ b < W.heap.size ∧ ∀ j, j < n → W.cell? ⟨b, o + j, none⟩ = some (.int .i64 (f j)) ∧ (Lit.int .i64 (f j)).wf = true) :
    ∃ Q c2 : Nat, AbsOk Q 0 n c2 (.slice a n c) ∧ n ≤ ((hxW W).C Q).length := by
  by_cases h0 : n = 0
  · subst h0
    exact ⟨plc 0 0, 0, AbsOk.none, Nat.zero_le _⟩
  · rcases z with h | ⟨b, o, f, rfl, hb, hf⟩
    · exact absurd h h0
    · have hc : n ≤ c := by
        rcases s with ⟨h, _⟩ | ⟨_, _, _, hc, _⟩
        · cases h
        · exact hc
      exact ⟨plc b o, c, AbsOk.of hc, worldI_row hf h0⟩
theorem cutsW {W : World} (hW : 0 < W.heap.size) {v1 v2 : Value} {y : Y} (u1 : AbsOk y.P 0 y.n y.c v1) (u2 : AbsOk y.Q 0 y.m y.d v2) (h1 : (wk (hxW W) y).length = y.n) (h2 : y.n ≤ y.c) (h3 : Byt (wk (hxW W) y)) (h4 : y.m ≤ ((hxW W).C y.Q).length) :
    Calls Try.prog 9 #[v1, v2] W fun e w' => e = .returned (.bool true) ∧ Go.RowKit.Below W.heap.size W w' := by
  have d0 : ∀ orc, Dm (smSt 1 [some (.fam (hxW W).F)] orc) 0 := fun orc => ⟨(show 0 < 1 by decide), rfl⟩
  have va : ∀ orc ρ, Go.Cln.VL (Dm (smSt 1 [some (.fam (hxW W).F)] orc)) ρ [PV y.P 0 y.n y.c, cv y.Q y.m y.d] [v1, v2] := fun orc ρ =>
    Go.Cln.VL.cons (.abs (d0 orc) rfl u1) (Go.Cln.VL.cons (.abs (d0 orc) rfl u2) Go.Cln.VL.nil)
  have fin : ∀ (orc : List (Option Bool)) (p : Prop), (c9 AB DS shaN sw.blk (hxW W) y orc).map (fun r => (r.1, r.2.obl)) = some (.bool true, p) → p →
      Calls Try.prog 9 #[v1, v2] W fun e w' => e = .returned (.bool true) ∧ Go.RowKit.Below W.heap.size W w' := fun orc p hr hp => by
    obtain ⟨ρ, g1⟩ := startH hW orc
    exact ranG sw.pg (KZ_ok (hxW W) AB DS shaN) (ρ := ρ) hr hp rfl g1 (va orc ρ)
  by_cases h6 : nI y.n > 2000
  · exact fin _ _ (big1 ..) ⟨⟨trivial, decide_eq_true h6⟩, trivial⟩
  by_cases h7 : nI y.m > 30
  · exact fin _ _ (big2 ..) ⟨⟨⟨trivial, decide_eq_false h6⟩, decide_eq_true h7⟩, trivial⟩
  have hB : By (hxW W) y := ⟨h1, h2, h3, by unfold nI at h6; omega, h4, by unfold nI at h7; omega⟩
  obtain ⟨ρ, g1⟩ := startH hW []
  have hf := fn9
  cases e : Try.prog.funcs[9]? with
  | none => rw [e] at hf; cases hf
  | some f =>
    rw [e] at hf
    simp only [Option.map_some, Option.some.injEq, Prod.mk.injEq] at hf
    obtain ⟨f1, f2, f3⟩ := hf
    have hb := bodyT hB
    have key : ∀ (l : List Value), l = [PV y.P 0 y.n y.c, cv y.Q y.m y.d] → StepG Try.prog none { St.start 1 (Tr.ofL [some (.fam (hxW W).F)]) [] with tmps := l ++ List.replicate (f.ntmps - l.length) undef, defers := [] } bodyC { St.start 1 (Tr.ofL [some (.fam (hxW W).F)]) [] with tmps := l ++ List.replicate (f.ntmps - l.length) undef, defers := [] } Fin := by
      rintro l rfl
      rw [f3]
      exact hb
    exact calls_ofG (args := [PV y.P 0 y.n y.c, cv y.Q y.m y.d]) (args' := [v1, v2]) (ρ := ρ) e f1 f2 (key _ rfl) g1 (va [] ρ)
theorem sha1Cuts (W : World) (a0 : Option Addr) (n0 c0 : Nat) (s0 : (a0 = none ∧ n0 = 0 ∧ c0 = 0) ∨ ∃ b o, a0 = some ⟨b, o, none⟩ ∧ n0 ≤ c0 ∧ (c0 : Int) ≤ 9223372036854775807)
    (z0 : n0 = 0 ∨ ∃ (b o : Nat) (f : Nat → Int), a0 = some ⟨b, o, none⟩ ∧ b < W.heap.size ∧ ∀ j, j < n0 → W.cell? ⟨b, o + j, none⟩ = some (.int .u8 (f j)) ∧ (Lit.int .u8 (f j)).wf = true)
    (a1 : Option Addr) (n1 c1 : Nat) (s1 : (a1 = none ∧ n1 = 0 ∧ c1 = 0) ∨ ∃ b o, a1 = some ⟨b, o, none⟩ ∧ n1 ≤ c1 ∧ (c1 : Int) ≤ 9223372036854775807)
    (z1 : n1 = 0 ∨ ∃ (b o : Nat) (f : Nat → Int), a1 = some ⟨b, o, none⟩ ∧ b < W.heap.size ∧ ∀ j, j < n1 → W.cell? ⟨b, o + j, none⟩ = some (.int .i64 (f j)) ∧ (Lit.int .i64 (f j)).wf = true) :
    Calls Try.prog 9 #[.slice a0 n0 c0, .slice a1 n1 c1] W fun e w' => e = .returned (.bool true) ∧ Go.RowKit.Below W.heap.size W w' := by
  by_cases hW : 0 < W.heap.size
  · obtain ⟨P, c, u1, q1, q2, q3⟩ := by_of s0 z0
    obtain ⟨Q, d, u2, q4⟩ := cuts_of s1 z1
    exact cutsW hW (y := ⟨P, n0, c, Q, n1, d⟩) u1 u2 q1 q2 q3 q4
  · have e1 : n0 = 0 := by
      rcases z0 with h | ⟨_, _, _, _, hb, _⟩
      · exact h
      · omega
    have e2 : n1 = 0 := by
      rcases z1 with h | ⟨_, _, _, _, hb, _⟩
      · exact h
      · omega
    subst e1; subst e2
    have kn := KZ_ok X0 AB DS shaN
    have hp := pN_ok
    rcases s0 with ⟨rfl, _, rfl⟩ | ⟨b, o, rfl, hc, _⟩ <;> rcases s1 with ⟨rfl, _, rfl⟩ | ⟨b', o', rfl, hc', _⟩
    · exact ranG sw.pg kn (ρ := fun _ => ⟨0, 0, 0⟩) (enn AB DS shaN sw.blk) hp rfl (named_hs 0 _ _ W) (Go.Cln.VL.cons (VR.same rfl) (Go.Cln.VL.cons (VR.same rfl) Go.Cln.VL.nil))
    · exact ranG sw.pg kn (ρ := fun _ => ⟨b', o', 0⟩) (enz AB DS shaN sw.blk c1) hp rfl (named_hs 1 _ _ W) (Go.Cln.VL.cons (VR.same rfl) (Go.Cln.VL.cons (VR.unread (a := ⟨b', o', none⟩) (by decide) rfl rfl hc') Go.Cln.VL.nil))
    · exact ranG sw.pg kn (ρ := fun _ => ⟨b, o, 0⟩) (ezn AB DS shaN sw.blk c0) hp rfl (named_hs 1 _ _ W) (Go.Cln.VL.cons (VR.unread (a := ⟨b, o, none⟩) (by decide) rfl rfl hc) (Go.Cln.VL.cons (VR.same rfl) Go.Cln.VL.nil))
    · exact ranG sw.pg kn (ρ := fun k => if k = 0 then ⟨b, o, 0⟩ else ⟨b', o', 0⟩) (ezz AB DS shaN sw.blk c0 c1) hp rfl (named_hs 2 _ _ W) (Go.Cln.VL.cons (VR.unread (a := ⟨b, o, none⟩) (by decide) rfl rfl hc) (Go.Cln.VL.cons (VR.unread (a := ⟨b', o', none⟩) (by decide) rfl rfl hc') Go.Cln.VL.nil))
end
end sk
end Go.Proofs.Yteknepfcbpoooaa
