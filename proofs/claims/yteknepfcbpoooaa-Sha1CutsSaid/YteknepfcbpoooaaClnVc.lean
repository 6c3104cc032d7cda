/- Read off the code by the clean reading. -/
import Derived.Test.YteknepfcbpoooaaClnVb
set_option linter.unusedVariables false
set_option linter.unusedSimpArgs false
set_option linter.deprecated false
set_option maxRecDepth 100000
namespace Go.Proofs.Yteknepfcbpoooaa
open Go.ChangeShapes Go.WideShapes Go.ChangeAt Go.RowKit Go.Cln
namespace sk
open hc hx hy hz tb na
set_option linter.unusedVariables false
noncomputable section
def AL (x : HX) (y : Y) : List Int := wk x y ++ T y.n
theorem AL_len {x : HX} {y : Y} (b : By x y) : (AL x y).length = nA y := by
  unfold AL nA; rw [List.length_append, b.len, T_len]; omega
theorem LA_eq {x : HX} {y : Y} (b : By x y) : LA x y = AL x y := by
  show List.take (0 + y.n) (List.drop 0 (wk x y)) ++ List.take (tl y.n) (List.drop 0 (T y.n)) = _
  rw [List.drop_zero, List.drop_zero, List.take_of_length_le (by rw [b.len]; omega), List.take_of_length_le (by rw [T_len]; omega)]; rfl
theorem lay0 : layI [] (0 + 0) [] = [] := rfl
theorem LA0_eq {x : HX} {y : Y} (b : By x y) (h0 : y.n = 0) : LA0 x y = AL x y := by
  have e : M0 x y = [] := List.eq_nil_of_length_eq_zero (by have := b.len; show (wk x y).length = 0; omega)
  have e2 : wk x y = [] := e
  unfold LA0 AL
  rw [e, e2, h0, lay0, List.drop_zero, List.drop_zero, List.take_nil, List.take_of_length_le (by rw [T_len]; exact Nat.le_refl _)]
theorem nA_64 (y : Y) : ∃ N, nA y = 64 * N ∧ N = (y.n + tl y.n) / 64 := by
  have := tl_b y.n
  exact ⟨_, by unfold nA; omega, rfl⟩
theorem nA_le {x : HX} {y : Y} (b : By x y) : nA y ≤ 2100 := by
  have := tl_b y.n
  have := b.few
  unfold nA; omega
theorem AL_byt {x : HX} {y : Y} (b : By x y) : Byt (AL x y) := byt_app b.byt (byt_T _)
theorem zS_fold {L : List Int} (hL : Byt L) : ∀ j, 64 * j ≤ L.length → zS L j = fold sw.blkR F0 j L
  | 0, _ => rfl
  | j + 1, h => by
    have ih := zS_fold hL j (by omega)
    rw [fold_last, ← ih]
    have e : zS L (j + 1) = sw.blk (sw.n5L (zS L j).row) (xb L (64 * (j : Int))) := rfl
    have e1 : sw.n5L (zS L j).row = zS L j := rfl
    rw [e, e1]
    refine blk_full (by rw [ih]; exact fold_ok blkR_ok F0_ok _ _) (byt_drop hL _) fun i hi => ?_
    rw [nb_at]
    have t1 : 0 + (64 * (j : Int)).toNat * 1 = 64 * j := by omega
    have t2 : (64 * (j : Int) + 64).toNat - (64 * (j : Int)).toNat = 64 := by omega
    rw [t1, t2]
    have m : hc.mm 0 64 = 64 := by decide
    rw [m, if_pos (by constructor <;> simp <;> omega)]
    rw [List.getD_eq_getElem?_getD, List.getD_eq_getElem?_getD, List.getElem?_take, if_pos (by simp; omega)]; rfl
theorem zS_sha {x : HX} {y : Y} (b : By x y) {N : Nat} (e : nA y = 64 * N) (eN : N = (y.n + tl y.n) / 64) : zS (AL x y) N = shaN (wk x y) := by
  rw [zS_fold (AL_byt b) N (by rw [AL_len b]; omega)]
  unfold shaN AL
  rw [b.len, ← eN]
theorem famW {x : HX} {y : Y} {h : HS} {s : Int} {L : List Int} {S5 : sw.N5} {k nn q : Nat} {v : VF} {LL : List Value} (σ : List Nat) (hg : Pcl y LL) : ObV (sW x y h s none L S5 k nn q v) (nm σ) (.cells (.lit LL) 22) (.cells (.lit LL) 22) := .cells fun j z hz => by
  have hz' : LL[j]? = some z := hz
  obtain ⟨a, b, e⟩ := hg z (List.mem_of_getElem? hz')
  subst e
  exact ⟨_, hz, .inl rfl, rfl⟩
end
end sk
end Go.Proofs.Yteknepfcbpoooaa
namespace Go.Proofs.Yteknepfcbpoooaa
open Go.ChangeShapes Go.WideShapes Go.ChangeAt Go.RowKit Go.Cln
namespace sk
open hc hx hy hz tb na
set_option linter.unusedVariables false
noncomputable section
theorem catV_app (D : Nat → List Int) : ∀ (a b : List Value), catV D (a ++ b) = catV D a ++ catV D b
  | [], b => rfl
  | v :: l, b => by
    show rowV2 D v ++ catV D (l ++ b) = rowV2 D v ++ catV D l ++ catV D b
    rw [catV_app D l b, List.append_assoc]
theorem fam_succ (g : Nat → Value) (k : Nat) : famList g 0 (k + 1) = famList g 0 k ++ [g k] := by
  rw [famList_eq, famList_eq, List.range_succ, List.map_append]
  simp
theorem cat1 (D : Nat → List Int) (v : Value) : catV D [v] = rowV2 D v := by show rowV2 D v ++ [] = _; exact List.append_nil _
theorem catF {x : HX} {y : Y} (h : By x y) {g : Nat → Value} : ∀ k, (∀ j, j < k → g j = pc y (aK x y j) (aK x y (j + 1))) → catV x.D (famList g 0 k) = (wk x y).take (aK x y k).toNat
  | 0, _ => by show [] = (wk x y).take 0; rw [List.take_zero]
  | k + 1, hg => by
    have a1 := aK_le x y k
    have a2 := toK_le (x := x) k a1.2
    rw [fam_succ, catV_app, catF h k fun j hj => hg j (by omega), hg k (by omega), cat1]
    exact wo_take h a1.1 a2.1 a2.2
theorem wk_all {x : HX} {y : Y} (h : By x y) : (wk x y).take (nI y.n).toNat = wk x y := List.take_of_length_le (by rw [h.len]; unfold nI; omega)
theorem rows_of {D : Nat → List Int} {B : Nat} : ∀ {L : List Value}, (∀ v ∈ L, ∃ P o n c, v = .slice (some ⟨P, o, some 1000⟩) n c ∧ (((D P).drop o).take n).length = n ∧ (∀ y ∈ ((D P).drop o).take n, 0 ≤ y ∧ y < 256) ∧ n ≤ B ∧ n ≤ c) → RowsOk D B L
  | [], _ => trivial
  | v :: l, h => by
    obtain ⟨P, o, n, c, rfl, h1, h2, h3, h4⟩ := h v (List.mem_cons_self ..)
    exact ⟨h1, h2, h3, h4, rows_of fun v hv => h v (List.mem_cons_of_mem _ hv)⟩
theorem pc_row {x : HX} {y : Y} (h : By x y) {a to : Int} (h0 : 0 ≤ a) (h1 : a ≤ to) (h2 : to ≤ nI y.n) : ∃ P o n c, pc y a to = .slice (some ⟨P, o, some 1000⟩) n c ∧ (((x.D P).drop o).take n).length = n ∧ (∀ y ∈ ((x.D P).drop o).take n, 0 ≤ y ∧ y < 256) ∧ n ≤ 3000 ∧ n ≤ c := by
  have q3 := h.few
  have q4 := h.room
  have q5 := wo_len h h1 h2
  unfold nI at h2
  exact ⟨_, _, _, _, rfl, q5, wo_byt h h0 h1 h2, by omega, by omega⟩
structure LL1 (x : HX) (y : Y) (LL : List Value) (k : Nat) : Prop where
  pcs : Pcl y LL
  len : LL.length = k
  few : k ≤ 40
  rows : RowsOk x.D 3000 LL
  cat : catV x.D LL = wk x y
theorem LF_ok {x : HX} {y : Y} (h : By x y) {g : Nat → Value} {k : Nat} (hk : k ≤ 30) (hg : ∀ j, j < k → g j = pc y (aK x y j) (aK x y (j + 1))) : LL1 x y (LF y g k (aK x y k)) (k + 1) := by
  have a0 := aK_le x y k
  have key : ∀ v ∈ LF y g k (aK x y k), ∃ a to, v = pc y a to ∧ 0 ≤ a ∧ a ≤ to ∧ to ≤ nI y.n := fun v hv => by
    unfold LF at hv
    rw [Nat.mul_one, famList_eq] at hv
    rcases List.mem_append.1 hv with hv | hv
    · obtain ⟨j, hj, rfl⟩ := List.mem_map.1 hv
      have hj := List.mem_range.1 hj
      have a1 := aK_le x y j
      have a2 := toK_le (x := x) j a1.2
      exact ⟨_, _, by rw [Nat.zero_add]; exact hg j hj, a1.1, a2.1, a2.2⟩
    · simp only [List.mem_cons, List.not_mem_nil, or_false] at hv
      exact ⟨_, _, hv, a0.1, a0.2, Int.le_refl _⟩
  refine ⟨fun v hv => ?_, ?_, by omega, rows_of fun v hv => ?_, ?_⟩
  · obtain ⟨a, to, e, _⟩ := key v hv
    exact ⟨a, to, e⟩
  · unfold LF; rw [Nat.mul_one, famList_eq]; simp
  · obtain ⟨a, to, rfl, h0, h1, h2⟩ := key v hv
    exact pc_row h h0 h1 h2
  · unfold LF
    rw [Nat.mul_one, catV_app, catF h k hg, cat1]
    have := wo_take h a0.1 a0.2 (Int.le_refl _)
    rw [wk_all h] at this
    exact this
def Fin (e : Exit) (t : St) : Prop := leaves? e = true ∧ t.defers = [] ∧ t.tmps.getD 4 undef = .bool true
def End (x : HX) (y : Y) : Prop := ∀ {h : HS} {s : Int} {LL : List Value} {k : Nat} {v : VF}, (∀ i, DeadV (v i)) → Tk x y h s (nI y.n) → LL1 x y LL k → StepG Try.prog none (s0 x y) c12 (sZ x y h s (oL LL) (AL x y) (shaN (wk x y)) k (nA y) (nA y) (nI (nA y)) v) Fin
theorem mid2 {x : HX} {y : Y} (b : By x y) (hE : End x y) {h : HS} {s : Int} {LL : List Value} {k : Nat} {v : VF} (hv : ∀ i, DeadV (v i)) (tk : Tk x y h s (nI y.n)) (hg : LL1 x y LL k) :
    StepG Try.prog none (s0 x y) c11 (sW x y h s (oL LL) (AL x y) F0 k (nA y) (nA y) v) Fin := by
  obtain ⟨N, e, eN⟩ := nA_64 y
  have le := nA_le b
  have ll := AL_len b
  rw [c11_eq]
  refine StepG.seq (StepG.mono (Q := fun e s' => e = .normal ∧ ∃ v', (∀ i, DeadV (v' i)) ∧ s' = sZ x y h s (oL LL) (AL x y) (shaN (wk x y)) k (nA y) (nA y) (nI (nA y)) v') ?_ ?_)
  · have g1 : (Tr.rebuild (hZ2 x h s (oL LL) (AL x y) F0) 5).get 2 = some (.cells (.lit LL) 22) := by rw [getZ]; rfl
    refine StepG.seqsM (s0 := s0 x y) (rd := none) sw.pg (KZ_ok x AB DS shaN) (σ := [0, 1, 2, 3, 4]) (kb := 2) (m := 2) (rY AB DS shaN sw.blk x y h s LL (AL x y) F0 k (nA y) (nA y) v) trivial (show 1 ≤ 5 by decide) (tmZ_dead hv lvY) (hZ_ok x h s (AL x y) _) rfl (okY x y h s (AL x y) F0 k (nA y) (nA y) v) g1 (fun b hb => h3Z b hb) rfl (famZ hg.pcs) rfl (show 1 ≤ 2 by decide) (fun b o' hb hx => nmZ b o' hb hx) ?_
    refine StepG.block ?_
    have L := loopZ (x := x) (y := y) (h := h) (s := s) (L := AL x y) (k := k) (N := N) (q := nA y) (v := v) hv hg.pcs (by omega) (by omega) (by omega)
    rw [← e, zS_sha b e eN] at L
    refine StepG.mono L ?_
    rintro e' S ⟨rfl, v', hv', rfl⟩
    refine ⟨rfl, v', hv', ?_⟩
    have : 64 * (N : Int) = nI (nA y) := by unfold nI; omega
    rw [this]
  · rintro e' S ⟨rfl, v', hv', rfl⟩
    exact .inl ⟨rfl, hE hv' tk hg⟩
theorem pM_ok {x : HX} {y : Y} (b : By x y) (h0 : 0 < y.n) {p : Prop} (hp : p) : pM x y p := by
  have t := tl_b y.n
  have f := b.few
  have d := D_len b
  have e : (M0 x y).length = y.n := b.len
  unfold pM
  refine ⟨⟨⟨⟨⟨hp, by omega⟩, by rw [decide_eq_false_iff_not]; omega⟩, .inr (by omega), Nat.le_refl 0, by unfold mostBytes; omega, by unfold mostBytes; omega⟩, by rw [decide_eq_false_iff_not]; omega⟩, by rw [T_len]; omega, by omega, by unfold mostBytes; omega, by unfold mostBytes; omega⟩
theorem pM0_ok {x : HX} {y : Y} (b : By x y) (h0 : y.n = 0) {p : Prop} (hp : p) : pM0 x y p := by
  have t := tl_b y.n
  unfold pM0
  refine ⟨⟨⟨⟨⟨hp, by omega⟩, by rw [decide_eq_true_eq]; omega⟩, .inl h0, by rw [h0]; exact Nat.le_refl 0⟩, by rw [decide_eq_false_iff_not]; omega⟩, by rw [T_len]; omega, ?_, by unfold mostBytes; omega, by unfold mostBytes; omega⟩
  rw [h0]; exact Nat.zero_le _
theorem nmW {x : HX} {h : HS} {s : Int} {L : List Int} {S5 : sw.N5} {σ : List Nat} {m : Nat} (hm : nm σ 0 ≠ m ∧ nm σ 1 ≠ m ∧ nm σ 3 ≠ m ∧ nm σ 4 ≠ m) (b : Nat) (o' : Ob) (hb : b ≠ 2) (hx : (Tr.rebuild (hZ2 x h s none L S5) 5).get b = some o') : nm σ b ≠ m := by
  rw [getZ] at hx
  split at hx
  · have : b = 0 ∨ b = 1 ∨ b = 3 ∨ b = 4 := by omega
    rcases this with rfl | rfl | rfl | rfl
    · exact hm.1
    · exact hm.2.1
    · exact hm.2.2.1
    · exact hm.2.2.2
  · cases hx
theorem middleT {x : HX} {y : Y} {s : St} (b : By x y) (hE : End x y) (hG : Good x y y.m s) : StepG Try.prog none (s0 x y) c6 s Fin := by
  have hm30 := b.few2
  have e1 := LA_eq b
  generalize hm : y.m = m at hG hm30
  cases hG with
  | n hv tk =>
    rename_i v h0 s0'
    have a1 := aK_le x y 0
    have hf : aK x y 0 = 0 := rfl
    have pq : pQ y 0 (nI y.n) := pQ_ok b (Int.le_refl 0) (by unfold nI; omega) (Int.le_refl _)
    have w := wA_ok b tk (Int.le_refl 0) (show (0 : Int) ≤ nI y.n by unfold nI; omega) (Int.le_refl _)
    have tk2 := tk.next b (Int.le_refl 0) (show (0 : Int) ≤ nI y.n by unfold nI; omega) (Int.le_refl _)
    have hl := LF_ok (k := 0) (g := fun _ => undef) b (by decide) (fun j hj => absurd hj (Nat.not_lt_zero j))
    have g1 : ∀ {L : List Int}, (Tr.rebuild (hZ2 x (hs' AB x y h0 s0' 0 (nI y.n)) (ss h0 s0' 0 (nI y.n)) (oL (LF y (fun _ => undef) 0 0)) L F0) 5).get 2 = some (.cells (.lit (LF y (fun _ => undef) 0 0)) 22) := fun {L} => by rw [getZ]; rfl
    by_cases hn : y.n = 0
    · have hr := rMN0 AB DS shaN sw.blk x y h0 s0' 0 (fun _ => undef) v
      refine StepG.seqsM (s0 := s0 x y) (rd := none) sw.pg (KZ_ok x AB DS shaN) (kb := 2) hr (pM0_ok b hn ⟨⟨⟨trivial, pq⟩, pq⟩, w⟩) (show 1 ≤ 2 by decide) (tmW_dead (VM_dead hv) lvM) (hZ_ok x _ _ _ _) rfl (okN0 AB x y h0 s0' 0 v) g1 (fun b hb => h3Z b hb) rfl (famW _ hl.pcs) rfl (show 1 ≤ 2 by decide) (fun b o' hb hx => nmW (by decide) b o' hb hx) ?_
      have := mid2 b hE (VM_dead hv) tk2 hl
      rw [← LA0_eq b hn] at this
      exact this
    · have hr := rMN AB DS shaN sw.blk x y h0 s0' 0 (fun _ => undef) v
      refine StepG.seqsM (s0 := s0 x y) (rd := none) sw.pg (KZ_ok x AB DS shaN) (kb := 2) hr (pM_ok b (by omega) ⟨⟨⟨trivial, pq⟩, pq⟩, w⟩) (show 1 ≤ 2 by decide) (tmW_dead (VM_dead hv) lvM) (hZ_ok x _ _ _ _) rfl (okN1 AB x y h0 s0' 0 v) g1 (fun b hb => h3Z b hb) rfl (famW _ hl.pcs) rfl (show 1 ≤ 2 by decide) (fun b o' hb hx => nmW (by decide) b o' hb hx) ?_
      have := mid2 b hE (VM_dead hv) tk2 hl
      rw [← e1] at this
      exact this
  | f hv tk hk hg =>
    rename_i v g h0 s0'
    have a1 := aK_le x y m
    have pq : pQ y (aK x y m) (nI y.n) := pQ_ok b a1.1 a1.2 (Int.le_refl _)
    have w := wA_ok b tk a1.1 a1.2 (Int.le_refl _)
    have tk2 := tk.next b a1.1 a1.2 (Int.le_refl _)
    have hl := LF_ok (k := m) b hm30 hg
    have g1 : ∀ {L : List Int}, (Tr.rebuild (hZ2 x (hs' AB x y h0 s0' (aK x y m) (nI y.n)) (ss h0 s0' (aK x y m) (nI y.n)) (oL (LF y g m (aK x y m))) L F0) 5).get 2 = some (.cells (.lit (LF y g m (aK x y m))) 22) := fun {L} => by rw [getZ]; rfl
    by_cases hn : y.n = 0
    · have hr := rMF0 AB DS shaN sw.blk x y h0 s0' (aK x y m) g m v
      refine StepG.seqsM (s0 := s0 x y) (rd := none) sw.pg (KZ_ok x AB DS shaN) (kb := 2) hr (pM0_ok b hn ⟨⟨⟨⟨⟨trivial, pq⟩, gr_ok hm30⟩, by omega⟩, pq⟩, w⟩) (show 1 ≤ 3 by decide) (tmW_dead (VM_dead hv) lvM) (hZ_ok x _ _ _ _) rfl (okM0 AB x y h0 s0' (aK x y m) m v) g1 (fun b hb => h3Z b hb) rfl (famW _ hl.pcs) rfl (show 1 ≤ 2 by decide) (fun b o' hb hx => nmW (by decide) b o' hb hx) ?_
      have := mid2 b hE (VM_dead hv) tk2 hl
      rw [← LA0_eq b hn] at this
      exact this
    · have hr := rMF AB DS shaN sw.blk x y h0 s0' (aK x y m) g m v
      refine StepG.seqsM (s0 := s0 x y) (rd := none) sw.pg (KZ_ok x AB DS shaN) (kb := 2) hr (pM_ok b (by omega) ⟨⟨⟨⟨⟨trivial, pq⟩, gr_ok hm30⟩, by omega⟩, pq⟩, w⟩) (show 1 ≤ 3 by decide) (tmW_dead (VM_dead hv) lvM) (hZ_ok x _ _ _ _) rfl (okM AB x y h0 s0' (aK x y m) m v) g1 (fun b hb => h3Z b hb) rfl (famW _ hl.pcs) rfl (show 1 ≤ 2 by decide) (fun b o' hb hx => nmW (by decide) b o' hb hx) ?_
      have := mid2 b hE (VM_dead hv) tk2 hl
      rw [← e1] at this
      exact this
end
end sk
end Go.Proofs.Yteknepfcbpoooaa
namespace Go.Proofs.Yteknepfcbpoooaa
open Go.ChangeShapes Go.WideShapes Go.ChangeAt Go.RowKit Go.Cln
namespace sk
open hc hx hy hz tb na
set_option linter.unusedVariables false
noncomputable section
theorem StepG.ran {P : Program} (G : PG P) {K : Given} (hK : GivenOk P K) {n : Nat} {f : FuncId} {rd : Option Nat} {s0 s : St} {c : Code} {e : Exit} {p : Prop} {o : List (Option Bool)} {d : List Nat} {t : Nat} {b : Bool}
    (hr : ((mk P K n).code f rd c { s with obl := True, orc := o }).map (fun r => (r.1, r.2.obl, r.2.defers, getL r.2.tmps t)) = some (e, p, d, .bool b)) (hp : p) (hn : s0.next ≤ s.next) : StepG P rd s0 c s (fun e' s' => e' = e ∧ s'.defers = d ∧ s'.tmps.getD t undef = .bool b) := by
  cases hc : (mk P K n).code f rd c { s with obl := True, orc := o } with
  | none => rw [hc] at hr; simp at hr
  | some r =>
    obtain ⟨e1, s1⟩ := r
    rw [hc] at hr
    simp only [Option.map_some, Option.some.injEq, Prod.mk.injEq] at hr
    obtain ⟨rfl, h2, h3, h4⟩ := hr
    have l1 : Like s { s with obl := True, orc := o } := ⟨rfl, rfl, rfl, rfl, rfl⟩
    have h := (mk_ok G hK n).okCode hc
    intro m ρ0 w0 w a R g1 g2 ⟨ρ, r, t⟩ g4
    have := h (by rw [h2]; exact hp) m ρ w a R (fun l hl => Nat.lt_of_lt_of_le (g1 l hl) hn) (r.like l1 rfl rfl) fun ρ' w' a' r' t' => g4 _ s1 w' a' ⟨rfl, h3, by rw [← getL_eq]; exact h4⟩ ⟨ρ', r', t.trans (l1.thenTra t')⟩
    rwa [fenceOf_ext g1 t.ext] at this
def nq (a b : Int) (j : Nat) : Prop := (by8 a j != rb4 b j) = false
def eq (a b : Int) (j : Nat) : Prop := (by8 a j == by8 b j) = true
def t64 (n : Nat) : Prop := ((nI n).tmod 64 == 0) = true
def VB (V : List Int → sw.N5) (x : HX) (y : Y) : sw.N5 := V (catV x.D [PV y.P 0 y.n y.c])
def VA (V : List Int → sw.N5) (x : HX) (LL : List Value) : sw.N5 := V (catV x.D LL)
def VE (E : ET) (h : HS) (s : Int) : sw.N5 := E (hOf (cH h s)) (intAt (cH h s) 70).toNat
def r9 : Nat → List (Option Bool) → List (Option Bool)
  | 0, l => l
  | n + 1, l => List.replicate 8 none ++ (some false :: r9 n l)
def oE : List (Option Bool) := List.replicate 7 none ++ (some false :: r9 19 (List.replicate 7 none ++ List.replicate 25 (some true) ++ List.replicate 4 none ++ List.replicate 20 (some true) ++ List.replicate 14 none ++ List.replicate 2 (some true)))
variable (A : AT) (E : ET) (V : List Int → sw.N5) (B : BF) (x : HX) (y : Y) (h : HS) (s : Int) (LL : List Value) (L : List Int) (S5 : sw.N5) (k nn q : Nat) (i : Int) (v : VF)
def pE : Prop := ((((((((((((((((((((((((((((((((((((((((((((((((((((((((((((((((((((((True ∧ (V = shaN ∧ x.F = x.F ∧ RowsOk x.D 3000 [PV y.P 0 y.n y.c])) ∧ nq (VB V x y).a S5.a 3) ∧ nq (VB V x y).a S5.a 2) ∧ nq (VB V x y).a S5.a 1) ∧ nq (VB V x y).a S5.a 0) ∧ nq (VB V x y).b S5.b 3) ∧ nq (VB V x y).b S5.b 2) ∧ nq (VB V x y).b S5.b 1) ∧ nq (VB V x y).b S5.b 0) ∧ nq (VB V x y).c S5.c 3) ∧ nq (VB V x y).c S5.c 2) ∧ nq (VB V x y).c S5.c 1) ∧ nq (VB V x y).c S5.c 0) ∧ nq (VB V x y).d S5.d 3) ∧ nq (VB V x y).d S5.d 2) ∧ nq (VB V x y).d S5.d 1) ∧ nq (VB V x y).d S5.d 0) ∧ nq (VB V x y).e S5.e 3) ∧ nq (VB V x y).e S5.e 2) ∧ nq (VB V x y).e S5.e 1) ∧ nq (VB V x y).e S5.e 0) ∧ t64 nn) ∧ t64 nn) ∧ t64 nn) ∧ (V = shaN ∧ x.F = x.F ∧ LL.length = k ∧ k ≤ 40 ∧ RowsOk x.D 3000 LL)) ∧ t64 nn) ∧ eq (VA V x LL).a (VB V x y).a 3) ∧ eq (VA V x LL).a (VB V x y).a 2) ∧ eq (VA V x LL).a (VB V x y).a 1) ∧ eq (VA V x LL).a (VB V x y).a 0) ∧ eq (VA V x LL).b (VB V x y).b 3) ∧ eq (VA V x LL).b (VB V x y).b 2) ∧ eq (VA V x LL).b (VB V x y).b 1) ∧ eq (VA V x LL).b (VB V x y).b 0) ∧ eq (VA V x LL).c (VB V x y).c 3) ∧ eq (VA V x LL).c (VB V x y).c 2) ∧ eq (VA V x LL).c (VB V x y).c 1) ∧ eq (VA V x LL).c (VB V x y).c 0) ∧ eq (VA V x LL).d (VB V x y).d 3) ∧ eq (VA V x LL).d (VB V x y).d 2) ∧ eq (VA V x LL).d (VB V x y).d 1) ∧ eq (VA V x LL).d (VB V x y).d 0) ∧ eq (VA V x LL).e (VB V x y).e 3) ∧ eq (VA V x LL).e (VB V x y).e 2) ∧ eq (VA V x LL).e (VB V x y).e 1) ∧ eq (VA V x LL).e (VB V x y).e 0) ∧ t64 nn) ∧ (E = DS ∧ 0 ≤ intAt (cH h s) 70 ∧ intAt (cH h s) 70 ≤ 1152921504606846976 ∧ intAt (cH h s) 64 = (((intAt (cH h s) 70).toNat % 64 : Nat) : Int))) ∧ eq (VE E h s).a (VB V x y).a 3) ∧ eq (VE E h s).a (VB V x y).a 2) ∧ eq (VE E h s).a (VB V x y).a 1) ∧ eq (VE E h s).a (VB V x y).a 0) ∧ eq (VE E h s).b (VB V x y).b 3) ∧ eq (VE E h s).b (VB V x y).b 2) ∧ eq (VE E h s).b (VB V x y).b 1) ∧ eq (VE E h s).b (VB V x y).b 0) ∧ eq (VE E h s).c (VB V x y).c 3) ∧ eq (VE E h s).c (VB V x y).c 2) ∧ eq (VE E h s).c (VB V x y).c 1) ∧ eq (VE E h s).c (VB V x y).c 0) ∧ eq (VE E h s).d (VB V x y).d 3) ∧ eq (VE E h s).d (VB V x y).d 2) ∧ eq (VE E h s).d (VB V x y).d 1) ∧ eq (VE E h s).d (VB V x y).d 0) ∧ eq (VE E h s).e (VB V x y).e 3) ∧ eq (VE E h s).e (VB V x y).e 2) ∧ eq (VE E h s).e (VB V x y).e 1) ∧ eq (VE E h s).e (VB V x y).e 0) ∧ (s == nI y.n) = true) ∧ True) ∧ (s == nI y.n) = true
theorem rE : ((mk Try.prog (KZ x A E V B) 300).code 9 none c12 { sZ x y h s (oL LL) L S5 k nn q i v with obl := True, orc := oE }).map (fun r => (r.1, r.2.obl, r.2.defers, getL r.2.tmps 4)) = some (.ret, pE E V x y h s LL S5 k nn, [], .bool true) := by kernel_rfl
theorem nq_ok {w : Int} (h : 0 ≤ w ∧ w < 4294967296) (j : Nat) : nq w w j := by
  unfold nq
  rw [rb4_eq h.1]; exact bne_self_eq_false _
theorem eq_ok (w : Int) (j : Nat) : eq w w j := beq_self_eq_true _
theorem pE_ok {x : HX} {y : Y} {h : HS} {s : Int} {LL : List Value} {k : Nat} (b : By x y) (tk : Tk x y h s (nI y.n)) (hl : LL1 x y LL k) : pE DS shaN x y h s LL (shaN (wk x y)) k (nA y) := by
  have hr : RowsOk x.D 3000 [PV y.P 0 y.n y.c] := rows_of fun v hv => by
    simp only [List.mem_cons, List.not_mem_nil, or_false] at hv
    subst hv
    have q3 := b.few
    exact ⟨_, _, _, _, rfl, b.len, b.byt, by omega, b.room⟩
  have q3 := b.few
  have wl := wk_all b
  have sem := tk.sem
  rw [wl] at sem
  have e1 : VB shaN x y = shaN (wk x y) := by
    show shaN (catV x.D [PV y.P 0 y.n y.c]) = _
    rw [cat1]; rfl
  have e2 : VA shaN x LL = shaN (wk x y) := by
    show shaN (catV x.D LL) = _
    rw [hl.cat]
  have es : intAt (cH h s) 70 = nI y.n := tk.size
  have e3 : VE DS h s = shaN (wk x y) := by
    have := SemH.DS (sem.cells s) b.byt
    rw [b.len] at this
    unfold VE
    rw [es, ← this]; rfl
  have kE : DS = DS ∧ 0 ≤ intAt (cH h s) 70 ∧ intAt (cH h s) 70 ≤ 1152921504606846976 ∧ intAt (cH h s) 64 = (((intAt (cH h s) 70).toNat % 64 : Nat) : Int) := by
    have r := sem.rn
    rw [b.len] at r
    rw [es]
    refine ⟨rfl, Int.natCast_nonneg _, by unfold nI; omega, ?_⟩
    show h.rn = _
    rw [r]; unfold nI; omega
  have ks : (s == nI y.n) = true := by rw [tk.size]; exact beq_self_eq_true _
  have k64 : t64 (nA y) := by
    obtain ⟨N, e, _⟩ := nA_64 y
    unfold t64 nI
    rw [beq_iff_eq, Int.tmod_eq_emod_of_nonneg (by omega)]; omega
  have hX := shaN_ok (wk x y)
  unfold pE
  rw [e1, e2, e3]
  generalize shaN (wk x y) = X at hX
  obtain ⟨ka, kb, kc, kd, ke⟩ := hX
  exact ⟨⟨⟨⟨⟨⟨⟨⟨⟨⟨⟨⟨⟨⟨⟨⟨⟨⟨⟨⟨⟨⟨⟨⟨⟨⟨⟨⟨⟨⟨⟨⟨⟨⟨⟨⟨⟨⟨⟨⟨⟨⟨⟨⟨⟨⟨⟨⟨⟨⟨⟨⟨⟨⟨⟨⟨⟨⟨⟨⟨⟨⟨⟨⟨⟨⟨⟨⟨⟨⟨⟨trivial, ⟨rfl, rfl, hr⟩⟩, nq_ok ka 3⟩, nq_ok ka 2⟩, nq_ok ka 1⟩, nq_ok ka 0⟩, nq_ok kb 3⟩, nq_ok kb 2⟩, nq_ok kb 1⟩, nq_ok kb 0⟩, nq_ok kc 3⟩, nq_ok kc 2⟩, nq_ok kc 1⟩, nq_ok kc 0⟩, nq_ok kd 3⟩, nq_ok kd 2⟩, nq_ok kd 1⟩, nq_ok kd 0⟩, nq_ok ke 3⟩, nq_ok ke 2⟩, nq_ok ke 1⟩, nq_ok ke 0⟩, k64⟩, k64⟩, k64⟩, ⟨rfl, rfl, hl.len, hl.few, hl.rows⟩⟩, k64⟩, eq_ok _ 3⟩, eq_ok _ 2⟩, eq_ok _ 1⟩, eq_ok _ 0⟩, eq_ok _ 3⟩, eq_ok _ 2⟩, eq_ok _ 1⟩, eq_ok _ 0⟩, eq_ok _ 3⟩, eq_ok _ 2⟩, eq_ok _ 1⟩, eq_ok _ 0⟩, eq_ok _ 3⟩, eq_ok _ 2⟩, eq_ok _ 1⟩, eq_ok _ 0⟩, eq_ok _ 3⟩, eq_ok _ 2⟩, eq_ok _ 1⟩, eq_ok _ 0⟩, k64⟩, kE⟩, eq_ok _ 3⟩, eq_ok _ 2⟩, eq_ok _ 1⟩, eq_ok _ 0⟩, eq_ok _ 3⟩, eq_ok _ 2⟩, eq_ok _ 1⟩, eq_ok _ 0⟩, eq_ok _ 3⟩, eq_ok _ 2⟩, eq_ok _ 1⟩, eq_ok _ 0⟩, eq_ok _ 3⟩, eq_ok _ 2⟩, eq_ok _ 1⟩, eq_ok _ 0⟩, eq_ok _ 3⟩, eq_ok _ 2⟩, eq_ok _ 1⟩, eq_ok _ 0⟩, ks⟩, trivial⟩, ks⟩
theorem endT {x : HX} {y : Y} (b : By x y) : End x y := fun {h s LL k v} hv tk hl => by
  refine (StepG.ran (s0 := s0 x y) sw.pg (KZ_ok x AB DS shaN) (rE AB DS shaN sw.blk x y h s LL (AL x y) (shaN (wk x y)) k (nA y) (nA y) (nI (nA y)) v) (pE_ok b tk hl) (show 1 ≤ 5 by decide)).mono ?_
  rintro e t ⟨rfl, h1, h2⟩
  exact ⟨rfl, h1, h2⟩
end
end sk
end Go.Proofs.Yteknepfcbpoooaa
