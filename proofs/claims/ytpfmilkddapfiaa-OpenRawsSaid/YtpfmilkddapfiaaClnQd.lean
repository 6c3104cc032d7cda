/- Read off the code by the clean reading. -/
import Derived.Test.YtpfmilkddapfiaaClnQc
set_option linter.unusedVariables false
set_option linter.unusedSimpArgs false
set_option linter.deprecated false
set_option maxRecDepth 100000
namespace Go.Cln
set_option linter.unusedVariables false
structure Tra0 (s s' : St) (ρ ρ' : Nat → PB) (w w' : World) : Prop where
  next : s.next ≤ s'.next
  ext : ∀ b, b < s.next → ρ' b = ρ b
  os : w'.os = w.os
  tape : w'.tape = w.tape
  output : w'.output = w.output
  size : w.heap.size ≤ w'.heap.size
  frame : ∀ k, k < w.heap.size → (∀ (b : Nat) (o : Ob), s.heap.get b = some o → s.may b = true → (ρ b).blk ≠ k) → w'.heap[k]? = w.heap[k]?
  own : ∀ (b : Nat) (o : Ob), s'.heap.get b = some o → s'.may b = true → w.heap.size ≤ (ρ' b).blk ∨ ∃ (b0 : Nat) (o0 : Ob), s.heap.get b0 = some o0 ∧ s.may b0 = true ∧ (ρ b0).blk = (ρ' b).blk
  roB : s'.roB = s.roB
  ro : s'.ro = s.ro
  hid : s'.hid = s.hid
  same : ∀ b, b ≠ 0 → s.may b = false → s'.heap.get b = s.heap.get b
theorem Tra.to0 {s s' : St} {ρ ρ' : Nat → PB} {w w' : World} (h : Tra s s' ρ ρ' w w') : Tra0 s s' ρ ρ' w w' :=
  ⟨h.next, h.ext, h.os, h.tape, h.output, h.size, h.frame, h.own, h.roB, h.ro, h.hid, fun b _ => h.same b⟩
theorem Tra0.trans {s s1 s2 : St} {ρ ρ1 ρ2 : Nat → PB} {w w1 w2 : World} (h : Tra0 s s1 ρ ρ1 w w1) (k : Tra s1 s2 ρ1 ρ2 w1 w2) : Tra0 s s2 ρ ρ2 w w2 where
  next := Nat.le_trans h.next k.next
  ext b hb := (k.ext b (Nat.lt_of_lt_of_le hb h.next)).trans (h.ext b hb)
  os := k.os.trans h.os
  tape := k.tape.trans h.tape
  output := k.output.trans h.output
  size := Nat.le_trans h.size k.size
  frame i hi hn := by
    rw [k.frame i (Nat.lt_of_lt_of_le hi h.size) ?_, h.frame i hi hn]
    intro b o hb hm e
    rcases h.own b o hb hm with h1 | ⟨b0, o0, h1, h2, h3⟩
    · omega
    · exact hn b0 o0 h1 h2 (h3.trans e)
  own b o hb hm := by
    rcases k.own b o hb hm with h1 | ⟨b1, o1, h1, h2, h3⟩
    · exact .inl (Nat.le_trans h.size h1)
    · rcases h.own b1 o1 h1 h2 with h4 | ⟨b0, o0, h4, h5, h6⟩
      · exact .inl (h3 ▸ h4)
      · exact .inr ⟨b0, o0, h4, h5, h6.trans h3⟩
  roB := k.roB.trans h.roB
  ro := k.ro.trans h.ro
  hid := k.hid.trans h.hid
  same b hz hb := (k.same b (by rw [may_of h.roB h.ro]; exact hb)).trans (h.same b hz hb)
def PicG (s0 : St) (ρ0 : Nat → PB) (w0 : World) (s : St) (w : World) (a : Act) : Prop := ∃ ρ, Rel s ρ w a ∧ Tra0 s0 s ρ0 ρ w0 w
theorem PicG.viewM {s0 s1 s2 : St} {ρ0 : Nat → PB} {w0 w : World} {a : Act} {σ : Nat → Nat} (hs0 : Hs s0 ρ0 w0) (v : ViewM s0 s1 s2 σ) (h : PicG s0 ρ0 w0 s1 w a) : PicG s0 ρ0 w0 s2 w a := by
  obtain ⟨ρ1, r, t⟩ := h
  have hρ : ∀ b, (fun b => ρ1 (σ b)) b = ρ1 (σ b) := fun _ => rfl
  have hro : s0.roB ≤ s0.next := hs0.wf.1
  have hrm : ∀ b, s0.may b = true → s0.roB ≤ b := fun b hb => by
    rcases Nat.lt_or_ge b s0.roB with h | h
    · unfold St.may at hb
      simp [h] at hb
      omega
    · exact h
  have hmay : ∀ b, s2.may b = s0.may b := fun b => by rw [may_of v.roB v.ro, may_of t.roB t.ro]
  have hmay1 : ∀ b, s1.may b = s0.may b := fun b => may_of t.roB t.ro b
  refine ⟨fun b => ρ1 (σ b), ⟨⟨⟨fun b o hb => ?_, fun b b' o o' hb hb' hk e => ?_, fun b b' o o' B hb hB hb' hk => ?_⟩, fun b hb => ?_, ?_⟩, ?_, ?_, v.okD⟩, ?_⟩
  · obtain ⟨hd, o1, h1, ho⟩ := v.heap b o hb
    obtain ⟨_, k⟩ := r.hs.ob _ _ h1
    refine ⟨okB_dm hd, ?_⟩
    have hr : s2.roB ≤ b → s1.roB ≤ σ b := fun hb => by
      rw [v.roB] at hb
      rcases Nat.lt_or_ge b s0.next with hlt | hge
      · rw [v.idn b hlt]; exact hb
      · rw [t.roB]; rcases v.fresh b hge with h | h
        · omega
        · exact hrm _ h
    cases ho with
    | cells hc =>
      obtain ⟨pc, ty, fr, k1, k2, k3, k4⟩ := k
      refine ⟨pc, ty, fr, k1, k2, fun m => k3 (hr m), fun i x hx => ?_⟩
      obtain ⟨v1, y1, y2, y3⟩ := hc i x hx
      obtain ⟨z, z1, z2⟩ := k4 i _ y1
      refine ⟨z, z1, ?_⟩
      rcases y2 with rfl | ⟨rfl, y2⟩
      · exact ren_sound hρ x z y3 z2
      · exact .any (by rw [z2.one]; exact y2)
    | loop e1 e2 e3 e4 e5 e6 e7 e8 e9 =>
      rename_i lo1 lo
      obtain ⟨l', k1, k2⟩ := k
      refine ⟨l', k1, ⟨k2.state.trans e1, k2.pending.trans e2, ?_, k2.params.trans e5, k2.assign.trans e6, k2.body.trans e7, okB_dm e9, ?_⟩⟩
      · have := maskD_vl (l2 := lo.tmps) k2.tmps; rw [e3] at this; exact renAll_sound hρ e4 this
      · rw [k2.defers, e8]
    | marks => exact k
    | fam hz =>
      obtain ⟨k1, k3⟩ := k
      refine ⟨fun hb => k1 (hr hb), fun g P i x hx => ?_⟩
      obtain ⟨pc, ty, fr, x', q1, q2, q3, q4⟩ := k3 g P i x hx
      exact ⟨pc, ty, fr, x', q1, q2, famV_vr q3 q4 (okB_dm hz), q4⟩
    | map e1 e2 =>
      rename_i es1 es kk
      obtain ⟨es', k1, k2, k3⟩ := k
      refine ⟨es', k1, by rw [k2, e1]; simp, fun i x y hx hy => ?_⟩
      obtain ⟨y1, y2, y3⟩ := k3 i { x with val := ren σ x.val } y (by rw [e1, List.getElem?_map, hx]; rfl) hy
      exact ⟨y1, y2, ren_sound hρ _ _ (List.all_eq_true.1 e2 x (List.mem_of_getElem? hx)) y3⟩
  · obtain ⟨_, o1, h1, q1⟩ := v.heap b o hb
    obtain ⟨_, o2, h2, q2⟩ := v.heap b' o' hb'
    have up : ∀ c, s2.roB ≤ c → s1.roB ≤ σ c := fun c hc => by
      rw [v.roB] at hc
      rcases Nat.lt_or_ge c s0.next with hlt | hge
      · rw [v.idn c hlt]; exact hc
      · rw [t.roB]; rcases v.fresh c hge with h | h
        · omega
        · exact hrm _ h
    exact (r.hs.inj _ _ _ _ h1 h2 (hk.imp (up b) (up b')) e).imp (v.inj b b' o o' hb hb') (Or.imp q1.soft q2.soft)
  · obtain ⟨_, o1, h1, hv⟩ := v.heap b o hb
    obtain ⟨_, o2, h2, _⟩ := v.heap b' o' hb'
    have up : ∀ c, s2.roB ≤ c → s1.roB ≤ σ c := fun c hc => by
      rw [v.roB] at hc
      rcases Nat.lt_or_ge c s0.next with hlt | hge
      · rw [v.idn c hlt]; exact hc
      · rw [t.roB]; rcases v.fresh c hge with h | h
        · omega
        · exact hrm _ h
    refine r.hs.far _ _ o1 o2 B h1 ?_ h2 (up b' hk)
    obtain ⟨F, g, P, i, x, rfl, hx, hB⟩ := hB
    cases hv
    exact ⟨F, g, P, i, x, rfl, hx, hB⟩
  · rw [v.hid, t.hid]; exact hs0.hid b (Nat.le_trans v.next hb)
  · rw [v.roB, v.ro, t.roB, t.ro]
    exact ⟨Nat.le_trans hro v.next, fun b hb => Nat.lt_of_lt_of_le (hs0.wf.2 b hb) v.next⟩
  · have := maskD_vl (l2 := s2.tmps) r.tmps; rw [v.tmps] at this; exact renAll_sound hρ v.okT this
  · rw [r.defers, v.defers]; simp [marksOf]
  · refine ⟨v.next, fun b hb => ?_, t.os, t.tape, t.output, t.size, t.frame, fun b o hb hm => ?_, v.roB.trans t.roB, v.ro.trans t.ro, v.hid.trans t.hid, fun b hz hb => ?_⟩
    · show ρ1 (σ b) = ρ0 b
      rw [v.idn b hb]; exact t.ext b hb
    · obtain ⟨_, o1, h1, _⟩ := v.heap b o hb
      refine t.own (σ b) o1 h1 ?_
      rw [hmay1]; rw [hmay] at hm
      rcases Nat.lt_or_ge b s0.next with hlt | hge
      · rw [v.idn b hlt]; exact hm
      · exact (v.fresh b hge).elim (fun h => hs0.may_next h) id
    · have := may_lt hs0 hb
      rw [v.same b this hb]; exact t.same b hz hb
theorem PicG.weak {s0 s s2 : St} {ρ0 : Nat → PB} {w0 w : World} {a : Act} (v : Wk s s2) (h : PicG s0 ρ0 w0 s w a) : PicG s0 ρ0 w0 s2 w a := by
  obtain ⟨ρ, r, t⟩ := h
  have hdm : Dm s2 = Dm s := by unfold Dm; rw [v.next, v.hid]
  refine ⟨ρ, ⟨⟨⟨fun b o hb => ?_, fun b b' o o' hb hb' hk e => ?_, fun b b' o o' B hb hB hb' hk => ?_⟩, fun b hb => ?_, ?_⟩, ?_, ?_, ?_⟩, ?_⟩
  · obtain ⟨o1, h1, h2⟩ := v.heap b o hb
    obtain ⟨k1, k2⟩ := r.hs.ob b o1 h1
    rw [hdm, v.roB]
    refine ⟨k1, ?_⟩
    rcases h2 with rfl | ⟨l, l2, ty, rfl, rfl, hl⟩
    · exact k2
    · obtain ⟨pc, ty', fr, q1, q2, q3, q4⟩ := k2
      refine ⟨pc, ty', fr, q1, q2, q3, fun i x hx => ?_⟩
      obtain ⟨y, hy, hyx⟩ := hl i x hx
      obtain ⟨z, z1, z2⟩ := q4 i y hy
      refine ⟨z, z1, ?_⟩
      rcases hyx with rfl | ⟨rfl, a', rfl⟩
      · exact z2
      · exact z2.empty v.zero
  · obtain ⟨o1, h1, q1⟩ := v.heap b o hb
    obtain ⟨o2, h2, q2⟩ := v.heap b' o' hb'
    rw [v.roB] at hk
    refine (r.hs.inj _ _ _ _ h1 h2 hk e).imp_right (Or.imp (fun k => ?_) fun k => ?_)
    · rcases q1 with rfl | ⟨_, _, _, rfl, rfl, _⟩
      · exact k
      · cases k
    · rcases q2 with rfl | ⟨_, _, _, rfl, rfl, _⟩
      · exact k
      · cases k
  · obtain ⟨o1, h1, h3⟩ := v.heap b o hb
    obtain ⟨o2, h2, _⟩ := v.heap b' o' hb'
    rw [v.roB] at hk
    refine r.hs.far _ _ o1 o2 B h1 ?_ h2 hk
    rcases h3 with rfl | ⟨l, l2, ty, rfl, rfl, _⟩
    · exact hB
    · obtain ⟨F, g, P, i, x, hx, _⟩ := hB; cases hx
  · rw [v.hid]; exact r.hs.hid b (by rw [← v.next]; exact hb)
  · rw [v.roB, v.next, v.ro]; exact r.hs.wf
  · rw [hdm, v.tmps]; exact r.tmps
  · rw [v.defers]; exact r.defers
  · rw [v.defers, v.next]; exact r.marks
  · refine ⟨by rw [v.next]; exact t.next, t.ext, t.os, t.tape, t.output, t.size, t.frame, fun b o hb hm => ?_, v.roB.trans t.roB, v.ro.trans t.ro, v.hid.trans t.hid, fun b hz hb => ?_⟩
    · obtain ⟨o1, h1, _⟩ := v.heap b o hb
      exact t.own b o1 h1 (by rw [← may_of v.roB v.ro]; exact hm)
    · rw [v.same b (by rw [may_of t.roB t.ro]; exact hb)]; exact t.same b hz hb
def Keeps (F F' : Nat → Nat → Cells) : Prop := ∀ (g B j : Nat) (v : Value), (F g B).get j = some v → F' g B = F g B
theorem Keeps.refl (F : Nat → Nat → Cells) : Keeps F F := fun _ _ _ _ _ => rfl
theorem Keeps.trans {F F1 F2 : Nat → Nat → Cells} (h : Keeps F F1) (k : Keeps F1 F2) : Keeps F F2 := fun g B j v hv => by
  have e := h g B j v hv
  rw [k g B j v (by rw [e]; exact hv), e]
def famPut (F : Nat → Nat → Cells) (P : Nat) (L : List Int) : Nat → Nat → Cells := fun g B => if B = P then .ints .u8 L else F g B
structure Took (s s2 : St) (F : Nat → Nat → Cells) (b m i : Nat) (L : List Int) (l : List Value) (t : TypeId) (n P c : Nat) : Prop where
  next : s2.next = s.next
  roB : s2.roB = s.roB
  ro : s2.ro = s.ro
  hid : s2.hid = s.hid
  defers : s2.defers = s.defers
  tmps : s2.tmps = s.tmps
  zero : s2.heap.get 0 = some (.fam (famPut F P L))
  gone : s2.heap.get b = none
  cell : s2.heap.get m = some (.cells (.lit (l.set i (.slice (some ⟨P, 0, some 1000⟩) n c))) t)
  rest : ∀ x, x ≠ 0 → x ≠ b → x ≠ m → s2.heap.get x = s.heap.get x
theorem PicG.take {s0 s : St} {ρ0 : Nat → PB} {w0 w : World} {a : Act} {F : Nat → Nat → Cells} {b m i : Nat} {L : List Int} {l : List Value} {t t' : TypeId} {g : Option Nat} {n c : Nat} (mk : Nat → Nat → St)
    (h : PicG s0 ρ0 w0 s w a) (h0 : s.heap.get 0 = some (.fam F)) (hb : s.heap.get b = some (.cells (.ints .u8 L) t')) (hm : s.heap.get m = some (.cells (.lit l) t)) (hi : l[i]? = some (.slice (some ⟨b, 0, g⟩) n c))
    (hbm : b ≠ m) (hm0 : m ≠ 0) (hb0 : b ≠ 0) (hr : s.may b = true) (hrm : s.may m = true) (hs : isAbs g = false) (hv : ∀ P c', Took s (mk P c') F b m i L l t n P c') :
    ∃ P c', n ≤ c' ∧ Keeps F (famPut F P L) ∧ PicG s0 ρ0 w0 (mk P c') w a := by
  obtain ⟨ρ, r, tr⟩ := h
  obtain ⟨d0, f1, f3⟩ := r.hs.ob 0 _ h0
  obtain ⟨db, pb, tb, fb, b1, b2, b3, b4⟩ := r.hs.ob b _ hb
  obtain ⟨dm, pm, tm, fm, m1, m2, m3, m4⟩ := r.hs.ob m _ hm
  have hRb : s.roB ≤ b := by
    unfold St.may at hr; simp only [Bool.and_eq_true, decide_eq_true_eq] at hr; exact hr.1
  obtain ⟨v, hv1, hv2⟩ := m4 i _ hi
  have key : ∃ c', n ≤ c' ∧ AbsOk (plc (ρ b).blk (ρ b).off) 0 n c' v := by
    cases hv2 with
    | same hf => simp [flat0] at hf
    | slice h1 h2 h3 =>
      rename_i c' a'
      obtain ⟨k1, k2, k3⟩ := h3
      have hcc : c ≤ c' := by
        cases g with
        | none => exact Nat.le_of_eq (k2 rfl).symm
        | some z => exact (k3 z rfl).1
      rcases Nat.eq_zero_or_pos c' with hz | hz
      · subst hz
        exact ⟨0, by omega, by omega, .inr ⟨rfl, some a', 0, by rw [show n = 0 by omega]⟩⟩
      · refine ⟨c', by omega, by omega, .inl ?_⟩
        rcases k1 with k1 | k1
        · omega
        · rw [k1, blkOf_plc, baseOf_plc]
    | abs _ hg _ => rw [hg] at hs; cases hs
  obtain ⟨c', hc', habs⟩ := key
  have T := hv (plc (ρ b).blk (ρ b).off) c'
  have hdm : Dm (mk (plc (ρ b).blk (ρ b).off) c') = Dm s := by unfold Dm; rw [T.next, T.hid]
  have keeps : Keeps F (famPut F (plc (ρ b).blk (ρ b).off) L) := fun g' B j x hx => by
    unfold famPut
    rw [if_neg]
    rintro rfl
    exact r.hs.far 0 b _ _ _ h0 ⟨F, _, _, _, _, rfl, hx, blkOf_plc _ _⟩ hb hRb rfl
  have old : ∀ x o, (mk (plc (ρ b).blk (ρ b).off) c').heap.get x = some o → x ≠ b ∧ ∃ o1, s.heap.get x = some o1 ∧ (x ≠ 0 → ∀ B, o.far B → o1.far B) ∧ (o1.soft = true → o.soft = true) := fun x o hx => by
    have hxb : x ≠ b := fun e => by rw [e, T.gone] at hx; cases hx
    refine ⟨hxb, ?_⟩
    by_cases e0 : x = 0
    · subst e0; exact ⟨_, h0, fun h => absurd rfl h, fun _ => by rw [T.zero] at hx; cases hx; rfl⟩
    · by_cases em : x = m
      · subst em
        rw [T.cell] at hx; cases hx
        refine ⟨_, hm, fun _ B hB => ?_, fun k => by cases k⟩
        obtain ⟨_, _, _, _, _, hB, _⟩ := hB; cases hB
      · exact ⟨o, by rw [← T.rest x e0 hxb em]; exact hx, fun _ B hB => hB, id⟩
  refine ⟨plc (ρ b).blk (ρ b).off, c', hc', keeps, ρ, ⟨⟨⟨fun x o hx => ?_, fun x x' o o' hx hx' hk e => ?_, fun x x' o o' B hx hB hx' hk => ?_⟩, fun x hx => ?_, ?_⟩, ?_, ?_, ?_⟩, ?_⟩
  · rw [hdm, T.roB]
    by_cases e0 : x = 0
    · subst e0
      rw [T.zero] at hx; cases hx
      refine ⟨d0, f1, fun g' B j y hy => ?_⟩
      unfold famPut at hy
      split at hy
      · rename_i hgB
        subst hgB
        obtain ⟨z, z1, z2⟩ := b4 j y hy
        refine ⟨pb, tb, fb, z, by rw [blkOf_plc]; exact b1, by rw [baseOf_plc]; exact z1, z2, ?_⟩
        simp only [Cells.get, Option.map_eq_some_iff] at hy
        obtain ⟨q, _, rfl⟩ := hy
        rfl
      · exact f3 g' B j y hy
    · by_cases em : x = m
      · subst em
        rw [T.cell] at hx; cases hx
        refine ⟨dm, pm, tm, fm, m1, m2, m3, fun j y hy => ?_⟩
        simp only [Cells.get, List.getElem?_set] at hy
        split at hy
        · rename_i hij
          subst hij
          split at hy
          · cases hy
            exact ⟨v, hv1, .abs d0 rfl habs⟩
          · cases hy
        · exact m4 j y hy
      · obtain ⟨hxb, _⟩ := old x o hx
        rw [T.rest x e0 hxb em] at hx
        exact r.hs.ob x o hx
  · obtain ⟨_, o1, h1, _, q1⟩ := old x o hx
    obtain ⟨_, o2, h2, _, q2⟩ := old x' o' hx'
    rw [T.roB] at hk
    exact (r.hs.inj _ _ _ _ h1 h2 hk e).imp_right (Or.imp q1 q2)
  · obtain ⟨_, o1, h1, h3, _⟩ := old x o hx
    obtain ⟨hxb, o2, h2, _⟩ := old x' o' hx'
    rw [T.roB] at hk
    by_cases e0 : x = 0
    · subst e0
      rw [T.zero] at hx; cases hx
      obtain ⟨F', g', P, j, y, hF, hy, rfl⟩ := hB
      cases hF
      unfold famPut at hy
      split at hy
      · rename_i hgB
        subst hgB
        rw [blkOf_plc]
        exact fun e => hxb (r.hs.injM hb h2 hk e.symm rfl).symm
      · exact r.hs.far 0 x' _ _ _ h0 ⟨F, g', P, j, y, rfl, hy, rfl⟩ h2 hk
    · exact r.hs.far x x' _ _ _ h1 (h3 e0 B hB) h2 hk
  · rw [T.hid]; exact r.hs.hid x (by rw [← T.next]; exact hx)
  · rw [T.roB, T.next, T.ro]; exact r.hs.wf
  · rw [hdm, T.tmps]; exact r.tmps
  · rw [T.defers]; exact r.defers
  · rw [T.defers, T.next]; exact r.marks
  · refine ⟨by rw [T.next]; exact tr.next, tr.ext, tr.os, tr.tape, tr.output, tr.size, tr.frame, fun x o hx hmx => ?_, T.roB.trans tr.roB, T.ro.trans tr.ro, T.hid.trans tr.hid, fun x hz hx => ?_⟩
    · obtain ⟨_, o1, h1, _⟩ := old x o hx
      exact tr.own x o1 h1 (by rw [← may_of T.roB T.ro]; exact hmx)
    · have hms : s.may x = false := by rw [may_of tr.roB tr.ro]; exact hx
      rw [T.rest x hz (fun e => by rw [e, hr] at hms; cases hms) (fun e => by rw [e, hrm] at hms; cases hms)]
      exact tr.same x hz hx
structure Shed (s0 s s2 : St) : Prop where
  next : s2.next = s.next
  roB : s2.roB = s.roB
  ro : s2.ro = s.ro
  hid : s2.hid = s.hid
  defers : s2.defers = s.defers
  tmps : s2.tmps = s.tmps
  fam : ∃ o, s.heap.get 0 = some o
  zero : s2.heap.get 0 = s0.heap.get 0
  rest : ∀ x, x ≠ 0 → s2.heap.get x = s.heap.get x
theorem PicG.shed {s0 s s2 : St} {ρ0 : Nat → PB} {w0 w : World} {a : Act} {F0 : Nat → Nat → Cells} (hs0 : Hs s0 ρ0 w0) (h : PicG s0 ρ0 w0 s w a) (h0 : s0.heap.get 0 = some (.fam F0)) (T : Shed s0 s s2) : Pic s0 ρ0 w0 s2 w a := by
  obtain ⟨ρ, r, tr⟩ := h
  obtain ⟨d0, f1, f3⟩ := hs0.ob 0 _ h0
  have hdm : Dm s2 = Dm s := by unfold Dm; rw [T.next, T.hid]
  have hrb : ∀ b, s0.may b = true → s0.roB ≤ b := fun b hb => by
    unfold St.may at hb; simp only [Bool.and_eq_true, decide_eq_true_eq] at hb; exact hb.1
  have e0 : ρ 0 = ρ0 0 := tr.ext 0 d0.1
  have far0 : ∀ (g B j : Nat) (v : Value), (F0 g B).get j = some v → blkOf B < w0.heap.size ∧ w.heap[blkOf B]? = w0.heap[blkOf B]? := fun g B j v hv => by
    obtain ⟨pc, t, fr, v', k1, k2⟩ := f3 g B j v hv
    have hlt := heapObj_lt k1
    exact ⟨hlt, tr.frame _ hlt fun b o hb hm => hs0.far 0 b _ _ _ h0 ⟨F0, g, B, j, v, rfl, hv, rfl⟩ hb (hrb b hm)⟩
  have z2 := T.zero.trans h0
  have hz : s.roB = s0.roB := tr.roB
  have nz : ∀ b, s0.roB ≤ b → b ≠ 0 := fun b hb e => f1 (by rw [e] at hb; exact hb)
  refine ⟨ρ, ⟨⟨⟨fun x o hx => ?_, fun x x' o o' hx hx' hk e => ?_, fun x x' o o' B hx hB hx' hk => ?_⟩, fun x hx => ?_, ?_⟩, ?_, ?_, ?_⟩, ?_⟩
  · rw [hdm, T.roB]
    by_cases ex : x = 0
    · subst ex
      rw [z2] at hx; cases hx
      have d0' : Dm s 0 := ⟨Nat.lt_of_lt_of_le d0.1 tr.next, by rw [tr.hid]; exact d0.2⟩
      refine ⟨d0', by rw [hz]; exact f1, fun g B j v hv => ?_⟩
      obtain ⟨pc, t, fr, v', k1, k2, k3, k4⟩ := f3 g B j v hv
      exact ⟨pc, t, fr, v', (far0 g B j v hv).2.trans k1, k2, famV_vr k3 k4 d0', k4⟩
    · rw [T.rest x ex] at hx; exact r.hs.ob x o hx
  · rw [T.roB, hz] at hk
    by_cases ex : x = 0
    · by_cases ex' : x' = 0
      · exact .inl (by rw [ex, ex'])
      · subst ex
        rw [z2] at hx; cases hx
        exact .inr (.inl rfl)
    · by_cases ex' : x' = 0
      · subst ex'
        rw [z2] at hx'; cases hx'
        exact .inr (.inr rfl)
      · rw [T.rest x ex] at hx; rw [T.rest x' ex'] at hx'
        exact r.hs.inj _ _ _ _ hx hx' (by rw [hz]; exact hk) e
  · rw [T.roB, hz] at hk
    have ex' := nz x' hk
    rw [T.rest x' ex'] at hx'
    by_cases ex : x = 0
    · subst ex
      rw [z2] at hx; cases hx
      obtain ⟨F', g, P, j, y, hF, hy, rfl⟩ := hB
      cases hF
      obtain ⟨hlt, _⟩ := far0 g P j y hy
      by_cases hm : s.may x' = true
      · rcases tr.own x' o' hx' hm with k | ⟨b0, o0, k1, k2, k3⟩
        · omega
        · rw [← k3]; exact hs0.far 0 b0 _ _ _ h0 ⟨F0, g, P, j, y, rfl, hy, rfl⟩ k1 (hrb b0 k2)
      · have hm0 : s0.may x' = false := by rw [← may_of tr.roB tr.ro]; simpa using hm
        have hx0 := (tr.same x' ex' hm0).symm.trans hx'
        have hl : x' < s0.next := may_lt hs0 hm0
        rw [tr.ext x' hl]
        exact hs0.far 0 x' _ _ _ h0 ⟨F0, g, P, j, y, rfl, hy, rfl⟩ hx0 hk
    · rw [T.rest x ex] at hx
      exact r.hs.far x x' _ _ _ hx hB hx' (by rw [hz]; exact hk)
  · rw [T.hid]; exact r.hs.hid x (by rw [← T.next]; exact hx)
  · rw [T.roB, T.next, T.ro]; exact r.hs.wf
  · rw [hdm, T.tmps]; exact r.tmps
  · rw [T.defers]; exact r.defers
  · rw [T.defers, T.next]; exact r.marks
  · refine ⟨by rw [T.next]; exact tr.next, tr.ext, tr.os, tr.tape, tr.output, tr.size, tr.frame, fun x o hx hmx => ?_, T.roB.trans tr.roB, T.ro.trans tr.ro, T.hid.trans tr.hid, fun x hx => ?_⟩
    · have hmx0 : s0.may x = true := by rw [← may_of (T.roB.trans tr.roB) (T.ro.trans tr.ro)]; exact hmx
      have ex := nz x (hrb x hmx0)
      rw [T.rest x ex] at hx
      exact tr.own x o hx (by rw [may_of tr.roB tr.ro]; exact hmx0)
    · by_cases ex : x = 0
      · rw [ex]; exact T.zero
      · rw [T.rest x ex]; exact tr.same x ex hx
def StepG (P : Program) (rd : Option Nat) (s0 : St) (c : Code) (s : St) (Q : Exit → St → Prop) : Prop :=
  ∀ (n : Nat) (ρ0 : Nat → PB) (w0 w : World) (a : Act) (R : Exit → Act → World → Prop), (∀ l, rd = some l → l < s0.next) → Hs s0 ρ0 w0 → PicG s0 ρ0 w0 s w a →
    (∀ e s' w' a', Q e s' → PicG s0 ρ0 w0 s' w' a' → R e a' w') → c.wpIn (fenceOf rd ρ0) n P R a w
theorem StepG.mono {P : Program} {rd : Option Nat} {s0 : St} {c : Code} {s : St} {Q Q' : Exit → St → Prop} (h : StepG P rd s0 c s Q) (hq : ∀ e s', Q e s' → Q' e s') : StepG P rd s0 c s Q' :=
  fun n ρ0 w0 w a R h1 h2 h3 h4 => h n ρ0 w0 w a R h1 h2 h3 fun e s' w' a' hQ => h4 e s' w' a' (hq e s' hQ)
theorem StepG.turn {P : Program} {rd : Option Nat} {s0 : St} {c : Code} {s : St} {Q Q' : Exit → St → Prop} (h : StepG P rd s0 c s Q)
    (hq : ∀ (e : Exit) (s1 : St) (ρ0 : Nat → PB) (w0 w : World) (a : Act), Q e s1 → Hs s0 ρ0 w0 → PicG s0 ρ0 w0 s1 w a → ∃ s2, Q' e s2 ∧ PicG s0 ρ0 w0 s2 w a) : StepG P rd s0 c s Q' :=
  fun n ρ0 w0 w a R h1 h2 h3 h4 => h n ρ0 w0 w a R h1 h2 h3 fun e s' w' a' hQ hp => let ⟨s2, q, p⟩ := hq e s' ρ0 w0 w' a' hQ h2 hp; h4 e s2 w' a' q p
theorem StepG.loop {P : Program} {rd : Option Nat} {s0 : St} {c : Code} {Q : Exit → St → Prop} (I : Nat → St → Prop)
    (h : ∀ k s, I k s → StepG P rd s0 c s (fun e s' => (e = .normal ∧ ∃ k', k' < k ∧ I k' s') ∨ (e ≠ .normal ∧ Q e s'))) : ∀ k s, I k s → StepG P rd s0 (.loop c) s Q := by
  intro k s hI n ρ0 w0 w a R h1 h2 h3 h4
  have key : ∀ (m k : Nat) (s : St) (w : World) (a : Act), k < m → I k s → PicG s0 ρ0 w0 s w a → Code.roundsIn (fenceOf rd ρ0) n P c R m a w := by
    intro m
    induction m with
    | zero => intro k s w a hk; omega
    | succ m ih =>
      intro k s w a hk hI hp
      rw [roundsIn_succ]
      refine h k s hI n ρ0 w0 w a _ h1 h2 hp fun e s' w' a' hq hp' => ?_
      rcases hq with ⟨rfl, k', hk', hI'⟩ | ⟨hne, hQ⟩
      · exact ih k' s' w' a' (by omega) hI' hp'
      · have := h4 e s' w' a' hQ hp'
        cases e <;> first | exact this | exact absurd rfl hne
  exact wpIn_loop_rounds (k + 1) (key (k + 1) k s w a (Nat.lt_succ_self k) hI h3)
theorem StepG.stdT {P : Program} (G : PG P) {K : Given} (hK : GivenOk P K) {B : Nat → Bool} {n : Nat} {f : FuncId} {rd : Option Nat} {s0 s s2 : St} {c : Code} {e : Exit} {p : Prop} {o : List (Option Bool)} {σ : List Nat} {g : Nat → Option Ob} {n1 : Nat}
    (hr : ((mk P K n).code f rd c { s with obl := True, orc := o }).map (fun r => (r.1, r.2.obl, seenInT B r.2 s2 σ)) = some (e, p, seenAsT B s2 σ n1)) (hp : p) (hn : s0.next ≤ s.next) (hd : deadT B 0 s2.tmps) (hR : RowsIn g)
    (hh : s2.heap = Tr.rebuild g s2.next) (hk : picOkT B s0 s2 σ = true) : StepG P rd s0 c s (fun e' s' => e' = e ∧ s' = s2) := by
  cases hc : (mk P K n).code f rd c { s with obl := True, orc := o } with
  | none => rw [hc] at hr; simp at hr
  | some r =>
    obtain ⟨e1, s1⟩ := r
    rw [hc] at hr
    simp only [Option.map_some, Option.some.injEq, Prod.mk.injEq] at hr
    obtain ⟨rfl, h2, h3⟩ := hr
    have v := ViewM.stdT hd hR hh hk h3
    have l1 : Like s { s with obl := True, orc := o } := ⟨rfl, rfl, rfl, rfl, rfl⟩
    have h := (mk_ok G hK n).okCode hc
    intro m ρ0 w0 w a R g1 g2 ⟨ρ, r, t⟩ g4
    have := h (by rw [h2]; exact hp) m ρ w a R (fun l hl => Nat.lt_of_lt_of_le (g1 l hl) hn) (r.like l1 rfl rfl) fun ρ' w' a' r' t' => g4 _ s2 w' a' ⟨rfl, rfl⟩ (PicG.viewM g2 v ⟨ρ', r', t.trans (l1.thenTra t')⟩)
    rwa [fenceOf_ext g1 t.ext] at this
end Go.Cln
namespace Go.Cln
set_option linter.unusedVariables false
theorem normal_eq {e : Exit} (h : normal? e = true) : e = .normal := by cases e <;> simp [normal?] at h; rfl
theorem StepG.seq {P : Program} {rd : Option Nat} {s0 s : St} {x y : Code} {Q : Exit → St → Prop} (h : StepG P rd s0 x s fun e s' => (e = .normal ∧ StepG P rd s0 y s' Q) ∨ (e ≠ .normal ∧ Q e s')) : StepG P rd s0 (.seq x y) s Q :=
  fun n ρ0 w0 w a R h1 h2 h3 h4 => wpIn_seq (h n ρ0 w0 w a _ h1 h2 h3 fun e s' w' a' hq hp => by
    rcases hq with ⟨rfl, hq⟩ | ⟨hne, hq⟩
    · exact hq n ρ0 w0 w' a' R h1 h2 hp h4
    · have := h4 e s' w' a' hq hp
      cases e <;> first | exact this | exact absurd rfl hne)
theorem StepG.block {P : Program} {rd : Option Nat} {s0 s : St} {id : Nat} {x : Code} {Q : Exit → St → Prop} (h : StepG P rd s0 x s fun e s' => Q (blockOut id e) s') : StepG P rd s0 (.block id x) s Q :=
  fun n ρ0 w0 w a R h1 h2 h3 h4 => wpIn_block (h n ρ0 w0 w a _ h1 h2 h3 fun e s' w' a' hq hp => blockOut_wp (h4 _ s' w' a' hq hp))
end Go.Cln
namespace Go.Cln
set_option linter.unusedVariables false
def ResB (P : Program) (l : List ResultVar) (b : Bool) (s : St) : Prop := ∃ q, results1 P s l = some q ∧ q.2.obl ∧ oneOf q.1 = .bool b
theorem StepG.ranR {P : Program} (G : PG P) {K : Given} (hK : GivenOk P K) {n : Nat} {f : FuncId} {rd : Option Nat} {s0 s : St} {c : Code} {e : Exit} {p : Prop} {o : List (Option Bool)} {d : List Nat} {l : List ResultVar} {b : Bool}
    (hr : ((mk P K n).code f rd c { s with obl := True, orc := o }).bind (fun r => (results1 P r.2 l).map fun q => (r.1, q.2.obl, r.2.defers, oneOf q.1)) = some (e, p, d, .bool b)) (hp : p) (hn : s0.next ≤ s.next) : StepG P rd s0 c s (fun e' s' => e' = e ∧ s'.defers = d ∧ ResB P l b s') := by
  cases hc : (mk P K n).code f rd c { s with obl := True, orc := o } with
  | none => rw [hc] at hr; simp at hr
  | some r =>
    obtain ⟨e1, s1⟩ := r
    rw [hc] at hr
    simp only [Option.bind_some] at hr
    cases hq : results1 P s1 l with
    | none => rw [hq] at hr; simp at hr
    | some q =>
      rw [hq] at hr
      simp only [Option.map_some, Option.some.injEq, Prod.mk.injEq] at hr
      obtain ⟨rfl, h2, h3, h4⟩ := hr
      have ho : q.2.obl := by rw [h2]; exact hp
      have l1 : Like s { s with obl := True, orc := o } := ⟨rfl, rfl, rfl, rfl, rfl⟩
      have h := (mk_ok G hK n).okCode hc
      intro m ρ0 w0 w a R g1 g2 ⟨ρ, r, t⟩ g4
      have := h (results_obl hq ho) m ρ w a R (fun l hl => Nat.lt_of_lt_of_le (g1 l hl) hn) (r.like l1 rfl rfl) fun ρ' w' a' r' t' => g4 _ s1 w' a' ⟨rfl, h3, ⟨q, hq, ho, h4⟩⟩ ⟨ρ', r', t.trans (l1.thenTra t')⟩
      rwa [fenceOf_ext g1 t.ext] at this
end Go.Cln
namespace Go.Cln
set_option linter.unusedVariables false
theorem StepG.cond {P : Program} {rd : Option Nat} {s0 s : St} {c : Operand} {x y : Code} {b : Bool} {Q : Exit → St → Prop} (hv : ev s c = some (.bool b)) (h : StepG P rd s0 (if b = true then x else y) s Q) : StepG P rd s0 (.cond c x y) s Q := by
  intro n ρ0 w0 w a R h1 h2 h3 h4
  obtain ⟨ρ, r, t⟩ := h3
  have hev := (ev_sound r.tmps hv).eq_flat0 rfl
  exact wpIn_cond hev (h n ρ0 w0 w a R h1 h2 ⟨ρ, r, t⟩ h4)
end Go.Cln
namespace Go.Cln
set_option linter.unusedVariables false
noncomputable def down (ih : Orc) (f : FuncId) (rd : Option Nat) : List Nat → Code → St → Option (St × Code)
  | [] => fun c s => some (s, c)
  | d :: l => fun c s => match d, c with
    | 2, .seq x y => (ih.code f rd x s).bind fun r => match normal? r.1 with
      | true => down ih f rd l y r.2
      | false => none
    | 3, .seq x y => down ih f rd l x s
    | 0, .block _ x => down ih f rd l x s
    | 1, .cond c x y => match ev s c with
      | some (.bool t) => (s.branch t).bind fun r => match r.1 with
        | true => down ih f rd l x r.2
        | false => none
      | _ => none
    | _, _ => none
def upQ (P : Program) (rd : Option Nat) (s0 : St) : List Nat → Code → (Exit → St → Prop) → Exit → St → Prop
  | [] => fun _ Q => Q
  | d :: l => fun c Q => match d, c with
    | 2, .seq x y => upQ P rd s0 l y Q
    | 3, .seq x y => upQ P rd s0 l x fun e s => (e = .normal ∧ StepG P rd s0 y s Q) ∨ (e ≠ .normal ∧ Q e s)
    | 0, .block id x => upQ P rd s0 l x fun e s => Q (blockOut id e) s
    | 1, .cond c x y => upQ P rd s0 l x Q
    | _, _ => Q
theorem down_step {P : Program} {ih : Orc} (hi : OrcOk P ih) {f : FuncId} {rd : Option Nat} {s0 : St} : ∀ (l : List Nat) {c c' : Code} {s s' : St} {Q : Exit → St → Prop}, down ih f rd l c s = some (s', c') →
    (s'.obl → s.obl) ∧ (s'.obl → StepG P rd s0 c' s' (upQ P rd s0 l c Q) → StepG P rd s0 c s Q) := by
  intro l
  induction l with
  | nil =>
    intro c c' s s' Q h
    simp only [down, Option.some.injEq, Prod.mk.injEq] at h
    obtain ⟨rfl, rfl⟩ := h
    exact ⟨id, fun _ g => g⟩
  | cons d l ih' =>
    intro c c' s s' Q h
    simp only [down] at h
    split at h
    · rename_i x y
      simp only [bind_some] at h
      obtain ⟨⟨e1, s1⟩, h1, h⟩ := h
      split at h
      · rename_i hn
        have he := normal_eq hn
        simp only at he; subst he
        obtain ⟨o1, g1⟩ := ih' (Q := Q) h
        refine ⟨fun ho => hi.code h1 (o1 ho), fun ho g n ρ0 w0 w a R q1 q2 q3 q4 => ?_⟩
        obtain ⟨ρ, r, t⟩ := q3
        refine wpIn_seq ?_
        rw [← fenceOf_ext q1 t.ext]
        refine hi.okCode h1 (o1 ho) n ρ w a _ (fun l hl => Nat.lt_of_lt_of_le (q1 l hl) t.next) r fun ρ1 w1 a1 r1 t1 => ?_
        show y.wpIn (fenceOf rd ρ) n P R a1 w1
        rw [fenceOf_ext q1 t.ext]
        exact g1 ho g n ρ0 w0 w1 a1 R q1 q2 ⟨ρ1, r1, t.trans t1⟩ q4
      · cases h
    · rename_i x y
      obtain ⟨o1, g1⟩ := ih' (Q := fun e s => (e = .normal ∧ StepG P rd s0 y s Q) ∨ (e ≠ .normal ∧ Q e s)) h
      exact ⟨o1, fun ho g => StepG.seq (g1 ho g)⟩
    · rename_i id x
      obtain ⟨o1, g1⟩ := ih' (Q := fun e s => Q (blockOut id e) s) h
      exact ⟨o1, fun ho g => StepG.block (g1 ho g)⟩
    · rename_i cc x y
      split at h
      · rename_i t hv
        simp only [bind_some] at h
        obtain ⟨⟨b, s1⟩, h1, h⟩ := h
        obtain ⟨k1, k2, k3, k4⟩ := St.branch_spec h1
        split at h
        · rename_i hb
          simp only at hb; subst hb
          obtain ⟨o1, g1⟩ := ih' (Q := Q) h
          refine ⟨fun ho => (k4 (o1 ho)).1, fun ho g => ?_⟩
          have ht := (k4 (o1 ho)).2
          subst ht
          refine StepG.cond hv ?_
          rw [if_pos rfl]
          intro n ρ0 w0 w a R q1 q2 q3 q4
          obtain ⟨ρ, r, t⟩ := q3
          exact g1 ho g n ρ0 w0 w a R q1 q2 ⟨ρ, r.like k1 k2 k3, t.trans (k1.tra _ _)⟩ q4
        · cases h
      · cases h
    · cases h
theorem StepG.downs {P : Program} (G : PG P) {K : Given} (hK : GivenOk P K) {B : Nat → Bool} {n : Nat} {f : FuncId} {rd : Option Nat} {s0 s s2 : St} {l : List Nat} {c c' : Code} {p : Prop} {o : List (Option Bool)} {σ : List Nat} {g : Nat → Option Ob} {n1 : Nat} {Q : Exit → St → Prop}
    (hr : (down (mk P K n) f rd l c { s with obl := True, orc := o }).map (fun r => (r.2, r.1.obl, seenInT B r.1 s2 σ)) = some (c', p, seenAsT B s2 σ n1)) (hp : p) (hd : deadT B 0 s2.tmps) (hR : RowsIn g)
    (hh : s2.heap = Tr.rebuild g s2.next) (hk : picOkT B s0 s2 σ = true) (h : StepG P rd s0 c' s2 (upQ P rd s0 l c Q)) : StepG P rd s0 c s Q := by
  cases hc : down (mk P K n) f rd l c { s with obl := True, orc := o } with
  | none => rw [hc] at hr; simp at hr
  | some r =>
    obtain ⟨s1, c1⟩ := r
    rw [hc] at hr
    simp only [Option.map_some, Option.some.injEq, Prod.mk.injEq] at hr
    obtain ⟨rfl, h2, h3⟩ := hr
    have v := ViewM.stdT hd hR hh hk h3
    have l1 : Like s { s with obl := True, orc := o } := ⟨rfl, rfl, rfl, rfl, rfl⟩
    intro m ρ0 w0 w a R g1 g2 ⟨ρ, r, t⟩ g4
    refine (down_step (mk_ok G hK n) l (Q := Q) hc).2 (by rw [h2]; exact hp) ?_ m ρ0 w0 w a R g1 g2 ⟨ρ, r.like l1 rfl rfl, t.trans (l1.tra _ _)⟩ g4
    intro m ρ0 w0 w a R g1 g2 g3 g4
    exact h m ρ0 w0 w a R g1 g2 (PicG.viewM g2 v g3) g4
end Go.Cln
namespace Go.Cln
open Go.ChangeShapes Go.WideShapes Go.ChangeAt Go.RowKit
set_option linter.unusedVariables false
noncomputable section
def farV : Value → Bool
  | .agg x => x.toList.all famV
  | v => famV v
theorem farV_vr {N N' : Nat → Prop} {ρ ρ' : Nat → PB} {v w : Value} (h : VR N ρ v w) (hf : farV v = true) (h0 : N' 0) : VR N' ρ' v w := by
  by_cases hv : famV v = true
  · exact famV_vr h hv h0
  · cases v with
    | agg x =>
      cases h with
      | same h => simp [flat0] at h
      | agg h1 h2 =>
        refine .agg h1 fun i a b ha hb => famV_vr (h2 i a b ha hb) ?_ h0
        exact List.all_eq_true.1 hf a (List.mem_of_getElem? ha)
    | _ => exact absurd hf hv
theorem fam_get {F : Nat → Nat → Cells} {orc : List (Option Bool)} {b : Nat} {o : Ob} (hb : (smSt 1 [some (.fam F)] orc).heap.get b = some o) : b = 0 ∧ o = .fam F := by
  have hb : (Tr.ofL [some (Ob.fam F)]).get b = some o := hb
  rw [ofL_get (by simp)] at hb
  rcases b with _ | b
  · simp only [hget, List.getElem?_cons_zero] at hb
    cases hb; exact ⟨rfl, rfl⟩
  · simp [hget] at hb
theorem fam_dm {F : Nat → Nat → Cells} {orc : List (Option Bool)} : Dm (smSt 1 [some (.fam F)] orc) 0 := ⟨Nat.zero_lt_one, rfl⟩
theorem fam_hs {s : St} {ρ : Nat → PB} {w : World} {F : Nat → Nat → Cells} (hs : Hs s ρ w) (h0 : s.heap.get 0 = some (.fam F)) (orc : List (Option Bool)) : Hs (smSt 1 [some (.fam F)] orc) (fun _ => ρ 0) w := by
  obtain ⟨d0, f1, f3⟩ := hs.ob 0 _ h0
  refine ⟨⟨fun b o hb => ?_, fun b b' o o' hb hb' _ _ => .inl (by rw [(fam_get hb).1, (fam_get hb').1]), fun b b' o o' B hb hB hb' hk => ?_⟩, fun _ _ => rfl, ⟨Nat.le_refl _, fun x hx => by simp [smSt] at hx⟩⟩
  · obtain ⟨rfl, rfl⟩ := fam_get hb
    refine ⟨fam_dm, fun h => absurd (show 1 ≤ 0 from h) (by omega), fun g P i v hv => ?_⟩
    obtain ⟨pc, t, fr, v', k1, k2, k3, k4⟩ := f3 g P i v hv
    exact ⟨pc, t, fr, v', k1, k2, famV_vr k3 k4 fam_dm, k4⟩
  · obtain ⟨rfl, rfl⟩ := fam_get hb'
    exact absurd (show 1 ≤ 0 from hk) (by omega)
theorem fam_vl {s : St} {ρ : Nat → PB} {F : Nat → Nat → Cells} {orc : List (Option Bool)} {args args' : List Value} (h : VL (Dm s) ρ args args') (hf : args.all farV = true) : VL (Dm (smSt 1 [some (.fam F)] orc)) (fun _ => ρ 0) args args' :=
  ⟨h.1, fun i v w hv hw => farV_vr (h.2 i v w hv hw) (List.all_eq_true.1 hf v (List.mem_of_getElem? hv)) fam_dm⟩
def Rd (P : Program) (F : Nat → Nat → Cells) (f : FuncId) (args : List Value) (v : Value) : Prop :=
  ∀ (ρ : Nat → PB) (w : World) (args' : List Value), Hs (smSt 1 [some (.fam F)] []) ρ w → VL (Dm (smSt 1 [some (.fam F)] [])) ρ args args' → Calls P f args'.toArray w fun e w' => e = .returned v ∧ Go.RowKit.Below w.heap.size w w'
def Given.rds (K : Given) (F : Nat → Nat → Cells) (T : FuncId → List Value → Option (Value × Prop)) : Given := K.readsP fun f args s => match T f args with
  | some r => match s.heap.get 0 with
    | some (.fam G) => some (r.1, G = F ∧ r.2)
    | _ => none
  | none => none
theorem GivenOk.rds {P : Program} {K : Given} (hK : GivenOk P K) {F : Nat → Nat → Cells} {T : FuncId → List Value → Option (Value × Prop)}
    (h : ∀ f args r, T f args = some r → flat r.1 = true ∧ args.all farV = true ∧ (r.2 → Rd P F f args r.1)) : GivenOk P (K.rds F T) := by
  refine hK.readsP fun f args s r hr => ?_
  split at hr
  · rename_i q hq
    split at hr
    · rename_i G h0
      cases hr
      obtain ⟨h1, h2, h3⟩ := h _ _ _ hq
      refine ⟨h1, fun ⟨e, hp⟩ ρ w args' hs hl => ?_⟩
      cases (show G = F from e)
      exact h3 hp _ w args' (fam_hs hs h0 []) (fam_vl hl h2)
    · cases hr
  · cases hr
theorem Rd.run {P : Program} (G : PG P) {K : Given} (hK : GivenOk P K) {n : Nat} {F : Nat → Nat → Cells} {f : FuncId} {args : List Value} {orc : List (Option Bool)} {v : Value} {p : Prop}
    (hr : ((mk P K n).call f args (smSt 1 [some (.fam F)] orc)).map (fun r => (r.1, r.2.obl)) = some (v, p)) (hp : p) (hv : flat v = true) : Rd P F f args v := by
  intro ρ w args' hs ha
  have h0 : (smSt 1 [some (.fam F)] []).heap.get 0 = some (.fam F) := ofL_get (by simp) 0
  have l0 : Like (smSt 1 [some (.fam F)] []) (smSt 1 [some (.fam F)] orc) := ⟨rfl, rfl, rfl, rfl, rfl⟩
  exact ranG (next := 1) (heap := Tr.ofL [some (.fam F)]) (orc := orc) G hK hr hp hv (l0.holds hs) (by rw [show Dm (St.start 1 (Tr.ofL [some (.fam F)]) orc) = Dm (smSt 1 [some (.fam F)] []) from rfl]; exact ha)
def ResV (P : Program) (l : List ResultVar) (v : Value) (s : St) : Prop := ∃ q, results1 P s l = some q ∧ q.2.obl ∧ oneOf q.1 = v
theorem StepG.ranV {P : Program} (G : PG P) {K : Given} (hK : GivenOk P K) {n : Nat} {f : FuncId} {rd : Option Nat} {s0 s : St} {c : Code} {e : Exit} {p : Prop} {o : List (Option Bool)} {d : List Nat} {l : List ResultVar} {v : Value}
    (hr : ((mk P K n).code f rd c { s with obl := True, orc := o }).bind (fun r => (results1 P r.2 l).map fun q => (r.1, q.2.obl, r.2.defers, oneOf q.1)) = some (e, p, d, v)) (hp : p) (hn : s0.next ≤ s.next) : StepG P rd s0 c s (fun e' s' => e' = e ∧ s'.defers = d ∧ ResV P l v s') := by
  cases hc : (mk P K n).code f rd c { s with obl := True, orc := o } with
  | none => rw [hc] at hr; simp at hr
  | some r =>
    obtain ⟨e1, s1⟩ := r
    rw [hc] at hr
    simp only [Option.bind_some] at hr
    cases hq : results1 P s1 l with
    | none => rw [hq] at hr; simp at hr
    | some q =>
      rw [hq] at hr
      simp only [Option.map_some, Option.some.injEq, Prod.mk.injEq] at hr
      obtain ⟨rfl, h2, h3, h4⟩ := hr
      have ho : q.2.obl := by rw [h2]; exact hp
      have l1 : Like s { s with obl := True, orc := o } := ⟨rfl, rfl, rfl, rfl, rfl⟩
      have h := (mk_ok G hK n).okCode hc
      intro m ρ0 w0 w a R g1 g2 ⟨ρ, r, t⟩ g4
      have := h (results_obl hq ho) m ρ w a R (fun l hl => Nat.lt_of_lt_of_le (g1 l hl) hn) (r.like l1 rfl rfl) fun ρ' w' a' r' t' => g4 _ s1 w' a' ⟨rfl, h3, ⟨q, hq, ho, h4⟩⟩ ⟨ρ', r', t.trans (l1.thenTra t')⟩
      rwa [fenceOf_ext g1 t.ext] at this
theorem Rd.ofG {P : Program} {f : FuncId} {fn : Func} {c : Code} {F : Nat → Nat → Cells} {args : List Value} {l : List ResultVar} {v : Value} (hf : P.funcs[f]? = some fn) (hc : fn.body = some c) (hres : fn.results.toList = l) (hv : flat0 v = true)
    (h : StepG P none { smSt 1 [some (.fam F)] [] with tmps := args ++ List.replicate (fn.ntmps - args.length) undef, defers := [] } c { smSt 1 [some (.fam F)] [] with tmps := args ++ List.replicate (fn.ntmps - args.length) undef, defers := [] }
      fun e s' => leaves? e = true ∧ s'.defers = [] ∧ ResV P l v s') : Rd P F f args v := by
  intro ρ W args' hs ha
  refine callsIn_wide.1 (show CallsIn Fence.wide 0 P f _ W _ from callsIn_of_wp_marks hf hc trivial ?_)
  have l0 : Like (smSt 1 [some (.fam F)] []) { smSt 1 [some (.fam F)] [] with tmps := args ++ List.replicate (fn.ntmps - args.length) undef, defers := [] } := ⟨rfl, rfl, rfl, rfl, rfl⟩
  have hrel : Rel { smSt 1 [some (.fam F)] [] with tmps := args ++ List.replicate (fn.ntmps - args.length) undef, defers := [] } ρ W { tmps := args'.toArray ++ Array.replicate (fn.ntmps - args'.toArray.size) undef, defers := [] } := by
    refine ⟨l0.holds hs, ?_, rfl, fun d hd => by simp at hd⟩
    have := ha.append (VL.replicate (N := Dm (smSt 1 [some (.fam F)] [])) (ρ := ρ) VR.undef (fn.ntmps - args.length))
    rw [l0.dm]
    simpa [ha.1] using this
  refine h 0 ρ W W _ _ (fun l e => by cases e) (l0.holds hs) ⟨ρ, hrel, (Tra.refl _ _ _).to0⟩ ?_
  rintro e s' w' a' ⟨hl, hd, ⟨⟨vs, s3⟩, hq, ho, hv1⟩⟩ ⟨ρ', r', t'⟩
  simp only at ho hv1
  obtain ⟨k, vs', hr, hv2⟩ := results1_sound (tmps := a'.tmps) hq ho r'.hs r'.tmps
  have hv2 := oneOf_sound hv2
  rw [hv1] at hv2
  have hb := hv2.eq_flat0 hv
  have had : a'.defers = [] := by rw [r'.defers, hd]; rfl
  have hb2 : Go.RowKit.Below W.heap.size W w' := ⟨t'.os, t'.tape, t'.output, t'.size, fun k hk => t'.frame k hk fun b o hb hm => by
    obtain ⟨rfl, rfl⟩ := fam_get (orc := []) hb
    unfold St.may at hm
    rw [Bool.and_eq_true] at hm
    exact absurd (of_decide_eq_true hm.1) (show ¬ 1 ≤ 0 by omega)⟩
  have fin : LeavesInM Fence.wide 0 P fn a'.tmps (fun e w' => e = .returned v ∧ Go.RowKit.Below W.heap.size W w') a'.defers .returning w' := by
    rw [had]
    simp only [LeavesInM]
    exact ⟨_, results_run (by rw [hres]; exact hr), by rw [hb], hb2⟩
  cases e <;> first
    | exact fin
    | (simp [leaves?] at hl; done)
def allB (f : Nat → Bool) : Nat → Bool
  | 0 => true
  | n + 1 => allB f n && f n
theorem allB_at {f : Nat → Bool} : ∀ {n : Nat}, allB f n = true → ∀ i, i < n → f i = true
  | 0, _, i, h => absurd h (Nat.not_lt_zero i)
  | n + 1, h, i, hi => by
    simp only [allB, Bool.and_eq_true] at h
    rcases Nat.lt_or_ge i n with h1 | h1
    · exact allB_at h.1 i h1
    · rw [show i = n by omega]; exact h.2
theorem allB_no {f : Nat → Bool} {i : Nat} (h : f i = false) : ∀ {n : Nat}, i < n → allB f n = false
  | 0, hi => absurd hi (Nat.not_lt_zero i)
  | n + 1, hi => by
    simp only [allB]
    rcases Nat.lt_or_ge i n with h1 | h1
    · rw [allB_no h h1]; rfl
    · rw [show n = i by omega, h, Bool.and_false]
theorem allB_all {f : Nat → Bool} : ∀ {n : Nat}, (∀ i, i < n → f i = true) → allB f n = true
  | 0, _ => rfl
  | n + 1, h => by
    simp only [allB, Bool.and_eq_true]
    exact ⟨allB_all fun i hi => h i (by omega), h n (by omega)⟩
theorem cmpLoop {P : Program} {rd : Option Nat} {s0 : St} {c : Code} {id : Nat} {pic : Nat → (Nat → Value) → St} {N : Nat} {e : Nat → Bool} {QD : St → Prop}
    (hround : ∀ i v, (∀ j, DeadV (v j)) → i < N → e i = true → StepG P rd s0 c (pic i v) fun ex s => ex = .normal ∧ ∃ v', (∀ j, DeadV (v' j)) ∧ s = pic (i + 1) v')
    (hdiff : ∀ i v, (∀ j, DeadV (v j)) → i < N → e i = false → StepG P rd s0 c (pic i v) fun ex s => ex = .ret ∧ QD s)
    (hexit : ∀ v, (∀ j, DeadV (v j)) → StepG P rd s0 c (pic N v) fun ex s => ex = .exit id ∧ ∃ v', (∀ j, DeadV (v' j)) ∧ s = pic N v') {v0 : Nat → Value} (hv : ∀ j, DeadV (v0 j)) :
    StepG P rd s0 (.loop c) (pic 0 v0) fun ex s => (ex = .exit id ∧ allB e N = true ∧ ∃ v', (∀ j, DeadV (v' j)) ∧ s = pic N v') ∨ (ex = .ret ∧ allB e N = false ∧ QD s) := by
  refine StepG.loop (fun q s => ∃ i v, q = N - i ∧ i ≤ N ∧ (∀ j, j < i → e j = true) ∧ (∀ j, DeadV (v j)) ∧ s = pic i v) ?_ N _ ⟨0, v0, by omega, Nat.zero_le _, fun j hj => absurd hj (Nat.not_lt_zero j), hv, rfl⟩
  rintro q s ⟨i, v, rfl, hi, he, hv, rfl⟩
  by_cases h : i = N
  · subst h
    refine (hexit v hv).mono ?_
    rintro ex s ⟨rfl, v', h1, h2⟩
    exact .inr ⟨(by intro h; cases h), .inl ⟨rfl, allB_all he, v', h1, h2⟩⟩
  · cases h1 : e i with
    | true =>
      refine (hround i v hv (by omega) h1).mono ?_
      rintro ex s ⟨rfl, v', h2, rfl⟩
      refine .inl ⟨rfl, N - (i + 1), by omega, i + 1, v', rfl, by omega, fun j hj => ?_, h2, rfl⟩
      rcases Nat.lt_or_ge j i with h3 | h3
      · exact he j h3
      · rw [show j = i by omega]; exact h1
    | false =>
      refine (hdiff i v hv (by omega) h1).mono ?_
      rintro ex s ⟨rfl, h2⟩
      exact .inr ⟨(by intro h; cases h), .inr ⟨rfl, allB_no h1 (by omega), h2⟩⟩
theorem cmp_rd {P : Program} {F : Nat → Nat → Cells} {f : FuncId} {args : List Value} {body c E : Code} {l : List ResultVar} {NT id : Nat} {pic : Nat → (Nat → Value) → St} {N : Nat} {e : Nat → Bool} {v0 : Nat → Value} {way : List Nat} {s0 : St} (hs0 : s0 = { smSt 1 [some (.fam F)] [] with tmps := args ++ List.replicate (NT - args.length) undef, defers := [] })
    (hfn : (P.funcs[f]?).map (fun f => (f.body, f.results.toList, f.ntmps)) = some (some body, l, NT))
    (hdown : ∀ Q, StepG P none s0 (.loop c) (pic 0 v0)
      (upQ P none s0 way body Q) →
      StepG P none s0 body s0 Q)
    (hup : ∀ Q, upQ P none s0 way body Q = fun e s =>
      (fun e s => (e = .normal ∧ StepG P none s0 E s Q) ∨ (e ≠ .normal ∧ Q e s)) (blockOut id e) s)
    (hround : ∀ i v, (∀ j, DeadV (v j)) → i < N → e i = true → StepG P none s0 c (pic i v) fun ex s => ex = .normal ∧ ∃ v', (∀ j, DeadV (v' j)) ∧ s = pic (i + 1) v')
    (hdiff : ∀ i v, (∀ j, DeadV (v j)) → i < N → e i = false → StepG P none s0 c (pic i v) fun ex s => ex = .ret ∧ s.defers = [] ∧ ResV P l (.bool false) s)
    (hexit : ∀ v, (∀ j, DeadV (v j)) → StepG P none s0 c (pic N v) fun ex s => ex = .exit id ∧ ∃ v', (∀ j, DeadV (v' j)) ∧ s = pic N v')
    (hend : ∀ v, (∀ j, DeadV (v j)) → StepG P none s0 E (pic N v) fun ex s => ex = .ret ∧ s.defers = [] ∧ ResV P l (.bool true) s)
    (hv : ∀ j, DeadV (v0 j)) : Rd P F f args (.bool (allB e N)) := by
  cases hf : P.funcs[f]? with
  | none => rw [hf] at hfn; cases hfn
  | some fn =>
    rw [hf] at hfn
    simp only [Option.map_some, Option.some.injEq, Prod.mk.injEq] at hfn
    obtain ⟨h1, h2, h3⟩ := hfn
    subst h3
    subst hs0
    refine Rd.ofG hf h1 h2 rfl (hdown _ ?_)
    rw [hup]
    refine (cmpLoop hround hdiff hexit hv).mono ?_
    rintro ex s (⟨rfl, ha, v', h4, rfl⟩ | ⟨rfl, ha, h5, h6⟩)
    · refine .inl ⟨by simp [blockOut], (hend v' h4).mono ?_⟩
      rintro ex s ⟨rfl, h7, h8⟩
      rw [ha]
      exact ⟨rfl, h7, h8⟩
    · refine .inr ⟨by simp [blockOut], ?_⟩
      rw [ha]
      exact ⟨rfl, h5, h6⟩
end
end Go.Cln
namespace Go.Cln
open Go.ChangeShapes Go.WideShapes Go.ChangeAt Go.RowKit
set_option linter.unusedVariables false
noncomputable section
inductive FC where
  | int (k : IntKind)
  | bool
  | str
  | list (l : List FC)
def fieldsIs (P : Program) (rec_ : TypeId → List FC → Bool) : List Field → Nat → List FC → Bool
  | [], _, l => l.isEmpty
  | f :: fs, o, l => f.offset == o && (rec_ f.type (l.take (P.cellsOf f.type)) && fieldsIs P rec_ fs (o + P.cellsOf f.type) (l.drop (P.cellsOf f.type)))
def flatIs (P : Program) : Nat → TypeId → List FC → Bool
  | 0, _, _ => false
  | n + 1, t, l => match P.underlying t with
    | some (.int k) => (match l with | [.int k'] => k' == k | _ => false)
    | some .bool => (match l with | [.bool] => true | _ => false)
    | some .string => (match l with | [.str] => true | _ => false)
    | some (.slice e) => (match l with | [.list m] => P.cellsOf e == m.length && (m.length != 0 && flatIs P n e m) | _ => false)
    | some (.struct fs) => fieldsIs P (flatIs P n) fs.toList 0 l
    | _ => false
def FCv (W : World) : Nat → FC → Value → Prop
  | 0, _, _ => False
  | n + 1, c, v => match c with
    | .int k => ∃ z, v = .int k z ∧ (Lit.int k z).wf = true
    | .bool => ∃ z, v = .bool z
    | .str => ∃ z, v = .string z
    | .list l => ∃ a m c, v = .slice a m c ∧ m ≤ c ∧ c ≤ maxLen ∧ (m = 0 ∨ ∃ (b o : Nat), a = some ⟨b, o, none⟩ ∧ ∀ i, i < m → ∀ (j : Nat) (q : FC), l[j]? = some q → ∃ u, W.cell? ⟨b, o + i * l.length + j, none⟩ = some u ∧ FCv W n q u)
theorem FCv_up {W : World} : ∀ {n : Nat} {c : FC} {v : Value}, FCv W n c v → FCv W (n + 1) c v := by
  intro n
  induction n with
  | zero => intro c v h; exact h.elim
  | succ n ih =>
    intro c v h
    cases c with
    | int k => exact h
    | bool => exact h
    | str => exact h
    | list l =>
      obtain ⟨a, m, c, h1, h2, h3, h4⟩ := h
      refine ⟨a, m, c, h1, h2, h3, h4.imp_right ?_⟩
      rintro ⟨b, o, e, h5⟩
      refine ⟨b, o, e, fun i hi j q hq => ?_⟩
      obtain ⟨u, g1, g2⟩ := h5 i hi j q hq
      exact ⟨u, g1, ih g2⟩
theorem fieldsIs_at {P : Program} {rec_ : TypeId → List FC → Bool} : ∀ {fs : List Field} {o : Nat} {l : List FC} {j : Nat} {q : FC}, fieldsIs P rec_ fs o l = true → l[j]? = some q →
    ∃ (i : Nat) (f : Field) (k : Nat) (seg : List FC), fs[i]? = some f ∧ o + j = f.offset + k ∧ k < P.cellsOf f.type ∧ rec_ f.type seg = true ∧ seg[k]? = some q
  | [], o, l, j, q, h, hq => by
    simp only [fieldsIs, List.isEmpty_iff] at h
    subst h; simp at hq
  | f :: fs, o, l, j, q, h, hq => by
    simp only [fieldsIs, Bool.and_eq_true, beq_iff_eq] at h
    obtain ⟨h1, h2, h3⟩ := h
    rcases Nat.lt_or_ge j (P.cellsOf f.type) with hj | hj
    · exact ⟨0, f, j, _, rfl, by omega, hj, h2, by rw [List.getElem?_take, if_pos hj]; exact hq⟩
    · obtain ⟨i, g, k, seg, k1, k2, k3, k4, k5⟩ := fieldsIs_at (j := j - P.cellsOf f.type) h3 (by rw [List.getElem?_drop, ← hq]; congr 1; omega)
      exact ⟨i + 1, g, k, seg, by simpa using k1, by omega, k3, k4, k5⟩
section
variable {H : Type} {enc : TypeId × Value → H} {P : Program} {w : World} {base : Nat} {spare : Nat → Bool} {held : Bool}
theorem one_cell {cs : List Value} {v : Value} (h : cs = [v]) {p : FC → Prop} {j : Nat} {c q : FC} (hj : [c][j]? = some q) {Q : FC → Value → Prop} (hQ : Q c v) : ∃ u, cs[j]? = some u ∧ Q q u := by
  subst h
  cases j with
  | zero => simp only [List.getElem?_cons_zero, Option.some.injEq] at hj; subst hj; exact ⟨v, rfl, hQ⟩
  | succ j => simp at hj
theorem deep : ∀ {n : Nat} {t : TypeId} {l : List FC} {fuel : Nat} {cs : List Value} {y : DataW H × List MemPlace}, flatIs P n t l = true → DataW.trod enc P w base spare held fuel t cs = some y →
    ∀ (j : Nat) (q : FC), l[j]? = some q → ∃ u : Value, cs[j]? = some u ∧ FCv w n q u := by
  intro n
  induction n with
  | zero => intro t l fuel cs y h; simp [flatIs] at h
  | succ n ih =>
    intro t l fuel cs y h hy j q hq
    simp only [flatIs] at h
    split at h
    · rename_i k hu
      split at h
      · rename_i k'
        have e : k' = k := by simpa using h
        subst e
        obtain ⟨z, e0, _, w0⟩ := DataW.trod_int hu hy
        exact one_cell (p := fun _ => True) e0 hq (Q := FCv w (n + 1)) ⟨z, rfl, w0⟩
      · cases h
    · rename_i hu
      split at h
      · obtain ⟨z, e0, _⟩ := DataW.trod_bool hu hy
        exact one_cell (p := fun _ => True) e0 hq (Q := FCv w (n + 1)) ⟨z, rfl⟩
      · cases h
    · rename_i hu
      split at h
      · obtain ⟨z, e0, _⟩ := DataW.trod_string hu hy
        exact one_cell (p := fun _ => True) e0 hq (Q := FCv w (n + 1)) ⟨z, rfl⟩
      · cases h
    · rename_i e hu
      split at h
      · rename_i m
        simp only [Bool.and_eq_true, beq_iff_eq, bne_iff_ne] at h
        obtain ⟨hc, hm0, hm⟩ := h
        rcases DataW.trod_slice hu hy with ⟨hx, _⟩ | ⟨x, n', c', elems, rest, fu, _, hx, _, hb, hl, hmx, hlen, hel, _, _⟩
        · exact one_cell (p := fun _ => True) hx hq (Q := FCv w (n + 1)) ⟨none, 0, 0, rfl, Nat.le_refl _, Nat.zero_le _, .inl rfl⟩
        · refine one_cell (p := fun _ => True) hx hq (Q := FCv w (n + 1)) ⟨some x, n', c', rfl, hl, hmx, ?_⟩
          by_cases h0 : n' = 0
          · exact .inl h0
          · obtain ⟨b, o, spot⟩ := x
            have each : ∀ i, i < n' → ∀ (j : Nat) (q : FC), m[j]? = some q → ∃ u, w.cell? (((⟨b, o, spot⟩ : Addr).add (i * m.length)).add j) = some u ∧ FCv w n q u := fun i hi j q hj => by
              have h1 := hel i hi
              have h2 : elems[i]? = some (elems[i]'(by omega)) := List.getElem?_eq_getElem _
              rw [h2, Option.bind_eq_some_iff] at h1
              obtain ⟨cs, hcs, hy⟩ := h1
              obtain ⟨_, q1, q2⟩ := World.cells?_some hcs
              obtain ⟨u, g1, g2⟩ := ih hm hy j q hj
              have hjm : j < m.length := (List.getElem?_eq_some_iff.1 hj).1
              have := q2 j (by omega)
              rw [hc, g1] at this
              exact ⟨u, this, g2⟩
            have hq0 : m[0]? = some (m[0]'(by omega)) := List.getElem?_eq_getElem _
            obtain ⟨u0, hu0, _⟩ := each 0 (by omega) 0 _ hq0
            have hs : spot = none := World.cell?_spot (by simpa [Addr.add] using hu0)
            subst hs
            refine .inr ⟨b, o, rfl, fun i hi j q hj => ?_⟩
            obtain ⟨u, k1, k2⟩ := each i hi j q hj
            rw [add_none, add_none] at k1
            exact ⟨u, k1, k2⟩
      · cases h
    · rename_i fs hu
      obtain ⟨xs, n', _, _, hl, hlen, hf⟩ := DataW.trod_struct hu hy
      obtain ⟨i, f, k, seg, k1, k2, k3, k4, k5⟩ := fieldsIs_at h hq
      have hi : fs[i]? = some f := by simpa using k1
      have g := hf i f hi
      have hxi : i < xs.length := by
        rw [hlen]
        exact (Array.getElem?_eq_some_iff.1 hi).1
      rw [List.getElem?_eq_getElem hxi] at g
      obtain ⟨u, g1, g2⟩ := ih k4 g k q k5
      rw [List.getElem?_take, if_pos k3, List.getElem?_drop] at g1
      refine ⟨u, ?_, ?_⟩
      · rw [show j = f.offset + k by omega]; exact g1
      · cases n with
        | zero => exact g2.elim
        | succ n => exact FCv_up g2
    · cases h
end
section
variable {H : Type} {enc : TypeId × Value → H} {P : Program} {w : World} {base : Nat} {spare : Nat → Bool} {held : Bool}
theorem open_deep {n : Nat} {t : TypeId} {l : List FC} {v : Value} {d : DataW H} {ps : List MemPlace} (hl : flatIs P n t l = true) (h : DataW.Trod enc P w base spare held t v d ps) :
    ∀ (j : Nat) (q : FC), l[j]? = some q → ∃ u : Value, v.cells.toList[j]? = some u ∧ FCv w n q u := by
  obtain ⟨fuel, hf⟩ := h
  exact deep hl hf
end
def intsAt (k : IntKind) : List Value → List Int
  | .int k' y :: l => if k' = k then y :: intsAt k l else []
  | _ => []
theorem intsAt_get {k : IntKind} : ∀ {l : List Value} {j : Nat} {y : Int}, (intsAt k l)[j]? = some y → l[j]? = some (.int k y)
  | [], j, y, h => by simp [intsAt] at h
  | v :: l, j, y, h => by
    unfold intsAt at h
    split at h
    · rename_i k' z r e
      cases e
      split at h
      · rename_i hk
        subst hk
        cases j with
        | zero => simp only [List.getElem?_cons_zero, Option.some.injEq] at h ⊢; rw [h]
        | succ j => simp only [List.getElem?_cons_succ] at h ⊢; exact intsAt_get h
      · simp at h
    · simp at h
theorem intsAt_len {k : IntKind} : ∀ {l : List Value} {m : Nat}, (∀ j, j < m → ∃ y, l[j]? = some (.int k y)) → m ≤ (intsAt k l).length
  | l, 0, _ => Nat.zero_le _
  | [], m + 1, h => by obtain ⟨y, hy⟩ := h 0 (by omega); simp at hy
  | v :: l, m + 1, h => by
    obtain ⟨y, hy⟩ := h 0 (by omega)
    simp only [List.getElem?_cons_zero, Option.some.injEq] at hy
    subst hy
    have := intsAt_len (l := l) (m := m) fun j hj => by
      obtain ⟨z, hz⟩ := h (j + 1) (by omega)
      exact ⟨z, by simpa using hz⟩
    simp only [intsAt, if_true, List.length_cons]; omega
def worldK (k : IntKind) (W : World) (P : Nat) : List Int := match W.heap[blkOf P]? with
  | some (.cells pc _ _) => intsAt k (pc.toList.drop (baseOf P))
  | _ => []
theorem worldK_get {k : IntKind} {W : World} {P j : Nat} {y : Int} (h : (worldK k W P)[j]? = some y) : ∃ pc t fr, W.heap[blkOf P]? = some (.cells pc t fr) ∧ pc[baseOf P + j]? = some (.int k y) := by
  unfold worldK at h
  split at h
  · rename_i pc t fr hc
    have := intsAt_get h
    rw [List.getElem?_drop] at this
    exact ⟨pc, t, fr, hc, by simpa using this⟩
  · simp at h
theorem worldK_len {k : IntKind} {W : World} {b o m : Nat} (h : ∀ j, j < m → ∃ y, W.cell? ⟨b, o + j, none⟩ = some (.int k y)) : m ≤ (worldK k W (plc b o)).length := by
  rcases Nat.eq_zero_or_pos m with h0 | h0
  · subst h0; exact Nat.zero_le _
  · obtain ⟨y0, hy0⟩ := h 0 h0
    obtain ⟨pc, t, fr, k1, _⟩ := cell_in hy0
    unfold worldK
    rw [blkOf_plc, baseOf_plc, k1]
    refine intsAt_len fun j hj => ?_
    obtain ⟨y, hy⟩ := h j hj
    obtain ⟨pc', t', fr', q1, q2⟩ := cell_in hy
    rw [k1] at q1; cases q1
    exact ⟨y, by rw [List.getElem?_drop]; simpa using q2⟩
def lead (ok : Nat → Prop) : Nat → Nat
  | 0 => 0
  | n + 1 => open Classical in if ∀ i, i < n + 1 → ok i then n + 1 else lead ok n
theorem lead_ok {ok : Nat → Prop} : ∀ {n i : Nat}, i < lead ok n → ok i
  | 0, i, h => absurd h (Nat.not_lt_zero i)
  | n + 1, i, h => by
    unfold lead at h
    split at h
    · rename_i hk; exact hk i h
    · exact lead_ok h
theorem lead_ge {ok : Nat → Prop} {m : Nat} (hm : ∀ i, i < m → ok i) : ∀ {n : Nat}, m ≤ n → m ≤ lead ok n
  | 0, h => by rw [Nat.le_zero.1 h]; exact Nat.zero_le _
  | n + 1, h => by
    unfold lead
    split
    · exact h
    · rename_i hk
      refine lead_ge hm ?_
      rcases Nat.lt_or_ge n m with h1 | h1
      · exact absurd (fun i hi => hm i (by omega)) hk
      · exact h1
theorem FCv.abs {W : World} {n : Nat} {l : List FC} {v : Value} (h : FCv W n (.list l) v) : AbsOk (rowQ v) 0 (rowM v) (rowC v) v := by
  cases n with
  | zero => exact h.elim
  | succ n =>
    obtain ⟨a, m, c, rfl, hle, _, hm⟩ := h
    cases m with
    | zero => exact ⟨Nat.zero_le _, .inr ⟨rfl, a, c, rfl⟩⟩
    | succ m =>
      rcases hm with h0 | ⟨b, o, rfl, _⟩
      · cases h0
      · exact AbsOk.of hle
theorem FCv.le {W : World} {n : Nat} {l : List FC} {v : Value} (h : FCv W n (.list l) v) : rowM v ≤ maxLen := by
  cases n with
  | zero => exact h.elim
  | succ n =>
    obtain ⟨a, m, c, rfl, hle, hc, hm⟩ := h
    exact Nat.le_trans hle hc
theorem FCv.row {W : World} {n : Nat} {l : List FC} {v : Value} (h : FCv W (n + 1) (.list l) v) {i : Nat} (hi : i < rowM v) {j : Nat} {q : FC} (hj : l[j]? = some q) :
    ∃ u, W.cell? ⟨blkOf (rowQ v), baseOf (rowQ v) + i * l.length + j, none⟩ = some u ∧ FCv W n q u := by
  obtain ⟨a, m, c, rfl, hle, hc, hm⟩ := h
  cases m with
  | zero => exact absurd hi (Nat.not_lt_zero i)
  | succ m =>
    rcases hm with h0 | ⟨b, o, rfl, hx⟩
    · cases h0
    · obtain ⟨u, h1, h2⟩ := hx i hi j q hj
      refine ⟨u, ?_, h2⟩
      show W.cell? ⟨blkOf (plc b o), baseOf (plc b o) + i * l.length + j, none⟩ = some u
      rw [blkOf_plc, baseOf_plc]; exact h1
theorem FCv.nums {W : World} {n : Nat} {k : IntKind} {v : Value} (h : FCv W (n + 2) (.list [.int k]) v) : rowM v ≤ (worldK k W (rowQ v)).length := by
  obtain ⟨a, m, c, rfl, hle, hc, hm⟩ := h
  cases m with
  | zero => exact Nat.zero_le _
  | succ m =>
    rcases hm with h0 | ⟨b, o, rfl, hx⟩
    · cases h0
    · refine worldK_len fun j hj => ?_
      obtain ⟨u, h1, z, rfl, _⟩ := hx j hj 0 (.int k) rfl
      refine ⟨z, ?_⟩
      simpa using h1
def iV : Value → Int
  | .int _ z => z
  | _ => 0
def bV : Value → Bool
  | .bool z => z
  | _ => false
def cW (W : World) (P k : Nat) : Value := (W.cell? ⟨blkOf P, baseOf P + k, none⟩).getD undef
theorem cW_eq {W : World} {P k : Nat} {v : Value} (h : W.cell? ⟨blkOf P, baseOf P + k, none⟩ = some v) : cW W P k = v := by unfold cW; rw [h]; rfl
def FamOk (W : World) (F : Nat → Nat → Cells) : Prop := ∀ (g P i : Nat) (v : Value), (F g P).get i = some v → ∃ pc t fr v', W.heap[blkOf P]? = some (.cells pc t fr) ∧ pc[baseOf P + i]? = some v' ∧ (∀ (N : Nat → Prop) (ρ : Nat → PB), N 0 → VR N ρ v v') ∧ famV v = true
theorem FamOk.hs {W : World} {F : Nat → Nat → Cells} (h : FamOk W F) (orc : List (Option Bool)) : Hs (smSt 1 [some (.fam F)] orc) (fun _ => ⟨0, 0, 0⟩) W := by
  refine ⟨⟨fun b o hb => ?_, fun b b' o o' hb hb' _ _ => .inl (by rw [(fam_get hb).1, (fam_get hb').1]), fun b b' o o' B hb hB hb' hk => ?_⟩, fun _ _ => rfl, ⟨Nat.le_refl _, fun x hx => by simp [smSt] at hx⟩⟩
  · obtain ⟨rfl, rfl⟩ := fam_get hb
    refine ⟨fam_dm, fun h => absurd (show 1 ≤ 0 from h) (by omega), fun g P i v hv => ?_⟩
    obtain ⟨pc, t, fr, v', k1, k2, k3, k4⟩ := h g P i v hv
    exact ⟨pc, t, fr, v', k1, k2, k3 _ _ fam_dm, k4⟩
  · obtain ⟨rfl, rfl⟩ := fam_get hb'
    exact absurd (show 1 ≤ 0 from hk) (by omega)
end
end Go.Cln
namespace Go.Cln
open Go.ChangeShapes Go.WideShapes Go.ChangeAt Go.RowKit
set_option linter.unusedVariables false
noncomputable section
theorem findLoop {P : Program} {rd : Option Nat} {s0 : St} {c : Code} {id : Nat} {pic : Nat → (Nat → Value) → St} {N : Nat} {e : Nat → Bool} {QD : Exit → St → Prop}
    (hround : ∀ i v, (∀ j, DeadV (v j)) → i < N → e i = true → StepG P rd s0 c (pic i v) fun ex s => ex = .normal ∧ ∃ v', (∀ j, DeadV (v' j)) ∧ s = pic (i + 1) v')
    (hdiff : ∀ i v, (∀ j, DeadV (v j)) → i < N → (∀ j, j < i → e j = true) → e i = false → StepG P rd s0 c (pic i v) fun ex s => ex ≠ .normal ∧ QD ex s)
    (hexit : ∀ v, (∀ j, DeadV (v j)) → StepG P rd s0 c (pic N v) fun ex s => ex = .exit id ∧ ∃ v', (∀ j, DeadV (v' j)) ∧ s = pic N v') {v0 : Nat → Value} (hv : ∀ j, DeadV (v0 j)) :
    StepG P rd s0 (.loop c) (pic 0 v0) fun ex s => (ex = .exit id ∧ (∀ j, j < N → e j = true) ∧ ∃ v', (∀ j, DeadV (v' j)) ∧ s = pic N v') ∨ (ex ≠ .normal ∧ QD ex s) := by
  refine StepG.loop (fun q s => ∃ i v, q = N - i ∧ i ≤ N ∧ (∀ j, j < i → e j = true) ∧ (∀ j, DeadV (v j)) ∧ s = pic i v) ?_ N _ ⟨0, v0, by omega, Nat.zero_le _, fun j hj => absurd hj (Nat.not_lt_zero j), hv, rfl⟩
  rintro q s ⟨i, v, rfl, hi, he, hv, rfl⟩
  by_cases h : i = N
  · subst h
    refine (hexit v hv).mono ?_
    rintro ex s ⟨rfl, v', h1, h2⟩
    exact .inr ⟨(by intro h; cases h), .inl ⟨rfl, he, v', h1, h2⟩⟩
  · cases h1 : e i with
    | true =>
      refine (hround i v hv (by omega) h1).mono ?_
      rintro ex s ⟨rfl, v', h2, rfl⟩
      refine .inl ⟨rfl, N - (i + 1), by omega, i + 1, v', rfl, by omega, fun j hj => ?_, h2, rfl⟩
      rcases Nat.lt_or_ge j i with h3 | h3
      · exact he j h3
      · rw [show j = i by omega]; exact h1
    | false =>
      refine (hdiff i v hv (by omega) he h1).mono ?_
      rintro ex s ⟨h2, h3⟩
      exact .inr ⟨h2, .inr ⟨h2, h3⟩⟩
theorem find_rd {P : Program} {F : Nat → Nat → Cells} {f : FuncId} {args : List Value} {body c E : Code} {l : List ResultVar} {NT id : Nat} {pic : Nat → (Nat → Value) → St} {N : Nat} {e : Nat → Bool} {v0 : Nat → Value} {way : List Nat} {s0 : St} {V : Value} (hs0 : s0 = { smSt 1 [some (.fam F)] [] with tmps := args ++ List.replicate (NT - args.length) undef, defers := [] })
    (hfn : (P.funcs[f]?).map (fun f => (f.body, f.results.toList, f.ntmps)) = some (some body, l, NT)) (hV : flat0 V = true)
    (hdown : ∀ Q, StepG P none s0 (.loop c) (pic 0 v0)
      (upQ P none s0 way body Q) →
      StepG P none s0 body s0 Q)
    (hup : ∀ Q, upQ P none s0 way body Q = fun e s =>
      (fun e s => (e = .normal ∧ StepG P none s0 E s Q) ∨ (e ≠ .normal ∧ Q e s)) (blockOut id e) s)
    (hround : ∀ i v, (∀ j, DeadV (v j)) → i < N → e i = true → StepG P none s0 c (pic i v) fun ex s => ex = .normal ∧ ∃ v', (∀ j, DeadV (v' j)) ∧ s = pic (i + 1) v')
    (hdiff : ∀ i v, (∀ j, DeadV (v j)) → i < N → (∀ j, j < i → e j = true) → e i = false → StepG P none s0 c (pic i v) fun ex s => ex = .ret ∧ s.defers = [] ∧ ResV P l V s)
    (hexit : ∀ v, (∀ j, DeadV (v j)) → StepG P none s0 c (pic N v) fun ex s => ex = .exit id ∧ ∃ v', (∀ j, DeadV (v' j)) ∧ s = pic N v')
    (hend : (∀ j, j < N → e j = true) → ∀ v, (∀ j, DeadV (v j)) → StepG P none s0 E (pic N v) fun ex s => ex = .ret ∧ s.defers = [] ∧ ResV P l V s)
    (hv : ∀ j, DeadV (v0 j)) : Rd P F f args V := by
  cases hf : P.funcs[f]? with
  | none => rw [hf] at hfn; cases hfn
  | some fn =>
    rw [hf] at hfn
    simp only [Option.map_some, Option.some.injEq, Prod.mk.injEq] at hfn
    obtain ⟨h1, h2, h3⟩ := hfn
    subst h3
    subst hs0
    refine Rd.ofG hf h1 h2 hV (hdown _ ?_)
    rw [hup]
    refine (findLoop (QD := fun ex s => ex = .ret ∧ s.defers = [] ∧ ResV P l V s) hround (fun i v hv hi hp he => (hdiff i v hv hi hp he).mono fun ex s h => ⟨(by rw [h.1]; intro h; cases h), h⟩) hexit hv).mono ?_
    rintro ex s (⟨rfl, ha, v', h4, rfl⟩ | ⟨_, rfl, h5, h6⟩)
    · refine .inl ⟨by simp [blockOut], (hend ha v' h4).mono ?_⟩
      rintro ex s ⟨rfl, h7, h8⟩
      exact ⟨rfl, h7, h8⟩
    · exact .inr ⟨by simp [blockOut], rfl, h5, h6⟩
theorem allB_iff {f : Nat → Bool} {n : Nat} : allB f n = true ↔ ∀ i, i < n → f i = true := ⟨fun h i hi => allB_at h i hi, allB_all⟩
def fstB (e : Nat → Bool) : Nat → Nat → Nat
  | 0, i => i
  | n + 1, i => if e i then fstB e n (i + 1) else i
theorem fstB_all {e : Nat → Bool} : ∀ (n i : Nat), (∀ j, j < n → e (i + j) = true) → fstB e n i = i + n
  | 0, i, _ => rfl
  | n + 1, i, h => by
    unfold fstB
    rw [if_pos (by have := h 0 (by omega); rwa [Nat.add_zero] at this), fstB_all n (i + 1) fun j hj => by rw [show i + 1 + j = i + (j + 1) by omega]; exact h (j + 1) (by omega)]
    omega
theorem fstB_at {e : Nat → Bool} : ∀ (n i k : Nat), k < n → (∀ j, j < k → e (i + j) = true) → e (i + k) = false → fstB e n i = i + k
  | 0, i, k, hk, _, _ => absurd hk (Nat.not_lt_zero k)
  | n + 1, i, 0, _, _, h => by
    unfold fstB
    rw [Nat.add_zero] at h
    rw [h]
    rfl
  | n + 1, i, k + 1, hk, hp, h => by
    unfold fstB
    rw [if_pos (by have := hp 0 (by omega); rwa [Nat.add_zero] at this), fstB_at n (i + 1) k (by omega) (fun j hj => by rw [show i + 1 + j = i + (j + 1) by omega]; exact hp (j + 1) (by omega)) (by rw [show i + 1 + k = i + (k + 1) by omega]; exact h)]
    omega
def whereI (e : Nat → Bool) (n : Nat) : Int := if fstB e n 0 < n then (fstB e n 0 : Int) else -1
theorem whereI_all {e : Nat → Bool} {n : Nat} (h : ∀ j, j < n → e j = true) : whereI e n = -1 := by
  unfold whereI
  rw [fstB_all n 0 fun j hj => by rw [Nat.zero_add]; exact h j hj, if_neg (by omega)]
theorem whereI_at {e : Nat → Bool} {n k : Nat} (hk : k < n) (hp : ∀ j, j < k → e j = true) (h : e k = false) : whereI e n = (k : Int) := by
  unfold whereI
  rw [fstB_at n 0 k hk (fun j hj => by rw [Nat.zero_add]; exact hp j hj) (by rw [Nat.zero_add]; exact h), Nat.zero_add, if_pos hk]
theorem whereI_ge {e : Nat → Bool} {n : Nat} : decide (whereI e n ≥ 0) = !allB e n := by
  by_cases h : allB e n = true
  · rw [whereI_all (allB_iff.1 h), h]; rfl
  · have h2 : allB e n = false := Bool.eq_false_iff.2 h
    have : ∃ k, k < n ∧ (∀ j, j < k → e j = true) ∧ e k = false := by
      clear h
      induction n with
      | zero => cases h2
      | succ n ih =>
        cases h3 : allB e n with
        | false =>
          obtain ⟨k, h4, h5⟩ := ih h3
          exact ⟨k, by omega, h5⟩
        | true =>
          simp only [allB, h3, Bool.true_and] at h2
          exact ⟨n, by omega, allB_iff.1 h3, h2⟩
    obtain ⟨k, h3, h4, h5⟩ := this
    rw [whereI_at h3 h4 h5, h2]
    simp
end
end Go.Cln
namespace Go.Cln
set_option linter.unusedVariables false
noncomputable section
def od : Nat → Nat → List (Option Bool)
  | 0, _ => []
  | n + 1, k => (match k % 3 with | 0 => none | 1 => some true | _ => some false) :: od n (k / 3)
inductive BE where
  | a (i : Nat)
  | lit (b : Bool)
  | no (x : BE)
  | an (x y : BE)
  | or (x y : BE)
def BE.ev (B : Nat → Bool) : BE → Bool
  | .a i => B i
  | .lit b => b
  | .no x => !x.ev B
  | .an x y => x.ev B && y.ev B
  | .or x y => x.ev B || y.ev B
structure WayT where
  n : Nat
  o : Nat
  c : List (Nat × Nat)
  v : BE
def cz1 (B : Nat → Bool) (A : Nat → Prop) (c : Nat × Nat) : Prop := match c.2 with
  | 0 => B c.1 = false
  | 1 => B c.1 = true
  | 2 => A c.1
  | 3 => (!B c.1) = true
  | _ => (!B c.1) = false
def cz (B : Nat → Bool) (A : Nat → Prop) : Prop → List (Nat × Nat) → Prop
  | p, [] => p
  | p, c :: l => cz B A (p ∧ cz1 B A c) l
inductive DT where
  | leaf (k : Nat)
  | node (a : Nat) (t f : DT)
def look : List (Nat × Bool) → Nat → Option Bool
  | [], _ => none
  | (k, b) :: l, i => match k == i with | true => some b | false => look l i
def BE.pe (g : List (Nat × Bool)) : BE → Option Bool
  | .a i => look g i
  | .lit b => some b
  | .no x => match x.pe g with | some b => some (!b) | none => none
  | .an x y => match x.pe g with | some false => some false | some true => y.pe g | none => (match y.pe g with | some false => some false | _ => none)
  | .or x y => match x.pe g with | some true => some true | some false => y.pe g | none => (match y.pe g with | some true => some true | _ => none)
theorem look_ok {B : Nat → Bool} {i : Nat} {b : Bool} : ∀ {g : List (Nat × Bool)}, (∀ k ∈ g, B k.1 = k.2) → look g i = some b → B i = b
  | (k, d) :: l, h, e => by
    simp only [look] at e
    split at e
    · rename_i hk
      have hk : k = i := by simpa using hk
      rw [← hk, ← Option.some.inj e]; exact h (k, _) (by simp)
    · exact look_ok (fun q hq => h q (by simp [hq])) e
theorem BE.pe_ok {B : Nat → Bool} {g : List (Nat × Bool)} (h : ∀ k ∈ g, B k.1 = k.2) : ∀ {e : BE} {b : Bool}, e.pe g = some b → e.ev B = b
  | .a i, b, he => look_ok h he
  | .lit d, b, he => by cases he; rfl
  | .no x, b, he => by
    simp only [BE.pe] at he
    split at he
    · rename_i c hc; cases he; simp only [BE.ev, pe_ok h hc]
    · cases he
  | .an x y, b, he => by
    simp only [BE.pe] at he
    simp only [BE.ev]
    split at he
    · rename_i hc; cases he; simp [pe_ok h hc]
    · rename_i hc; simp [pe_ok h hc, pe_ok h he]
    · split at he
      · rename_i hc; cases he; simp [pe_ok h hc]
      · cases he
  | .or x y, b, he => by
    simp only [BE.pe] at he
    simp only [BE.ev]
    split at he
    · rename_i hc; cases he; simp [pe_ok h hc]
    · rename_i hc; simp [pe_ok h hc, pe_ok h he]
    · split at he
      · rename_i hc; cases he; simp [pe_ok h hc]
      · cases he
def ask1 (g : List (Nat × Bool)) (c : Nat × Nat) : Bool := match c.2 with
  | 0 => look g c.1 == some false
  | 1 => look g c.1 == some true
  | 2 => true
  | 3 => look g c.1 == some false
  | _ => look g c.1 == some true
def DT.ok (e : BE) (L : List WayT) : DT → List (Nat × Bool) → Bool
  | .leaf k, g => match L[k]? with
    | some w => w.c.all (ask1 g) && (match w.v.pe g with | some b => e.pe g == some b | none => false)
    | none => false
  | .node a t f, g => t.ok e L ((a, true) :: g) && f.ok e L ((a, false) :: g)
theorem cz_ok {B : Nat → Bool} {A : Nat → Prop} : ∀ {l : List (Nat × Nat)} {p : Prop}, p → (∀ c ∈ l, cz1 B A c) → cz B A p l
  | [], _, hp, _ => hp
  | c :: l, _, hp, h => cz_ok (l := l) ⟨hp, h c (by simp)⟩ fun q hq => h q (by simp [hq])
theorem ask1_ok {B : Nat → Bool} {A : Nat → Prop} {g : List (Nat × Bool)} (h : ∀ k ∈ g, B k.1 = k.2) (hA : ∀ k, A k) {c : Nat × Nat} (hc : ask1 g c = true) : cz1 B A c := by
  obtain ⟨i, m⟩ := c
  rcases m with _ | _ | _ | _ | m
  · exact look_ok h (by simpa [ask1] using hc)
  · exact look_ok h (by simpa [ask1] using hc)
  · exact hA _
  · show (!B i) = true
    rw [look_ok h (show look g i = some false by simpa [ask1] using hc)]; rfl
  · show (!B i) = false
    rw [look_ok h (show look g i = some true by simpa [ask1] using hc)]; rfl
theorem DT.finds {e : BE} {L : List WayT} {B : Nat → Bool} {A : Nat → Prop} (hA : ∀ k, A k) : ∀ {t : DT} {g : List (Nat × Bool)}, (∀ k ∈ g, B k.1 = k.2) → t.ok e L g = true → ∃ w ∈ L, cz B A True w.c ∧ e.ev B = w.v.ev B
  | .leaf k, g, h, ht => by
    simp only [DT.ok] at ht
    split at ht
    · rename_i w hw
      rw [Bool.and_eq_true] at ht
      obtain ⟨h1, h2⟩ := ht
      split at h2
      · rename_i b hb
        exact ⟨w, List.mem_of_getElem? hw, cz_ok trivial fun c hc => ask1_ok h hA (List.all_eq_true.1 h1 c hc), (BE.pe_ok h (by simpa using h2)).trans (BE.pe_ok h hb).symm⟩
      · cases h2
    · cases ht
  | .node a t f, g, h, ht => by
    simp only [DT.ok, Bool.and_eq_true] at ht
    cases hb : B a with
    | true => exact DT.finds hA (fun k hk => by simp only [List.mem_cons] at hk; rcases hk with rfl | hk; exact hb; exact h k hk) ht.1
    | false => exact DT.finds hA (fun k hk => by simp only [List.mem_cons] at hk; rcases hk with rfl | hk; exact hb; exact h k hk) ht.2
def WayOk (P : Program) (K : Given) (F : Nat → Nat → Cells) (f : FuncId) (args : List Value) (B : Nat → Bool) (A : Nat → Prop) (w : WayT) : Prop :=
  ((mk P K 200).call f args (smSt 1 [some (.fam F)] (od w.n w.o))).map (fun r => (r.1, r.2.obl)) = some (.bool (w.v.ev B), cz B A True w.c)
def WaysOk (P : Program) (K : Given) (F : Nat → Nat → Cells) (f : FuncId) (args : List Value) (B : Nat → Bool) (A : Nat → Prop) : List WayT → Prop
  | [] => True
  | w :: l => WayOk P K F f args B A w ∧ WaysOk P K F f args B A l
theorem WaysOk.at {P : Program} {K : Given} {F : Nat → Nat → Cells} {f : FuncId} {args : List Value} {B : Nat → Bool} {A : Nat → Prop} : ∀ {L : List WayT}, WaysOk P K F f args B A L → ∀ w ∈ L, WayOk P K F f args B A w
  | a :: l, h, w, hw => by
    simp only [List.mem_cons] at hw
    rcases hw with rfl | hw
    · exact h.1
    · exact WaysOk.at h.2 w hw
theorem WaysOk.app {P : Program} {K : Given} {F : Nat → Nat → Cells} {f : FuncId} {args : List Value} {B : Nat → Bool} {A : Nat → Prop} : ∀ {L M : List WayT}, WaysOk P K F f args B A L → WaysOk P K F f args B A M → WaysOk P K F f args B A (L ++ M)
  | [], _, _, h => h
  | a :: l, _, h, h2 => ⟨h.1, WaysOk.app h.2 h2⟩
theorem Rd.tree {P : Program} (G : PG P) {K : Given} (hK : GivenOk P K) {F : Nat → Nat → Cells} {f : FuncId} {args : List Value} {B : Nat → Bool} {A : Nat → Prop} {L : List WayT} {e : BE} (hL : WaysOk P K F f args B A L) (hA : ∀ k, A k) (t : DT) (ht : t.ok e L [] = true) : Rd P F f args (.bool (e.ev B)) := by
  obtain ⟨w, hw, hc, hv⟩ := DT.finds (B := B) hA (fun k hk => by simp at hk) ht
  rw [hv]
  exact Rd.run G hK (WaysOk.at hL w hw) hc rfl
end
end Go.Cln
namespace Go.Cln
open Go.ChangeShapes Go.WideShapes Go.ChangeAt Go.RowKit
set_option linter.unusedVariables false
noncomputable section
def isQ (q : FC) (v : Value) : Prop := match q with
  | .int k => ∃ z, v = .int k z ∧ (Lit.int k z).wf = true
  | .bool => ∃ z, v = .bool z
  | .str => ∃ z, v = .string z
  | .list _ => AbsOk (rowQ v) 0 (rowM v) (rowC v) v
def absQ (sg : Nat) (q : FC) (v : Value) : Value := match q with
  | .int k => .int k (iV v)
  | .bool => .bool (bV v)
  | .str => v
  | .list _ => .slice (some ⟨rowQ v, 0, some sg⟩) (rowM v) (rowC v)
theorem FCv.isQ {W : World} {n : Nat} {q : FC} {v : Value} (h : FCv W n q v) : isQ q v := by
  cases n with
  | zero => exact h.elim
  | succ n => cases q with
    | list l => exact FCv.abs (n := n + 1) h
    | _ => exact h
theorem isQ_vr {sg : Nat} (hs : Nat.ble 1000 sg = true) {q : FC} {v : Value} (h : isQ q v) : (∀ (N : Nat → Prop) (ρ : Nat → PB), N 0 → VR N ρ (absQ sg q v) v) ∧ famV (absQ sg q v) = true := by
  cases q with
  | int k => obtain ⟨z, rfl, _⟩ := h; exact ⟨fun _ _ _ => .same rfl, rfl⟩
  | bool => obtain ⟨z, rfl⟩ := h; exact ⟨fun _ _ _ => .same rfl, rfl⟩
  | str => obtain ⟨z, rfl⟩ := h; exact ⟨fun _ _ _ => .same rfl, rfl⟩
  | list l => exact ⟨fun _ _ h0 => .abs h0 hs h, hs⟩
def okRows (W : World) (sh : List FC) (P i : Nat) : Prop := ∀ (j : Nat) (q : FC), sh[j]? = some q → ∃ u, W.cell? ⟨blkOf P, baseOf P + (i * sh.length + j), none⟩ = some u ∧ isQ q u
theorem famRows {W : World} {sh : List FC} {sg P n w : Nat} {g : Nat → List Value} (hs : Nat.ble 1000 sg = true) (hw : sh.length = w) (hg : ∀ i j v, (g i)[j]? = some v → ∃ q, sh[j]? = some q ∧ v = absQ sg q (cW W P (i * w + j)))
    {i : Nat} {v : Value} (h : (Cells.rows (lead (okRows W sh P) n) w g).get i = some v) :
    ∃ pc t fr v', W.heap[blkOf P]? = some (.cells pc t fr) ∧ pc[baseOf P + i]? = some v' ∧ (∀ (N : Nat → Prop) (ρ : Nat → PB), N 0 → VR N ρ v v') ∧ famV v = true := by
  simp only [Cells.get] at h
  split at h
  · rename_i hi
    obtain ⟨q, hq, rfl⟩ := hg _ _ _ h
    obtain ⟨u, h1, h2⟩ := lead_ok hi (i % w) q hq
    have e1 : i / w * w + i % w = i := by have := Nat.div_add_mod i w; rw [Nat.mul_comm] at this; exact this
    rw [hw, e1] at h1
    rw [e1, cW_eq h1]
    obtain ⟨pc, t, fr, k1, k2⟩ := cell_in h1
    exact ⟨pc, t, fr, u, k1, k2, (isQ_vr hs h2).1, (isQ_vr hs h2).2⟩
  · cases h
theorem famInts {k : IntKind} {W : World} {P i : Nat} {v : Value} (h : (Cells.ints k (worldK k W P)).get i = some v) :
    ∃ pc t fr v', W.heap[blkOf P]? = some (.cells pc t fr) ∧ pc[baseOf P + i]? = some v' ∧ (∀ (N : Nat → Prop) (ρ : Nat → PB), N 0 → VR N ρ v v') ∧ famV v = true := by
  simp only [Cells.get, Option.map_eq_some_iff] at h
  obtain ⟨y, hy, rfl⟩ := h
  obtain ⟨pc, t, fr, k1, k2⟩ := worldK_get hy
  exact ⟨pc, t, fr, _, k1, k2, fun _ _ _ => .same rfl, rfl⟩
theorem FCv.cell {W : World} {n : Nat} {sh : List FC} {v : Value} (h : FCv W (n + 1) (.list sh) v) {i : Nat} (hi : i < rowM v) {j : Nat} {q : FC} (hj : sh[j]? = some q) {w : Nat} (hw : sh.length = w) : FCv W n q (cW W (rowQ v) (i * w + j)) := by
  obtain ⟨u, h1, h2⟩ := h.row hi hj
  subst hw
  rw [cW_eq (by rw [← Nat.add_assoc]; exact h1)]
  exact h2
theorem lenRows {B : Nat} (hB : maxLen ≤ B) {W : World} {n : Nat} {sh : List FC} {v : Value} (h : FCv W (n + 1) (.list sh) v) : rowM v ≤ lead (okRows W sh (rowQ v)) B := by
  refine lead_ge (fun i hi j q hq => ?_) (Nat.le_trans h.le hB)
  obtain ⟨u, h1, h2⟩ := h.row hi hq
  exact ⟨u, by rw [← Nat.add_assoc]; exact h1, h2.isQ⟩
theorem FCv.num {W : World} {n : Nat} {k : IntKind} {v : Value} (h : FCv W n (.int k) v) : v = .int k (iV v) ∧ k.min ≤ iV v ∧ iV v ≤ k.max := by
  cases n with
  | zero => exact h.elim
  | succ n =>
    obtain ⟨z, rfl, hz⟩ := h
    simp only [Lit.wf, Bool.and_eq_true, decide_eq_true_eq] at hz
    exact ⟨rfl, hz.1, hz.2⟩
end
end Go.Cln
namespace Go.Cln
open Go.ChangeShapes Go.WideShapes Go.ChangeAt Go.RowKit
set_option linter.unusedVariables false
noncomputable section
def StepW (P : Program) (rd : Option Nat) (s0 : St) (ρ0 : Nat → PB) (w0 : World) (c : Code) (s : St) (Q : Exit → St → Prop) : Prop :=
  ∀ (n : Nat) (w : World) (a : Act) (R : Exit → Act → World → Prop), (∀ l, rd = some l → l < s0.next) → Hs s0 ρ0 w0 → PicG s0 ρ0 w0 s w a →
    (∀ e s' w' a', Q e s' → PicG s0 ρ0 w0 s' w' a' → R e a' w') → c.wpIn (fenceOf rd ρ0) n P R a w
section
variable {P : Program} {rd : Option Nat} {s0 : St} {ρ0 : Nat → PB} {w0 : World} {c : Code} {s : St} {Q Q' : Exit → St → Prop}
theorem StepG.at (h : StepG P rd s0 c s Q) (ρ0 : Nat → PB) (w0 : World) : StepW P rd s0 ρ0 w0 c s Q := fun n w a R h1 h2 h3 h4 => h n ρ0 w0 w a R h1 h2 h3 h4
theorem StepW.all (h : ∀ ρ0 w0, Hs s0 ρ0 w0 → StepW P rd s0 ρ0 w0 c s Q) : StepG P rd s0 c s Q := fun n ρ0 w0 w a R h1 h2 h3 h4 => h ρ0 w0 h2 n w a R h1 h2 h3 h4
theorem StepW.mono (h : StepW P rd s0 ρ0 w0 c s Q) (hq : ∀ e s', Q e s' → Q' e s') : StepW P rd s0 ρ0 w0 c s Q' := fun n w a R h1 h2 h3 h4 => h n w a R h1 h2 h3 fun e s' w' a' hQ => h4 e s' w' a' (hq e s' hQ)
theorem StepW.turn (h : StepW P rd s0 ρ0 w0 c s Q) (hq : ∀ (e : Exit) (s1 : St) (w : World) (a : Act), Q e s1 → Hs s0 ρ0 w0 → PicG s0 ρ0 w0 s1 w a → ∃ s2, Q' e s2 ∧ PicG s0 ρ0 w0 s2 w a) : StepW P rd s0 ρ0 w0 c s Q' :=
  fun n w a R h1 h2 h3 h4 => h n w a R h1 h2 h3 fun e s' w' a' hQ hp => let ⟨s2, q, p⟩ := hq e s' w' a' hQ h2 hp; h4 e s2 w' a' q p
theorem StepW.seq {x y : Code} (h : StepW P rd s0 ρ0 w0 x s fun e s' => (e = .normal ∧ StepW P rd s0 ρ0 w0 y s' Q) ∨ (e ≠ .normal ∧ Q e s')) : StepW P rd s0 ρ0 w0 (.seq x y) s Q :=
  fun n w a R h1 h2 h3 h4 => wpIn_seq (h n w a _ h1 h2 h3 fun e s' w' a' hq hp => by
    rcases hq with ⟨rfl, hq⟩ | ⟨hne, hq⟩
    · exact hq n w' a' R h1 h2 hp h4
    · have := h4 e s' w' a' hq hp
      cases e <;> first | exact this | exact absurd rfl hne)
theorem StepW.block {id : Nat} {x : Code} (h : StepW P rd s0 ρ0 w0 x s fun e s' => Q (blockOut id e) s') : StepW P rd s0 ρ0 w0 (.block id x) s Q :=
  fun n w a R h1 h2 h3 h4 => wpIn_block (h n w a _ h1 h2 h3 fun e s' w' a' hq hp => blockOut_wp (h4 _ s' w' a' hq hp))
theorem StepW.loop (I : Nat → St → Prop)
    (h : ∀ k s, I k s → StepW P rd s0 ρ0 w0 c s (fun e s' => (e = .normal ∧ ∃ k', k' < k ∧ I k' s') ∨ (e ≠ .normal ∧ Q e s'))) : ∀ k s, I k s → StepW P rd s0 ρ0 w0 (.loop c) s Q := by
  intro k s hI n w a R h1 h2 h3 h4
  have key : ∀ (m k : Nat) (s : St) (w : World) (a : Act), k < m → I k s → PicG s0 ρ0 w0 s w a → Code.roundsIn (fenceOf rd ρ0) n P c R m a w := by
    intro m
    induction m with
    | zero => intro k s w a hk; omega
    | succ m ih =>
      intro k s w a hk hI hp
      rw [roundsIn_succ]
      refine h k s hI n w a _ h1 h2 hp fun e s' w' a' hq hp' => ?_
      rcases hq with ⟨rfl, k', hk', hI'⟩ | ⟨hne, hQ⟩
      · exact ih k' s' w' a' (by omega) hI' hp'
      · have := h4 e s' w' a' hQ hp'
        cases e <;> first | exact this | exact absurd rfl hne
  exact wpIn_loop_rounds (k + 1) (key (k + 1) k s w a (Nat.lt_succ_self k) hI h3)
end
def StepO (P : Program) (rd : Option Nat) (s0 : St) (ρ0 : Nat → PB) (w0 : World) (ops : Array Oper) (l : List Nat) (s : St) (Q : Exit → St → Prop) : Prop :=
  ∀ (n : Nat) (w : World) (a : Act) (R : Exit → Act → World → Prop), (∀ l, rd = some l → l < s0.next) → Hs s0 ρ0 w0 → PicG s0 ρ0 w0 s w a →
    (∀ e s' w' a', Q e s' → PicG s0 ρ0 w0 s' w' a' → R e a' w') → wpOpsIn (fenceOf rd ρ0) n P ops R l a w
section
variable {P : Program} {rd : Option Nat} {s0 : St} {ρ0 : Nat → PB} {w0 : World} {s : St} {Q : Exit → St → Prop} {ops : Array Oper}
theorem StepW.region {id : Nat} (h : StepO P rd s0 ρ0 w0 ops (List.range ops.size) s Q) : StepW P rd s0 ρ0 w0 (.region id ops false) s Q := fun n w a R h1 h2 h3 h4 => wpIn_region (h n w a R h1 h2 h3 h4)
theorem StepO.nil (h : Q .normal s) : StepO P rd s0 ρ0 w0 ops [] s Q := fun n w a R h1 h2 h3 h4 => h4 .normal s w a h h3
theorem runSeq_app (G : PG P) {K : Given} {ih : Orc} (hi : OrcOk P ih) {F : Fence} (hF : ∃ rd ρ0, F = fenceOf rd ρ0) {n : Nat} {R : Exit → Act → World → Prop} {l2 : List Nat} :
    ∀ {l : List Nat} {s s' : St} {ρ : Nat → PB} {w : World} {a : Act}, runSeq P K ih ops l s = some s' → s'.obl → Rel s ρ w a → (∀ ρ' w' a', Rel s' ρ' w' a' → Tra s s' ρ ρ' w w' → wpOpsIn F n P ops R l2 a' w') → wpOpsIn F n P ops R (l ++ l2) a w
  | [], s, s', ρ, w, a, h, ho, hr, hn => by simp [runSeq] at h; subst h; exact hn ρ w a hr (Tra.refl _ _ _)
  | i :: l, s, s', ρ, w, a, h, ho, hr, hn => by
    simp only [runSeq, St.norm_eq, bind_some] at h
    obtain ⟨s1, h1, h⟩ := h
    rw [List.cons_append, wpOpsIn_cons]
    refine runOne_sound G hi hF h1 (runSeq_obl hi.toOrcObl h ho) hr fun ρ1 w1 a1 r1 t1 => ?_
    exact runSeq_app G hi hF h ho r1 fun ρ2 w2 a2 r2 t2 => hn ρ2 w2 a2 r2 (t1.trans t2)
theorem StepO.run (G : PG P) {K : Given} (hK : GivenOk P K) {B : Nat → Bool} {n : Nat} {s2 : St} {l1 l2 : List Nat} {p : Prop} {o : List (Option Bool)} {σ : List Nat} {g : Nat → Option Ob} {n1 : Nat}
    (hr : (runSeq P K (mk P K n) ops l1 { s with obl := True, orc := o }).map (fun r => (r.obl, seenInT B r s2 σ)) = some (p, seenAsT B s2 σ n1)) (hp : p) (hn : s0.next ≤ s.next) (hd : deadT B 0 s2.tmps) (hR : RowsIn g)
    (hh : s2.heap = Tr.rebuild g s2.next) (hk : picOkT B s0 s2 σ = true) (h : StepO P rd s0 ρ0 w0 ops l2 s2 Q) : StepO P rd s0 ρ0 w0 ops (l1 ++ l2) s Q := by
  cases hc : runSeq P K (mk P K n) ops l1 { s with obl := True, orc := o } with
  | none => rw [hc] at hr; simp at hr
  | some s1 =>
    rw [hc] at hr
    simp only [Option.map_some, Option.some.injEq, Prod.mk.injEq] at hr
    obtain ⟨h2, h3⟩ := hr
    have v := ViewM.stdT hd hR hh hk h3
    have l1 : Like s { s with obl := True, orc := o } := ⟨rfl, rfl, rfl, rfl, rfl⟩
    intro m w a R g1 g2 ⟨ρ, r, t⟩ g4
    have := runSeq_app (l2 := l2) (R := R) (n := m) G (mk_ok G hK n) ⟨rd, ρ, rfl⟩ hc (by rw [h2]; exact hp) (r.like l1 rfl rfl) fun ρ' w' a' r' t' => by
      have := h m w' a' R g1 g2 (PicG.viewM g2 v ⟨ρ', r', t.trans (l1.thenTra t')⟩) g4
      rwa [← fenceOf_ext g1 t.ext] at this
    rwa [fenceOf_ext g1 t.ext] at this
end
def Fresh (w : World) (F F' : Nat → Nat → Cells) : Prop := ∀ (g P i : Nat) (v : Value), (F' g P).get i = some v → (F g P).get i = some v ∨ w.heap.size ≤ blkOf P
theorem Fresh.refl (w : World) (F : Nat → Nat → Cells) : Fresh w F F := fun _ _ _ _ h => .inl h
theorem FamOk.of_hs {s : St} {ρ : Nat → PB} {w : World} {F : Nat → Nat → Cells} (hs : Hs s ρ w) (h0 : s.heap.get 0 = some (.fam F)) : FamOk w F := fun g P i v hv => by
  obtain ⟨_, _, f3⟩ := hs.ob 0 _ h0
  obtain ⟨pc, t, fr, v', k1, k2, k3, k4⟩ := f3 g P i v hv
  exact ⟨pc, t, fr, v', k1, k2, fun N ρ' hN => famV_vr k3 k4 hN, k4⟩
def farW : Value → Bool
  | .tuple x => x.toList.all farV
  | v => farV v
theorem farW_vr {N N' : Nat → Prop} {ρ ρ' : Nat → PB} {v w : Value} (h : VR N ρ v w) (hf : farW v = true) (h0 : N' 0) : VR N' ρ' v w := by
  cases v with
  | tuple x =>
    cases h with
    | same h => simp [flat0] at h
    | tup h1 h2 => exact .tup h1 fun i a b ha hb => farV_vr (h2 i a b ha hb) (List.all_eq_true.1 hf a (List.mem_of_getElem? ha)) h0
  | _ => exact farV_vr h hf h0
def MkOk (P : Program) (F : Nat → Nat → Cells) (f : FuncId) (args : List Value) (R : (Nat → Nat → Cells) → Value → Prop) : Prop :=
  ∀ (ρ : Nat → PB) (w : World) (args' : List Value), Hs (smSt 1 [some (.fam F)] []) ρ w → VL (Dm (smSt 1 [some (.fam F)] [])) ρ args args' →
    Calls P f args'.toArray w fun e w' => ∃ F' v v', e = .returned v' ∧ Go.RowKit.Below w.heap.size w w' ∧ Fresh w F F' ∧ FamOk w' F' ∧ farW v = true ∧ VR (Dm (smSt 1 [some (.fam F)] [])) ρ v v' ∧ R F' v
theorem MkOk.mono {P : Program} {F : Nat → Nat → Cells} {f : FuncId} {args : List Value} {R R' : (Nat → Nat → Cells) → Value → Prop} (h : MkOk P F f args R) (hR : ∀ F' v, R F' v → R' F' v) : MkOk P F f args R' := fun ρ w args' hs ha =>
  (h ρ w args' hs ha).mono fun e w' ⟨F', v, v', h1, h2, h3, h4, h5, h6, h7⟩ => ⟨F', v, v', h1, h2, h3, h4, h5, h6, hR F' v h7⟩
structure ToldS (s s2 : St) (F' : Nat → Nat → Cells) (d : Option Tmp) (v : Value) : Prop where
  next : s2.next = s.next
  roB : s2.roB = s.roB
  ro : s2.ro = s.ro
  hid : s2.hid = s.hid
  defers : s2.defers = s.defers
  tmps : s2.tmps = (s.set d v).tmps
  zero : s2.heap.get 0 = some (.fam F')
  rest : ∀ x, x ≠ 0 → s2.heap.get x = s.heap.get x
theorem PicG.told {s0 s s2 : St} {ρ0 : Nat → PB} {w0 w w' : World} {a : Act} {F F' : Nat → Nat → Cells} {d : Option Tmp} {v v' : Value} {ρ : Nat → PB} (r : Rel s ρ w a) (tr : Tra0 s0 s ρ0 ρ w0 w) (h0 : s.heap.get 0 = some (.fam F)) (T : ToldS s s2 F' d v)
    (hb : Go.RowKit.Below w.heap.size w w') (hf : Fresh w F F') (hF : FamOk w' F') (hv : VR (Dm s) ρ v v') : PicG s0 ρ0 w0 s2 w' (a.put d v') := by
  have hdm : Dm s2 = Dm s := by unfold Dm; rw [T.next, T.hid]
  obtain ⟨d0, f1, _⟩ := r.hs.ob 0 _ h0
  have hlt : ∀ x o, s.heap.get x = some o → s.roB ≤ x → (ρ x).blk < w.heap.size := fun x o hx hm => (r.hs.ob x o hx).2.lt ((r.hs.ob x o hx).2.hard hm)
  have hs2 : Hs s2 ρ w' := by
    refine ⟨⟨fun x o hx => ?_, fun x x' o o' hx hx' hk e => ?_, fun x x' o o' B hx hB hx' hk => ?_⟩, fun x hx => ?_, ?_⟩
    · rw [hdm, T.roB]
      by_cases ex : x = 0
      · subst ex
        rw [T.zero] at hx; cases hx
        refine ⟨d0, f1, fun g P i u hu => ?_⟩
        obtain ⟨pc, t, fr, u', k1, k2, k3, k4⟩ := hF g P i u hu
        exact ⟨pc, t, fr, u', k1, k2, k3 _ _ d0, k4⟩
      · rw [T.rest x ex] at hx
        obtain ⟨k1, k2⟩ := r.hs.ob x o hx
        exact ⟨k1, k2.congr id (fun q => hb.block _ (k2.lt q)) hb.size fun B hB => hb.block B (k2.farLt hB)⟩
    · by_cases ex : x = 0
      · subst ex; rw [T.zero] at hx; cases hx; exact .inr (.inl rfl)
      · by_cases ex' : x' = 0
        · subst ex'; rw [T.zero] at hx'; cases hx'; exact .inr (.inr rfl)
        · rw [T.rest x ex] at hx; rw [T.rest x' ex'] at hx'
          exact r.hs.inj x x' o o' hx hx' (by rw [T.roB] at hk; exact hk) e
    · rw [T.roB] at hk
      have ex' : x' ≠ 0 := fun e => f1 (by rw [← e]; exact hk)
      rw [T.rest x' ex'] at hx'
      by_cases ex : x = 0
      · subst ex
        rw [T.zero] at hx; cases hx
        obtain ⟨F1, g, P, i, u, hF1, hu, rfl⟩ := hB
        cases hF1
        rcases hf g P i u hu with h | h
        · exact r.hs.far 0 x' _ _ _ h0 ⟨F, g, P, i, u, rfl, h, rfl⟩ hx' hk
        · have := hlt x' o' hx' hk
          omega
      · rw [T.rest x ex] at hx
        exact r.hs.far x x' o o' B hx hB hx' hk
    · rw [T.hid]; exact r.hs.hid x (by rw [← T.next]; exact hx)
    · rw [T.roB, T.next, T.ro]; exact r.hs.wf
  have rp := r.put d hv
  refine ⟨ρ, ⟨hs2, ?_, ?_, ?_⟩, ?_⟩
  · rw [hdm, T.tmps]
    have := rp.tmps
    rwa [(set_like s d v).dm] at this
  · rw [T.defers]; cases d <;> exact r.defers
  · rw [T.defers, T.next]; exact r.marks
  · refine ⟨by rw [T.next]; exact tr.next, tr.ext, hb.os.trans tr.os, hb.tape.trans tr.tape, hb.output.trans tr.output, Nat.le_trans tr.size hb.size, fun k hk hno => ?_, fun x o hx hm => ?_, T.roB.trans tr.roB, T.ro.trans tr.ro, T.hid.trans tr.hid, fun x hz hx => ?_⟩
    · rw [hb.block k (Nat.lt_of_lt_of_le hk tr.size)]
      exact tr.frame k hk hno
    · have hm' : s.may x = true := by rw [← may_of T.roB T.ro]; exact hm
      have ex : x ≠ 0 := fun e => by
        subst e
        unfold St.may at hm'
        rw [Bool.and_eq_true] at hm'
        exact f1 (of_decide_eq_true hm'.1)
      rw [T.rest x ex] at hx
      exact tr.own x o hx hm'
    · rw [T.rest x hz]; exact tr.same x hz hx
section
variable {P : Program} {rd : Option Nat} {s0 : St} {ρ0 : Nat → PB} {w0 : World} {s : St} {Q : Exit → St → Prop} {ops : Array Oper}
theorem StepO.call (G : PG P) {i : Nat} {l : List Nat} {o : Oper} {dst : Option Tmp} {f : Operand} {args : Array Operand} {ats : Array TypeId} {g : FuncId} {fn : Func} {vs : List Value} {F : Nat → Nat → Cells} {R : (Nat → Nat → Cells) → Value → Prop}
    (ho : ops[i]? = some o) (hop : o.op = .call ⟨.value f, args, ats⟩) (hg : o.guard = none) (hd : o.dst = dst) (hobl : s.obl)
    (hf : ev s f = some (.func (.func g) #[] #[])) (hvs : evs s args.toList = some vs) (hfn : P.funcs[g]? = some fn) (hb : fn.body.isSome = true) (h0 : s.heap.get 0 = some (.fam F)) (hfar : vs.all farV = true) (hm : MkOk P F g vs R)
    (h : ∀ F' v, Fresh w0 F F' → R F' v → ∃ s2, ToldS s s2 F' dst v ∧ StepO P rd s0 ρ0 w0 ops l s2 Q) : StepO P rd s0 ρ0 w0 ops (i :: l) s Q := by
  intro n w a R1 g1 g2 ⟨ρ, r, t⟩ g4
  rw [wpOpsIn_cons]
  unfold wpOpIn
  rw [ho]
  simp only
  obtain ⟨dst', op, type, pos, after, guard⟩ := o
  simp only at hop hg hd
  subst hop hg hd
  obtain ⟨_, _, k3⟩ := wanted_sound (ops := ops) (s := s) (s1 := s) (b := true) (o := ⟨dst', .call ⟨.value f, args, ats⟩, type, pos, after, none⟩) rfl r.tmps
  obtain ⟨_, e, _⟩ := k3 hobl
  rw [e, if_pos rfl]
  have hdep : (fenceOf rd ρ0).depth.isSome = true → 1 ≤ n := fun x => by rw [fenceOf_depth] at x; simp at x
  refine ⟨fun f _ => fenceOf_fn rd ρ0 f, ?_⟩
  rw [Oper.semAt_eq _ _ _ (fun c e => by cases e)]
  have rf := ev_sound r.tmps hf
  have ra := evs_sound r.tmps hvs
  have hev : a.eval f = .func (.func g) #[] #[] := rf.eq_flat0 rfl
  have hrun : (execOp a.eval { dst := dst', op := .call ⟨.value f, args, ats⟩, type := type, pos := pos, after := after, guard := none }).run P w = .ok (.enter g (#[] ++ args.map a.eval ++ #[])) w := by
    simp only [execOp, resolve, hev, Deferred.ofValue, pure_bind, invoke]
    exact run_callFunc G hfn hb _ _
  rw [hrun]
  refine ⟨hdep, fenceOf_calls (m := n - 1) ?_⟩
  have hargs : (args.toList.map a.eval).toArray = #[] ++ args.map a.eval ++ #[] := by apply Array.ext'; simp
  have hsF := fam_hs r.hs h0 []
  have := show CallsIn Fence.wide (n - 1) P g _ w _ from callsIn_wide.2 (hm _ w _ hsF (fam_vl ra hfar))
  rw [hargs] at this
  refine this.mono ?_
  rintro e w' ⟨F', v, v', rfl, b1, b2, b3, b4, b5, b6⟩
  have hfr : Fresh w0 F F' := fun g P i u hu => (b2 g P i u hu).imp_right fun h => Nat.le_trans t.size h
  obtain ⟨s2, T, hq⟩ := h F' v hfr b6
  have d0 := (r.hs.ob 0 _ h0).1
  exact hq n w' _ R1 g1 g2 (PicG.told r t h0 T b1 b2 b3 (farW_vr b5 b4 d0)) g4
end
theorem MkOk.ofW {P : Program} {f : FuncId} {fn : Func} {c : Code} {F : Nat → Nat → Cells} {args : List Value} {l : List ResultVar} {R : (Nat → Nat → Cells) → Value → Prop} (hf : P.funcs[f]? = some fn) (hc : fn.body = some c) (hres : fn.results.toList = l)
    (h : ∀ ρ0 w0, StepW P none { smSt 1 [some (.fam F)] [] with tmps := args ++ List.replicate (fn.ntmps - args.length) undef, defers := [] } ρ0 w0 c { smSt 1 [some (.fam F)] [] with tmps := args ++ List.replicate (fn.ntmps - args.length) undef, defers := [] }
      fun e s' => leaves? e = true ∧ s'.defers = [] ∧ ∃ F' q, s'.heap.get 0 = some (.fam F') ∧ Fresh w0 F F' ∧ results1 P s' l = some q ∧ q.2.obl ∧ farW (oneOf q.1) = true ∧ R F' (oneOf q.1)) : MkOk P F f args R := by
  intro ρ W args' hs ha
  refine callsIn_wide.1 (show CallsIn Fence.wide 0 P f _ W _ from callsIn_of_wp_marks hf hc trivial ?_)
  have l0 : Like (smSt 1 [some (.fam F)] []) { smSt 1 [some (.fam F)] [] with tmps := args ++ List.replicate (fn.ntmps - args.length) undef, defers := [] } := ⟨rfl, rfl, rfl, rfl, rfl⟩
  have hrel : Rel { smSt 1 [some (.fam F)] [] with tmps := args ++ List.replicate (fn.ntmps - args.length) undef, defers := [] } ρ W { tmps := args'.toArray ++ Array.replicate (fn.ntmps - args'.toArray.size) undef, defers := [] } := by
    refine ⟨l0.holds hs, ?_, rfl, fun d hd => by simp at hd⟩
    have := ha.append (VL.replicate (N := Dm (smSt 1 [some (.fam F)] [])) (ρ := ρ) VR.undef (fn.ntmps - args.length))
    rw [l0.dm]
    simpa [ha.1] using this
  refine h ρ W 0 W _ _ (fun l e => by cases e) (l0.holds hs) ⟨ρ, hrel, (Tra.refl _ _ _).to0⟩ ?_
  rintro e s' w' a' ⟨hl, hd, F', ⟨vs, s3⟩, hF', hfr, hq, ho, hfar, hR⟩ ⟨ρ', r', t'⟩
  simp only at ho hfar hR
  obtain ⟨k, vs', hr, hv2⟩ := results1_sound (tmps := a'.tmps) hq ho r'.hs r'.tmps
  have hv2 := oneOf_sound hv2
  have had : a'.defers = [] := by rw [r'.defers, hd]; rfl
  have hb2 : Go.RowKit.Below W.heap.size W w' := ⟨t'.os, t'.tape, t'.output, t'.size, fun k hk => t'.frame k hk fun b o hb hm => by
    obtain ⟨rfl, rfl⟩ := fam_get (orc := []) hb
    unfold St.may at hm
    rw [Bool.and_eq_true] at hm
    exact absurd (of_decide_eq_true hm.1) (show ¬ 1 ≤ 0 by omega)⟩
  have fin : LeavesInM Fence.wide 0 P fn a'.tmps (fun e w' => ∃ F' v v', e = .returned v' ∧ Go.RowKit.Below W.heap.size W w' ∧ Fresh W F F' ∧ FamOk w' F' ∧ farW v = true ∧ VR (Dm (smSt 1 [some (.fam F)] [])) ρ v v' ∧ R F' v) a'.defers .returning w' := by
    rw [had]
    simp only [LeavesInM]
    exact ⟨_, results_run (by rw [hres]; exact hr), F', _, _, rfl, hb2, hfr, FamOk.of_hs r'.hs hF', hfar, farW_vr hv2 hfar fam_dm, hR⟩
  cases e <;> first
    | exact fin
    | (simp [leaves?] at hl; done)
end
end Go.Cln
namespace Go.Cln
open Go.ChangeShapes Go.WideShapes Go.ChangeAt Go.RowKit
set_option linter.unusedVariables false
noncomputable section
theorem StepW.cond {P : Program} {rd : Option Nat} {s0 s : St} {ρ0 : Nat → PB} {w0 : World} {c : Operand} {x y : Code} {b : Bool} {Q : Exit → St → Prop} (hv : ev s c = some (.bool b)) (h : StepW P rd s0 ρ0 w0 (if b = true then x else y) s Q) : StepW P rd s0 ρ0 w0 (.cond c x y) s Q := by
  intro n w a R h1 h2 h3 h4
  obtain ⟨ρ, r, t⟩ := h3
  have hev := (ev_sound r.tmps hv).eq_flat0 rfl
  exact wpIn_cond hev (h n w a R h1 h2 ⟨ρ, r, t⟩ h4)
def upW (P : Program) (rd : Option Nat) (s0 : St) (ρ0 : Nat → PB) (w0 : World) : List Nat → Code → (Exit → St → Prop) → Exit → St → Prop
  | [] => fun _ Q => Q
  | d :: l => fun c Q => match d, c with
    | 2, .seq x y => upW P rd s0 ρ0 w0 l y Q
    | 3, .seq x y => upW P rd s0 ρ0 w0 l x fun e s => (e = .normal ∧ StepW P rd s0 ρ0 w0 y s Q) ∨ (e ≠ .normal ∧ Q e s)
    | 0, .block id x => upW P rd s0 ρ0 w0 l x fun e s => Q (blockOut id e) s
    | 1, .cond c x y => upW P rd s0 ρ0 w0 l x Q
    | _, _ => Q
theorem down_stepW {P : Program} {ih : Orc} (hi : OrcOk P ih) {f : FuncId} {rd : Option Nat} {s0 : St} {ρ0 : Nat → PB} {w0 : World} : ∀ (l : List Nat) {c c' : Code} {s s' : St} {Q : Exit → St → Prop}, down ih f rd l c s = some (s', c') →
    (s'.obl → s.obl) ∧ (s'.obl → StepW P rd s0 ρ0 w0 c' s' (upW P rd s0 ρ0 w0 l c Q) → StepW P rd s0 ρ0 w0 c s Q) := by
  intro l
  induction l with
  | nil =>
    intro c c' s s' Q h
    simp only [down, Option.some.injEq, Prod.mk.injEq] at h
    obtain ⟨rfl, rfl⟩ := h
    exact ⟨id, fun _ g => g⟩
  | cons d l ih' =>
    intro c c' s s' Q h
    simp only [down] at h
    split at h
    · rename_i x y
      simp only [bind_some] at h
      obtain ⟨⟨e1, s1⟩, h1, h⟩ := h
      split at h
      · rename_i hn
        have he := normal_eq hn
        simp only at he; subst he
        obtain ⟨o1, g1⟩ := ih' (Q := Q) h
        refine ⟨fun ho => hi.code h1 (o1 ho), fun ho g n w a R q1 q2 q3 q4 => ?_⟩
        obtain ⟨ρ, r, t⟩ := q3
        refine wpIn_seq ?_
        rw [← fenceOf_ext q1 t.ext]
        refine hi.okCode h1 (o1 ho) n ρ w a _ (fun l hl => Nat.lt_of_lt_of_le (q1 l hl) t.next) r fun ρ1 w1 a1 r1 t1 => ?_
        show y.wpIn (fenceOf rd ρ) n P R a1 w1
        rw [fenceOf_ext q1 t.ext]
        exact g1 ho g n w1 a1 R q1 q2 ⟨ρ1, r1, t.trans t1⟩ q4
      · cases h
    · rename_i x y
      obtain ⟨o1, g1⟩ := ih' (Q := fun e s => (e = .normal ∧ StepW P rd s0 ρ0 w0 y s Q) ∨ (e ≠ .normal ∧ Q e s)) h
      exact ⟨o1, fun ho g => StepW.seq (g1 ho g)⟩
    · rename_i id x
      obtain ⟨o1, g1⟩ := ih' (Q := fun e s => Q (blockOut id e) s) h
      exact ⟨o1, fun ho g => StepW.block (g1 ho g)⟩
    · rename_i cc x y
      split at h
      · rename_i t hv
        simp only [bind_some] at h
        obtain ⟨⟨b, s1⟩, h1, h⟩ := h
        obtain ⟨k1, k2, k3, k4⟩ := St.branch_spec h1
        split at h
        · rename_i hb
          simp only at hb; subst hb
          obtain ⟨o1, g1⟩ := ih' (Q := Q) h
          refine ⟨fun ho => (k4 (o1 ho)).1, fun ho g => ?_⟩
          have ht := (k4 (o1 ho)).2
          subst ht
          refine StepW.cond hv ?_
          rw [if_pos rfl]
          intro n w a R q1 q2 q3 q4
          obtain ⟨ρ, r, t⟩ := q3
          exact g1 ho g n w a R q1 q2 ⟨ρ, r.like k1 k2 k3, t.trans (k1.tra _ _)⟩ q4
        · cases h
      · cases h
    · cases h
theorem StepW.downs {P : Program} (G : PG P) {K : Given} (hK : GivenOk P K) {B : Nat → Bool} {n : Nat} {f : FuncId} {rd : Option Nat} {s0 s s2 : St} {ρ0 : Nat → PB} {w0 : World} {l : List Nat} {c c' : Code} {p : Prop} {o : List (Option Bool)} {σ : List Nat} {g : Nat → Option Ob} {n1 : Nat} {Q : Exit → St → Prop}
    (hr : (down (mk P K n) f rd l c { s with obl := True, orc := o }).map (fun r => (r.2, r.1.obl, seenInT B r.1 s2 σ)) = some (c', p, seenAsT B s2 σ n1)) (hp : p) (hd : deadT B 0 s2.tmps) (hR : RowsIn g)
    (hh : s2.heap = Tr.rebuild g s2.next) (hk : picOkT B s0 s2 σ = true) (h : StepW P rd s0 ρ0 w0 c' s2 (upW P rd s0 ρ0 w0 l c Q)) : StepW P rd s0 ρ0 w0 c s Q := by
  cases hc : down (mk P K n) f rd l c { s with obl := True, orc := o } with
  | none => rw [hc] at hr; simp at hr
  | some r =>
    obtain ⟨s1, c1⟩ := r
    rw [hc] at hr
    simp only [Option.map_some, Option.some.injEq, Prod.mk.injEq] at hr
    obtain ⟨rfl, h2, h3⟩ := hr
    have v := ViewM.stdT hd hR hh hk h3
    have l1 : Like s { s with obl := True, orc := o } := ⟨rfl, rfl, rfl, rfl, rfl⟩
    intro m w a R g1 g2 ⟨ρ, r, t⟩ g4
    refine (down_stepW (mk_ok G hK n) l (Q := Q) hc).2 (by rw [h2]; exact hp) ?_ m w a R g1 g2 ⟨ρ, r.like l1 rfl rfl, t.trans (l1.tra _ _)⟩ g4
    intro m w a R g1 g2 g3 g4
    exact h m w a R g1 g2 (PicG.viewM g2 v g3) g4
def famPutS (F : Nat → Nat → Cells) (p : Nat → Bool) (P : Nat) (c : Cells) (g B : Nat) : Cells := match p g && Nat.beq B P with
  | true => c
  | false => F g B
structure TookS (s s2 : St) (F : Nat → Nat → Cells) (p : Nat → Bool) (sg b m i : Nat) (c cm : Cells) (t : TypeId) (n P c' : Nat) : Prop where
  next : s2.next = s.next
  roB : s2.roB = s.roB
  ro : s2.ro = s.ro
  hid : s2.hid = s.hid
  defers : s2.defers = s.defers
  tmps : s2.tmps = s.tmps
  zero : s2.heap.get 0 = some (.fam (famPutS F p P c))
  gone : s2.heap.get b = none
  cell : ∃ cm2, s2.heap.get m = some (.cells cm2 t) ∧ ∀ (k : Nat) (v : Value), cm2.get k = some v → (k = i ∧ v = .slice (some ⟨P, 0, some sg⟩) n c') ∨ (k ≠ i ∧ cm.get k = some v)
  rest : ∀ x, x ≠ 0 → x ≠ b → x ≠ m → s2.heap.get x = s.heap.get x
theorem PicG.takeS {s0 s : St} {ρ0 : Nat → PB} {w0 w : World} {a : Act} {F : Nat → Nat → Cells} {p : Nat → Bool} {sg b m i : Nat} {c cb cm : Cells} {t t' : TypeId} {g : Option Nat} {n cap : Nat} (mk : Nat → Nat → St)
    (h : PicG s0 ρ0 w0 s w a) (h0 : s.heap.get 0 = some (.fam F)) (hb : s.heap.get b = some (.cells cb t')) (hcb : ∀ (k : Nat) (v : Value), c.get k = some v → cb.get k = some v ∧ famV v = true) (hm : s.heap.get m = some (.cells cm t)) (hi : cm.get i = some (.slice (some ⟨b, 0, g⟩) n cap))
    (hbm : b ≠ m) (hm0 : m ≠ 0) (hb0 : b ≠ 0) (hr : s.may b = true) (hrm : s.may m = true) (hs : isAbs g = false) (hsg : Nat.ble 1000 sg = true) (hbase : ∀ x o, s0.heap.get x = some o → s0.may x = false) (hv : ∀ P c', TookS s (mk P c') F p sg b m i c cm t n P c') :
    ∃ P c', n ≤ c' ∧ w0.heap.size ≤ blkOf P ∧ Keeps F (famPutS F p P c) ∧ PicG s0 ρ0 w0 (mk P c') w a := by
  obtain ⟨ρ, r, tr⟩ := h
  obtain ⟨d0, f1, f3⟩ := r.hs.ob 0 _ h0
  obtain ⟨db, pb, tb, fb, b1, b2, b3, b4⟩ := r.hs.ob b _ hb
  obtain ⟨dm, pm, tm, fm, m1, m2, m3, m4⟩ := r.hs.ob m _ hm
  have hRb : s.roB ≤ b := by
    unfold St.may at hr; simp only [Bool.and_eq_true, decide_eq_true_eq] at hr; exact hr.1
  have hfresh : w0.heap.size ≤ (ρ b).blk := by
    rcases tr.own b _ hb hr with h | ⟨x, o, h1, h2, _⟩
    · exact h
    · rw [hbase x o h1] at h2; cases h2
  obtain ⟨v, hv1, hv2⟩ := m4 i _ hi
  have key : ∃ c', n ≤ c' ∧ AbsOk (plc (ρ b).blk (ρ b).off) 0 n c' v := by
    cases hv2 with
    | same hf => simp [flat0] at hf
    | slice h1 h2 h3 =>
      rename_i c' a'
      obtain ⟨k1, k2, k3⟩ := h3
      have hcc : cap ≤ c' := by
        cases g with
        | none => exact Nat.le_of_eq (k2 rfl).symm
        | some z => exact (k3 z rfl).1
      rcases Nat.eq_zero_or_pos c' with hz | hz
      · subst hz
        exact ⟨0, by omega, by omega, .inr ⟨rfl, some a', 0, by rw [show n = 0 by omega]⟩⟩
      · refine ⟨c', by omega, by omega, .inl ?_⟩
        rcases k1 with k1 | k1
        · omega
        · rw [k1, blkOf_plc, baseOf_plc]
    | abs _ hg _ => rw [hg] at hs; cases hs
  obtain ⟨c', hc', habs⟩ := key
  have T := hv (plc (ρ b).blk (ρ b).off) c'
  have hdm : Dm (mk (plc (ρ b).blk (ρ b).off) c') = Dm s := by unfold Dm; rw [T.next, T.hid]
  have keeps : Keeps F (famPutS F p (plc (ρ b).blk (ρ b).off) c) := fun g' B j x hx => by
    unfold famPutS
    split
    · rename_i hq
      rw [Bool.and_eq_true] at hq
      have hB := Nat.eq_of_beq_eq_true hq.2
      subst hB
      exact absurd rfl (r.hs.far 0 b _ _ _ h0 ⟨F, _, _, _, _, rfl, hx, blkOf_plc _ _⟩ hb hRb)
    · rfl
  have old : ∀ x o, (mk (plc (ρ b).blk (ρ b).off) c').heap.get x = some o → x ≠ b ∧ ∃ o1, s.heap.get x = some o1 ∧ (x ≠ 0 → ∀ B, o.far B → o1.far B) ∧ (o1.soft = true → o.soft = true) := fun x o hx => by
    have hxb : x ≠ b := fun e => by rw [e, T.gone] at hx; cases hx
    refine ⟨hxb, ?_⟩
    by_cases e0 : x = 0
    · subst e0; exact ⟨_, h0, fun h => absurd rfl h, fun _ => by rw [T.zero] at hx; cases hx; rfl⟩
    · by_cases em : x = m
      · subst em
        obtain ⟨cm2, z1, z2⟩ := T.cell
        rw [z1] at hx; cases hx
        refine ⟨_, hm, fun _ B hB => ?_, fun k => by cases k⟩
        obtain ⟨_, _, _, _, _, hB, _⟩ := hB; cases hB
      · exact ⟨o, by rw [← T.rest x e0 hxb em]; exact hx, fun _ B hB => hB, id⟩
  refine ⟨plc (ρ b).blk (ρ b).off, c', hc', by rw [blkOf_plc]; exact hfresh, keeps, ρ, ⟨⟨⟨fun x o hx => ?_, fun x x' o o' hx hx' hk e => ?_, fun x x' o o' B hx hB hx' hk => ?_⟩, fun x hx => ?_, ?_⟩, ?_, ?_, ?_⟩, ?_⟩
  · rw [hdm, T.roB]
    by_cases e0 : x = 0
    · subst e0
      rw [T.zero] at hx; cases hx
      refine ⟨d0, f1, fun g' B j y hy => ?_⟩
      unfold famPutS at hy
      split at hy
      · rename_i hq
        rw [Bool.and_eq_true] at hq
        have hB := Nat.eq_of_beq_eq_true hq.2
        subst hB
        obtain ⟨k1, k2⟩ := hcb j y hy
        obtain ⟨z, z1, z2⟩ := b4 j y k1
        exact ⟨pb, tb, fb, z, by rw [blkOf_plc]; exact b1, by rw [baseOf_plc]; exact z1, z2, k2⟩
      · exact f3 g' B j y hy
    · by_cases em : x = m
      · subst em
        obtain ⟨cm2, z1, z2⟩ := T.cell
        rw [z1] at hx; cases hx
        refine ⟨dm, pm, tm, fm, m1, m2, m3, fun j y hy => ?_⟩
        rcases z2 j y hy with ⟨rfl, rfl⟩ | ⟨_, hy⟩
        · exact ⟨v, hv1, .abs d0 hsg habs⟩
        · exact m4 j y hy
      · obtain ⟨hxb, _⟩ := old x o hx
        rw [T.rest x e0 hxb em] at hx
        exact r.hs.ob x o hx
  · obtain ⟨_, o1, h1, _, q1⟩ := old x o hx
    obtain ⟨_, o2, h2, _, q2⟩ := old x' o' hx'
    rw [T.roB] at hk
    exact (r.hs.inj _ _ _ _ h1 h2 hk e).imp_right (Or.imp q1 q2)
  · obtain ⟨_, o1, h1, h3, _⟩ := old x o hx
    obtain ⟨hxb, o2, h2, _⟩ := old x' o' hx'
    rw [T.roB] at hk
    by_cases e0 : x = 0
    · subst e0
      rw [T.zero] at hx; cases hx
      obtain ⟨F', g', P, j, y, hF, hy, rfl⟩ := hB
      cases hF
      unfold famPutS at hy
      split at hy
      · rename_i hq
        rw [Bool.and_eq_true] at hq
        have hB := Nat.eq_of_beq_eq_true hq.2
        subst hB
        rw [blkOf_plc]
        exact fun e => hxb (r.hs.injM hb h2 hk e.symm rfl).symm
      · exact r.hs.far 0 x' _ _ _ h0 ⟨F, g', P, j, y, rfl, hy, rfl⟩ h2 hk
    · exact r.hs.far x x' _ _ _ h1 (h3 e0 B hB) h2 hk
  · rw [T.hid]; exact r.hs.hid x (by rw [← T.next]; exact hx)
  · rw [T.roB, T.next, T.ro]; exact r.hs.wf
  · rw [hdm, T.tmps]; exact r.tmps
  · rw [T.defers]; exact r.defers
  · rw [T.defers, T.next]; exact r.marks
  · refine ⟨by rw [T.next]; exact tr.next, tr.ext, tr.os, tr.tape, tr.output, tr.size, tr.frame, fun x o hx hmx => ?_, T.roB.trans tr.roB, T.ro.trans tr.ro, T.hid.trans tr.hid, fun x hz hx => ?_⟩
    · obtain ⟨_, o1, h1, _⟩ := old x o hx
      exact tr.own x o1 h1 (by rw [← may_of T.roB T.ro]; exact hmx)
    · have hms : s.may x = false := by rw [may_of tr.roB tr.ro]; exact hx
      rw [T.rest x hz (fun e => by rw [e, hr] at hms; cases hms) (fun e => by rw [e, hrm] at hms; cases hms)]
      exact tr.same x hz hx
theorem Fresh.put {w : World} {F F1 : Nat → Nat → Cells} {p : Nat → Bool} {P : Nat} {c : Cells} (h : Fresh w F F1) (hP : w.heap.size ≤ blkOf P) : Fresh w F (famPutS F1 p P c) := fun g B i v hv => by
  unfold famPutS at hv
  split at hv
  · rename_i hq
    rw [Bool.and_eq_true] at hq
    have hB := Nat.eq_of_beq_eq_true hq.2
    subst hB
    exact .inr hP
  · exact h g B i v hv
theorem Fresh.trans {w w1 : World} {F F1 F2 : Nat → Nat → Cells} (h : Fresh w F F1) (k : Fresh w1 F1 F2) (hw : w.heap.size ≤ w1.heap.size) : Fresh w F F2 := fun g B i v hv => (k g B i v hv).elim (h g B i v) fun q => .inr (Nat.le_trans hw q)
end
end Go.Cln
namespace Go.Cln
open Go.ChangeShapes Go.WideShapes Go.ChangeAt Go.RowKit
set_option linter.unusedVariables false
noncomputable section
def ResM (P : Program) (l : List ResultVar) (v : Value) (F : Nat → Nat → Cells) (s : St) : Prop := s.heap.get 0 = some (.fam F) ∧ ∃ q, results1 P s l = some q ∧ q.2.obl ∧ oneOf q.1 = v
theorem StepG.ranM {P : Program} (G : PG P) {K : Given} (hK : GivenOk P K) {n : Nat} {f : FuncId} {rd : Option Nat} {s0 s : St} {c : Code} {e : Exit} {p : Prop} {o : List (Option Bool)} {d : List Nat} {l : List ResultVar} {v : Value} {F : Nat → Nat → Cells}
    (hr : ((mk P K n).code f rd c { s with obl := True, orc := o }).bind (fun r => (results1 P r.2 l).map fun q => (r.1, q.2.obl, r.2.defers, oneOf q.1, r.2.heap.get 0)) = some (e, p, d, v, some (.fam F))) (hp : p) (hn : s0.next ≤ s.next) : StepG P rd s0 c s (fun e' s' => e' = e ∧ s'.defers = d ∧ ResM P l v F s') := by
  cases hc : (mk P K n).code f rd c { s with obl := True, orc := o } with
  | none => rw [hc] at hr; simp at hr
  | some r =>
    obtain ⟨e1, s1⟩ := r
    rw [hc] at hr
    simp only [Option.bind_some] at hr
    cases hq : results1 P s1 l with
    | none => rw [hq] at hr; simp at hr
    | some q =>
      rw [hq] at hr
      simp only [Option.map_some, Option.some.injEq, Prod.mk.injEq] at hr
      obtain ⟨rfl, h2, h3, h4, h5⟩ := hr
      have ho : q.2.obl := by rw [h2]; exact hp
      have l1 : Like s { s with obl := True, orc := o } := ⟨rfl, rfl, rfl, rfl, rfl⟩
      have h := (mk_ok G hK n).okCode hc
      intro m ρ0 w0 w a R g1 g2 ⟨ρ, r, t⟩ g4
      have := h (results_obl hq ho) m ρ w a R (fun l hl => Nat.lt_of_lt_of_le (g1 l hl) hn) (r.like l1 rfl rfl) fun ρ' w' a' r' t' => g4 _ s1 w' a' ⟨rfl, h3, h5, ⟨q, hq, ho, h4⟩⟩ ⟨ρ', r', t.trans (l1.thenTra t')⟩
      rwa [fenceOf_ext g1 t.ext] at this
def updF {α : Type} (f : Nat → α) (i : Nat) (v : α) (j : Nat) : α := match Nat.beq j i with
  | true => v
  | false => f j
theorem updF_at {α : Type} (f : Nat → α) (i : Nat) (v : α) : updF f i v i = v := by unfold updF; rw [Nat.beq_refl]
theorem updF_ne {α : Type} (f : Nat → α) {i j : Nat} (v : α) (h : j ≠ i) : updF f i v j = f j := by
  unfold updF
  split
  · rename_i e; exact absurd (Nat.eq_of_beq_eq_true e) h
  · rfl
theorem Keeps.ints {F F' : Nat → Nat → Cells} (h : Keeps F F') {g B : Nat} {k : IntKind} {L : List Int} (e : F g B = .ints k L) (hL : 0 < L.length) : F' g B = .ints k L := by
  have h0 : L[0]? = some L[0] := List.getElem?_eq_getElem hL
  rw [← e]
  exact h g B 0 (.int k L[0]) (by rw [e]; simp only [Cells.get, h0]; rfl)
theorem rows_get {n w : Nat} {g : Nat → List Value} {i j : Nat} (hi : i < n) (hj : j < w) : (Cells.rows n w g).get (i * w + j) = (g i)[j]? := by
  have e1 : (i * w + j) / w = i := by rw [Nat.mul_comm, Nat.mul_add_div (by omega), Nat.div_eq_of_lt hj, Nat.add_zero]
  have e2 : (i * w + j) % w = j := by rw [Nat.mul_comm, Nat.mul_add_mod, Nat.mod_eq_of_lt hj]
  simp only [Cells.get, e1, e2, if_pos hi]
theorem rows_inv {n w : Nat} {g : Nat → List Value} {k : Nat} {v : Value} (hw : 0 < w) (h : (Cells.rows n w g).get k = some v) : k / w < n ∧ (g (k / w))[k % w]? = some v ∧ k = k / w * w + k % w := by
  simp only [Cells.get] at h
  split at h
  · exact ⟨‹_›, h, by have := Nat.div_add_mod k w; rw [Nat.mul_comm] at this; exact this.symm⟩
  · cases h
theorem maskOb_i {s2 : St} {σ : Nat → Nat} {o1 : Option Ob} {o : Ob} (h : maskOb o1 (some o) = some (renOb σ o)) (hk : okOb3 s2 (some o) = true)
    (hR : ∀ (n w : Nat) (g : Nat → List Value) (t : TypeId), o = .cells (.rows n w g) t → ∀ (i : Nat) (v : Value), v ∈ g i → Go.Cln.ren σ v = v ∧ okV s2 v = true) : ∃ x, o1 = some x ∧ ObV s2 σ x o := by
  by_cases hr : ∃ n w g t, o = .cells (.rows n w g) t
  · obtain ⟨n, w, g, t, rfl⟩ := hr
    have h0 : okB s2 0 = true := hk
    cases o1 with
    | none => simp [maskOb] at h
    | some x =>
      refine ⟨x, rfl, ?_⟩
      have hx : ∃ t1, x = .cells (.rows n w g) t1 := by
        cases x with
        | cells c1 t1 =>
          refine ⟨t1, ?_⟩
          have h : some (Ob.cells c1 t) = some (Ob.cells (.rows n w g) t) := by cases c1 <;> exact h
          cases h; rfl
        | _ => simp [maskOb, renOb] at h
      obtain ⟨t1, rfl⟩ := hx
      refine .cells fun i v hv => ⟨v, hv, .inl ?_, ?_⟩
      · simp only [Cells.get] at hv
        split at hv
        · exact ((hR n w g t rfl _ v (List.mem_of_getElem? hv)).1).symm
        · cases hv
      · simp only [Cells.get] at hv
        split at hv
        · exact (hR n w g t rfl _ v (List.mem_of_getElem? hv)).2
        · cases hv
  · refine maskOb_v h ?_
    cases o with
    | cells c t =>
      cases c with
      | rows n w g => exact absurd ⟨n, w, g, t, rfl⟩ hr
      | _ => exact hk
    | _ => exact hk
theorem ViewM.stdI {B : Nat → Bool} {s0 s1 s2 : St} {σ : List Nat} {f : Nat → Option Ob} {n1 : Nat} (hd : deadT B 0 s2.tmps) (hR : ∀ (b n w : Nat) (g : Nat → List Value) (t : TypeId), f b = some (.cells (.rows n w g) t) → ∀ (i : Nat) (v : Value), v ∈ g i → ren (nm σ) v = v ∧ okV s2 v = true) (hh : s2.heap = Tr.rebuild f s2.next) (hk : picOkT B s0 s2 σ = true) (hs : seenInT B s1 s2 σ = seenAsT B s2 σ n1) : ViewM s0 s1 s2 (nm σ) := by
  simp only [picOkT, Bool.and_eq_true, decide_eq_true_eq, List.all_eq_true, List.mem_range] at hk
  obtain ⟨⟨⟨⟨⟨⟨⟨⟨⟨k1, k2⟩, k3⟩, k4⟩, k5⟩, k6⟩, k7⟩, k8⟩, k9⟩, hn⟩ := hk
  simp only [seenInT, seenAsT, Seen.mk.injEq] at hs
  obtain ⟨s_1, s_2, s_3, s_4, s_5, s_6, s_7, s_8⟩ := hs
  have obs : ∀ b, b < s2.next → maskOb (s1.heap.get (nm σ b)) (s2.heap.get b) = (s2.heap.get b).map (renOb (nm σ)) := fun b hb => by
    have := congrArg (fun l => l[b]?) s_7
    simpa [List.getElem?_map, List.getElem?_range hb] using this
  have k9 : s0.ro = [] := by simpa using k9
  refine ⟨k1, fun b hb => ?_, fun b hb => ?_, s_2.symm, s_3.symm, s_4.symm, maskT_ok hd s_6, okT_all hd k2, s_5, fun d hd => k3 d hd, fun b o hb => ?_, fun b b' o o' hb hb' e => ?_, fun b hb hm => ?_⟩
  · have := k5 b (by omega)
    rw [if_pos hb] at this; simpa using this
  · rcases Nat.lt_or_ge b s2.next with h | h
    · have := k5 b h
      rw [if_neg (by omega)] at this
      simpa using this
    · rw [nm_hi (by omega)]; exact .inl hb
  · have hlt := heap_lt hh hn hb
    obtain ⟨q1, q2⟩ := k4 b hlt
    have := obs b hlt
    rw [hb] at this q1
    have hfb : f b = some o := by rw [hh] at hb; exact (heap_at hn hb).2
    obtain ⟨x, hx, hv⟩ := maskOb_i (σ := nm σ) this q1 (fun n w g t e => hR b n w g t (by rw [hfb, e]))
    exact ⟨q2, x, hx, hv⟩
  · have h1 := heap_lt hh hn hb
    have h2 := heap_lt hh hn hb'
    have e1 : ∀ b c, b < s2.next → c < b → (s2.heap.get b).isSome = true → (s2.heap.get c).isSome = true → nm σ b ≠ nm σ c := fun b c hb hc x y => by
      have := k7 b hb c hc
      rw [x, y] at this
      simpa using this
    rcases Nat.lt_trichotomy b b' with h | h | h
    · exact absurd e.symm (e1 b' b h2 h (by rw [hb']; rfl) (by rw [hb]; rfl))
    · exact h
    · exact absurd e (e1 b b' h1 h (by rw [hb]; rfl) (by rw [hb']; rfl))
  · have hlt : b < s2.roB := by
      rcases Nat.lt_or_ge b s2.roB with h | h
      · exact h
      · unfold St.may at hm
        rw [k8, k9] at hm
        simp at hm; omega
    have := congrArg (fun l => l[b]?) s_8
    have := by simpa [List.getElem?_map, List.getElem?_range hlt] using this
    exact this.symm
theorem StepG.stdI {P : Program} (G : PG P) {K : Given} (hK : GivenOk P K) {B : Nat → Bool} {n : Nat} {f : FuncId} {rd : Option Nat} {s0 s s2 : St} {c : Code} {e : Exit} {p : Prop} {o : List (Option Bool)} {σ : List Nat} {g : Nat → Option Ob} {n1 : Nat}
    (hr : ((mk P K n).code f rd c { s with obl := True, orc := o }).map (fun r => (r.1, r.2.obl, seenInT B r.2 s2 σ)) = some (e, p, seenAsT B s2 σ n1)) (hp : p) (hn : s0.next ≤ s.next) (hd : deadT B 0 s2.tmps) (hR : ∀ (b n w : Nat) (g' : Nat → List Value) (t : TypeId), g b = some (.cells (.rows n w g') t) → ∀ (i : Nat) (v : Value), v ∈ g' i → ren (nm σ) v = v ∧ okV s2 v = true)
    (hh : s2.heap = Tr.rebuild g s2.next) (hk : picOkT B s0 s2 σ = true) : StepG P rd s0 c s (fun e' s' => e' = e ∧ s' = s2) := by
  cases hc : (mk P K n).code f rd c { s with obl := True, orc := o } with
  | none => rw [hc] at hr; simp at hr
  | some r =>
    obtain ⟨e1, s1⟩ := r
    rw [hc] at hr
    simp only [Option.map_some, Option.some.injEq, Prod.mk.injEq] at hr
    obtain ⟨rfl, h2, h3⟩ := hr
    have v := ViewM.stdI hd hR hh hk h3
    have l1 : Like s { s with obl := True, orc := o } := ⟨rfl, rfl, rfl, rfl, rfl⟩
    have h := (mk_ok G hK n).okCode hc
    intro m ρ0 w0 w a R g1 g2 ⟨ρ, r, t⟩ g4
    have := h (by rw [h2]; exact hp) m ρ w a R (fun l hl => Nat.lt_of_lt_of_le (g1 l hl) hn) (r.like l1 rfl rfl) fun ρ' w' a' r' t' => g4 _ s2 w' a' ⟨rfl, rfl⟩ (PicG.viewM g2 v ⟨ρ', r', t.trans (l1.thenTra t')⟩)
    rwa [fenceOf_ext g1 t.ext] at this
theorem PicG.stdT {B : Nat → Bool} {s0 s1 s2 : St} {ρ0 : Nat → PB} {w0 w : World} {a : Act} {σ : List Nat} {g : Nat → Option Ob} {n1 : Nat} (hs0 : Hs s0 ρ0 w0) (h : PicG s0 ρ0 w0 s1 w a) (hs : seenInT B s1 s2 σ = seenAsT B s2 σ n1) (hd : deadT B 0 s2.tmps) (hR : RowsIn g) (hh : s2.heap = Tr.rebuild g s2.next) (hk : picOkT B s0 s2 σ = true) : PicG s0 ρ0 w0 s2 w a := PicG.viewM hs0 (ViewM.stdT hd hR hh hk hs) h
end
end Go.Cln
namespace Go.Cln
open Go.ChangeShapes Go.WideShapes Go.ChangeAt Go.RowKit
set_option linter.unusedVariables false
noncomputable section
abbrev H2 (F : Nat → Nat → Cells) (l : List Value) (t : TypeId) : List (Option Ob) := [some (.fam F), some (.cells (.lit l) t)]
theorem two_get {F : Nat → Nat → Cells} {l : List Value} {t : TypeId} {orc : List (Option Bool)} {b : Nat} {o : Ob} (hb : (smSt 2 (H2 F l t) orc).heap.get b = some o) : (b = 0 ∧ o = .fam F) ∨ (b = 1 ∧ o = .cells (.lit l) t) := by
  have hb : (Tr.ofL (H2 F l t)).get b = some o := hb
  rw [ofL_get (by simp)] at hb
  rcases b with _ | _ | b
  · simp only [hget, List.getElem?_cons_zero] at hb
    cases hb; exact .inl ⟨rfl, rfl⟩
  · simp only [hget, Nat.zero_add, List.getElem?_cons_succ, List.getElem?_cons_zero] at hb
    cases hb; exact .inr ⟨rfl, rfl⟩
  · simp [hget] at hb
theorem two_lt {F : Nat → Nat → Cells} {l : List Value} {t : TypeId} {orc : List (Option Bool)} {b : Nat} {o : Ob} (hb : (smSt 2 (H2 F l t) orc).heap.get b = some o) : b < 2 := by
  rcases two_get hb with ⟨rfl, _⟩ | ⟨rfl, _⟩ <;> omega
def RdB (P : Program) (F : Nat → Nat → Cells) (l : List Value) (t : TypeId) (f : FuncId) (args : List Value) (v : Value) : Prop :=
  ∀ (ρ : Nat → PB) (w : World) (args' : List Value), Hs (smSt 2 (H2 F l t) []) ρ w → VL (Dm (smSt 2 (H2 F l t) [])) ρ args args' → Calls P f args'.toArray w fun e w' => e = .returned v ∧ Go.RowKit.Below w.heap.size w w'
theorem RdB.ofG {P : Program} {f : FuncId} {fn : Func} {c : Code} {F : Nat → Nat → Cells} {lB : List Value} {t0 : TypeId} {args : List Value} {l : List ResultVar} {v : Value} (hf : P.funcs[f]? = some fn) (hc : fn.body = some c) (hres : fn.results.toList = l) (hv : flat0 v = true)
    (h : StepG P none { smSt 2 (H2 F lB t0) [] with tmps := args ++ List.replicate (fn.ntmps - args.length) undef, defers := [] } c { smSt 2 (H2 F lB t0) [] with tmps := args ++ List.replicate (fn.ntmps - args.length) undef, defers := [] }
      fun e s' => leaves? e = true ∧ s'.defers = [] ∧ ResV P l v s') : RdB P F lB t0 f args v := by
  intro ρ W args' hs ha
  refine callsIn_wide.1 (show CallsIn Fence.wide 0 P f _ W _ from callsIn_of_wp_marks hf hc trivial ?_)
  have l0 : Like (smSt 2 (H2 F lB t0) []) { smSt 2 (H2 F lB t0) [] with tmps := args ++ List.replicate (fn.ntmps - args.length) undef, defers := [] } := ⟨rfl, rfl, rfl, rfl, rfl⟩
  have hrel : Rel { smSt 2 (H2 F lB t0) [] with tmps := args ++ List.replicate (fn.ntmps - args.length) undef, defers := [] } ρ W { tmps := args'.toArray ++ Array.replicate (fn.ntmps - args'.toArray.size) undef, defers := [] } := by
    refine ⟨l0.holds hs, ?_, rfl, fun d hd => by simp at hd⟩
    have := ha.append (VL.replicate (N := Dm (smSt 2 (H2 F lB t0) [])) (ρ := ρ) VR.undef (fn.ntmps - args.length))
    rw [l0.dm]
    simpa [ha.1] using this
  refine h 0 ρ W W _ _ (fun l e => by cases e) (l0.holds hs) ⟨ρ, hrel, (Tra.refl _ _ _).to0⟩ ?_
  rintro e s' w' a' ⟨hl, hd, ⟨⟨vs, s3⟩, hq, ho, hv1⟩⟩ ⟨ρ', r', t'⟩
  simp only at ho hv1
  obtain ⟨k, vs', hr, hv2⟩ := results1_sound (tmps := a'.tmps) hq ho r'.hs r'.tmps
  have hv2 := oneOf_sound hv2
  rw [hv1] at hv2
  have hb := hv2.eq_flat0 hv
  have had : a'.defers = [] := by rw [r'.defers, hd]; rfl
  have hb2 : Go.RowKit.Below W.heap.size W w' := ⟨t'.os, t'.tape, t'.output, t'.size, fun k hk => t'.frame k hk fun b o hb hm => by
    have hlt := two_lt (orc := []) hb
    unfold St.may at hm
    rw [Bool.and_eq_true] at hm
    exact absurd (of_decide_eq_true hm.1) (show ¬ 2 ≤ b by omega)⟩
  have fin : LeavesInM Fence.wide 0 P fn a'.tmps (fun e w' => e = .returned v ∧ Go.RowKit.Below W.heap.size W w') a'.defers .returning w' := by
    rw [had]
    simp only [LeavesInM]
    exact ⟨_, results_run (by rw [hres]; exact hr), by rw [hb], hb2⟩
  cases e <;> first
    | exact fin
    | (simp [leaves?] at hl; done)
end
end Go.Cln
namespace Go.Cln
open Go.ChangeShapes Go.WideShapes Go.ChangeAt Go.RowKit
set_option linter.unusedVariables false
noncomputable section
end
end Go.Cln
namespace Go.Cln
open Go.ChangeShapes Go.WideShapes Go.ChangeAt Go.RowKit
set_option linter.unusedVariables false
theorem StepG.scope {P : Program} {rd : Option Nat} {s0 s : St} {x : Code} {Q : Exit → St → Prop} (h : StepG P rd s0 x s fun e s' => (∀ l, e ≠ .goto l) ∧ Q e s') : StepG P rd s0 (.scope x) s Q :=
  fun n ρ0 w0 w a R h1 h2 h3 h4 => wpIn_scope 0 (h n ρ0 w0 w a _ h1 h2 h3 fun e s' w' a' hq hp => ⟨fun l e1 => absurd e1 (hq.1 l), h4 e s' w' a' hq.2 hp⟩)
theorem StepW.scope {P : Program} {rd : Option Nat} {s0 s : St} {ρ0 : Nat → PB} {w0 : World} {x : Code} {Q : Exit → St → Prop} (h : StepW P rd s0 ρ0 w0 x s fun e s' => (∀ l, e ≠ .goto l) ∧ Q e s') : StepW P rd s0 ρ0 w0 (.scope x) s Q :=
  fun n w a R h1 h2 h3 h4 => wpIn_scope 0 (h n w a _ h1 h2 h3 fun e s' w' a' hq hp => ⟨fun l e1 => absurd e1 (hq.1 l), h4 e s' w' a' hq.2 hp⟩)
end Go.Cln
namespace Go.Cln
open Go.ChangeShapes Go.WideShapes Go.ChangeAt Go.RowKit
set_option linter.unusedVariables false
noncomputable section
structure TookT (s s2 : St) (F : Nat → Nat → Cells) (p : Nat → Bool) (sg b i : Nat) (c : Cells) (n P c' : Nat) : Prop where
  next : s2.next = s.next
  roB : s2.roB = s.roB
  ro : s2.ro = s.ro
  hid : s2.hid = s.hid
  defers : s2.defers = s.defers
  tmps : s2.tmps = s.tmps.set i (.slice (some ⟨P, 0, some sg⟩) n c')
  zero : s2.heap.get 0 = some (.fam (famPutS F p P c))
  gone : s2.heap.get b = none
  rest : ∀ x, x ≠ 0 → x ≠ b → s2.heap.get x = s.heap.get x
theorem PicG.takeT {s0 s : St} {ρ0 : Nat → PB} {w0 w : World} {a : Act} {F : Nat → Nat → Cells} {p : Nat → Bool} {sg b i : Nat} {c cb : Cells} {t' : TypeId} {g : Option Nat} {n cap : Nat} (mk : Nat → Nat → St)
    (h : PicG s0 ρ0 w0 s w a) (h0 : s.heap.get 0 = some (.fam F)) (hb : s.heap.get b = some (.cells cb t')) (hcb : ∀ (k : Nat) (v : Value), c.get k = some v → cb.get k = some v ∧ famV v = true) (hi : s.tmps[i]? = some (.slice (some ⟨b, 0, g⟩) n cap))
    (hb0 : b ≠ 0) (hr : s.may b = true) (hs : isAbs g = false) (hsg : Nat.ble 1000 sg = true) (hbase : ∀ x o, s0.heap.get x = some o → s0.may x = false) (hv : ∀ P c', TookT s (mk P c') F p sg b i c n P c') :
    ∃ P c', n ≤ c' ∧ w0.heap.size ≤ blkOf P ∧ Keeps F (famPutS F p P c) ∧ PicG s0 ρ0 w0 (mk P c') w a := by
  obtain ⟨ρ, r, tr⟩ := h
  obtain ⟨d0, f1, f3⟩ := r.hs.ob 0 _ h0
  obtain ⟨db, pb, tb, fb, b1, b2, b3, b4⟩ := r.hs.ob b _ hb
  have hRb : s.roB ≤ b := by
    unfold St.may at hr; simp only [Bool.and_eq_true, decide_eq_true_eq] at hr; exact hr.1
  have hfresh : w0.heap.size ≤ (ρ b).blk := by
    rcases tr.own b _ hb hr with h | ⟨x, o, h1, h2, _⟩
    · exact h
    · rw [hbase x o h1] at h2; cases h2
  obtain ⟨v, hv1, hv2⟩ := r.tmps.get hi
  have key : ∃ c', n ≤ c' ∧ AbsOk (plc (ρ b).blk (ρ b).off) 0 n c' v := by
    cases hv2 with
    | same hf => simp [flat0] at hf
    | slice h1 h2 h3 =>
      rename_i c' a'
      obtain ⟨k1, k2, k3⟩ := h3
      have hcc : cap ≤ c' := by
        cases g with
        | none => exact Nat.le_of_eq (k2 rfl).symm
        | some z => exact (k3 z rfl).1
      rcases Nat.eq_zero_or_pos c' with hz | hz
      · subst hz
        exact ⟨0, by omega, by omega, .inr ⟨rfl, some a', 0, by rw [show n = 0 by omega]⟩⟩
      · refine ⟨c', by omega, by omega, .inl ?_⟩
        rcases k1 with k1 | k1
        · omega
        · rw [k1, blkOf_plc, baseOf_plc]
    | abs _ hg _ => rw [hg] at hs; cases hs
  obtain ⟨c', hc', habs⟩ := key
  have T := hv (plc (ρ b).blk (ρ b).off) c'
  have hdm : Dm (mk (plc (ρ b).blk (ρ b).off) c') = Dm s := by unfold Dm; rw [T.next, T.hid]
  have keeps : Keeps F (famPutS F p (plc (ρ b).blk (ρ b).off) c) := fun g' B j x hx => by
    unfold famPutS
    split
    · rename_i hq
      rw [Bool.and_eq_true] at hq
      have hB := Nat.eq_of_beq_eq_true hq.2
      subst hB
      exact absurd rfl (r.hs.far 0 b _ _ _ h0 ⟨F, _, _, _, _, rfl, hx, blkOf_plc _ _⟩ hb hRb)
    · rfl
  have old : ∀ x o, (mk (plc (ρ b).blk (ρ b).off) c').heap.get x = some o → x ≠ b ∧ ∃ o1, s.heap.get x = some o1 ∧ (x ≠ 0 → ∀ B, o.far B → o1.far B) ∧ (o1.soft = true → o.soft = true) := fun x o hx => by
    have hxb : x ≠ b := fun e => by rw [e, T.gone] at hx; cases hx
    refine ⟨hxb, ?_⟩
    by_cases e0 : x = 0
    · subst e0; exact ⟨_, h0, fun h => absurd rfl h, fun _ => by rw [T.zero] at hx; cases hx; rfl⟩
    · exact ⟨o, by rw [← T.rest x e0 hxb]; exact hx, fun _ B hB => hB, id⟩
  refine ⟨plc (ρ b).blk (ρ b).off, c', hc', by rw [blkOf_plc]; exact hfresh, keeps, ρ, ⟨⟨⟨fun x o hx => ?_, fun x x' o o' hx hx' hk e => ?_, fun x x' o o' B hx hB hx' hk => ?_⟩, fun x hx => ?_, ?_⟩, ?_, ?_, ?_⟩, ?_⟩
  · rw [hdm, T.roB]
    by_cases e0 : x = 0
    · subst e0
      rw [T.zero] at hx; cases hx
      refine ⟨d0, f1, fun g' B j y hy => ?_⟩
      unfold famPutS at hy
      split at hy
      · rename_i hq
        rw [Bool.and_eq_true] at hq
        have hB := Nat.eq_of_beq_eq_true hq.2
        subst hB
        obtain ⟨k1, k2⟩ := hcb j y hy
        obtain ⟨z, z1, z2⟩ := b4 j y k1
        exact ⟨pb, tb, fb, z, by rw [blkOf_plc]; exact b1, by rw [baseOf_plc]; exact z1, z2, k2⟩
      · exact f3 g' B j y hy
    · obtain ⟨hxb, _⟩ := old x o hx
      rw [T.rest x e0 hxb] at hx
      exact r.hs.ob x o hx
  · obtain ⟨_, o1, h1, _, q1⟩ := old x o hx
    obtain ⟨_, o2, h2, _, q2⟩ := old x' o' hx'
    rw [T.roB] at hk
    exact (r.hs.inj _ _ _ _ h1 h2 hk e).imp_right (Or.imp q1 q2)
  · obtain ⟨_, o1, h1, h3, _⟩ := old x o hx
    obtain ⟨hxb, o2, h2, _⟩ := old x' o' hx'
    rw [T.roB] at hk
    by_cases e0 : x = 0
    · subst e0
      rw [T.zero] at hx; cases hx
      obtain ⟨F', g', P, j, y, hF, hy, rfl⟩ := hB
      cases hF
      unfold famPutS at hy
      split at hy
      · rename_i hq
        rw [Bool.and_eq_true] at hq
        have hB := Nat.eq_of_beq_eq_true hq.2
        subst hB
        rw [blkOf_plc]
        exact fun e => hxb (r.hs.injM hb h2 hk e.symm rfl).symm
      · exact r.hs.far 0 x' _ _ _ h0 ⟨F, g', P, j, y, rfl, hy, rfl⟩ h2 hk
    · exact r.hs.far x x' _ _ _ h1 (h3 e0 B hB) h2 hk
  · rw [T.hid]; exact r.hs.hid x (by rw [← T.next]; exact hx)
  · rw [T.roB, T.next, T.ro]; exact r.hs.wf
  · rw [hdm, T.tmps]
    refine ⟨by rw [List.length_set]; exact r.tmps.1, fun j u u' hu hu' => ?_⟩
    rw [List.getElem?_set] at hu
    split at hu
    · rename_i e
      subst e
      split at hu
      · cases hu
        rw [hv1] at hu'; cases hu'
        exact .abs d0 hsg habs
      · cases hu
    · exact r.tmps.2 j u u' hu hu'
  · rw [T.defers]; exact r.defers
  · rw [T.defers, T.next]; exact r.marks
  · refine ⟨by rw [T.next]; exact tr.next, tr.ext, tr.os, tr.tape, tr.output, tr.size, tr.frame, fun x o hx hmx => ?_, T.roB.trans tr.roB, T.ro.trans tr.ro, T.hid.trans tr.hid, fun x hz hx => ?_⟩
    · obtain ⟨_, o1, h1, _⟩ := old x o hx
      exact tr.own x o1 h1 (by rw [← may_of T.roB T.ro]; exact hmx)
    · have hms : s.may x = false := by rw [may_of tr.roB tr.ro]; exact hx
      rw [T.rest x hz (fun e => by rw [e, hr] at hms; cases hms)]
      exact tr.same x hz hx
end
end Go.Cln
namespace Go.Cln
open Go.ChangeShapes Go.WideShapes Go.ChangeAt Go.RowKit
set_option linter.unusedVariables false
noncomputable section
def allGo (md : Region.Mode) (ops : Array Oper) : Nat → Array Bool → List (List Nat)
  | 0, _ => [[]]
  | f + 1, listed => match Region.ready md ops listed with
    | [] => [[]]
    | x :: r => (x :: r).flatMap fun i => (allGo md ops f (listed.setIfInBounds i true)).map (List.cons i)
theorem allGo_mem (md : Region.Mode) (ops : Array Oper) : ∀ (fuel t : Nat) (listed : Array Bool), Region.linearise.go md ops fuel t listed [] ∈ allGo md ops fuel listed
  | 0, t, listed => by simp [Region.linearise.go, allGo]
  | fuel + 1, t, listed => by
    simp only [Region.linearise.go]
    change (match (Region.ready md ops listed)[t % (Region.ready md ops listed).length]? with
      | some i => Region.linearise.go md ops fuel (t / (Region.ready md ops listed).length) (listed.setIfInBounds i true) [i]
      | none => [].reverse) ∈ allGo md ops (fuel + 1) listed
    unfold allGo
    cases hr : Region.ready md ops listed with
    | nil => simp
    | cons x xs =>
      have hlt : t % (x :: xs).length < (x :: xs).length := Nat.mod_lt _ (by simp)
      rw [List.getElem?_eq_getElem hlt]
      simp only
      rw [linearise_go_acc, List.reverse_singleton, List.singleton_append, List.mem_flatMap]
      exact ⟨_, List.getElem_mem hlt, List.mem_map.2 ⟨_, allGo_mem md ops fuel _ _, rfl⟩⟩
section
variable {P : Program} {rd : Option Nat} {s0 : St} {ρ0 : Nat → PB} {w0 : World} {s : St} {Q : Exit → St → Prop} {ops : Array Oper}
theorem StepW.regionD {id : Nat} {L : List (List Nat)} (hm : P.follows .mixedOrders = true) (hL : allGo .any ops ops.size (Array.replicate ops.size false) = L) (h : ∀ l ∈ L, StepO P rd s0 ρ0 w0 ops l s Q) : StepW P rd s0 ρ0 w0 (.region id ops true) s Q := fun n w a R h1 h2 ⟨ρ, r, t⟩ h4 =>
  wpIn_region_draw fun k => by
    simp only [Region.schedule, hm, Bool.true_or, if_true]
    subst hL
    exact h _ (allGo_mem .any ops ops.size k _) n _ a R h1 h2 ⟨ρ, ⟨r.hs.drew _, r.tmps, r.defers, r.marks⟩, t.trans (Tra.drew s ρ w _)⟩ h4
end
def consR (q : List Value) (row : Nat → List Value) : Nat → List Value
  | 0 => q
  | i + 1 => row i
theorem rowsL_cons (q : List Value) (row : Nat → List Value) : ∀ n, rowsL (consR q row) (1 + n) = q ++ rowsL row n
  | 0 => by simp [rowsL, consR]
  | n + 1 => by
    show rowsL (consR q row) ((1 + n) + 1) = _
    simp only [rowsL]
    rw [rowsL_cons q row n, List.append_assoc, show 1 + n = n + 1 from Nat.add_comm 1 n]; rfl
theorem append1_sound {P : Program} {s s1 : St} {argTypes : Array TypeId} {ty st xt elem : TypeId} {i : TypeInfo} {xd : TypeDesc} {b k : Nat} {q : List Value} {t : TypeId} {B g n c N wd : Nat} {row : Nat → List Value} {vs' : List Value} {ρ : Nat → PB} {w : World}
    (h0 : argTypes[0]? = some st) (h1 : argTypes[1]? = some xt) (hst : P.underlying st = some (.slice elem)) (hi : P.info? elem = some i) (hxt : P.underlying xt = some xd) (hbad : appendBad xd i (.slice (some ⟨B, 0, some g⟩) n c) = false) (hsz : i.size = wd) (hg : Nat.ble 1000 g = true) (hw1 : Nat.ble 1000 wd = false)
    (hmem : absMem s g B = some (.rows N wd row)) (hb : s.heap.get b = some (.cells (.lit q) t)) (hq : q.length = wd)
    (hn0 : n ≠ 0) (hN : n ≤ N) (hrow : ∀ i, (row i).length = wd) (hb1 : (1 + n) * i.bytes ≤ mostBytes) (hb2 : 1 + n ≤ mostBytes)
    (ha : s.alloc (.cells (.rows (1 + n) wd (consR q row)) elem) = some (k, s1)) (hs : Hs s ρ w) (hv : VL (Dm s) ρ [.slice (some ⟨b, 0, none⟩) 1 1, .slice (some ⟨B, 0, some g⟩) n c] vs') :
    ∃ v' w' ρ', (Builtin.append_ argTypes ty vs'.toArray).run P w = .ok v' w' ∧ VR (Dm s1) ρ' (.slice (some ⟨k, 0, some wd⟩) (1 + n) (1 + n)) v' ∧ Hs s1 ρ' w' ∧ Tra s s1 ρ ρ' w w' := by
  obtain ⟨b', r0, rfl, hbv, hr⟩ := hv.inv_cons
  obtain ⟨x', r2, rfl, hx, hr2⟩ := hr.inv_cons
  rw [hr2.inv_nil]
  have hsE : Hs (lowR s) ρ w := (lowR_sub s).hs hs
  have hbE : VR (Dm (lowR s)) ρ (.slice (some ⟨b, 0, none⟩) 1 1) b' := hbv
  have hxE : VR (Dm (lowR s)) ρ (.slice (some ⟨B, 0, some g⟩) n c) x' := hx
  obtain ⟨hxd, ⟨z, hz, hzl⟩, c3, hstr⟩ := appendBad_spec (by rw [hbad]; decide)
  have hw : 0 < wd := by omega
  have hcr : ∀ i, (consR q row i).length = wd := fun i => by cases i with | zero => exact hq | succ i => exact hrow i
  obtain ⟨sE', q1, q2, q3, q4, q5⟩ := rowsNew_low (sE := lowR s) hw hcr hw1 (backR_sub ⟨rfl, rfl, rfl, rfl, rfl⟩) trivial ha
  have hsrc : srcCells (lowR s) wd n (.slice (some ⟨B, 0, some g⟩) n c) = some (rowsL row n, lowR s) := by
    have hmem2 : absMem (lowR s) g B = some (.lit (rowsL row N)) := by
      unfold absMem at hmem ⊢
      simp only [lowR, Tr.get_map]
      split at hmem
      · rename_i F hF
        simp only [Option.some.injEq] at hmem
        rw [hF]
        simp only [Option.map_some, toLitR]
        rw [hmem]
        simp only [toLitRC]
        rw [if_pos ⟨hw, hrow⟩]
      · cases hmem
    simp only [srcCells, if_neg hn0, isAbs, hg, if_true, Option.getD_some, hmem2, Option.bind_some, Cells.readN, Nat.zero_add, List.drop_zero]
    rw [if_pos (by rw [rowsL_len fun i _ => hrow i]; exact Nat.mul_le_mul_right _ hN), rowsL_take (fun i _ => hrow i) hN]
  have hbase : srcCells (lowR s) wd 1 (.slice (some ⟨b, 0, none⟩) 1 1) = some (q, lowR s) := by
    have hb2 : (lowR s).heap.get b = some (.cells (.lit q) t) := by
      simp only [lowR, Tr.get_map, hb]; rfl
    simp only [srcCells]
    rw [if_neg (show ¬ (1 = 0) by decide), if_neg (show ¬ isAbs none = true by decide)]
    rw [hb2]
    simp only [Cells.readN, Nat.zero_add, Nat.one_mul, List.drop_zero]
    rw [if_pos (by omega), List.take_of_length_le (by omega)]
  have happ : appendNew (lowR s) elem i.size 1 1 n (some ⟨b, 0, none⟩) (.slice (some ⟨B, 0, some g⟩) n c) = some (.slice (some ⟨k, 0, some wd⟩) (1 + n) (1 + n), sE') := by
    unfold appendNew
    rw [hsz, hsrc]
    simp only [Option.bind_some]
    rw [hbase]
    simp only [Option.bind_some]
    rw [← rowsL_cons]
    exact q1
  obtain ⟨v', w', ρ', g0, g1, g2, g3⟩ := appendNew_sound (ty := ty) happ q3 hsE hbE hxE rfl hst hi hz hzl c3 hxt hxd rfl (by omega) hb1 hb2 h0 h1 hstr
  exact lowR_out ⟨v', w', ρ', g0, g1, g2, g3⟩ q2 fun b hbm => by
    rw [q4 b (may_lt' hs.wf.1 hs.wf.2 hbm)]
section
variable {P : Program} {rd : Option Nat} {s0 : St} {ρ0 : Nat → PB} {w0 : World} {s : St} {Q : Exit → St → Prop} {ops : Array Oper}
theorem StepO.append1 {j : Nat} {l : List Nat} {o : Oper} {d : Tmp} {args : Array Operand} {ats : Array TypeId} {st xt elem : TypeId} {i : TypeInfo} {xd : TypeDesc} {b k : Nat} {q : List Value} {t : TypeId} {B g n c N wd : Nat} {row : Nat → List Value} {s1 : St}
    (ho : ops[j]? = some o) (hop : o.op = .call ⟨.builtin .append, args, ats⟩) (hgd : o.guard = none) (hd : o.dst = some d) (hobl : s.obl)
    (hvs : evs s args.toList = some [.slice (some ⟨b, 0, none⟩) 1 1, .slice (some ⟨B, 0, some g⟩) n c])
    (h0 : ats[0]? = some st) (h1 : ats[1]? = some xt) (hst : P.underlying st = some (.slice elem)) (hi : P.info? elem = some i) (hxt : P.underlying xt = some xd) (hbad : appendBad xd i (.slice (some ⟨B, 0, some g⟩) n c) = false) (hsz : i.size = wd) (hg : Nat.ble 1000 g = true) (hw1 : Nat.ble 1000 wd = false)
    (hmem : absMem s g B = some (.rows N wd row)) (hb : s.heap.get b = some (.cells (.lit q) t)) (hq : q.length = wd)
    (hn0 : n ≠ 0) (hN : n ≤ N) (hrow : ∀ i, (row i).length = wd) (hb1 : (1 + n) * i.bytes ≤ mostBytes) (hb2 : 1 + n ≤ mostBytes)
    (ha : s.alloc (.cells (.rows (1 + n) wd (consR q row)) elem) = some (k, s1))
    (h : StepO P rd s0 ρ0 w0 ops l ({ s1 with tmps := s.tmps, defers := s.defers }.set (some d) (.slice (some ⟨k, 0, some wd⟩) (1 + n) (1 + n))) Q) : StepO P rd s0 ρ0 w0 ops (j :: l) s Q := by
  intro m w a R1 g1 g2 ⟨ρ, r, tr⟩ g4
  rw [wpOpsIn_cons]
  unfold wpOpIn
  rw [ho]
  simp only
  obtain ⟨dst', op, type, pos, after, guard⟩ := o
  simp only at hop hgd hd
  subst hop hgd hd
  obtain ⟨_, _, k3⟩ := wanted_sound (ops := ops) (s := s) (s1 := s) (b := true) (o := ⟨some d, .call ⟨.builtin .append, args, ats⟩, type, pos, after, none⟩) rfl r.tmps
  obtain ⟨_, e1, _⟩ := k3 hobl
  rw [e1, if_pos rfl]
  refine ⟨fun f _ => fenceOf_fn rd ρ0 f, ?_⟩
  rw [Oper.semAt_eq _ _ _ (fun c e => by cases e)]
  have hv := evs_sound r.tmps hvs
  obtain ⟨v', w', ρ', hrun, q1, q2, q3⟩ := append1_sound (ty := type) h0 h1 hst hi hxt hbad hsz hg hw1 hmem hb hq hn0 hN hrow hb1 hb2 ha r.hs hv
  have hex : (execOp a.eval { dst := some d, op := .call ⟨.builtin .append, args, ats⟩, type := type, pos := pos, after := after, guard := none }).run P w = .ok (.value v') w' := by
    have : execOp a.eval { dst := some d, op := .call ⟨.builtin .append, args, ats⟩, type := type, pos := pos, after := after, guard := none } = (do pure (.value (← Builtin.append_ ats type (args.map a.eval)))) := by
      simp only [execOp, resolve, pure_bind, invoke]; rfl
    rw [this, Sem.run_bind, ← args_list, hrun]; rfl
  rw [hex]
  have l2 : Like s1 { s1 with tmps := s.tmps, defers := s.defers } := ⟨rfl, rfl, rfl, rfl, rfl⟩
  have r2 : Rel { s1 with tmps := s.tmps, defers := s.defers } ρ' w' a := r.after q3 q2 l2 rfl rfl
  have key := h m w' _ R1 g1 g2 ⟨ρ', r2.put (some d) q1, tr.trans ((q3.like l2).like (set_like _ _ _))⟩ g4
  exact key
end
end
end Go.Cln
namespace Go.Cln
open Go.ChangeShapes Go.WideShapes Go.ChangeAt Go.RowKit
set_option linter.unusedVariables false
noncomputable section
theorem PicG.sub {s0 s s2 : St} {ρ0 : Nat → PB} {w0 w : World} {a : Act} (h : PicG s0 ρ0 w0 s w a) (k : Sub s s2) (ht : s2.tmps = s.tmps) (hd : s2.defers = s.defers) (hs : ∀ b, b ≠ 0 → s0.may b = false → s2.heap.get b = s.heap.get b) : PicG s0 ρ0 w0 s2 w a := by
  obtain ⟨ρ, r, t⟩ := h
  refine ⟨ρ, ⟨k.hs r.hs, by rw [ht, k.dm]; exact r.tmps, by rw [hd]; exact r.defers, fun d h' => by rw [hd] at h'; rw [k.next]; exact r.marks d h'⟩, ⟨by rw [k.next]; exact t.next, t.ext, t.os, t.tape, t.output, t.size, t.frame, fun b o hb hm => ?_, by rw [k.roB]; exact t.roB, by rw [k.ro]; exact t.ro, by rw [k.hid]; exact t.hid, fun b h0 hm => by rw [hs b h0 hm]; exact t.same b h0 hm⟩⟩
  obtain ⟨o1, g1, _⟩ := k.ob b o hb
  exact t.own b o1 g1 (by rw [← may_of k.roB k.ro]; exact hm)
theorem Sub.block {s s2 : St} {b : Nat} {c c2 : Cells} {t : TypeId} (h1 : s2.next = s.next) (h2 : s2.roB = s.roB) (h3 : s2.ro = s.ro) (h4 : s2.hid = s.hid) (hb : s.heap.get b = some (.cells c t)) (hb2 : s2.heap.get b = some (.cells c2 t)) (hc : ∀ (i : Nat) (v : Value), c2.get i = some v → c.get i = some v) (hr : ∀ x, x ≠ b → s2.heap.get x = s.heap.get x) : Sub s s2 := ⟨h1, h2, h3, h4, fun x o' hx => by
  by_cases e : x = b
  · subst e
    rw [hb2] at hx
    cases hx
    exact ⟨_, hb, .cells hc⟩
  · rw [hr x e] at hx
    exact ⟨o', hx, .refl _⟩⟩
end
end Go.Cln
