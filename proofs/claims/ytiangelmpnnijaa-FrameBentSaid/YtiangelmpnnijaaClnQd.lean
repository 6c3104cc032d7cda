/- Read off the code by the clean reading. -/
import Derived.Test.YtiangelmpnnijaaClnQc
set_option linter.unusedVariables false
set_option linter.unusedSimpArgs false
set_option linter.deprecated false
set_option maxRecDepth 100000
namespace Go.Cln
set_option linter.unusedVariables false
structure Tra0 (s s' : St) (ρ ρ' : Nat → PB) (w w' : World) : Prop where
  next : s.next ≤ s'.next
  ext : ∀ b, b < s.next → ρ' b = ρ b
  os : w'.os = w.os
  tape : w'.tape = w.tape
  output : w'.output = w.output
  size : w.heap.size ≤ w'.heap.size
  frame : ∀ k, k < w.heap.size → (∀ (b : Nat) (o : Ob), s.heap.get b = some o → s.may b = true → (ρ b).blk ≠ k) → w'.heap[k]? = w.heap[k]?
  own : ∀ (b : Nat) (o : Ob), s'.heap.get b = some o → s'.may b = true → w.heap.size ≤ (ρ' b).blk ∨ ∃ (b0 : Nat) (o0 : Ob), s.heap.get b0 = some o0 ∧ s.may b0 = true ∧ (ρ b0).blk = (ρ' b).blk
  roB : s'.roB = s.roB
  ro : s'.ro = s.ro
  hid : s'.hid = s.hid
  same : ∀ b, b ≠ 0 → s.may b = false → s'.heap.get b = s.heap.get b
theorem Tra.to0 {s s' : St} {ρ ρ' : Nat → PB} {w w' : World} (h : Tra s s' ρ ρ' w w') : Tra0 s s' ρ ρ' w w' :=
  ⟨h.next, h.ext, h.os, h.tape, h.output, h.size, h.frame, h.own, h.roB, h.ro, h.hid, fun b _ => h.same b⟩
theorem Tra0.trans {s s1 s2 : St} {ρ ρ1 ρ2 : Nat → PB} {w w1 w2 : World} (h : Tra0 s s1 ρ ρ1 w w1) (k : Tra s1 s2 ρ1 ρ2 w1 w2) : Tra0 s s2 ρ ρ2 w w2 where
  next := Nat.le_trans h.next k.next
  ext b hb := (k.ext b (Nat.lt_of_lt_of_le hb h.next)).trans (h.ext b hb)
  os := k.os.trans h.os
  tape := k.tape.trans h.tape
  output := k.output.trans h.output
  size := Nat.le_trans h.size k.size
  frame i hi hn := by
    rw [k.frame i (Nat.lt_of_lt_of_le hi h.size) ?_, h.frame i hi hn]
    intro b o hb hm e
    rcases h.own b o hb hm with h1 | ⟨b0, o0, h1, h2, h3⟩
    · omega
    · exact hn b0 o0 h1 h2 (h3.trans e)
  own b o hb hm := by
    rcases k.own b o hb hm with h1 | ⟨b1, o1, h1, h2, h3⟩
    · exact .inl (Nat.le_trans h.size h1)
    · rcases h.own b1 o1 h1 h2 with h4 | ⟨b0, o0, h4, h5, h6⟩
      · exact .inl (h3 ▸ h4)
      · exact .inr ⟨b0, o0, h4, h5, h6.trans h3⟩
  roB := k.roB.trans h.roB
  ro := k.ro.trans h.ro
  hid := k.hid.trans h.hid
  same b hz hb := (k.same b (by rw [may_of h.roB h.ro]; exact hb)).trans (h.same b hz hb)
def PicG (s0 : St) (ρ0 : Nat → PB) (w0 : World) (s : St) (w : World) (a : Act) : Prop := ∃ ρ, Rel s ρ w a ∧ Tra0 s0 s ρ0 ρ w0 w
theorem PicG.viewM {s0 s1 s2 : St} {ρ0 : Nat → PB} {w0 w : World} {a : Act} {σ : Nat → Nat} (hs0 : Hs s0 ρ0 w0) (v : ViewM s0 s1 s2 σ) (h : PicG s0 ρ0 w0 s1 w a) : PicG s0 ρ0 w0 s2 w a := by
  obtain ⟨ρ1, r, t⟩ := h
  have hρ : ∀ b, (fun b => ρ1 (σ b)) b = ρ1 (σ b) := fun _ => rfl
  have hro : s0.roB ≤ s0.next := hs0.wf.1
  have hrm : ∀ b, s0.may b = true → s0.roB ≤ b := fun b hb => by
    rcases Nat.lt_or_ge b s0.roB with h | h
    · unfold St.may at hb
      simp [h] at hb
      omega
    · exact h
  have hmay : ∀ b, s2.may b = s0.may b := fun b => by rw [may_of v.roB v.ro, may_of t.roB t.ro]
  have hmay1 : ∀ b, s1.may b = s0.may b := fun b => may_of t.roB t.ro b
  refine ⟨fun b => ρ1 (σ b), ⟨⟨⟨fun b o hb => ?_, fun b b' o o' hb hb' hk e => ?_, fun b b' o o' B hb hB hb' hk => ?_⟩, fun b hb => ?_, ?_⟩, ?_, ?_, v.okD⟩, ?_⟩
  · obtain ⟨hd, o1, h1, ho⟩ := v.heap b o hb
    obtain ⟨_, k⟩ := r.hs.ob _ _ h1
    refine ⟨okB_dm hd, ?_⟩
    have hr : s2.roB ≤ b → s1.roB ≤ σ b := fun hb => by
      rw [v.roB] at hb
      rcases Nat.lt_or_ge b s0.next with hlt | hge
      · rw [v.idn b hlt]; exact hb
      · rw [t.roB]; rcases v.fresh b hge with h | h
        · omega
        · exact hrm _ h
    cases ho with
    | cells hc =>
      obtain ⟨pc, ty, fr, k1, k2, k3, k4⟩ := k
      refine ⟨pc, ty, fr, k1, k2, fun m => k3 (hr m), fun i x hx => ?_⟩
      obtain ⟨v1, y1, y2, y3⟩ := hc i x hx
      obtain ⟨z, z1, z2⟩ := k4 i _ y1
      refine ⟨z, z1, ?_⟩
      rcases y2 with rfl | ⟨rfl, y2⟩
      · exact ren_sound hρ x z y3 z2
      · exact .any (by rw [z2.one]; exact y2)
    | loop e1 e2 e3 e4 e5 e6 e7 e8 e9 =>
      rename_i lo1 lo
      obtain ⟨l', k1, k2⟩ := k
      refine ⟨l', k1, ⟨k2.state.trans e1, k2.pending.trans e2, ?_, k2.params.trans e5, k2.assign.trans e6, k2.body.trans e7, okB_dm e9, ?_⟩⟩
      · have := maskJ_vl (l2 := lo.tmps) k2.tmps; rw [e3] at this; exact renAll_sound hρ e4 this
      · rw [k2.defers, e8]
    | marks => exact k
    | fam hz =>
      obtain ⟨k1, k2, k3⟩ := k
      refine ⟨fun hb => k1 (hr hb), k2, fun g P i x hx => ?_⟩
      obtain ⟨pc, ty, fr, x', q1, q2, q3, q4⟩ := k3 g P i x hx
      exact ⟨pc, ty, fr, x', q1, q2, famV_vr q3 q4 (okB_dm hz), q4⟩
    | map e1 e2 =>
      rename_i es1 es kk
      obtain ⟨es', k1, k2, k3⟩ := k
      refine ⟨es', k1, by rw [k2, e1]; simp, fun i x y hx hy => ?_⟩
      obtain ⟨y1, y2, y3⟩ := k3 i { x with val := ren σ x.val } y (by rw [e1, List.getElem?_map, hx]; rfl) hy
      exact ⟨y1, y2, ren_sound hρ _ _ (List.all_eq_true.1 e2 x (List.mem_of_getElem? hx)) y3⟩
  · obtain ⟨_, o1, h1, _⟩ := v.heap b o hb
    obtain ⟨_, o2, h2, _⟩ := v.heap b' o' hb'
    have up : ∀ c, s2.roB ≤ c → s1.roB ≤ σ c := fun c hc => by
      rw [v.roB] at hc
      rcases Nat.lt_or_ge c s0.next with hlt | hge
      · rw [v.idn c hlt]; exact hc
      · rw [t.roB]; rcases v.fresh c hge with h | h
        · omega
        · exact hrm _ h
    exact v.inj b b' o o' hb hb' (r.hs.inj _ _ _ _ h1 h2 (hk.imp (up b) (up b')) e)
  · obtain ⟨_, o1, h1, hv⟩ := v.heap b o hb
    obtain ⟨_, o2, h2, _⟩ := v.heap b' o' hb'
    have up : ∀ c, s2.roB ≤ c → s1.roB ≤ σ c := fun c hc => by
      rw [v.roB] at hc
      rcases Nat.lt_or_ge c s0.next with hlt | hge
      · rw [v.idn c hlt]; exact hc
      · rw [t.roB]; rcases v.fresh c hge with h | h
        · omega
        · exact hrm _ h
    refine r.hs.far _ _ o1 o2 B h1 ?_ h2 (up b' hk)
    obtain ⟨F, g, P, i, x, rfl, hx, hB⟩ := hB
    cases hv
    exact ⟨F, g, P, i, x, rfl, hx, hB⟩
  · rw [v.hid, t.hid]; exact hs0.hid b (Nat.le_trans v.next hb)
  · rw [v.roB, v.ro, t.roB, t.ro]
    exact ⟨Nat.le_trans hro v.next, fun b hb => Nat.lt_of_lt_of_le (hs0.wf.2 b hb) v.next⟩
  · have := maskD_vl (l2 := s2.tmps) r.tmps; rw [v.tmps] at this; exact renAll_sound hρ v.okT this
  · rw [r.defers, v.defers]; simp [marksOf]
  · refine ⟨v.next, fun b hb => ?_, t.os, t.tape, t.output, t.size, t.frame, fun b o hb hm => ?_, v.roB.trans t.roB, v.ro.trans t.ro, v.hid.trans t.hid, fun b hz hb => ?_⟩
    · show ρ1 (σ b) = ρ0 b
      rw [v.idn b hb]; exact t.ext b hb
    · obtain ⟨_, o1, h1, _⟩ := v.heap b o hb
      refine t.own (σ b) o1 h1 ?_
      rw [hmay1]; rw [hmay] at hm
      rcases Nat.lt_or_ge b s0.next with hlt | hge
      · rw [v.idn b hlt]; exact hm
      · exact (v.fresh b hge).elim (fun h => hs0.may_next h) id
    · have := may_lt hs0 hb
      rw [v.same b this hb]; exact t.same b hz hb
theorem PicG.weak {s0 s s2 : St} {ρ0 : Nat → PB} {w0 w : World} {a : Act} (v : Wk s s2) (h : PicG s0 ρ0 w0 s w a) : PicG s0 ρ0 w0 s2 w a := by
  obtain ⟨ρ, r, t⟩ := h
  have hdm : Dm s2 = Dm s := by unfold Dm; rw [v.next, v.hid]
  refine ⟨ρ, ⟨⟨⟨fun b o hb => ?_, fun b b' o o' hb hb' hk e => ?_, fun b b' o o' B hb hB hb' hk => ?_⟩, fun b hb => ?_, ?_⟩, ?_, ?_, ?_⟩, ?_⟩
  · obtain ⟨o1, h1, h2⟩ := v.heap b o hb
    obtain ⟨k1, k2⟩ := r.hs.ob b o1 h1
    rw [hdm, v.roB]
    refine ⟨k1, ?_⟩
    rcases h2 with rfl | ⟨l, l2, ty, rfl, rfl, hl⟩
    · exact k2
    · obtain ⟨pc, ty', fr, q1, q2, q3, q4⟩ := k2
      refine ⟨pc, ty', fr, q1, q2, q3, fun i x hx => ?_⟩
      obtain ⟨y, hy, hyx⟩ := hl i x hx
      obtain ⟨z, z1, z2⟩ := q4 i y hy
      refine ⟨z, z1, ?_⟩
      rcases hyx with rfl | ⟨rfl, a', rfl⟩
      · exact z2
      · exact z2.empty v.zero
  · obtain ⟨o1, h1, _⟩ := v.heap b o hb
    obtain ⟨o2, h2, _⟩ := v.heap b' o' hb'
    rw [v.roB] at hk
    exact r.hs.inj _ _ _ _ h1 h2 hk e
  · obtain ⟨o1, h1, h3⟩ := v.heap b o hb
    obtain ⟨o2, h2, _⟩ := v.heap b' o' hb'
    rw [v.roB] at hk
    refine r.hs.far _ _ o1 o2 B h1 ?_ h2 hk
    rcases h3 with rfl | ⟨l, l2, ty, rfl, rfl, _⟩
    · exact hB
    · obtain ⟨F, g, P, i, x, hx, _⟩ := hB; cases hx
  · rw [v.hid]; exact r.hs.hid b (by rw [← v.next]; exact hb)
  · rw [v.roB, v.next, v.ro]; exact r.hs.wf
  · rw [hdm, v.tmps]; exact r.tmps
  · rw [v.defers]; exact r.defers
  · rw [v.defers, v.next]; exact r.marks
  · refine ⟨by rw [v.next]; exact t.next, t.ext, t.os, t.tape, t.output, t.size, t.frame, fun b o hb hm => ?_, v.roB.trans t.roB, v.ro.trans t.ro, v.hid.trans t.hid, fun b hz hb => ?_⟩
    · obtain ⟨o1, h1, _⟩ := v.heap b o hb
      exact t.own b o1 h1 (by rw [← may_of v.roB v.ro]; exact hm)
    · rw [v.same b (by rw [may_of t.roB t.ro]; exact hb)]; exact t.same b hz hb
def Keeps (F F' : Nat → Nat → Cells) : Prop := ∀ (g B j : Nat) (v : Value), (F g B).get j = some v → F' g B = F g B
theorem Keeps.refl (F : Nat → Nat → Cells) : Keeps F F := fun _ _ _ _ _ => rfl
theorem Keeps.trans {F F1 F2 : Nat → Nat → Cells} (h : Keeps F F1) (k : Keeps F1 F2) : Keeps F F2 := fun g B j v hv => by
  have e := h g B j v hv
  rw [k g B j v (by rw [e]; exact hv), e]
def famPut (F : Nat → Nat → Cells) (P : Nat) (L : List Int) : Nat → Nat → Cells := fun g B => if B = P then .ints .u8 L else F g B
structure Took (s s2 : St) (F : Nat → Nat → Cells) (b m i : Nat) (L : List Int) (l : List Value) (t : TypeId) (n P c : Nat) : Prop where
  next : s2.next = s.next
  roB : s2.roB = s.roB
  ro : s2.ro = s.ro
  hid : s2.hid = s.hid
  defers : s2.defers = s.defers
  tmps : s2.tmps = s.tmps
  zero : s2.heap.get 0 = some (.fam (famPut F P L))
  gone : s2.heap.get b = none
  cell : s2.heap.get m = some (.cells (.lit (l.set i (.slice (some ⟨P, 0, some 1000⟩) n c))) t)
  rest : ∀ x, x ≠ 0 → x ≠ b → x ≠ m → s2.heap.get x = s.heap.get x
theorem PicG.take {s0 s : St} {ρ0 : Nat → PB} {w0 w : World} {a : Act} {F : Nat → Nat → Cells} {b m i : Nat} {L : List Int} {l : List Value} {t t' : TypeId} {g : Option Nat} {n c : Nat} (mk : Nat → Nat → St)
    (h : PicG s0 ρ0 w0 s w a) (h0 : s.heap.get 0 = some (.fam F)) (hb : s.heap.get b = some (.cells (.ints .u8 L) t')) (hm : s.heap.get m = some (.cells (.lit l) t)) (hi : l[i]? = some (.slice (some ⟨b, 0, g⟩) n c))
    (hbm : b ≠ m) (hm0 : m ≠ 0) (hb0 : b ≠ 0) (hr : s.may b = true) (hrm : s.may m = true) (hs : isAbs g = false) (hv : ∀ P c', Took s (mk P c') F b m i L l t n P c') :
    ∃ P c', n ≤ c' ∧ Keeps F (famPut F P L) ∧ PicG s0 ρ0 w0 (mk P c') w a := by
  obtain ⟨ρ, r, tr⟩ := h
  obtain ⟨d0, f1, f2, f3⟩ := r.hs.ob 0 _ h0
  obtain ⟨db, pb, tb, fb, b1, b2, b3, b4⟩ := r.hs.ob b _ hb
  obtain ⟨dm, pm, tm, fm, m1, m2, m3, m4⟩ := r.hs.ob m _ hm
  have hRb : s.roB ≤ b := by
    unfold St.may at hr; simp only [Bool.and_eq_true, decide_eq_true_eq] at hr; exact hr.1
  obtain ⟨v, hv1, hv2⟩ := m4 i _ hi
  have key : ∃ c', n ≤ c' ∧ AbsOk (plc (ρ b).blk (ρ b).off) 0 n c' v := by
    cases hv2 with
    | same hf => simp [flat0] at hf
    | slice h1 h2 h3 =>
      rename_i c' a'
      obtain ⟨k1, k2, k3⟩ := h3
      have hcc : c ≤ c' := by
        cases g with
        | none => exact Nat.le_of_eq (k2 rfl).symm
        | some z => exact (k3 z rfl).1
      rcases Nat.eq_zero_or_pos c' with hz | hz
      · subst hz
        exact ⟨0, by omega, by omega, .inr ⟨rfl, some a', 0, by rw [show n = 0 by omega]⟩⟩
      · refine ⟨c', by omega, by omega, .inl ?_⟩
        rcases k1 with k1 | k1
        · omega
        · rw [k1, blkOf_plc, baseOf_plc]
    | abs _ hg _ => rw [hg] at hs; cases hs
  obtain ⟨c', hc', habs⟩ := key
  have T := hv (plc (ρ b).blk (ρ b).off) c'
  have hdm : Dm (mk (plc (ρ b).blk (ρ b).off) c') = Dm s := by unfold Dm; rw [T.next, T.hid]
  have keeps : Keeps F (famPut F (plc (ρ b).blk (ρ b).off) L) := fun g' B j x hx => by
    unfold famPut
    rw [if_neg]
    rintro rfl
    exact r.hs.far 0 b _ _ _ h0 ⟨F, _, _, _, _, rfl, hx, blkOf_plc _ _⟩ hb hRb rfl
  have old : ∀ x o, (mk (plc (ρ b).blk (ρ b).off) c').heap.get x = some o → x ≠ b ∧ ∃ o1, s.heap.get x = some o1 ∧ (x ≠ 0 → ∀ B, o.far B → o1.far B) := fun x o hx => by
    have hxb : x ≠ b := fun e => by rw [e, T.gone] at hx; cases hx
    refine ⟨hxb, ?_⟩
    by_cases e0 : x = 0
    · subst e0; exact ⟨_, h0, fun h => absurd rfl h⟩
    · by_cases em : x = m
      · subst em
        rw [T.cell] at hx; cases hx
        refine ⟨_, hm, fun _ B hB => ?_⟩
        obtain ⟨_, _, _, _, _, hB, _⟩ := hB; cases hB
      · exact ⟨o, by rw [← T.rest x e0 hxb em]; exact hx, fun _ B hB => hB⟩
  refine ⟨plc (ρ b).blk (ρ b).off, c', hc', keeps, ρ, ⟨⟨⟨fun x o hx => ?_, fun x x' o o' hx hx' hk e => ?_, fun x x' o o' B hx hB hx' hk => ?_⟩, fun x hx => ?_, ?_⟩, ?_, ?_, ?_⟩, ?_⟩
  · rw [hdm, T.roB]
    by_cases e0 : x = 0
    · subst e0
      rw [T.zero] at hx; cases hx
      refine ⟨d0, f1, f2, fun g' B j y hy => ?_⟩
      unfold famPut at hy
      split at hy
      · rename_i hgB
        subst hgB
        obtain ⟨z, z1, z2⟩ := b4 j y hy
        refine ⟨pb, tb, fb, z, by rw [blkOf_plc]; exact b1, by rw [baseOf_plc]; exact z1, z2, ?_⟩
        simp only [Cells.get, Option.map_eq_some_iff] at hy
        obtain ⟨q, _, rfl⟩ := hy
        rfl
      · exact f3 g' B j y hy
    · by_cases em : x = m
      · subst em
        rw [T.cell] at hx; cases hx
        refine ⟨dm, pm, tm, fm, m1, m2, m3, fun j y hy => ?_⟩
        simp only [Cells.get, List.getElem?_set] at hy
        split at hy
        · rename_i hij
          subst hij
          split at hy
          · cases hy
            exact ⟨v, hv1, .abs d0 rfl habs⟩
          · cases hy
        · exact m4 j y hy
      · obtain ⟨hxb, _⟩ := old x o hx
        rw [T.rest x e0 hxb em] at hx
        exact r.hs.ob x o hx
  · obtain ⟨_, o1, h1, _⟩ := old x o hx
    obtain ⟨_, o2, h2, _⟩ := old x' o' hx'
    rw [T.roB] at hk
    exact r.hs.inj _ _ _ _ h1 h2 hk e
  · obtain ⟨_, o1, h1, h3⟩ := old x o hx
    obtain ⟨hxb, o2, h2, _⟩ := old x' o' hx'
    rw [T.roB] at hk
    by_cases e0 : x = 0
    · subst e0
      rw [T.zero] at hx; cases hx
      obtain ⟨F', g', P, j, y, hF, hy, rfl⟩ := hB
      cases hF
      unfold famPut at hy
      split at hy
      · rename_i hgB
        subst hgB
        rw [blkOf_plc]
        exact fun e => hxb (r.hs.inj _ _ _ _ h2 hb (.inl hk) e)
      · exact r.hs.far 0 x' _ _ _ h0 ⟨F, g', P, j, y, rfl, hy, rfl⟩ h2 hk
    · exact r.hs.far x x' _ _ _ h1 (h3 e0 B hB) h2 hk
  · rw [T.hid]; exact r.hs.hid x (by rw [← T.next]; exact hx)
  · rw [T.roB, T.next, T.ro]; exact r.hs.wf
  · rw [hdm, T.tmps]; exact r.tmps
  · rw [T.defers]; exact r.defers
  · rw [T.defers, T.next]; exact r.marks
  · refine ⟨by rw [T.next]; exact tr.next, tr.ext, tr.os, tr.tape, tr.output, tr.size, tr.frame, fun x o hx hmx => ?_, T.roB.trans tr.roB, T.ro.trans tr.ro, T.hid.trans tr.hid, fun x hz hx => ?_⟩
    · obtain ⟨_, o1, h1, _⟩ := old x o hx
      exact tr.own x o1 h1 (by rw [← may_of T.roB T.ro]; exact hmx)
    · have hms : s.may x = false := by rw [may_of tr.roB tr.ro]; exact hx
      rw [T.rest x hz (fun e => by rw [e, hr] at hms; cases hms) (fun e => by rw [e, hrm] at hms; cases hms)]
      exact tr.same x hz hx
structure Shed (s0 s s2 : St) : Prop where
  next : s2.next = s.next
  roB : s2.roB = s.roB
  ro : s2.ro = s.ro
  hid : s2.hid = s.hid
  defers : s2.defers = s.defers
  tmps : s2.tmps = s.tmps
  fam : ∃ o, s.heap.get 0 = some o
  zero : s2.heap.get 0 = s0.heap.get 0
  rest : ∀ x, x ≠ 0 → s2.heap.get x = s.heap.get x
theorem PicG.shed {s0 s s2 : St} {ρ0 : Nat → PB} {w0 w : World} {a : Act} {F0 : Nat → Nat → Cells} (hs0 : Hs s0 ρ0 w0) (h : PicG s0 ρ0 w0 s w a) (h0 : s0.heap.get 0 = some (.fam F0)) (T : Shed s0 s s2) : Pic s0 ρ0 w0 s2 w a := by
  obtain ⟨ρ, r, tr⟩ := h
  obtain ⟨d0, f1, f2, f3⟩ := hs0.ob 0 _ h0
  have hdm : Dm s2 = Dm s := by unfold Dm; rw [T.next, T.hid]
  have hrb : ∀ b, s0.may b = true → s0.roB ≤ b := fun b hb => by
    unfold St.may at hb; simp only [Bool.and_eq_true, decide_eq_true_eq] at hb; exact hb.1
  have e0 : ρ 0 = ρ0 0 := tr.ext 0 d0.1
  have far0 : ∀ (g B j : Nat) (v : Value), (F0 g B).get j = some v → blkOf B < w0.heap.size ∧ w.heap[blkOf B]? = w0.heap[blkOf B]? := fun g B j v hv => by
    obtain ⟨pc, t, fr, v', k1, k2⟩ := f3 g B j v hv
    have hlt := heapObj_lt k1
    exact ⟨hlt, tr.frame _ hlt fun b o hb hm => hs0.far 0 b _ _ _ h0 ⟨F0, g, B, j, v, rfl, hv, rfl⟩ hb (hrb b hm)⟩
  have z2 := T.zero.trans h0
  have hz : s.roB = s0.roB := tr.roB
  have nz : ∀ b, s0.roB ≤ b → b ≠ 0 := fun b hb e => f1 (by rw [e] at hb; exact hb)
  refine ⟨ρ, ⟨⟨⟨fun x o hx => ?_, fun x x' o o' hx hx' hk e => ?_, fun x x' o o' B hx hB hx' hk => ?_⟩, fun x hx => ?_, ?_⟩, ?_, ?_, ?_⟩, ?_⟩
  · rw [hdm, T.roB]
    by_cases ex : x = 0
    · subst ex
      rw [z2] at hx; cases hx
      have d0' : Dm s 0 := ⟨Nat.lt_of_lt_of_le d0.1 tr.next, by rw [tr.hid]; exact d0.2⟩
      refine ⟨d0', by rw [hz]; exact f1, by rw [e0]; exact Nat.lt_of_lt_of_le f2 tr.size, fun g B j v hv => ?_⟩
      obtain ⟨pc, t, fr, v', k1, k2, k3, k4⟩ := f3 g B j v hv
      exact ⟨pc, t, fr, v', (far0 g B j v hv).2.trans k1, k2, famV_vr k3 k4 d0', k4⟩
    · rw [T.rest x ex] at hx; exact r.hs.ob x o hx
  · rw [T.roB, hz] at hk
    by_cases ex : x = 0
    · by_cases ex' : x' = 0
      · rw [ex, ex']
      · subst ex
        have hk' : s0.roB ≤ x' := hk.elim (fun h => absurd rfl (nz 0 h)) id
        rw [T.rest x' ex'] at hx'
        obtain ⟨oz, hoz⟩ := T.fam
        exact r.hs.inj 0 x' _ _ hoz hx' (.inr (by rw [hz]; exact hk')) e
    · by_cases ex' : x' = 0
      · subst ex'
        have hk' : s0.roB ≤ x := hk.elim id fun h => absurd rfl (nz 0 h)
        rw [T.rest x ex] at hx
        obtain ⟨oz, hoz⟩ := T.fam
        exact r.hs.inj x 0 _ _ hx hoz (.inl (by rw [hz]; exact hk')) e
      · rw [T.rest x ex] at hx; rw [T.rest x' ex'] at hx'
        exact r.hs.inj _ _ _ _ hx hx' (by rw [hz]; exact hk) e
  · rw [T.roB, hz] at hk
    have ex' := nz x' hk
    rw [T.rest x' ex'] at hx'
    by_cases ex : x = 0
    · subst ex
      rw [z2] at hx; cases hx
      obtain ⟨F', g, P, j, y, hF, hy, rfl⟩ := hB
      cases hF
      obtain ⟨hlt, _⟩ := far0 g P j y hy
      by_cases hm : s.may x' = true
      · rcases tr.own x' o' hx' hm with k | ⟨b0, o0, k1, k2, k3⟩
        · omega
        · rw [← k3]; exact hs0.far 0 b0 _ _ _ h0 ⟨F0, g, P, j, y, rfl, hy, rfl⟩ k1 (hrb b0 k2)
      · have hm0 : s0.may x' = false := by rw [← may_of tr.roB tr.ro]; simpa using hm
        have hx0 := (tr.same x' ex' hm0).symm.trans hx'
        have hl : x' < s0.next := may_lt hs0 hm0
        rw [tr.ext x' hl]
        exact hs0.far 0 x' _ _ _ h0 ⟨F0, g, P, j, y, rfl, hy, rfl⟩ hx0 hk
    · rw [T.rest x ex] at hx
      exact r.hs.far x x' _ _ _ hx hB hx' (by rw [hz]; exact hk)
  · rw [T.hid]; exact r.hs.hid x (by rw [← T.next]; exact hx)
  · rw [T.roB, T.next, T.ro]; exact r.hs.wf
  · rw [hdm, T.tmps]; exact r.tmps
  · rw [T.defers]; exact r.defers
  · rw [T.defers, T.next]; exact r.marks
  · refine ⟨by rw [T.next]; exact tr.next, tr.ext, tr.os, tr.tape, tr.output, tr.size, tr.frame, fun x o hx hmx => ?_, T.roB.trans tr.roB, T.ro.trans tr.ro, T.hid.trans tr.hid, fun x hx => ?_⟩
    · have hmx0 : s0.may x = true := by rw [← may_of (T.roB.trans tr.roB) (T.ro.trans tr.ro)]; exact hmx
      have ex := nz x (hrb x hmx0)
      rw [T.rest x ex] at hx
      exact tr.own x o hx (by rw [may_of tr.roB tr.ro]; exact hmx0)
    · by_cases ex : x = 0
      · rw [ex]; exact T.zero
      · rw [T.rest x ex]; exact tr.same x ex hx
def StepG (P : Program) (rd : Option Nat) (s0 : St) (c : Code) (s : St) (Q : Exit → St → Prop) : Prop :=
  ∀ (n : Nat) (ρ0 : Nat → PB) (w0 w : World) (a : Act) (R : Exit → Act → World → Prop), (∀ l, rd = some l → l < s0.next) → Hs s0 ρ0 w0 → PicG s0 ρ0 w0 s w a →
    (∀ e s' w' a', Q e s' → PicG s0 ρ0 w0 s' w' a' → R e a' w') → c.wpIn (fenceOf rd ρ0) n P R a w
theorem StepG.mono {P : Program} {rd : Option Nat} {s0 : St} {c : Code} {s : St} {Q Q' : Exit → St → Prop} (h : StepG P rd s0 c s Q) (hq : ∀ e s', Q e s' → Q' e s') : StepG P rd s0 c s Q' :=
  fun n ρ0 w0 w a R h1 h2 h3 h4 => h n ρ0 w0 w a R h1 h2 h3 fun e s' w' a' hQ => h4 e s' w' a' (hq e s' hQ)
theorem StepG.turn {P : Program} {rd : Option Nat} {s0 : St} {c : Code} {s : St} {Q Q' : Exit → St → Prop} (h : StepG P rd s0 c s Q)
    (hq : ∀ (e : Exit) (s1 : St) (ρ0 : Nat → PB) (w0 w : World) (a : Act), Q e s1 → Hs s0 ρ0 w0 → PicG s0 ρ0 w0 s1 w a → ∃ s2, Q' e s2 ∧ PicG s0 ρ0 w0 s2 w a) : StepG P rd s0 c s Q' :=
  fun n ρ0 w0 w a R h1 h2 h3 h4 => h n ρ0 w0 w a R h1 h2 h3 fun e s' w' a' hQ hp => let ⟨s2, q, p⟩ := hq e s' ρ0 w0 w' a' hQ h2 hp; h4 e s2 w' a' q p
theorem StepG.loop {P : Program} {rd : Option Nat} {s0 : St} {c : Code} {Q : Exit → St → Prop} (I : Nat → St → Prop)
    (h : ∀ k s, I k s → StepG P rd s0 c s (fun e s' => (e = .normal ∧ ∃ k', k' < k ∧ I k' s') ∨ (e ≠ .normal ∧ Q e s'))) : ∀ k s, I k s → StepG P rd s0 (.loop c) s Q := by
  intro k s hI n ρ0 w0 w a R h1 h2 h3 h4
  have key : ∀ (m k : Nat) (s : St) (w : World) (a : Act), k < m → I k s → PicG s0 ρ0 w0 s w a → Code.roundsIn (fenceOf rd ρ0) n P c R m a w := by
    intro m
    induction m with
    | zero => intro k s w a hk; omega
    | succ m ih =>
      intro k s w a hk hI hp
      rw [roundsIn_succ]
      refine h k s hI n ρ0 w0 w a _ h1 h2 hp fun e s' w' a' hq hp' => ?_
      rcases hq with ⟨rfl, k', hk', hI'⟩ | ⟨hne, hQ⟩
      · exact ih k' s' w' a' (by omega) hI' hp'
      · have := h4 e s' w' a' hQ hp'
        cases e <;> first | exact this | exact absurd rfl hne
  exact wpIn_loop_rounds (k + 1) (key (k + 1) k s w a (Nat.lt_succ_self k) hI h3)
theorem StepG.stdT {P : Program} (G : PG P) {K : Given} (hK : GivenOk P K) {B : Nat → Bool} {n : Nat} {f : FuncId} {rd : Option Nat} {s0 s s2 : St} {c : Code} {e : Exit} {p : Prop} {o : List (Option Bool)} {σ : List Nat} {g : Nat → Option Ob} {n1 : Nat}
    (hr : ((mk P K n).code f rd c { s with obl := True, orc := o }).map (fun r => (r.1, r.2.obl, seenInT B r.2 s2 σ)) = some (e, p, seenAsT B s2 σ n1)) (hp : p) (hn : s0.next ≤ s.next) (hd : deadT B 0 s2.tmps) (hR : RowsIn g)
    (hh : s2.heap = Tr.rebuild g s2.next) (hk : picOkT B s0 s2 σ = true) : StepG P rd s0 c s (fun e' s' => e' = e ∧ s' = s2) := by
  cases hc : (mk P K n).code f rd c { s with obl := True, orc := o } with
  | none => rw [hc] at hr; simp at hr
  | some r =>
    obtain ⟨e1, s1⟩ := r
    rw [hc] at hr
    simp only [Option.map_some, Option.some.injEq, Prod.mk.injEq] at hr
    obtain ⟨rfl, h2, h3⟩ := hr
    have v := ViewM.stdT hd hR hh hk h3
    have l1 : Like s { s with obl := True, orc := o } := ⟨rfl, rfl, rfl, rfl, rfl⟩
    have h := (mk_ok G hK n).okCode hc
    intro m ρ0 w0 w a R g1 g2 ⟨ρ, r, t⟩ g4
    have := h (by rw [h2]; exact hp) m ρ w a R (fun l hl => Nat.lt_of_lt_of_le (g1 l hl) hn) (r.like l1 rfl rfl) fun ρ' w' a' r' t' => g4 _ s2 w' a' ⟨rfl, rfl⟩ (PicG.viewM g2 v ⟨ρ', r', t.trans (l1.thenTra t')⟩)
    rwa [fenceOf_ext g1 t.ext] at this
end Go.Cln
namespace Go.Cln
set_option linter.unusedVariables false
def runRow (ih : Orc) (f : FuncId) (rd : Option Nat) : Nat → Code → St → Option (St × Code)
  | 0, c, s => some (s, c)
  | k + 1, .seq x y, s => (ih.code f rd x s).bind fun r => match normal? r.1 with
    | true => runRow ih f rd k y r.2
    | false => none
  | _ + 1, _, _ => none
theorem normal_eq {e : Exit} (h : normal? e = true) : e = .normal := by cases e <;> simp [normal?] at h; rfl
theorem runRow_sound {P : Program} {ih : Orc} (hi : OrcOk P ih) {f : FuncId} {rd : Option Nat} : ∀ (k : Nat) {c c' : Code} {s s' : St}, runRow ih f rd k c s = some (s', c') → (s'.obl → s.obl) ∧ (s'.obl →
    ∀ (n : Nat) (ρ : Nat → PB) (w : World) (a : Act) (Q : Exit → Act → World → Prop), (∀ l, rd = some l → l < s.next) → Rel s ρ w a → (∀ ρ' w' a', Rel s' ρ' w' a' → Tra s s' ρ ρ' w w' → c'.wpIn (fenceOf rd ρ) n P Q a' w') → c.wpIn (fenceOf rd ρ) n P Q a w) := by
  intro k
  induction k with
  | zero =>
    intro c c' s s' h
    simp only [runRow, Option.some.injEq, Prod.mk.injEq] at h
    obtain ⟨rfl, rfl⟩ := h
    exact ⟨id, fun _ n ρ w a Q _ hr hq => hq ρ w a hr (Tra.refl _ _ _)⟩
  | succ k ih =>
    intro c c' s s' h
    cases c with
    | seq x y =>
      simp only [runRow, bind_some] at h
      obtain ⟨⟨e1, s1⟩, h1, h⟩ := h
      split at h
      · rename_i hn
        have he := normal_eq hn
        simp only at he; subst he
        obtain ⟨o1, g1⟩ := ih h
        refine ⟨fun ho => hi.code h1 (o1 ho), fun ho n ρ w a Q hrd hr hq => ?_⟩
        refine wpIn_seq ?_
        refine hi.okCode h1 (o1 ho) n ρ w a _ hrd hr fun ρ1 w1 a1 r1 t1 => ?_
        show y.wpIn (fenceOf rd ρ) n P Q a1 w1
        rw [← fenceOf_ext hrd t1.ext]
        refine g1 ho n ρ1 w1 a1 Q (fun l e => Nat.lt_of_lt_of_le (hrd l e) t1.next) r1 fun ρ2 w2 a2 r2 t2 => ?_
        rw [fenceOf_ext hrd t1.ext]
        exact hq ρ2 w2 a2 r2 (t1.trans t2)
      · cases h
    | _ => simp [runRow] at h
theorem StepG.seqs {P : Program} (G : PG P) {K : Given} (hK : GivenOk P K) {B : Nat → Bool} {k n : Nat} {f : FuncId} {rd : Option Nat} {s0 s s2 : St} {c c' : Code} {p : Prop} {o : List (Option Bool)} {σ : List Nat} {g : Nat → Option Ob} {n1 : Nat} {Q : Exit → St → Prop}
    (hr : (runRow (mk P K n) f rd k c { s with obl := True, orc := o }).map (fun r => (r.2, r.1.obl, seenInT B r.1 s2 σ)) = some (c', p, seenAsT B s2 σ n1)) (hp : p) (hn : s0.next ≤ s.next) (hd : deadT B 0 s2.tmps) (hR : RowsIn g)
    (hh : s2.heap = Tr.rebuild g s2.next) (hk : picOkT B s0 s2 σ = true) (h : StepG P rd s0 c' s2 Q) : StepG P rd s0 c s Q := by
  cases hc : runRow (mk P K n) f rd k c { s with obl := True, orc := o } with
  | none => rw [hc] at hr; simp at hr
  | some r =>
    obtain ⟨s1, c1⟩ := r
    rw [hc] at hr
    simp only [Option.map_some, Option.some.injEq, Prod.mk.injEq] at hr
    obtain ⟨rfl, h2, h3⟩ := hr
    have v := ViewM.stdT hd hR hh hk h3
    have l1 : Like s { s with obl := True, orc := o } := ⟨rfl, rfl, rfl, rfl, rfl⟩
    intro m ρ0 w0 w a R g1 g2 ⟨ρ, r, t⟩ g4
    have := (runRow_sound (mk_ok G hK n) k hc).2 (by rw [h2]; exact hp) m ρ w a R (fun l hl => Nat.lt_of_lt_of_le (g1 l hl) hn) (r.like l1 rfl rfl) fun ρ' w' a' r' t' => by
      have := h m ρ0 w0 w' a' R g1 g2 (PicG.viewM g2 v ⟨ρ', r', t.trans (l1.thenTra t')⟩) g4
      rwa [fenceOf_ext g1 t.ext]
    rwa [fenceOf_ext g1 t.ext] at this
theorem StepG.seq {P : Program} {rd : Option Nat} {s0 s : St} {x y : Code} {Q : Exit → St → Prop} (h : StepG P rd s0 x s fun e s' => (e = .normal ∧ StepG P rd s0 y s' Q) ∨ (e ≠ .normal ∧ Q e s')) : StepG P rd s0 (.seq x y) s Q :=
  fun n ρ0 w0 w a R h1 h2 h3 h4 => wpIn_seq (h n ρ0 w0 w a _ h1 h2 h3 fun e s' w' a' hq hp => by
    rcases hq with ⟨rfl, hq⟩ | ⟨hne, hq⟩
    · exact hq n ρ0 w0 w' a' R h1 h2 hp h4
    · have := h4 e s' w' a' hq hp
      cases e <;> first | exact this | exact absurd rfl hne)
theorem StepG.block {P : Program} {rd : Option Nat} {s0 s : St} {id : Nat} {x : Code} {Q : Exit → St → Prop} (h : StepG P rd s0 x s fun e s' => Q (blockOut id e) s') : StepG P rd s0 (.block id x) s Q :=
  fun n ρ0 w0 w a R h1 h2 h3 h4 => wpIn_block (h n ρ0 w0 w a _ h1 h2 h3 fun e s' w' a' hq hp => blockOut_wp (h4 _ s' w' a' hq hp))
theorem calls_ofG {P : Program} {f : FuncId} {fn : Func} {c : Code} {next : Nat} {heap : Tr} {orc : List (Option Bool)} {args args' : List Value} {ρ : Nat → PB} {W : World} {t : Tmp} (hf : P.funcs[f]? = some fn) (hc : fn.body = some c) (hres : fn.results.toList = [.tmp t])
    (h : StepG P none { St.start next heap orc with tmps := args ++ List.replicate (fn.ntmps - args.length) undef, defers := [] } c { St.start next heap orc with tmps := args ++ List.replicate (fn.ntmps - args.length) undef, defers := [] }
      fun e s' => leaves? e = true ∧ s'.defers = [] ∧ s'.tmps.getD t undef = .bool true)
    (hs : Hs (St.start next heap orc) ρ W) (ha : VL (Dm (St.start next heap orc)) ρ args args') : Calls P f args'.toArray W fun e w' => e = .returned (.bool true) ∧ Go.RowKit.Below W.heap.size W w' := by
  refine callsIn_wide.1 (show CallsIn Fence.wide 0 P f _ W _ from callsIn_of_wp_marks hf hc trivial ?_)
  have l0 : Like (St.start next heap orc) { St.start next heap orc with tmps := args ++ List.replicate (fn.ntmps - args.length) undef, defers := [] } := ⟨rfl, rfl, rfl, rfl, rfl⟩
  have hrel : Rel { St.start next heap orc with tmps := args ++ List.replicate (fn.ntmps - args.length) undef, defers := [] } ρ W { tmps := args'.toArray ++ Array.replicate (fn.ntmps - args'.toArray.size) undef, defers := [] } := by
    refine ⟨l0.holds hs, ?_, rfl, fun d hd => by simp at hd⟩
    have := ha.append (VL.replicate (N := Dm (St.start next heap orc)) (ρ := ρ) VR.undef (fn.ntmps - args.length))
    rw [l0.dm]
    simpa [ha.1] using this
  refine h 0 ρ W W _ _ (fun l e => by cases e) (l0.holds hs) ⟨ρ, hrel, (Tra.refl _ _ _).to0⟩ ?_
  rintro e s' w' a' ⟨hl, hd, ht⟩ ⟨ρ', r', t'⟩
  have hv := getD_sound r'.tmps t
  rw [ht] at hv
  have hb := hv.eq_flat0 rfl
  have had : a'.defers = [] := by rw [r'.defers, hd]; rfl
  have hb2 : Go.RowKit.Below W.heap.size W w' := ⟨t'.os, t'.tape, t'.output, t'.size, fun k hk => t'.frame k hk fun b o hb hm => by
    obtain ⟨⟨h1, _⟩, _⟩ := hs.ob b o hb
    have h2 : next ≤ b := by
      unfold St.may at hm
      rw [Bool.and_eq_true] at hm
      exact of_decide_eq_true hm.1
    exact absurd h1 (Nat.not_lt.2 h2)⟩
  have hrun : (fn.results.toList.mapM (resOne P a'.tmps)).run P w' = .ok [a'.tmps.getD t undef] w' := by
    rw [hres]
    simp only [List.mapM_cons, List.mapM_nil, resOne, Sem.run_bind, Sem.run_pure, Result.andThen_ok]
  have fin : LeavesInM Fence.wide 0 P fn a'.tmps (fun e w' => e = .returned (.bool true) ∧ Go.RowKit.Below W.heap.size W w') a'.defers .returning w' := by
    rw [had]
    simp only [LeavesInM]
    exact ⟨_, results_run hrun, by show Ending.returned _ = _; rw [show (if h : [a'.tmps.getD t undef].toArray.size = 1 then [a'.tmps.getD t undef].toArray[0] else Value.tuple [a'.tmps.getD t undef].toArray) = a'.tmps.getD t undef from rfl, hb], hb2⟩
  cases e <;> first
    | exact fin
    | (simp [leaves?] at hl; done)
end Go.Cln
namespace Go.Cln
set_option linter.unusedVariables false
theorem ObV.heap {s : St} {h : Tr} {σ : Nat → Nat} {o1 o : Ob} (k : ObV s σ o1 o) : ObV { s with heap := h } σ o1 o := by
  cases k with
  | cells hc => exact .cells hc
  | loop e1 e2 e3 e4 e5 e6 e7 e8 e9 => exact .loop e1 e2 e3 e4 e5 e6 e7 e8 e9
  | marks => exact .marks
  | fam hz => exact .fam hz
  | map e1 e2 => exact .map e1 e2
theorem ViewM.more {s0 s1 s2 : St} {h3 : Tr} {σ : Nat → Nat} {kb m : Nat} {o1 o : Ob} (v : ViewM s0 s1 s2 σ) (hk : h3.get kb = some o) (hr : ∀ b, b ≠ kb → h3.get b = s2.heap.get b) (hσ : σ kb = m) (hm : s1.heap.get m = some o1) (ho : ObV s2 σ o1 o) (hok : okB s2 kb = true) (hge : s0.next ≤ kb)
    (hin : ∀ b o', b ≠ kb → s2.heap.get b = some o' → σ b ≠ m) : ViewM s0 s1 { s2 with heap := h3 } σ := by
  refine ⟨v.next, v.idn, v.fresh, v.roB, v.ro, v.hid, v.tmps, v.okT, v.defers, v.okD, fun b o' hb => ?_, fun b b' o' o2 hb hb' e => ?_, fun b hb hm' => ?_⟩
  · by_cases e : b = kb
    · subst e
      have hb : h3.get b = some o' := hb
      rw [hk] at hb; cases hb
      exact ⟨hok, o1, by rw [hσ]; exact hm, ho.heap⟩
    · have hb : h3.get b = some o' := hb
      rw [hr b e] at hb
      obtain ⟨k1, x, k2, k3⟩ := v.heap b o' hb
      exact ⟨k1, x, k2, k3.heap⟩
  · have hb : h3.get b = some o' := hb
    have hb' : h3.get b' = some o2 := hb'
    by_cases e1 : b = kb
    · by_cases e2 : b' = kb
      · rw [e1, e2]
      · subst e1
        rw [hr b' e2] at hb'
        exact absurd (e.symm.trans hσ) (hin b' o2 e2 hb')
    · by_cases e2 : b' = kb
      · subst e2
        rw [hr b e1] at hb
        exact absurd (e.trans hσ) (hin b o' e1 hb)
      · rw [hr b e1] at hb; rw [hr b' e2] at hb'
        exact v.inj b b' o' o2 hb hb' e
  · show h3.get b = s1.heap.get b
    rw [hr b (by omega)]; exact v.same b hb hm'
end Go.Cln
namespace Go.Cln
set_option linter.unusedVariables false
end Go.Cln
