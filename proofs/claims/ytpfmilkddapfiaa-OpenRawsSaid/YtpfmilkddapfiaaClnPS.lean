/- A determinate reading of Go's code: rows of whole numbers, however long. -/
import Derived.Test.YtpfmilkddapfiaaClnM
namespace Go.Cln
set_option linter.unusedVariables false
set_option linter.unusedSimpArgs false
set_option linter.deprecated false
def toLitC : Cells → Cells
  | .ints k l => .lit (l.map (Value.int k))
  | c => c
theorem toLitC_get (c : Cells) (i : Nat) : (toLitC c).get i = c.get i := by
  cases c with
  | ints k l => simp only [toLitC, Cells.get]; rw [List.getElem?_map]
  | _ => rfl
def toLit : Ob → Ob
  | .cells (.ints k l) t => .cells (.lit (l.map (Value.int k))) t
  | .fam F => .fam fun g P => toLitC (F g P)
  | o => o
def Tr.map (f : Ob → Ob) : Tr → Tr
  | .leaf => .leaf
  | .node l v r => .node (Tr.map f l) (v.map f) (Tr.map f r)
theorem Tr.get_map (f : Ob → Ob) : ∀ (t : Tr) (n : Nat), (Tr.map f t).get n = (t.get n).map f
  | .leaf, n => by simp [Tr.map, Tr.get]
  | .node l v r, n => by
    simp only [Tr.map, Tr.get]
    split
    · rfl
    · split
      · exact Tr.get_map f l _
      · exact Tr.get_map f r _
theorem Tr.put_ok : ∀ (k n : Nat) (t : Tr) (o : Option Ob) (t' : Tr), Tr.put k t n o = some t' → ∀ (u : Tr) (p : Option Ob), ∃ u', Tr.put k u n p = some u'
  | 0, n, t, o, t', h, u, p => by simp [Tr.put] at h
  | k + 1, n, t, o, t', h, u, p => by
    have deep : ∀ (m : Nat) (t : Tr), (∃ t', Tr.put k t m o = some t') → ∀ u, ∃ u', Tr.put k u m p = some u' := fun m t ⟨t', h⟩ u => Tr.put_ok k m t o t' h u p
    have key : n = 0 ∨ (n ≠ 0 ∧ n % 2 = 1 ∧ ∃ t t', Tr.put k t (n / 2) o = some t') ∨ (n ≠ 0 ∧ ¬ n % 2 = 1 ∧ ∃ t t', Tr.put k t (n / 2 - 1) o = some t') := by
      cases t <;> simp only [Tr.put] at h <;> split at h
      · exact .inl (by assumption)
      · split at h
        · rw [bind_some] at h; obtain ⟨l, hl, _⟩ := h; exact .inr (.inl ⟨by assumption, by assumption, _, _, hl⟩)
        · rw [bind_some] at h; obtain ⟨l, hl, _⟩ := h; exact .inr (.inr ⟨by assumption, by assumption, _, _, hl⟩)
      · exact .inl (by assumption)
      · split at h
        · rw [bind_some] at h; obtain ⟨l, hl, _⟩ := h; exact .inr (.inl ⟨by assumption, by assumption, _, _, hl⟩)
        · rw [bind_some] at h; obtain ⟨l, hl, _⟩ := h; exact .inr (.inr ⟨by assumption, by assumption, _, _, hl⟩)
    rcases key with h0 | ⟨h0, h1, t0, t0', hp⟩ | ⟨h0, h1, t0, t0', hp⟩
    · cases u <;> simp [Tr.put, h0]
    · cases u with
      | leaf => obtain ⟨u', e⟩ := deep _ t0 ⟨t0', hp⟩ .leaf; simp [Tr.put, h0, h1, e]
      | node l v r => obtain ⟨u', e⟩ := deep _ t0 ⟨t0', hp⟩ l; simp [Tr.put, h0, h1, e]
    · cases u with
      | leaf => obtain ⟨u', e⟩ := deep _ t0 ⟨t0', hp⟩ .leaf; simp [Tr.put, h0, h1, e]
      | node l v r => obtain ⟨u', e⟩ := deep _ t0 ⟨t0', hp⟩ r; simp [Tr.put, h0, h1, e]
inductive ObSub : Ob → Ob → Prop
  | cells {c c' : Cells} {t t' : TypeId} : (∀ (i : Nat) (v : Value), c'.get i = some v → c.get i = some v) → ObSub (.cells c t) (.cells c' t')
  | fam {F F' : Nat → Nat → Cells} : (∀ (g P i : Nat) (v : Value), (F' g P).get i = some v → (F g P).get i = some v) → ObSub (.fam F) (.fam F')
  | refl (o : Ob) : ObSub o o
structure Sub (s s' : St) : Prop where
  next : s'.next = s.next
  roB : s'.roB = s.roB
  ro : s'.ro = s.ro
  hid : s'.hid = s.hid
  ob : ∀ (b : Nat) (o' : Ob), s'.heap.get b = some o' → ∃ o, s.heap.get b = some o ∧ ObSub o o'
theorem Sub.dm {s s' : St} (h : Sub s s') : Dm s' = Dm s := by funext b; simp [Dm, h.next, h.hid]
theorem ObSub.obR {o o' : Ob} (h : ObSub o o') {N : Nat → Prop} {ρ : Nat → PB} {may : Prop} {p : PB} {w : World} (k : ObR N ρ may p w o) : ObR N ρ may p w o' := by
  cases h with
  | cells hc => obtain ⟨pc, t, fr, h1, h2, h3, h4⟩ := k; exact ⟨pc, t, fr, h1, h2, h3, fun i v hv => h4 i v (hc i v hv)⟩
  | fam hF => obtain ⟨h1, h3⟩ := k; exact ⟨h1, fun g P i v hv => h3 g P i v (hF g P i v hv)⟩
  | refl => exact k
theorem ObSub.soft {o o' : Ob} (h : ObSub o o') (k : o.soft = true) : o'.soft = true := by
  cases h with
  | cells hc => cases k
  | fam hF => rfl
  | refl => exact k
theorem ObSub.far {o o' : Ob} (h : ObSub o o') {B : Nat} (k : o'.far B) : o.far B := by
  obtain ⟨F', g, P, i, v, rfl, hv, hB⟩ := k
  cases h with
  | fam hF => exact ⟨_, g, P, i, v, rfl, hF g P i v hv, hB⟩
  | refl => exact ⟨_, g, P, i, v, rfl, hv, hB⟩
theorem Sub.hs {s s' : St} {ρ : Nat → PB} {w : World} (h : Sub s s') (k : Hs s ρ w) : Hs s' ρ w := by
  refine ⟨⟨fun b o hb => ?_, fun b b' o o' hb hb' hk e => ?_, fun b b' o o' B hb hB hb' hk => ?_⟩, fun b hb => by rw [h.hid]; exact k.hid b (by rw [← h.next]; exact hb), by rw [h.roB, h.next, h.ro]; exact k.wf⟩
  · obtain ⟨o0, g1, g2⟩ := h.ob b o hb
    obtain ⟨k1, k2⟩ := k.ob b o0 g1
    rw [h.dm, h.roB]
    exact ⟨k1, g2.obR k2⟩
  · obtain ⟨o0, g1, q1⟩ := h.ob b o hb
    obtain ⟨o1, g2, q2⟩ := h.ob b' o' hb'
    rw [h.roB] at hk
    exact (k.inj b b' o0 o1 g1 g2 hk e).imp_right (Or.imp q1.soft q2.soft)
  · obtain ⟨o0, g1, g0⟩ := h.ob b o hb
    obtain ⟨o1, g2, _⟩ := h.ob b' o' hb'
    rw [h.roB] at hk
    exact k.far b b' o0 o1 B g1 (g0.far hB) g2 hk
def lowE (s : St) : St := { s with heap := Tr.map toLit s.heap, obl := True, orc := [] }
theorem toLit_sub (o : Ob) : ObSub o (toLit o) := by
  unfold toLit
  split
  · rename_i k l t
    refine .cells fun i v hv => ?_
    simp only [Cells.get] at hv ⊢
    rw [List.getElem?_map] at hv; exact hv
  · exact .fam fun g P i v hv => by rw [toLitC_get] at hv; exact hv
  · exact .refl _
theorem toLit_back (o : Ob) : ObSub (toLit o) o := by
  unfold toLit
  split
  · rename_i k l t
    refine .cells fun i v hv => ?_
    simp only [Cells.get] at hv ⊢
    rw [List.getElem?_map]; exact hv
  · exact .fam fun g P i v hv => by rw [toLitC_get]; exact hv
  · exact .refl _
theorem lowE_sub (s : St) : Sub s (lowE s) := ⟨rfl, rfl, rfl, rfl, fun b o' hb => by
  simp only [lowE, Tr.get_map, Option.map_eq_some_iff] at hb
  obtain ⟨o, h1, rfl⟩ := hb
  exact ⟨o, h1, toLit_sub o⟩⟩
theorem Tra.low {s s' s1 : St} {ρ ρ' : Nat → PB} {w w' : World} (h : Tra (lowE s) s1 ρ ρ' w w') (k : Sub s1 s') (same : ∀ b, s.may b = false → s'.heap.get b = s.heap.get b) : Tra s s' ρ ρ' w w' where
  next := by rw [k.next]; exact h.next
  ext := h.ext
  os := h.os
  tape := h.tape
  output := h.output
  size := h.size
  frame i hi hn := h.frame i hi fun b o hb hm => by
    obtain ⟨o0, g1, _⟩ := (lowE_sub s).ob b o hb
    exact hn b o0 g1 hm
  own b o hb hm := by
    obtain ⟨o1, g1, _⟩ := k.ob b o hb
    have hm1 : s1.may b = true := by rw [← may_of k.roB k.ro]; exact hm
    rcases h.own b o1 g1 hm1 with h1 | ⟨b0, o0, h1, h2, h3⟩
    · exact .inl h1
    · obtain ⟨o2, g2, _⟩ := (lowE_sub s).ob b0 o0 h1
      exact .inr ⟨b0, o2, g2, h2, h3⟩
  roB := by rw [k.roB]; exact h.roB
  ro := by rw [k.ro]; exact h.ro
  hid := by rw [k.hid]; exact h.hid
  same := same
theorem blockI_spec {s : St} {k : IntKind} {b : Nat} {l : List Int} {t : TypeId} (h : blockI s k b = some (l, t)) : (lowE s).heap.get b = some (.cells (.lit (l.map (Value.int k))) t) ∧ ∃ c, s.heap.get b = some (.cells c t) := by
  unfold blockI at h
  simp only [lowE, Tr.get_map]
  split at h
  · rename_i k' l' t' hb
    split at h
    · rename_i e
      simp only [Option.some.injEq, Prod.mk.injEq] at h; obtain ⟨rfl, rfl⟩ := h
      subst e; rw [hb]; exact ⟨rfl, _, rfl⟩
    · cases h
  · rename_i vs t' hb
    rw [bind_some] at h
    obtain ⟨l', h1, h⟩ := h
    simp only [Option.some.injEq, Prod.mk.injEq] at h; obtain ⟨rfl, rfl⟩ := h
    rw [hb, ← intsOf_eq h1]; exact ⟨rfl, _, rfl⟩
  · cases h
theorem intsS_take (t : ByteArray) (n : Nat) : ((t.extract 0 n).data.map fun b => Value.int .u8 b.toNat).toList = ((intsS t).take n).map (Value.int .u8) := by
  unfold intsS
  simp [List.map_take, Function.comp_def]
theorem absMem_low {s : St} {g B : Nat} {c : Cells} (h : absMem s g B = some c) : absMem (lowE s) g B = some (toLitC c) := by
  unfold absMem at h ⊢
  split at h
  · rename_i F hF
    cases h
    simp only [lowE, Tr.get_map, hF]; rfl
  · cases h
theorem absI_src {s : St} {k : IntKind} {g B o n : Nat} {L : List Int} {p : Prop} (h : absI s k g B o n = some (L, p)) (hp : p) (h0 : n ≠ 0) : ∃ c, absMem (lowE s) g B = some c ∧ c.readN (lowE s) o n = some (L.map (Value.int k), lowE s) ∧ L.length = n := by
  unfold absI at h
  split at h
  · rename_i k' l hm
    split at h
    · rename_i e
      simp only [Option.some.injEq, Prod.mk.injEq] at h; obtain ⟨rfl, rfl⟩ := h
      subst e
      have hle : o + n ≤ l.length := by rcases hp with e | e; exact absurd e h0; exact e
      refine ⟨_, absMem_low hm, ?_, by simp; omega⟩
      simp only [toLitC, Cells.readN, List.length_map]
      rw [if_pos hle]
      simp [List.map_drop, List.map_take]
    · cases h
  · cases h
theorem absI_nil {s : St} {k : IntKind} {g B o : Nat} {L : List Int} {p : Prop} (h : absI s k g B o 0 = some (L, p)) : L = [] := by
  unfold absI at h
  split at h
  · split at h
    · simp only [Option.some.injEq, Prod.mk.injEq] at h; obtain ⟨rfl, _⟩ := h; simp
    · cases h
  · cases h
theorem softSrc_src {s : St} {k : IntKind} {n m : Nat} {x : Value} {L : List Int} {p : Prop} (h : softSrc s k n x = some (L, p)) (hp : p) (hm : lenV x = some m) (hn : n ≤ m) : srcCells (lowE s) 1 n x = some (L.map (Value.int k), lowE s) ∧ L.length = n := by
  unfold softSrc at h
  split at h
  · rename_i b o g sl sc
    by_cases hga : isAbs g = true
    · rw [if_pos hga] at h
      by_cases h0 : n = 0
      · subst h0
        have := absI_nil h
        subst this
        exact ⟨by simp [srcCells], rfl⟩
      · obtain ⟨c, c1, c2, c3⟩ := absI_src h hp h0
        refine ⟨?_, c3⟩
        simp only [srcCells]
        rw [if_neg h0, if_pos hga, c1]
        simp only [Option.bind_some, Nat.mul_one]
        exact c2
    rw [if_neg hga] at h
    split at h
    · rename_i lt h1
      obtain ⟨l, t⟩ := lt
      simp only [Option.some.injEq, Prod.mk.injEq] at h; obtain ⟨rfl, rfl⟩ := h
      obtain ⟨e, _⟩ := blockI_spec h1
      refine ⟨?_, by simp; omega⟩
      simp only [srcCells, e]
      by_cases h0 : n = 0
      · rw [if_pos h0]; subst h0; simp
      · rw [if_neg h0, if_neg hga]
        simp only [Cells.readN, Nat.mul_one, List.length_map]
        rw [if_pos hp]
        simp [List.map_drop, List.map_take]
    · split at h
      · simp only [Option.some.injEq, Prod.mk.injEq] at h; obtain ⟨rfl, rfl⟩ := h
        exact ⟨by simp [srcCells], rfl⟩
      · cases h
  · simp only [Option.some.injEq, Prod.mk.injEq] at h; obtain ⟨rfl, rfl⟩ := h
    have hp' : n = 0 := hp
    subst hp'
    exact ⟨by simp [srcCells], rfl⟩
  · rename_i t
    split at h
    · rename_i e
      simp only [Option.some.injEq, Prod.mk.injEq] at h; obtain ⟨rfl, rfl⟩ := h
      subst e
      simp only [lenV, Option.some.injEq] at hm
      subst hm
      refine ⟨by simp only [srcCells, intsS_take], ?_⟩
      have : t.data.size = t.size := rfl
      simp [intsS]; omega
    · cases h
  · cases h
theorem ints_one (k : IntKind) (L : List Int) : (L.map (Value.int k)).all Value.oneCell' = true := by simp [Value.oneCell']
theorem putL_map (k : IntKind) (l r : List Int) (o : Nat) (h : o + r.length ≤ l.length) : putL (l.map (Value.int k)) o (r.map (Value.int k)) = (layI l o r).map (Value.int k) := by
  apply List.ext_getElem?
  intro i
  rw [putL_get _ _ _ _ (by simpa using h)]
  simp only [List.length_map, List.getElem?_map]
  rw [layI_get h]
  split <;> rfl
theorem setOb_get {s s1 : St} {b : Nat} {o : Option Ob} (h : s.setOb b o = some s1) : ∃ h', s1 = { s with heap := h' } ∧ ∀ m, h'.get m = if m = b then o else s.heap.get m := by
  unfold St.setOb at h
  rw [bind_some] at h
  obtain ⟨h', e, h⟩ := h
  cases h
  exact ⟨h', rfl, fun m => Tr.get_put _ _ _ _ _ e m⟩
theorem setOb_low {s s0 s1 : St} {b : Nat} {o p : Option Ob} (hl : Like s s0) (h : s0.setOb b o = some s1) (hs : ∀ o', o = some o' → ∃ p', p = some p' ∧ ObSub p' o') : ∃ s1E, (lowE s).setOb b p = some s1E ∧ Sub s1E s1 ∧ s1E.obl ∧ Like { lowE s with heap := s1E.heap } s1E ∧ ∀ m, m ≠ b → s1.heap.get m = s.heap.get m := by
  unfold St.setOb at h ⊢
  rw [bind_some] at h
  obtain ⟨h', e, h⟩ := h
  cases h
  obtain ⟨u, hu⟩ := Tr.put_ok _ _ _ _ _ e (lowE s).heap p
  rw [hu]
  refine ⟨_, rfl, ⟨hl.next, hl.roB, hl.ro, hl.hid, fun m o' hm => ?_⟩, trivial, ⟨rfl, rfl, rfl, rfl, rfl⟩, fun m hm => ?_⟩
  · simp only at hm ⊢
    rw [Tr.get_put _ _ _ _ _ e, hl.heap] at hm
    rw [Tr.get_put _ _ _ _ _ hu]
    by_cases hb : m = b
    · rw [if_pos hb] at hm ⊢
      exact hs o' hm
    · rw [if_neg hb] at hm ⊢
      refine ⟨toLit o', by simp only [lowE, Tr.get_map, hm]; rfl, ?_⟩
      exact toLit_back _
  · simp only
    rw [Tr.get_put _ _ _ _ _ e, if_neg hm, hl.heap]
theorem back_sub {s s0 : St} (hl : Like s s0) : Sub (lowE s) s0 := ⟨hl.next, hl.roB, hl.ro, hl.hid, fun m o' hm => by
  rw [hl.heap] at hm
  refine ⟨toLit o', by simp only [lowE, Tr.get_map, hm]; rfl, ?_⟩
  exact toLit_back _⟩
theorem ints_sub (k : IntKind) (l : List Int) (t t' : TypeId) : ObSub (.cells (.lit (l.map (Value.int k))) t) (.cells (.ints k l) t') := .cells fun i v hv => by
  simp only [Cells.get] at hv ⊢
  rw [List.getElem?_map]; exact hv
theorem softNew_low {s1 sE s' : St} {elem : TypeId} {k : IntKind} {l : List Int} {n : Nat} {v : Value} (hsub : Sub sE s1) (hE : sE.obl ∧ sE.orc = []) (h : softNew s1 elem k l n = some (v, s')) :
    ∃ sE', newRowOf sE elem 1 (l.map (Value.int k)) n = some (v, sE') ∧ Sub sE' s' ∧ sE'.obl ∧ (∀ m, m < s1.next → s'.heap.get m = s1.heap.get m) ∧ (s'.obl → s1.obl) := by
  unfold softNew at h
  rw [bind_some] at h
  obtain ⟨⟨b, s2⟩, ha, h⟩ := h
  simp only [Option.some.injEq, Prod.mk.injEq] at h; obtain ⟨rfl, rfl⟩ := h
  unfold St.alloc at ha
  rw [bind_some] at ha
  obtain ⟨h', e, ha⟩ := ha
  simp only [Option.some.injEq, Prod.mk.injEq] at ha; obtain ⟨rfl, rfl⟩ := ha
  obtain ⟨u, hu⟩ := Tr.put_ok _ _ _ _ _ e sE.heap (some (.cells (.lit (l.map (Value.int k))) elem))
  unfold newRowOf St.alloc
  rw [if_neg (by decide), ← hsub.next, hu]
  refine ⟨_, rfl, ⟨by simp only [hsub.next], hsub.roB, hsub.ro, hsub.hid, fun m o' hm => ?_⟩, hE.1, fun m hm => ?_, id⟩
  · simp only at hm ⊢
    rw [Tr.get_put _ _ _ _ _ e] at hm
    rw [Tr.get_put _ _ _ _ _ hu]
    by_cases hb : m = s1.next
    · rw [if_pos hb] at hm
      rw [if_pos hb]
      cases hm
      exact ⟨_, rfl, ints_sub _ _ _ _⟩
    · rw [if_neg hb] at hm
      rw [if_neg hb]
      exact hsub.ob m o' hm
  · simp only
    rw [Tr.get_put _ _ _ _ _ e, if_neg (by omega)]
theorem may_lt' {s : St} (h1 : s.roB ≤ s.next) (h2 : ∀ b ∈ s.ro, b < s.next) {b : Nat} (h : s.may b = false) : b < s.next := by
  rcases Nat.lt_or_ge b s.next with h3 | h3
  · exact h3
  · exfalso
    unfold St.may at h
    have : s.ro.contains b = false := by
      cases hc : s.ro.contains b with
      | false => rfl
      | true => rw [List.contains_iff_mem] at hc; exact absurd (h2 b hc) (by omega)
    rw [this] at h
    simp at h; omega
theorem low_out {P : Program} {x : Sem Value} {s s' s1E : St} {v : Value} {ρ : Nat → PB} {w : World} (h : ∃ v' w' ρ', x.run P w = .ok v' w' ∧ VR (Dm s1E) ρ' v v' ∧ Hs s1E ρ' w' ∧ Tra (lowE s) s1E ρ ρ' w w') (hsub : Sub s1E s') (same : ∀ b, s.may b = false → s'.heap.get b = s.heap.get b) :
    ∃ v' w' ρ', x.run P w = .ok v' w' ∧ VR (Dm s') ρ' v v' ∧ Hs s' ρ' w' ∧ Tra s s' ρ ρ' w w' := by
  obtain ⟨v', w', ρ', h1, h2, h3, h4⟩ := h
  exact ⟨v', w', ρ', h1, by rw [hsub.dm]; exact h2, hsub.hs h3, h4.low hsub same⟩
theorem branch_like {s s1 : St} {b e : Bool} (h : s.branch b = some (e, s1)) : Like s s1 ∧ (s1.obl → s.obl ∧ b = e) := by
  obtain ⟨k1, _, _, k4⟩ := St.branch_spec h
  exact ⟨k1, k4⟩
theorem and_like (s : St) (p : Prop) : Like s (s.and p) := ⟨rfl, rfl, rfl, rfl, rfl⟩
theorem may_ne {s : St} {b m : Nat} (hb : s.may b = true) (hm : s.may m = false) : m ≠ b := fun e => by rw [e, hb] at hm; cases hm
theorem softAppendTo_obl {s s' : St} {elem : TypeId} {k : IntKind} {bytes sLen sCap n : Nat} {base : Option Addr} {r : List Int × Prop} {v : Value} (h : softAppendTo s elem k bytes sLen sCap n base r = some (v, s')) : s'.obl → s.obl := by
  have hnew : ∀ {s1 s' : St} {l : List Int} {m : Nat} {v : Value}, softNew s1 elem k l m = some (v, s') → s'.obl → s1.obl := fun {s1 s' l m v} h => by
    unfold softNew at h
    rw [bind_some] at h
    obtain ⟨⟨b, s2⟩, ha, h⟩ := h
    simp only [Option.some.injEq, Prod.mk.injEq] at h; obtain ⟨rfl, rfl⟩ := h
    exact fun k => (St.alloc_next ha).2.2.2.2.1 ▸ k
  have hset : ∀ {s1 s' : St} {b : Nat} {o : Option Ob}, s1.setOb b o = some s' → s'.obl → s1.obl := fun {s1 s' b o} h => by
    obtain ⟨h', rfl, _⟩ := setOb_get h
    exact id
  unfold softAppendTo at h
  split at h
  · rw [bind_some] at h
    obtain ⟨⟨e, s1⟩, hb, h⟩ := h
    obtain ⟨_, k2⟩ := branch_like hb
    split at h
    · simp only [Option.some.injEq, Prod.mk.injEq] at h; obtain ⟨_, rfl⟩ := h
      exact fun k => (k2 k.1).1
    · exact fun k => (k2 (hnew h k).1).1
  · rw [bind_some] at h
    obtain ⟨⟨e, s1⟩, hb, h⟩ := h
    obtain ⟨_, k2⟩ := branch_like hb
    split at h
    · split at h
      · rw [bind_some] at h
        obtain ⟨l, hl, h⟩ := h
        rw [bind_some] at h
        obtain ⟨s2, h2, h⟩ := h
        simp only [Option.some.injEq, Prod.mk.injEq] at h; obtain ⟨_, rfl⟩ := h
        exact fun k => (k2 (hset h2 k).1).1
      · simp only [Option.some.injEq, Prod.mk.injEq] at h; obtain ⟨_, rfl⟩ := h
        exact fun k => (k2 k.1).1
    · rw [bind_some] at h
      obtain ⟨l, hl, h⟩ := h
      split at h
      · exact fun k => (k2 (hnew h k).1).1
      · split at h
        · rw [bind_some] at h
          obtain ⟨s2, h2, h⟩ := h
          exact fun k => (k2 (hset h2 (hnew h k)).1).1
        · cases h
theorem softApp0_obl {gd : Unit → Bool} {P : Program} {s s' : St} {ts : Array TypeId} {vs : List Value} {v : Value} (h : softApp0 gd P s ts vs = some (v, s')) : s'.obl → s.obl := by
  unfold softApp0 at h
  split at h
  · split at h
    · cases h
    split at h
    · split at h
      · split at h
        · split at h
          · split at h
            · cases h
            · rw [bind_some] at h
              obtain ⟨r, _, h⟩ := h
              exact softAppendTo_obl h
          · cases h
        · cases h
      · cases h
    · cases h
  · cases h
theorem softAppend_obl {P : Program} {s s' : St} {ts : Array TypeId} {vs : List Value} {v : Value} (h : softAppend P s ts vs = some (v, s')) : s'.obl → s.obl := softApp0_obl (gd := fun _ => intsIn s vs) h
theorem softApp0_sound {gd : Unit → Bool} {P : Program} {s s' : St} {argTypes : Array TypeId} {ty : TypeId} {vs vs' : List Value} {v : Value} {ρ : Nat → PB} {w : World} (h : softApp0 gd P s argTypes vs = some (v, s')) (ho : s'.obl) (hs : Hs s ρ w) (hv : VL (Dm s) ρ vs vs') :
    ∃ v' w' ρ', (Builtin.append_ argTypes ty vs'.toArray).run P w = .ok v' w' ∧ VR (Dm s') ρ' v v' ∧ Hs s' ρ' w' ∧ Tra s s' ρ ρ' w w' := by
  unfold softApp0 at h
  split at h
  · rename_i base sLen sCap x
    obtain ⟨b', r0, rfl, hb, hr⟩ := hv.inv_cons
    obtain ⟨x', r2, rfl, hx, hr2⟩ := hr.inv_cons
    rw [hr2.inv_nil]
    have hsE : Hs (lowE s) ρ w := (lowE_sub s).hs hs
    have hbE : VR (Dm (lowE s)) ρ (.slice base sLen sCap) b' := hb
    have hxE : VR (Dm (lowE s)) ρ x x' := hx
    split at h
    · cases h
    rename_i hab0
    have hab : absB base = false := by simpa using hab0
    split at h
    · split at h
      · rename_i st xt h0 h1
        split at h
        · rename_i elem hst
          split at h
          · rename_i i n xd k hi hm hxt hk
            split at h
            · cases h
            · rename_i hcond
              rw [Bool.or_eq_true, not_or] at hcond
              obtain ⟨hbad, hsz⟩ := hcond
              have hsz : i.size = 1 := by simpa using hsz
              obtain ⟨hxd, ⟨z, hz, hzl⟩, c3, hstr⟩ : (∀ k, xd ≠ .int k) ∧ (∃ z, i.zero = some z ∧ z.cells.toList.length = i.size) ∧ i.size ≠ 0 ∧ ∀ t, x = .string t → i.size = 1 := by
                unfold appendBad at hbad
                rw [Bool.or_eq_true, Bool.or_eq_true, Bool.or_eq_true, not_or, not_or, not_or] at hbad
                obtain ⟨⟨⟨c1, c2⟩, c3⟩, c4⟩ := hbad
                refine ⟨fun k e => by subst e; simp [isIntD] at c1, ?_, by simpa using c3, fun t e => hsz⟩
                unfold zeroBad at c2
                cases hz : i.zero with
                | none => rw [hz] at c2; simp at c2
                | some z => rw [hz] at c2; exact ⟨z, rfl, by simpa using c2⟩
              rw [bind_some] at h
              obtain ⟨⟨L, p⟩, hsrc, h⟩ := h
              have src : p → srcCells (lowE s) 1 n x = some (L.map (Value.int k), lowE s) ∧ L.length = n := fun hp => softSrc_src hsrc hp hm (Nat.le_refl _)
              unfold softAppendTo at h
              split at h
              · rw [bind_some] at h
                obtain ⟨⟨e, s1⟩, hbr, h⟩ := h
                obtain ⟨lk, kb⟩ := branch_like hbr
                split at h
                · rename_i he
                  simp only [Option.some.injEq, Prod.mk.injEq] at h; obtain ⟨rfl, rfl⟩ := h
                  obtain ⟨o1, rfl, rfl, hp⟩ := ho
                  obtain ⟨_, e0⟩ := kb o1
                  have he : e = true := he
                  have hn0 : n = 0 := by rw [he] at e0; simpa using e0
                  subst hn0
                  obtain ⟨e1, e2⟩ := src hp
                  have happ : appendIn (lowE s) i.size 0 0 0 none x = some (.slice none 0 0, lowE s) := by
                    unfold appendIn; rw [hsz, e1]; rfl
                  obtain ⟨v', w', g0, g1, g2, g3⟩ := appendIn_sound (ty := ty) happ trivial hsE hbE hxE hab hst hi hxt hxd hm (Nat.le_refl _) h0 h1
                  exact low_out ⟨v', w', ρ, g0, g1, g2, g3⟩ (back_sub (lk.trans (and_like _ _))) fun b _ => by rw [← lk.heap]; rfl
                · rename_i he
                  have ho1 := ho
                  obtain ⟨sE', q1, q2, q3, q4, q5⟩ := softNew_low (back_sub (lk.trans (and_like _ _))) ⟨trivial, rfl⟩ h
                  obtain ⟨o1, rfl, rfl, hp, hb1, hb2⟩ := q5 ho
                  obtain ⟨_, e0⟩ := kb o1
                  have he : e = false := by simpa using he
                  have hn0 : n ≠ 0 := by rw [he] at e0; simpa using e0
                  obtain ⟨e1, e2⟩ := src hp
                  have happ : appendNew (lowE s) elem i.size 0 0 n none x = some (v, sE') := by
                    unfold appendNew; rw [hsz, e1]
                    simp only [Option.bind_some, and_self, if_true]
                    exact q1
                  obtain ⟨v', w', ρ', g0, g1, g2, g3⟩ := appendNew_sound (ty := ty) happ q3 hsE hbE hxE hab hst hi hz hzl c3 hxt hxd hm (by omega) (by rw [Nat.zero_add]; exact hb1) (by rw [Nat.zero_add]; exact hb2) h0 h1 hstr
                  exact low_out ⟨v', w', ρ', g0, g1, g2, g3⟩ q2 fun b hbm => by
                    rw [q4 b (by show b < s1.next; rw [lk.next]; exact may_lt' hs.wf.1 hs.wf.2 hbm)]
                    show s1.heap.get b = _; rw [lk.heap]
              · rename_i b o g
                rw [bind_some] at h
                obtain ⟨⟨e, s1⟩, hbr, h⟩ := h
                obtain ⟨lk, kb⟩ := branch_like hbr
                split at h
                · rename_i he
                  have he : e = true := he
                  split at h
                  · rename_i hc
                    rw [Bool.and_eq_true] at hc
                    obtain ⟨hg, hmay⟩ := hc
                    rw [bind_some] at h
                    obtain ⟨⟨l, t⟩, hl, h⟩ := h
                    rw [bind_some] at h
                    obtain ⟨s2, h2, h⟩ := h
                    simp only [Option.some.injEq, Prod.mk.injEq] at h; obtain ⟨rfl, rfl⟩ := h
                    have hobl : (s1.and (p ∧ o + sLen + n ≤ l.length)).obl := by
                      obtain ⟨h', rfl, _⟩ := setOb_get h2; exact ho
                    obtain ⟨o1, hp, hle⟩ := hobl
                    obtain ⟨_, e0⟩ := kb o1
                    have hroom : sLen + n ≤ sCap := by rw [he] at e0; simpa using e0
                    obtain ⟨e1, e2⟩ := src hp
                    obtain ⟨hbE', _⟩ := blockI_spec hl
                    by_cases hn0 : n = 0
                    · subst hn0
                      have hL : L = [] := List.eq_nil_of_length_eq_zero e2
                      subst hL
                      have happ : appendIn (lowE s) i.size sLen sCap 0 (some ⟨b, o, g⟩) x = some (.slice (some ⟨b, o, g⟩) (sLen + 0) sCap, lowE s) := by
                        unfold appendIn; rw [hsz, e1]; rfl
                      obtain ⟨v', w', g0, g1, g2, g3⟩ := appendIn_sound (ty := ty) happ trivial hsE hbE hxE hab hst hi hxt hxd hm hroom h0 h1
                      obtain ⟨h', rfl, hget⟩ := setOb_get h2
                      refine low_out ⟨v', w', ρ, g0, g1, g2, g3⟩ ⟨lk.next, lk.roB, lk.ro, lk.hid, fun m o' hm' => ?_⟩ fun m hmm => ?_
                      · rw [hget] at hm'
                        by_cases hmb : m = b
                        · subst hmb
                          rw [if_pos rfl] at hm'
                          cases hm'
                          refine ⟨_, hbE', ?_⟩
                          have : layI l (o + sLen) [] = l := by simp [layI]
                          rw [this]; exact ints_sub _ _ _ _
                        · rw [if_neg hmb] at hm'
                          exact (back_sub (lk.trans (and_like _ _))).ob m o' hm'
                      · show h'.get m = _
                        rw [hget, if_neg (may_ne hmay hmm)]
                        show s1.heap.get m = _
                        rw [lk.heap]
                    · obtain ⟨s1E, q1, q2, q3, q4, q5⟩ := setOb_low (p := some (.cells (.lit ((layI l (o + sLen) L).map (Value.int k))) t)) (lk.trans (and_like _ _)) h2 (fun o' he' => by cases he'; exact ⟨_, rfl, ints_sub _ _ _ _⟩)
                      have happ : appendIn (lowE s) i.size sLen sCap n (some ⟨b, o, g⟩) x = some (.slice (some ⟨b, o, g⟩) (sLen + n) sCap, s1E) := by
                        unfold appendIn; rw [hsz, e1]
                        simp only [Option.bind_some]
                        rw [if_neg (by cases L with | nil => exact absurd e2.symm hn0 | cons _ _ => simp), if_pos hg]
                        unfold storeAll
                        rw [if_pos ⟨hmay, ints_one _ _⟩, hbE']
                        simp only [Cells.write, List.length_map, Nat.mul_one]
                        rw [if_pos (by omega), putL_map _ _ _ _ (by omega)]
                        simp only [Option.bind_some]
                        rw [q1]; rfl
                      obtain ⟨v', w', g0, g1, g2, g3⟩ := appendIn_sound (ty := ty) happ q3 hsE hbE hxE hab hst hi hxt hxd hm hroom h0 h1
                      exact low_out ⟨v', w', ρ, g0, g1, g2, g3⟩ q2 fun m hmm => q5 m (may_ne hmay hmm)
                  · simp only [Option.some.injEq, Prod.mk.injEq] at h; obtain ⟨rfl, rfl⟩ := h
                    obtain ⟨o1, hp, rfl⟩ := ho
                    obtain ⟨_, e0⟩ := kb o1
                    have hroom : sLen + 0 ≤ sCap := by rw [he] at e0; simpa using e0
                    obtain ⟨e1, e2⟩ := src hp
                    have hL : L = [] := List.eq_nil_of_length_eq_zero e2
                    subst hL
                    have happ : appendIn (lowE s) i.size sLen sCap 0 (some ⟨b, o, g⟩) x = some (.slice (some ⟨b, o, g⟩) (sLen + 0) sCap, lowE s) := by
                      unfold appendIn; rw [hsz, e1]; rfl
                    obtain ⟨v', w', g0, g1, g2, g3⟩ := appendIn_sound (ty := ty) happ trivial hsE hbE hxE hab hst hi hxt hxd hm hroom h0 h1
                    exact low_out ⟨v', w', ρ, g0, g1, g2, g3⟩ (back_sub (lk.trans (and_like _ _))) fun m _ => by
                      show s1.heap.get m = _; rw [lk.heap]
                · rename_i he
                  have he : e = false := by simpa using he
                  rw [bind_some] at h
                  obtain ⟨⟨l, t⟩, hl, h⟩ := h
                  obtain ⟨hbE', _⟩ := blockI_spec hl
                  split at h
                  · obtain ⟨sE', q1, q2, q3, q4, q5⟩ := softNew_low (back_sub (lk.trans (and_like _ _))) ⟨trivial, rfl⟩ h
                    obtain ⟨o1, hp, hle, hb1, hb2⟩ := q5 ho
                    obtain ⟨_, e0⟩ := kb o1
                    have hroom : sCap < sLen + n := by rw [he] at e0; simpa using e0
                    obtain ⟨e1, e2⟩ := src hp
                    have hold : srcCells (lowE s) 1 sLen (.slice (some ⟨b, o, none⟩) sLen sCap) = some (((l.drop o).take sLen).map (Value.int k), lowE s) := by
                      simp only [srcCells, hbE']
                      by_cases hs0 : sLen = 0
                      · rw [if_pos hs0]; subst hs0; simp
                      · rw [if_neg hs0, if_neg (show ¬ isAbs none = true from by decide)]
                        simp only [Cells.readN, Nat.mul_one, List.length_map]
                        rw [if_pos hle]
                        simp [List.map_drop, List.map_take]
                    have happ : appendNew (lowE s) elem i.size sLen sCap n (some ⟨b, o, none⟩) x = some (v, sE') := by
                      unfold appendNew; rw [hsz, e1]
                      simp only [Option.bind_some]
                      rw [hold]
                      simp only [Option.bind_some]
                      rw [← List.map_append]; exact q1
                    obtain ⟨v', w', ρ', g0, g1, g2, g3⟩ := appendNew_sound (ty := ty) happ q3 hsE hbE hxE hab hst hi hz hzl c3 hxt hxd hm hroom hb1 hb2 h0 h1 hstr
                    exact low_out ⟨v', w', ρ', g0, g1, g2, g3⟩ q2 fun b hbm => by
                      rw [q4 b (by show b < s1.next; rw [lk.next]; exact may_lt' hs.wf.1 hs.wf.2 hbm)]
                      show s1.heap.get b = _; rw [lk.heap]
                  · rename_i z'
                    split at h
                    · rename_i hc
                      rw [Bool.and_eq_true] at hc
                      obtain ⟨hz1, hmay⟩ := hc
                      have hz1 : z' = 1 := by simpa using hz1
                      subst hz1
                      rw [bind_some] at h
                      obtain ⟨s2, h2, h⟩ := h
                      obtain ⟨s1E, k1, k2, k3, k4, k5⟩ := setOb_low (p := none) (lk.trans (and_like _ _)) h2 (fun o' he' => by cases he')
                      have k6 : s1E.orc = [] := by
                        obtain ⟨h', rfl, _⟩ := setOb_get k1; rfl
                      obtain ⟨sE', q1, q2, q3, q4, q5⟩ := softNew_low k2 ⟨k3, k6⟩ h
                      have hobl : (s1.and (p ∧ o + sLen ≤ l.length ∧ (sLen + n) * i.bytes ≤ mostBytes ∧ sLen + n ≤ mostBytes)).obl := by
                        have := q5 ho
                        obtain ⟨h', rfl, _⟩ := setOb_get h2; exact this
                      obtain ⟨o1, hp, hle, hb1, hb2⟩ := hobl
                      obtain ⟨_, e0⟩ := kb o1
                      have hroom : sCap < sLen + n := by rw [he] at e0; simpa using e0
                      obtain ⟨e1, e2⟩ := src hp
                      have happ : appendNew (lowE s) elem i.size sLen sCap n (some ⟨b, o, some 1⟩) x = some (v, sE') := by
                        unfold appendNew; rw [hsz, e1]
                        simp only [Option.bind_some]
                        rw [if_pos ⟨by trivial, hmay, ints_one _ _⟩, hbE']
                        simp only [Cells.readN, Nat.mul_one, List.length_map]
                        rw [if_pos hle]
                        simp only [Option.bind_some]
                        rw [k1]
                        simp only [Option.bind_some]
                        rw [← q1, List.map_append, List.map_take, List.map_drop]
                      obtain ⟨v', w', ρ', g0, g1, g2, g3⟩ := appendNew_sound (ty := ty) happ q3 hsE hbE hxE hab hst hi hz hzl c3 hxt hxd hm hroom hb1 hb2 h0 h1 hstr
                      refine low_out ⟨v', w', ρ', g0, g1, g2, g3⟩ q2 fun b hbm => ?_
                      have hlt : b < s2.next := by
                        obtain ⟨h', rfl, _⟩ := setOb_get h2
                        show b < s1.next; rw [lk.next]; exact may_lt' hs.wf.1 hs.wf.2 hbm
                      rw [q4 b hlt]
                      exact k5 b (may_ne hmay hbm)
                    · cases h
          · cases h
        · cases h
      · cases h
    · cases h
  · cases h
theorem softAppend_sound {P : Program} {s s' : St} {argTypes : Array TypeId} {ty : TypeId} {vs vs' : List Value} {v : Value} {ρ : Nat → PB} {w : World} (h : softAppend P s argTypes vs = some (v, s')) (ho : s'.obl) (hs : Hs s ρ w) (hv : VL (Dm s) ρ vs vs') :
    ∃ v' w' ρ', (Builtin.append_ argTypes ty vs'.toArray).run P w = .ok v' w' ∧ VR (Dm s') ρ' v v' ∧ Hs s' ρ' w' ∧ Tra s s' ρ ρ' w w' := softApp0_sound (gd := fun _ => intsIn s vs) h ho hs hv
theorem softZeroes_obl {P : Program} {s s' : St} {ts : Array TypeId} {vs : List Value} {v : Value} (h : softZeroes P s ts vs = some (v, s')) : s'.obl → s.obl := by
  unfold softZeroes at h
  split at h
  · split at h
    · split at h
      · split at h
        · split at h
          · split at h
            · split at h
              · unfold softNew at h
                rw [bind_some] at h
                obtain ⟨⟨b, s2⟩, ha, h⟩ := h
                simp only [Option.some.injEq, Prod.mk.injEq] at h; obtain ⟨rfl, rfl⟩ := h
                exact fun k => ((St.alloc_next ha).2.2.2.2.1 ▸ k : _ ∧ _).1
              · cases h
            · cases h
          · cases h
        · cases h
      · cases h
    · cases h
  · cases h
theorem softZeroes_sound {P : Program} {s s' : St} {ts : Array TypeId} {ty : TypeId} {vs vs' : List Value} {v : Value} {ρ : Nat → PB} {w : World} (hz : ∀ t z, zeroOf P t = some z → Dflat z) (h : softZeroes P s ts vs = some (v, s')) (ho : s'.obl) (hs : Hs s ρ w)
    (hv : VL (Dm s) ρ vs vs') : ∃ v' w' ρ', (Builtin.append_ ts ty vs'.toArray).run P w = .ok v' w' ∧ VR (Dm s') ρ' v v' ∧ Hs s' ρ' w' ∧ Tra s s' ρ ρ' w w' := by
  have hsE : Hs (lowE s) ρ w := (lowE_sub s).hs hs
  have hvE : VL (Dm (lowE s)) ρ vs vs' := hv
  unfold softZeroes at h
  split at h
  · rename_i k0 l
    split at h
    · rename_i lo horc
      split at h
      · rename_i st xt h0 h1
        split at h
        · rename_i elem xk hst hxt
          split at h
          · rename_i i hi
            split at h
            · rename_i k z hzz
              split at h
              · rename_i hsz
                have lk : Like s (({ s with orc := lo } : St).and (1 ≤ IntKind.i64.wrap l ∧ (IntKind.i64.wrap l).toNat * i.bytes ≤ mostBytes ∧ (IntKind.i64.wrap l).toNat ≤ mostBytes)) := ⟨rfl, rfl, rfl, rfl, rfl⟩
                obtain ⟨sE', q1, q2, q3, q4, q5⟩ := softNew_low (back_sub lk) ⟨trivial, rfl⟩ h
                obtain ⟨_, c3, c4, c5⟩ := q5 ho
                have hd : doZeroes P (lowE s) ts [.slice none 0 0, .int k0 l] = some (v, sE') := by
                  unfold doZeroes
                  simp only [h0, h1, hst, hxt, hi, hzz]
                  rw [if_pos ⟨by rw [hsz]; rfl, by omega, c3, c4, c5⟩, hsz]
                  show newRowOf (lowE s) elem 1 (zeroRow [Value.int k z] _) _ = _
                  have e : zeroRow [Value.int k z] (IntKind.i64.wrap l).toNat = (List.replicate (IntKind.i64.wrap l).toNat z).map (Value.int k) := by
                    generalize (IntKind.i64.wrap l).toNat = n
                    induction n with
                    | zero => rfl
                    | succ n ih => simp only [zeroRow, ih]; rw [List.replicate_succ', List.map_append]; rfl
                  rw [e]; exact q1
                obtain ⟨v', w', ρ', g0, g1, g2, g3⟩ := doZeroes_sound (ty := ty) hz hd hsE hvE
                exact low_out ⟨v', w', ρ', g0, g1, g2, g3⟩ q2 fun b hbm => by
                  rw [q4 b (may_lt' hs.wf.1 hs.wf.2 hbm)]; rfl
              · cases h
            · cases h
          · cases h
        · cases h
      · cases h
    · cases h
  · cases h
theorem runEnd_spec (k : IntKind) : ∀ (l : List Value) (i j : Nat), i ≤ j → j < runK.runEnd k l i → ∃ x, l[j - i]? = some (.int k x)
  | [], i, j, h1, h2 => by simp [runK.runEnd] at h2; omega
  | v :: l, i, j, h1, h2 => by
    simp only [runK.runEnd] at h2
    split at h2
    · rename_i k' x
      split at h2
      · rename_i e
        subst e
        by_cases hj : j = i
        · subst hj; exact ⟨x, by simp⟩
        · obtain ⟨y, hy⟩ := runEnd_spec k' l (i + 1) j (by omega) h2
          refine ⟨y, ?_⟩
          rw [show j - i = (j - (i + 1)) + 1 by omega, List.getElem?_cons_succ]; exact hy
      · omega
    · omega
theorem runK_spec (k : IntKind) : ∀ (l : List Value) (i j : Nat), (runK k l i).1 ≤ j → j < (runK k l i).2 → i ≤ j ∧ ∃ x, l[j - i]? = some (.int k x)
  | [], i, j, h1, h2 => by simp [runK] at h1 h2; omega
  | v :: l, i, j, h1, h2 => by
    have up : (runK k l (i + 1)).1 ≤ j → j < (runK k l (i + 1)).2 → i ≤ j ∧ ∃ x, (v :: l)[j - i]? = some (.int k x) := fun h1 h2 => by
      obtain ⟨g, y, hy⟩ := runK_spec k l (i + 1) j h1 h2
      refine ⟨by omega, y, ?_⟩
      rw [show j - i = (j - (i + 1)) + 1 by omega, List.getElem?_cons_succ]; exact hy
    simp only [runK] at h1 h2
    split at h1
    · rename_i k' x
      simp only at h2
      split at h1
      · rename_i e
        subst e
        simp only [if_true] at h1 h2
        refine ⟨h1, ?_⟩
        by_cases hj : j = i
        · subst hj; exact ⟨x, by simp⟩
        · obtain ⟨y, hy⟩ := runEnd_spec k' l (i + 1) j (by omega) h2
          refine ⟨y, ?_⟩
          rw [show j - i = (j - (i + 1)) + 1 by omega, List.getElem?_cons_succ]; exact hy
      · rename_i e
        rw [if_neg e] at h2
        exact up h1 h2
    · rename_i hv
      cases v with
      | int k' x => exact absurd rfl (hv k' x)
      | _ => exact up h1 h2
theorem layV_get (k : IntKind) (lo hi o n : Nat) (r : List Int) : ∀ (l : List Value) (j i : Nat), (layV k lo hi o n r l j)[i]? = (l[i]?).map fun v => if lo ≤ j + i ∧ j + i < hi then (match v with
      | .int _ x => .int k (if o ≤ j + i ∧ j + i < o + n then r.getD (j + i - o) 0 else x)
      | v => v) else v
  | [], j, i => by simp [layV]
  | v :: l, j, 0 => by simp only [layV, List.getElem?_cons_zero, Option.map_some, Nat.add_zero]; rfl
  | v :: l, j, i + 1 => by
    simp only [layV, List.getElem?_cons_succ]
    rw [layV_get k lo hi o n r l (j + 1) i]
    rw [show j + 1 + i = j + (i + 1) by omega]
theorem layV_sub {k : IntKind} {o n : Nat} {r : List Int} {vs : List Value} (hr : r.length = n) (h1 : (runK k vs 0).1 ≤ o) (h2 : o + n ≤ (runK k vs 0).2) (t t' : TypeId) :
    ObSub (.cells (.lit (if n = 0 then vs else putL vs o (r.map (Value.int k)))) t) (.cells (.lit (layV k (runK k vs 0).1 (runK k vs 0).2 o n r vs 0)) t') := .cells fun i v hv => by
  simp only [Cells.get] at hv ⊢
  rw [layV_get] at hv
  simp only [Nat.zero_add] at hv
  have hlen : n ≠ 0 → o + n ≤ vs.length := fun h0 => by
    obtain ⟨_, x, hx⟩ := runK_spec k vs 0 (o + n - 1) (by omega) (by omega)
    have : o + n - 1 - 0 < vs.length := by
      rcases Nat.lt_or_ge (o + n - 1 - 0) vs.length with h | h
      · exact h
      · rw [List.getElem?_eq_none h] at hx; cases hx
    omega
  have hget : (if n = 0 then vs else putL vs o (r.map (Value.int k)))[i]? = if o ≤ i ∧ i < o + n then (r.map (Value.int k))[i - o]? else vs[i]? := by
    by_cases h0 : n = 0
    · rw [if_pos h0, if_neg (by omega)]
    · rw [if_neg h0, putL_get _ _ _ _ (by rw [List.length_map, hr]; exact hlen h0), List.length_map, hr]
  rw [hget]
  cases hx : vs[i]? with
  | none =>
    rw [hx] at hv; cases hv
  | some x =>
    rw [hx] at hv
    simp only [Option.map_some, Option.some.injEq] at hv
    by_cases hin : (runK k vs 0).1 ≤ i ∧ i < (runK k vs 0).2
    · rw [if_pos hin] at hv
      obtain ⟨_, y, hy⟩ := runK_spec k vs 0 i hin.1 hin.2
      rw [Nat.sub_zero, hx] at hy
      cases hy
      simp only at hv
      by_cases hio : o ≤ i ∧ i < o + n
      · rw [if_pos hio] at hv ⊢
        rw [List.getElem?_map, getD_some (by omega)]
        simp only [Option.map_some, Option.some.injEq]; exact hv
      · rw [if_neg hio] at hv ⊢
        rw [hv]
    · rw [if_neg hin] at hv
      rw [if_neg (by omega), hv]
theorem softCopy_obl {P : Program} {s s' : St} {ts : Array TypeId} {vs : List Value} {v : Value} (h : softCopy P s ts vs = some (v, s')) : s'.obl → s.obl := by
  have hset : ∀ {s1 s' : St} {b : Nat} {o : Option Ob}, s1.setOb b o = some s' → s'.obl → s1.obl := fun {s1 s' b o} h => by
    obtain ⟨h', rfl, _⟩ := setOb_get h
    exact id
  unfold softCopy at h
  split at h
  · split at h
    · cases h
    split at h
    · split at h
      · split at h
        · split at h
          · rw [bind_some] at h
            obtain ⟨r, _, h⟩ := h
            split at h
            · split at h
              · split at h
                · rw [bind_some] at h
                  obtain ⟨s1, h1, h⟩ := h
                  simp only [Option.some.injEq, Prod.mk.injEq] at h; obtain ⟨_, rfl⟩ := h
                  exact fun k => (hset h1 k).1
                · cases h
              · rw [bind_some] at h
                obtain ⟨s1, h1, h⟩ := h
                simp only [Option.some.injEq, Prod.mk.injEq] at h; obtain ⟨_, rfl⟩ := h
                exact fun k => (hset h1 k).1
              · cases h
            · cases h
          · cases h
        · cases h
      · cases h
    · cases h
  · cases h
theorem softCopy_sound {P : Program} {s s' : St} {argTypes : Array TypeId} {ty : TypeId} {vs vs' : List Value} {v : Value} {ρ : Nat → PB} {w : World} (h : softCopy P s argTypes vs = some (v, s')) (ho : s'.obl) (hs : Hs s ρ w) (hv : VL (Dm s) ρ vs vs') :
    ∃ v' w' ρ', (Builtin.copy_ argTypes ty vs'.toArray).run P w = .ok v' w' ∧ VR (Dm s') ρ' v v' ∧ Hs s' ρ' w' ∧ Tra s s' ρ ρ' w w' := by
  have hsE : Hs (lowE s) ρ w := (lowE_sub s).hs hs
  have hvE : VL (Dm (lowE s)) ρ vs vs' := hv
  unfold softCopy at h
  split at h
  · rename_i b o g dLen dCap src
    split at h
    · cases h
    rename_i hga
    split at h
    · split at h
      · rename_i dt hdt
        split at h
        · rename_i elem m hu hm
          split at h
          · rename_i k hsz hk
            rw [bind_some] at h
            obtain ⟨⟨L, p⟩, hsrc, h⟩ := h
            have src' : p → srcCells (lowE s) 1 (Nat.min m dLen) src = some (L.map (Value.int k), lowE s) ∧ L.length = Nat.min m dLen := fun hp => softSrc_src hsrc hp hm (Nat.min_le_left _ _)
            split at h
            · rename_i hmay
              -- what the other side does
              have main : ∀ (vl : List Value) (t : TypeId) (o' : Ob) (q : Prop), (lowE s).heap.get b = some (.cells (.lit vl) t) → p →
                  (Nat.min m dLen ≠ 0 → o + Nat.min m dLen ≤ vl.length) → ObSub (.cells (.lit (if Nat.min m dLen = 0 then vl else putL vl o (L.map (Value.int k)))) t) o' →
                  (s.and q).setOb b (some o') = some s' → v = goInt (Nat.min m dLen) →
                  ∃ v' w' ρ', (Builtin.copy_ argTypes ty vs'.toArray).run P w = .ok v' w' ∧ VR (Dm s') ρ' v v' ∧ Hs s' ρ' w' ∧ Tra s s' ρ ρ' w w' := by
                intro vl t o' q hb hp hle hsub h2 hval
                obtain ⟨e1, e2⟩ := src' hp
                obtain ⟨h', rfl, hget⟩ := setOb_get h2
                by_cases hn0 : Nat.min m dLen = 0
                · have hL : L = [] := List.eq_nil_of_length_eq_zero (by rw [e2, hn0])
                  subst hL
                  have hc : doCopy P (lowE s) argTypes [.slice (some ⟨b, o, g⟩) dLen dCap, src] = some (v, lowE s) := by
                    unfold doCopy
                    simp only [hdt, hu, hm, hsz]
                    rw [if_neg (show ¬ absB (some ⟨b, o, g⟩) = true from hga)]
                    rw [e1]
                    simp only [Option.bind_some, List.map_nil, List.isEmpty_nil, if_true, hval]
                  obtain ⟨v', w', g0, g1, g2, g3⟩ := doCopy_sound (ty := ty) hc trivial hsE hvE
                  rw [if_pos hn0] at hsub
                  refine low_out ⟨v', w', ρ, g0, g1, g2, g3⟩ ⟨rfl, rfl, rfl, rfl, fun x y hxy => ?_⟩ fun x hx => ?_
                  · have hxy : h'.get x = some y := hxy
                    rw [hget] at hxy
                    by_cases hxb : x = b
                    · subst hxb
                      rw [if_pos rfl] at hxy; cases hxy
                      exact ⟨_, hb, hsub⟩
                    · rw [if_neg hxb] at hxy
                      exact (back_sub (and_like s q)).ob x y hxy
                  · show h'.get x = _
                    rw [hget, if_neg (may_ne hmay hx)]; rfl
                · rw [if_neg hn0] at hsub
                  obtain ⟨s1E, q1, q2, q3, q4, q5⟩ := setOb_low (p := some (.cells (.lit (putL vl o (L.map (Value.int k)))) t)) (and_like s q) h2 (fun o2 he => by cases he; exact ⟨_, rfl, hsub⟩)
                  have hc : doCopy P (lowE s) argTypes [.slice (some ⟨b, o, g⟩) dLen dCap, src] = some (v, s1E) := by
                    unfold doCopy
                    simp only [hdt, hu, hm, hsz]
                    rw [if_neg (show ¬ absB (some ⟨b, o, g⟩) = true from hga)]
                    rw [e1]
                    simp only [Option.bind_some]
                    rw [if_neg (by cases L with | nil => exact absurd e2.symm hn0 | cons _ _ => simp)]
                    unfold storeAll
                    rw [if_pos ⟨hmay, ints_one _ _⟩, hb]
                    simp only [Cells.write, List.length_map, e2]
                    rw [if_pos (hle hn0)]
                    simp only [Option.bind_some]
                    rw [q1, hval]; rfl
                  obtain ⟨v', w', g0, g1, g2, g3⟩ := doCopy_sound (ty := ty) hc q3 hsE hvE
                  exact low_out ⟨v', w', ρ, g0, g1, g2, g3⟩ q2 fun x hx => q5 x (may_ne hmay hx)
              split at h
              · rename_i k' l t hb
                split at h
                · rename_i e
                  subst e
                  rw [bind_some] at h
                  obtain ⟨s1, h2, h⟩ := h
                  simp only [Option.some.injEq, Prod.mk.injEq] at h; obtain ⟨rfl, rfl⟩ := h
                  have hobl : (s.and (p ∧ o + Nat.min m dLen ≤ l.length)).obl := by
                    obtain ⟨h', rfl, _⟩ := setOb_get h2; exact ho
                  obtain ⟨_, hp, hle⟩ := hobl
                  obtain ⟨e1, e2⟩ := src' hp
                  refine main (l.map (Value.int k')) t _ _ (by simp only [lowE, Tr.get_map, hb]; rfl) hp (fun _ => by rw [List.length_map]; exact hle) ?_ h2 rfl
                  split
                  · rename_i h0
                    have hL : L = [] := List.eq_nil_of_length_eq_zero (by rw [e2, h0])
                    subst hL
                    have : layI l o [] = l := by simp [layI]
                    rw [this]; exact ints_sub _ _ _ _
                  · rw [putL_map _ _ _ _ (by rw [e2]; exact hle)]; exact ints_sub _ _ _ _
                · cases h
              · rename_i vl t hb
                rw [bind_some] at h
                obtain ⟨s1, h2, h⟩ := h
                simp only [Option.some.injEq, Prod.mk.injEq] at h; obtain ⟨rfl, rfl⟩ := h
                have hobl : (s.and (p ∧ (runK k vl 0).1 ≤ o ∧ o + Nat.min m dLen ≤ (runK k vl 0).2)).obl := by
                  obtain ⟨h', rfl, _⟩ := setOb_get h2; exact ho
                obtain ⟨_, hp, hl1, hl2⟩ := hobl
                obtain ⟨e1, e2⟩ := src' hp
                refine main vl t _ _ (by simp only [lowE, Tr.get_map, hb]; rfl) hp (fun h0 => ?_) (layV_sub e2 hl1 hl2 _ _) h2 rfl
                obtain ⟨_, x, hx⟩ := runK_spec k vl 0 (o + Nat.min m dLen - 1) (by omega) (by omega)
                rcases Nat.lt_or_ge (o + Nat.min m dLen - 1 - 0) vl.length with h | h
                · omega
                · rw [List.getElem?_eq_none h] at hx; cases hx
              · cases h
            · cases h
          · cases h
        · cases h
      · cases h
    · cases h
  · cases h
theorem softConvert_obl {P : Program} {s s' : St} {a b : TypeId} {x v : Value} (h : softConvert P s a b x = some (v, s')) : s'.obl → s.obl := by
  unfold softConvert at h
  split at h
  · split at h
    · split at h
      · split at h
        · rw [bind_some] at h
          obtain ⟨r, _, h⟩ := h
          simp only [Option.some.injEq, Prod.mk.injEq] at h; obtain ⟨_, rfl⟩ := h
          exact fun k => k.1
        · cases h
      · cases h
    split at h
    · split at h
      · split at h
        · simp only [Option.some.injEq, Prod.mk.injEq] at h; obtain ⟨_, rfl⟩ := h
          exact fun k => k.1
        · cases h
      · cases h
    · cases h
  · split at h
    · split at h
      · split at h
        · rw [bind_some] at h
          obtain ⟨⟨c, s2⟩, ha, h⟩ := h
          simp only [Option.some.injEq, Prod.mk.injEq] at h; obtain ⟨_, rfl⟩ := h
          exact fun k => (St.alloc_next ha).2.2.2.2.1 ▸ k
        · cases h
      · cases h
    · cases h
  · cases h
theorem bytesOfV_ints : ∀ (l : List Int), bytesOfV (l.map (Value.int .u8)) = some (l.map fun x => UInt8.ofNat x.toNat)
  | [] => rfl
  | x :: l => by
    simp only [List.map_cons, bytesOfV, byteOfV, Option.bind_some]
    rw [bytesOfV_ints l]; rfl
theorem softConvert_sound {P : Program} {s s' : St} {src dst : TypeId} {x x' v : Value} {ρ : Nat → PB} {w : World} (h : softConvert P s src dst x = some (v, s')) (ho : s'.obl) (hs : Hs s ρ w) (hx : VR (Dm s) ρ x x') :
    ∃ v' w' ρ', (convert src dst x').run P w = .ok v' w' ∧ VR (Dm s') ρ' v v' ∧ Hs s' ρ' w' ∧ Tra s s' ρ ρ' w w' := by
  have hsE : Hs (lowE s) ρ w := (lowE_sub s).hs hs
  have hxE : VR (Dm (lowE s)) ρ x x' := hx
  unfold softConvert at h
  split at h
  · rename_i b o g len cap
    split at h
    · rename_i hga
      split at h
      · rename_i e hus hud
        split at h
        · rename_i hue
          rw [bind_some] at h
          obtain ⟨⟨L, q⟩, hL, h⟩ := h
          simp only [Option.some.injEq, Prod.mk.injEq] at h; obtain ⟨rfl, rfl⟩ := h
          obtain ⟨_, hq⟩ := ho
          have hc : doConvert P (lowE s) src dst (.slice (some ⟨b, o, g⟩) len cap) = some (.string (bytesI L), lowE s) := by
            unfold doConvert
            simp only [hus, hud, hue]
            by_cases h0 : len = 0
            · rw [if_pos h0]; subst h0; rw [absI_nil hL]; rfl
            · obtain ⟨c, c1, c2, _⟩ := absI_src hL hq h0
              rw [if_neg h0, if_pos hga, c1]
              simp only [Option.bind_some]
              rw [c2]
              simp only [Option.bind_some]
              rw [bytesOfV_ints]; rfl
          exact low_out (doConvert_sound hc trivial hsE hxE) (back_sub (and_like _ _)) fun _ _ => rfl
        · cases h
      · cases h
    rename_i hga
    split at h
    · rename_i l t hb
      split at h
      · rename_i e hus hud
        split at h
        · rename_i hue
          simp only [Option.some.injEq, Prod.mk.injEq] at h; obtain ⟨rfl, rfl⟩ := h
          obtain ⟨_, hle⟩ := ho
          have hbE : (lowE s).heap.get b = some (.cells (.lit (l.map (Value.int .u8))) t) := by simp only [lowE, Tr.get_map, hb]; rfl
          have hc : doConvert P (lowE s) src dst (.slice (some ⟨b, o, g⟩) len cap) = some (.string (bytesI ((l.drop o).take len)), lowE s) := by
            unfold doConvert
            simp only [hus, hud, hue]
            by_cases h0 : len = 0
            · rw [if_pos h0]; subst h0; simp [bytesI]
            · rw [if_neg h0, if_neg hga, hbE]
              simp only [Cells.readN, List.length_map]
              rw [if_pos hle]
              simp only [Option.bind_some]
              rw [← List.map_drop, ← List.map_take, bytesOfV_ints]
              rfl
          exact low_out (doConvert_sound hc trivial hsE hxE) (back_sub (and_like _ _)) fun _ _ => rfl
        · cases h
      · cases h
    · cases h
  · rename_i t
    split at h
    · rename_i lo horc
      split at h
      · rename_i e hus hud
        split at h
        · rename_i hue
          obtain ⟨sE', q1, q2, q3, q4, q5⟩ := softNew_low (s1 := { s with orc := lo }) (sE := lowE s) (back_sub ⟨rfl, rfl, rfl, rfl, rfl⟩) ⟨trivial, rfl⟩ (show softNew { s with orc := lo } e .u8 (intsS t) t.size = some (v, s') from h)
          have hc : doConvert P (lowE s) src dst (.string t) = some (v, sE') := by
            unfold doConvert
            simp only [hus, hud, hue]
            rw [← q1]
            congr 1
            simp [intsS, Function.comp_def]
          refine low_out (doConvert_sound hc q3 hsE hxE) q2 fun b hb => ?_
          rw [q4 b (may_lt' hs.wf.1 hs.wf.2 hb)]
        · cases h
      · cases h
    · cases h
  · cases h
theorem zeroRow_one (k : IntKind) (z : Int) : ∀ n : Nat, zeroRow [Value.int k z] n = (List.replicate n z).map (Value.int k)
  | 0 => rfl
  | n + 1 => by
    simp only [zeroRow, zeroRow_one k z n]
    rw [List.replicate_succ', List.map_append]; rfl
theorem softClear_obl {P : Program} {s s' : St} {ts : Array TypeId} {vs : List Value} {v : Value} (h : softClear P s ts vs = some (v, s')) : s'.obl → s.obl := by
  unfold softClear at h
  split at h
  · split at h
    · cases h
    split at h
    · split at h
      · split at h
        · split at h
          · rw [bind_some] at h
            obtain ⟨s1, h1, h⟩ := h
            simp only [Option.some.injEq, Prod.mk.injEq] at h; obtain ⟨_, rfl⟩ := h
            obtain ⟨h', rfl, _⟩ := setOb_get h1
            exact fun k => k.1
          · cases h
        · cases h
      · cases h
    · cases h
  · cases h
theorem softClear_sound {P : Program} {s s' : St} {argTypes : Array TypeId} {ty : TypeId} {vs vs' : List Value} {v : Value} {ρ : Nat → PB} {w : World} (hz : ∀ t z, zeroOf P t = some z → Dflat z) (h : softClear P s argTypes vs = some (v, s')) (ho : s'.obl) (hs : Hs s ρ w) (hv : VL (Dm s) ρ vs vs') :
    ∃ v' w' ρ', (Builtin.clear_ argTypes ty vs'.toArray).run P w = .ok v' w' ∧ VR (Dm s') ρ' v v' ∧ Hs s' ρ' w' ∧ Tra s s' ρ ρ' w w' := by
  have hsE : Hs (lowE s) ρ w := (lowE_sub s).hs hs
  have hvE : VL (Dm (lowE s)) ρ vs vs' := hv
  unfold softClear at h
  split at h
  · rename_i b o g n c
    split at h
    · cases h
    rename_i hga
    split at h
    · rename_i k l t at0 hb h0
      split at h
      · rename_i elem hu
        split at h
        · rename_i k' z hzz
          split at h
          · rename_i hc
            obtain ⟨rfl, hmay⟩ := hc
            rw [bind_some] at h
            obtain ⟨s1, h2, h⟩ := h
            simp only [Option.some.injEq, Prod.mk.injEq] at h; obtain ⟨rfl, rfl⟩ := h
            have hobl : (s.and (o + n ≤ l.length)).obl := by
              obtain ⟨h', rfl, _⟩ := setOb_get h2; exact ho
            obtain ⟨_, hle⟩ := hobl
            have hbE : (lowE s).heap.get b = some (.cells (.lit (l.map (Value.int k'))) t) := by simp only [lowE, Tr.get_map, hb]; rfl
            by_cases hn0 : n = 0
            · subst hn0
              have hcl : doClear P (lowE s) argTypes [.slice (some ⟨b, o, g⟩) 0 c] = some (.tuple #[], lowE s) := by
                unfold doClear
                simp only [h0, hu, if_true]
                rw [if_neg hga]
              obtain ⟨v', w', g0, g1, g2, g3⟩ := clearCells (ty := ty) hz hcl trivial hsE hvE
              obtain ⟨h', rfl, hget⟩ := setOb_get h2
              refine low_out ⟨v', w', ρ, g0, g1, g2, g3⟩ ⟨rfl, rfl, rfl, rfl, fun x y hxy => ?_⟩ fun x hx => ?_
              · have hxy : h'.get x = some y := hxy
                rw [hget] at hxy
                by_cases hxb : x = b
                · subst hxb
                  rw [if_pos rfl] at hxy; cases hxy
                  refine ⟨_, hbE, ?_⟩
                  have : layI l o (List.replicate 0 z) = l := by simp [layI]
                  rw [this]; exact ints_sub _ _ _ _
                · rw [if_neg hxb] at hxy
                  exact (back_sub (and_like s _)).ob x y hxy
              · show h'.get x = _
                rw [hget, if_neg (may_ne hmay hx)]; rfl
            · obtain ⟨s1E, q1, q2, q3, q4, q5⟩ := setOb_low (p := some (.cells (.lit ((layI l o (List.replicate n z)).map (Value.int k'))) t)) (and_like s _) h2 (fun o2 he => by cases he; exact ⟨_, rfl, ints_sub _ _ _ _⟩)
              have hcl : doClear P (lowE s) argTypes [.slice (some ⟨b, o, g⟩) n c] = some (.tuple #[], s1E) := by
                unfold doClear
                simp only [h0, hu]
                rw [if_neg hga]
                rw [if_neg hn0]
                simp only [hzz]
                have ez : (Builtin.zeroCells (Value.int k' z).cells n).toList = (List.replicate n z).map (Value.int k') := by
                  rw [zeroCells_row (by simp [Value.cells])]
                  show zeroRow [Value.int k' z] n = _
                  exact zeroRow_one k' z n
                rw [ez]
                unfold storeAll
                rw [if_pos ⟨hmay, ints_one _ _⟩, hbE]
                simp only [Cells.write, List.length_map, List.length_replicate]
                rw [if_pos hle, putL_map _ _ _ _ (by simpa using hle)]
                simp only [Option.bind_some]
                rw [q1]; rfl
              obtain ⟨v', w', g0, g1, g2, g3⟩ := clearCells (ty := ty) hz hcl q3 hsE hvE
              exact low_out ⟨v', w', ρ, g0, g1, g2, g3⟩ q2 fun x hx => q5 x (may_ne hmay hx)
          · cases h
        · cases h
      · cases h
    · cases h
  · cases h
end Go.Cln
