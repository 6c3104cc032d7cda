/- A determinate reading of Go's code: regions whose order is drawn: the checks, and the whole. -/
import Derived.Test.YtpfmilkddapfiaaClnP23
import Derived.Test.YtpfmilkddapfiaaClnP18
namespace Go.Cln
set_option linter.unusedVariables false
set_option linter.unusedSimpArgs false
set_option linter.deprecated false
theorem testBit_big {n k j : Nat} (h : n < 2 ^ k) (hj : k ≤ j) : n.testBit j = false :=
  Nat.testBit_lt_two_pow (Nat.lt_of_lt_of_le h (Nat.pow_le_pow_right (by omega) hj))
section
variable {P : Program} {K : Given} {ih : Orc} {ops : Array Oper} {b : Array Nat} {s : St} {M : List Made}
theorem past_lt (hp : pastOk ops b = true) {i j : Nat} (hi : i < ops.size) (h : pastB b i j = true) : j < ops.size ∧ ∃ o, ops[i]? = some o ∧ (∃ e ∈ o.after.toList, Region.binds .any e = true ∧ (j = e.on ∨ pastB b e.on j = true)) ∧ (b.getD j 0 ||| b.getD i 0) = b.getD i 0 := by
  have h1 := (List.all_eq_true.1 hp) i (List.mem_range.2 hi)
  split at h1
  · cases h1
  · rename_i o ho
    simp only [Bool.and_eq_true, decide_eq_true_eq] at h1
    obtain ⟨h1, h2⟩ := h1
    have hj : j < ops.size := by
      rcases Nat.lt_or_ge j ops.size with h' | h'
      · exact h'
      · unfold pastB at h; rw [testBit_big h2 h'] at h; cases h
    have h3 := (List.all_eq_true.1 h1) j (List.mem_range.2 hj)
    unfold pastB at h
    rw [h] at h3
    simp only [Bool.not_true, Bool.false_or, Bool.and_eq_true, beq_iff_eq] at h3
    refine ⟨hj, o, ho, ?_, h3.2⟩
    obtain ⟨e, he, hb⟩ := List.any_eq_true.1 h3.1
    simp only [Bool.and_eq_true, Bool.or_eq_true, beq_iff_eq] at hb
    exact ⟨e, he, hb.1, hb.2⟩
theorem order_nodup {md : Region.Mode} : ∀ {l done : List Nat}, orderOk md ops done l = true → l.Nodup ∧ ∀ i ∈ l, i ∉ done ∧ i < ops.size
  | [], _, _ => ⟨List.nodup_nil, fun i h => by simp at h⟩
  | i :: l, done, h => by
    simp only [orderOk, Bool.and_eq_true, Bool.not_eq_true', List.contains_eq_mem, decide_eq_false_iff_not] at h
    obtain ⟨⟨h1, h2⟩, h3⟩ := h
    obtain ⟨i1, i2⟩ := order_nodup h3
    refine ⟨List.nodup_cons.2 ⟨fun hm => (i2 i hm).1 (by simp), i1⟩, fun j hj => ?_⟩
    rcases List.mem_cons.1 hj with rfl | hj
    · refine ⟨h1, ?_⟩
      split at h2
      · rename_i o ho; exact (Array.getElem?_eq_some_iff.1 ho).1
      · cases h2
    · have := i2 j hj
      exact ⟨fun hd => this.1 (List.mem_cons_of_mem _ hd), this.2⟩
theorem order_back (hp : pastOk ops b = true) : ∀ {l done : List Nat}, orderOk .any ops done l = true → (∀ d ∈ done, ∀ j, pastB b d j = true → j ∈ done) → ∀ (pre post : List Nat) (i : Nat), l = pre ++ i :: post → ∀ j, pastB b i j = true → j ∈ pre ∨ j ∈ done
  | [], _, _, _, pre, post, i, e => by simp at e
  | x :: l, done, h, hd, pre, post, i, e => by
    have hlt := (order_nodup h).2 x (by simp)
    simp only [orderOk, Bool.and_eq_true, Bool.not_eq_true', List.contains_eq_mem, decide_eq_false_iff_not] at h
    obtain ⟨⟨h1, h2⟩, h3⟩ := h
    have hx : ∀ j, pastB b x j = true → j ∈ done := fun j hj => by
      obtain ⟨_, o, ho, ⟨e, he, hb, hc⟩, _⟩ := past_lt hp hlt.2 hj
      rw [ho] at h2
      have := (List.all_eq_true.1 h2) e he
      rw [hb] at this
      simp only [Bool.not_true, Bool.false_or, decide_eq_true_eq] at this
      rcases hc with rfl | hc
      · exact this
      · exact hd _ this j hc
    cases pre with
    | nil =>
      simp only [List.nil_append, List.cons.injEq] at e
      obtain ⟨rfl, _⟩ := e
      exact fun j hj => .inr (hx j hj)
    | cons y pre =>
      simp only [List.cons_append, List.cons.injEq] at e
      obtain ⟨rfl, e⟩ := e
      intro j hj
      have := order_back hp h3 (fun d hd' j hj => by
        rcases List.mem_cons.1 hd' with rfl | hd'
        · exact List.mem_cons_of_mem _ (hx j hj)
        · exact List.mem_cons_of_mem _ (hd d hd' j hj)) pre post i e j hj
      rcases this with h | h
      · exact .inl (List.mem_cons_of_mem _ h)
      · rcases List.mem_cons.1 h with rfl | h
        · exact .inl (by simp)
        · exact .inr h
theorem shape_of {l : List Nat} (hlog : Log P K ih ops b s M) (hidx : M.map (·.idx) = l.reverse) (hp : pastOk ops b = true) (hw : writersOk P ops b = true) (hd : dstsApart ops = true) (hk : looksOk ops b = true) (ho : orderOk .any ops [] l = true) :
    Shape P K ih ops b s M := by
  obtain ⟨nd, nlt⟩ := order_nodup ho
  have hmem : ∀ m ∈ M, m.idx ∈ l := fun m hm => by rw [← List.mem_reverse, ← hidx]; exact List.mem_map_of_mem hm
  have hlt : ∀ m ∈ M, m.idx < ops.size := fun m hm => (nlt _ (hmem m hm)).2
  have hnd : (M.map (·.idx)).Nodup := by rw [hidx]; exact (List.reverse_perm l).symm.nodup nd
  have uniq : ∀ m ∈ M, ∀ m' ∈ M, m.idx = m'.idx → m = m' := fun m h m' h' e => by
    obtain ⟨nw, rs, hM⟩ := List.append_of_mem h
    have hn := hnd
    rw [hM] at hn h'
    rw [List.map_append, List.nodup_append, List.map_cons, List.nodup_cons] at hn
    rcases List.mem_append.1 h' with h' | h'
    · exact absurd e.symm (hn.2.2 _ (List.mem_map_of_mem h') _ (by simp))
    · rcases List.mem_cons.1 h' with h' | h'
      · exact h'.symm
      · exact absurd (List.mem_map_of_mem (f := (·.idx)) h') (by rw [← e]; exact hn.2.1.1)
  have hfact : ∀ m ∈ M, ∃ r, Fact P K ih ops b s m r := fun m hm => by
    obtain ⟨nw, r, e⟩ := List.append_of_mem hm
    exact ⟨r, (Log.fact hlog e).1⟩
  refine ⟨hlog, hnd, fun newer rest m e j hj => ?_, fun i j k hi hij hjk => ?_, fun m m' hm hm' h h' => ?_, fun m m' t hm hm' h h' => ?_, fun m o t hm hop ht m' hm' h' => ?_⟩
  · have e2 : l = (rest.map (·.idx)).reverse ++ m.idx :: (newer.map (·.idx)).reverse := by
      rw [← List.reverse_reverse l, ← hidx, e]; simp
    rcases order_back hp ho (fun d hd => by simp at hd) _ _ _ e2 j hj with h | h
    · rw [List.mem_reverse, List.mem_map] at h; exact h
    · simp at h
  · obtain ⟨m, hm, rfl⟩ := hi
    obtain ⟨_, _, _, _, h⟩ := past_lt hp (hlt m hm) hij
    unfold pastB at hjk ⊢
    rw [← h, Nat.testBit_or, hjk]; rfl
  · obtain ⟨r, f⟩ := hfact m hm
    obtain ⟨r', f'⟩ := hfact m' hm'
    rw [f.kind] at h; rw [f'.kind] at h'
    have := (List.all_eq_true.1 hw) m.idx (List.mem_range.2 (hlt m hm))
    rw [h] at this
    simp only [Bool.not_true, Bool.false_or] at this
    have := (List.all_eq_true.1 this) m'.idx (List.mem_range.2 (hlt m' hm'))
    rw [h'] at this
    simp only [Bool.not_true, Bool.false_or, Bool.or_eq_true, beq_iff_eq] at this
    rcases this with (h | h) | h
    · exact .inl (uniq m hm m' hm' h)
    · exact .inr (.inl h)
    · exact .inr (.inr h)
  · obtain ⟨r, f⟩ := hfact m hm
    obtain ⟨r', f'⟩ := hfact m' hm'
    rw [f.dst] at h; rw [f'.dst] at h'
    have key : ∀ i j, i < ops.size → j < i → (ops[i]?).bind (·.dst) = some t → (ops[j]?).bind (·.dst) = some t → False := fun i j hi hj h1 h2 => by
      have := (List.all_eq_true.1 ((List.all_eq_true.1 hd) i (List.mem_range.2 hi))) j (List.mem_range.2 hj)
      rw [h1, h2] at this
      simp at this
    rcases Nat.lt_trichotomy m.idx m'.idx with hc | hc | hc
    · exact (key _ _ (hlt m' hm') hc h' h).elim
    · exact uniq m hm m' hm' hc
    · exact (key _ _ (hlt m hm) hc h h').elim
  · obtain ⟨r', f'⟩ := hfact m' hm'
    rw [f'.dst] at h'
    have := (List.all_eq_true.1 hk) m.idx (List.mem_range.2 (hlt m hm))
    rw [hop] at this
    have := (List.all_eq_true.1 ((List.all_eq_true.1 this) t ht)) m'.idx (List.mem_range.2 (hlt m' hm'))
    rw [h'] at this
    simp only [bne_self_eq_false, Bool.false_or, Bool.or_eq_true, beq_iff_eq] at this
    rcases this with (h | h) | h
    · exact .inl (uniq m' hm' m hm h.symm)
    · exact .inr (.inl h)
    · exact .inr (.inr h)
theorem binds_any (md : Region.Mode) (e : Edge) (h : Region.binds .any e = true) : Region.binds md e = true := by
  unfold Region.binds at *
  split <;> simp_all
theorem draw_ok (G : PG P) (hi : OrcOk P ih) : DrawOk P K ih := by
  intro ops s s' h
  unfold runDraw at h
  simp only at h
  split at h
  case isFalse => simp at h
  rename_i hc
  simp only [Bool.and_eq_true] at hc
  obtain ⟨⟨⟨⟨hp, hw⟩, hd⟩, hk⟩, hm⟩ := hc
  rw [bind_some] at h
  obtain ⟨g, hg, h⟩ := h
  simp only [Option.some.injEq] at h
  have hg0 : GrpOk s ⟨s, []⟩ := ⟨rfl, rfl, rfl, rfl, rfl, rfl, rfl⟩
  obtain ⟨g1, g2, g3⟩ := grpRun_log hi.toOrcObl hg0 hg
  subst h
  refine ⟨g1, fun ho id n rd ρ w a Q hr hq => ?_⟩
  obtain ⟨hlog, hidx⟩ := g3 ho trivial
  simp only [List.map_nil, List.append_nil] at hidx
  simp only [modesOk, Bool.and_eq_true] at hm
  obtain ⟨hany, hm⟩ := hm
  have goes : ∀ {md : Region.Mode} {l : List Nat}, goesOn md ops l = true → orderOk md ops [] l = true ∧ ∀ i, i < ops.size → i ∈ l := fun {md l} h => by
    simp only [goesOn, Bool.and_eq_true] at h
    exact ⟨h.2, fun i hi => by have := (List.all_eq_true.1 h.1) i (List.mem_range.2 hi); simpa using this⟩
  obtain ⟨ho1, hcov⟩ := goes hany
  have sh := shape_of hlog hidx hp hw hd hk ho1
  have hM : ∀ i, i < ops.size → ∃ m ∈ g.made, m.idx = i := fun i hi => by
    have : i ∈ g.made.map (·.idx) := by rw [hidx, List.mem_reverse]; exact hcov i hi
    exact List.mem_map.1 this
  have hMlt : ∀ m ∈ g.made, m.idx < ops.size := fun m hm => by
    have : m.idx ∈ (lateOrder P ops ops.size []).reverse := by rw [← hidx]; exact List.mem_map_of_mem hm
    exact ((order_nodup ho1).2 _ (List.mem_reverse.1 this)).2
  have hs1 : Hs s ρ { w with drawn := w.drawn + 1 } := hr.hs.drew _
  have main : ∀ {md : Region.Mode} {l : List Nat}, goesOn md ops l = true → ∀ t, wpOpsIn (fenceOf rd ρ) n P ops Q (Region.linearise md ops t) a { w with drawn := w.drawn + 1 } := fun {md l} hgo t => by
    obtain ⟨h1, h2⟩ := goes hgo
    refine wpAnyIn_sound ops.size t _ a _ ?_
    refine draw_any (b := Region.before ops) (s := s) (M := g.made) (ρ0 := ρ) (w0 := { w with drawn := w.drawn + 1 }) (a0 := a) G hi sh hs1 hr.tmps hM hMlt (fun i o ho j hj => ?_) (fun m hm nw r e => (Log.fact hlog e).1) (binds_any md) h1 h2 ⟨rd, ρ, rfl⟩
      (fun S ρ' vals w' a' I hall => ?_) ops.size _ ρ (fun _ => undef) _ a (Inv.start hs1 fun i => ?_) (by simp) ?_
    · have hlt : i < ops.size := (Array.getElem?_eq_some_iff.1 ho).1
      obtain ⟨_, o', ho', h, _⟩ := past_lt hp hlt hj
      rw [ho] at ho'; cases ho'; exact h
    · obtain ⟨r1, r2⟩ := Inv.done sh hs1 hr.tmps hr.defers hr.marks I hall (s' := { g.s with tmps := putVals (fun _ => true) g.s.tmps g.made.reverse }) (by rw [← g2.tmps]) g2.defers g2.roB g2.ro g2.hid g2.next g2.heap
      exact hq ρ' w' a' r1 ((Tra.drew s ρ w _).trans r2)
    · simp [sof, Array.getD]
    · have : ∀ (f : Nat → Bool) (n : Nat), unl f n ≤ n := fun f n => by
        induction n with
        | zero => exact Nat.le_refl _
        | succ n ih => simp only [unl]; split <;> omega
      exact this _ _
  refine wpIn_region_draw fun t => ?_
  unfold Region.schedule
  split
  · exact main hany t
  · rename_i hc
    have hdep : Region.departs ops = true := by
      simp only [Bool.or_eq_true, Bool.not_eq_true', not_or, Bool.not_eq_true, Bool.not_eq_false] at hc
      exact hc.2
    rw [hdep] at hm
    simp only [Bool.not_true, Bool.false_or, Bool.and_eq_true] at hm
    split
    · exact main hm.1 _
    · exact main hm.2 _
end
theorem mk_ok {P : Program} {K : Given} (G : PG P) (hK : GivenOk P K) (n : Nat) : OrcOk P (mk P K n) := mk_sound G hK (fun _ hi => draw_ok G hi) n
end Go.Cln
