/- A determinate reading of Go's code: regions whose order is drawn: an operation goes as the reading says. -/
import Derived.Test.YtpfmilkddapfiaaClnP20
namespace Go.Cln
set_option linter.unusedVariables false
set_option linter.unusedSimpArgs false
set_option linter.deprecated false
theorem SliceOk.noAbs {p : PB} {o c c' : Nat} {g : Option Nat} {a' : Addr} (h : SliceOk p o g c a' c') : isAbs g = false := by
  cases g with
  | none => rfl
  | some z =>
    have := (h.2.2 z rfl).2.2
    unfold isAbs
    rw [Bool.eq_false_iff]; intro e; have := Nat.le_of_ble_eq_true e; omega
theorem evD_dm {N : Nat → Prop} {ρ : Nat → PB} {s : St} {l' : List Value} {u : Operand} {x : Nat} (h : VL N ρ s.tmps l') (hb : blockOf (evD s u) = some x) : N x := by
  cases u with
  | tmp t =>
    simp only [evD, ev, getL_eq, Option.getD_some] at hb
    rw [List.getD_eq_getElem?_getD] at hb
    cases hv : s.tmps[t]? with
    | none => rw [hv] at hb; simp [undef, blockOf] at hb
    | some v =>
      rw [hv, Option.getD_some] at hb
      obtain ⟨w, _, hr⟩ := h.get hv
      cases hr with
      | same hf => 
        cases v <;> simp [blockOf] at hb <;> simp [flat0] at hf
        all_goals (split at hb <;> simp at hb <;> simp_all [flat0])
      | ptr hN => simp [blockOf, isAbs] at hb; subst hb; exact hN
      | slice hN _ hok =>
        simp only [blockOf, Option.some.injEq] at hb
        rw [if_neg (by rw [hok.noAbs]; exact Bool.false_ne_true)] at hb
        subst hb; exact hN
      | abs z hg => simp only [blockOf, Option.some.injEq] at hb; rw [if_pos hg] at hb; subst hb; exact z
      | absP z hg => simp only [blockOf, Option.some.injEq] at hb; rw [if_pos hg] at hb; subst hb; exact z
      | fn => simp [blockOf] at hb
      | yield => simp [blockOf] at hb
      | mapv hN => simp [blockOf] at hb; subst hb; exact hN
      | any => simp [blockOf] at hb
      | agg => simp [blockOf] at hb
      | tup => simp [blockOf] at hb
  | const v =>
    simp only [evD, ev] at hb
    split at hb
    · rename_i hf
      simp only [Option.getD_some] at hb
      exfalso
      cases v <;> simp [blockOf] at hb
      all_goals (split at hb <;> simp at hb <;> simp_all [flat, flat1, flat0])
    · simp [undef, blockOf] at hb
  | func f => simp [evD, ev, blockOf] at hb
  | global g => simp [evD, ev, undef, blockOf] at hb
theorem fullR_length (l : List Value) : ∀ ms : List Made, (fullR l ms).length = l.length
  | [] => rfl
  | m :: r => by
    simp only [fullR, setL_eq]
    cases m.dst with
    | none => exact fullR_length l r
    | some d => simpa using fullR_length l r
theorem fullR_at (l : List Value) : ∀ (ms : List Made) {k : Made} {t : Nat}, k ∈ ms → k.dst = some t → t < l.length → (∀ k' ∈ ms, k'.dst = some t → k' = k) → (fullR l ms)[t]? = some k.val
  | [], k, t, hk, _, _, _ => by simp at hk
  | m :: r, k, t, hk, hd, hl, hu => by
    simp only [fullR, setL_eq]
    by_cases hm : m.dst = some t
    · have := hu m (by simp) hm
      subst this
      rw [hm]
      simp only
      rw [List.getElem?_set_self (by rw [fullR_length]; exact hl)]
    · have hkr : k ∈ r := by
        rcases List.mem_cons.1 hk with e | h
        · subst e; exact absurd hd hm
        · exact h
      have ih := fullR_at l r hkr hd hl (fun k' hk' => hu k' (List.mem_cons_of_mem _ hk'))
      cases hmd : m.dst with
      | none => exact ih
      | some d =>
        simp only
        rw [List.getElem?_set_ne (by intro e; subst e; exact hm hmd)]
        exact ih
theorem setFrom_length (full l : List Value) : ∀ ts : List Nat, (setFrom full l ts).length = l.length
  | [] => rfl
  | t :: r => by simpa [setFrom, setL_eq] using setFrom_length full l r
theorem setFrom_other (full l : List Value) : ∀ {ts : List Nat} {t : Nat}, t ∉ ts → (setFrom full l ts)[t]? = l[t]?
  | [], t, _ => rfl
  | u :: r, t, h => by
    simp only [setFrom, setL_eq, getL_eq]
    rw [List.getElem?_set_ne (by intro e; subst e; simp at h)]
    exact setFrom_other full l (by intro h'; exact h (List.mem_cons_of_mem _ h'))
theorem setFrom_at (full l : List Value) : ∀ (ts : List Nat) {t : Nat}, t ∈ ts → t < l.length → (setFrom full l ts)[t]? = some (full.getD t undef)
  | [], t, h, _ => by simp at h
  | u :: r, t, h, hl => by
    simp only [setFrom, setL_eq, getL_eq]
    by_cases e : u = t
    · subst e
      rw [List.getElem?_set_self (by rw [setFrom_length]; exact hl)]
    · rw [List.getElem?_set_ne e]
      refine setFrom_at full l r ?_ hl
      rcases List.mem_cons.1 h with h | h
      · exact absurd h.symm e
      · exact h
theorem setFrom_VL {D : Nat → Prop} {ρ : Nat → PB} {full full' l l' : List Value} (h : VL D ρ l l') : ∀ {ts : List Nat}, (∀ t ∈ ts, VR D ρ (full.getD t undef) (full'.getD t undef)) → VL D ρ (setFrom full l ts) (setFrom full' l' ts)
  | [], _ => h
  | t :: r, hv => by
    simp only [setFrom, setL_eq, getL_eq]
    exact (setFrom_VL h (fun u hu => hv u (List.mem_cons_of_mem _ hu))).set _ (hv t (by simp))
section
variable {P : Program} {K : Given} {ih : Orc} {ops : Array Oper} {b : Array Nat} {s : St} {M : List Made} {ρ0 : Nat → PB} {w0 : World} {a0 : Act}
variable {S : Nat → Bool} {newer rest : List Made} {m : Made} {st q : St} {ρ : Nat → PB} {vals : Nat → Value} {w : World} {a : Act}
namespace At
theorem dm (A : At P K ih ops b s M S newer rest m st q) {y : Nat} (hy : Dm s y) : Dm st y := by
  refine ⟨?_, ?_⟩
  · rw [A.next]; have := A.fact.2.curN_le; have := A.fact.1.lo; have := hy.1; omega
  · rw [A.hid, A.fact.1.hid]
    simp only [Bool.or_eq_false_iff]
    refine ⟨hy.2, ?_⟩
    cases hh : hidBy (pastB b m.idx) rest y with
    | false => rfl
    | true =>
      exfalso
      obtain ⟨j, hj, _, h1, _⟩ := hidBy_true.1 hh
      have := (Log.rest_hi A.fact.2 j hj).2
      have := hy.1; omega
theorem mem (A : At P K ih ops b s M S newer rest m st q) : m ∈ M := by rw [A.e]; simp
theorem memR (A : At P K ih ops b s M S newer rest m st q) {k : Made} (hk : k ∈ rest) : k ∈ M := by rw [A.e]; simp [hk]
theorem lk_some (A : At P K ih ops b s M S newer rest m st q) {t : Nat} (h : t ∈ lk ops b m.idx) : ∃ k ∈ rest, pastB b m.idx k.idx = true ∧ k.dst = some t := by
  unfold lk at h
  split at h
  · rw [List.mem_filter] at h
    obtain ⟨_, h⟩ := h
    rw [List.any_eq_true] at h
    obtain ⟨j, _, h⟩ := h
    rw [Bool.and_eq_true] at h
    obtain ⟨k, hk, e⟩ := A.pastIn (j := j) h.1
    refine ⟨k, hk, by rw [e]; exact h.1, ?_⟩
    obtain ⟨n1, n2, e2⟩ := Shape.split hk
    have hf := (Log.fact (P := P) (K := K) (ih := ih) (ops := ops) (b := b) (s := s) (M := M) A.sh.log (newer := newer ++ m :: n1) (rest := n2) (m := k) (by rw [A.e, e2]; simp)).1.dst
    rw [hf, e]
    simpa using h.2
  · simp at h
theorem lk_mem (A : At P K ih ops b s M S newer rest m st q) {o : Oper} (ho : ops[m.idx]? = some o) {t : Nat} (ht : t ∈ o.looksAt ops) {k : Made} (hk : k ∈ rest) (hp : pastB b m.idx k.idx = true) (hd : k.dst = some t) : t ∈ lk ops b m.idx := by
  unfold lk
  rw [ho]
  simp only
  rw [List.mem_filter]
  refine ⟨ht, ?_⟩
  rw [List.any_eq_true]
  obtain ⟨n1, n2, e2⟩ := Shape.split hk
  have hf := (Log.fact (P := P) (K := K) (ih := ih) (ops := ops) (b := b) (s := s) (M := M) A.sh.log (newer := newer ++ m :: n1) (rest := n2) (m := k) (by rw [A.e, e2]; simp)).1.dst
  have hlt : k.idx < ops.size := by
    rcases Nat.lt_or_ge k.idx ops.size with h | h
    · exact h
    · rw [Array.getElem?_eq_none h] at hf; rw [hd] at hf; cases hf
  refine ⟨k.idx, List.mem_range.2 hlt, ?_⟩
  rw [Bool.and_eq_true]
  exact ⟨hp, by rw [← hf, hd]; simp⟩
theorem vl (A : At P K ih ops b s M S newer rest m st q) (I : Inv P K ih ops b s M ρ0 w0 a0 S ρ vals w a) (ht : VL (Dm s) ρ0 s.tmps a0.tmps.toList) :
    VL (Dm st) ρ st.tmps (setFrom a.tmps.toList a0.tmps.toList (lk ops b m.idx)) := by
  rw [A.tmps]
  refine setFrom_VL (ht.mono (fun y hy => A.dm hy) (fun y hy => I.ext y hy.1)) fun t htl => ?_
  obtain ⟨k, hk, hp, hd⟩ := A.lk_some htl
  by_cases hlen : t < s.tmps.length
  · have h1 : (fullR s.tmps rest).getD t undef = k.val := by
      rw [List.getD_eq_getElem?_getD, fullR_at s.tmps rest hk hd hlen (fun k' hk' hd' => A.sh.dsts k' k t (A.memR hk') (A.memR hk) hd' hd)]; rfl
    have h2 : a.tmps.toList.getD t undef = vals k.idx := by
      rw [List.getD_eq_getElem?_getD, I.at_ k (A.memR hk) (A.past _ hp) t hd (ht.1 ▸ hlen)]; rfl
    rw [h1, h2]
    exact (I.vals k (A.memR hk) (A.past _ hp)).mono (fun y hy => let h := A.sh.dome A.e hk hp hy; ⟨by rw [A.next]; exact h.1, by rw [A.hid]; exact h.2⟩) (fun _ _ => rfl)
  · rw [List.getD_eq_getElem?_getD, List.getD_eq_getElem?_getD, List.getElem?_eq_none (by rw [fullR_length]; omega), List.getElem?_eq_none (by rw [I.len, ← ht.1]; omega)]
    exact VR.undef
theorem agrees (A : At P K ih ops b s M S newer rest m st q) (I : Inv P K ih ops b s M ρ0 w0 a0 S ρ vals w a) {o : Oper} (ho : ops[m.idx]? = some o) {t : Nat} (ht : t ∈ o.looksAt ops) :
    a.tmps.toList[t]? = (setFrom a.tmps.toList a0.tmps.toList (lk ops b m.idx))[t]? := by
  by_cases hlen : t < a0.tmps.toList.length
  · by_cases hk : t ∈ lk ops b m.idx
    · rw [setFrom_at _ _ _ hk hlen]
      have hl : t < a.tmps.toList.length := by rw [I.len]; exact hlen
      rw [List.getD_eq_getElem?_getD, List.getElem?_eq_getElem hl]; rfl
    · rw [setFrom_other _ _ hk, I.off t fun k hkM hsk hd => ?_]
      rcases A.sh.looks m o t A.mem ho ht k hkM hd with h | h | h
      · subst h; rw [A.out] at hsk; cases hsk
      · obtain ⟨j, hj, he⟩ := A.pastIn h
        have := A.sh.uniq (A.memR hj) hkM he
        subst this; exact hk (A.lk_mem ho ht hj h hd)
      · have := A.closed k hkM hsk _ h; rw [A.out] at this; cases this
  · rw [List.getElem?_eq_none (by rw [I.len]; omega), List.getElem?_eq_none (by rw [setFrom_length]; omega)]
theorem holds (A : At P K ih ops b s M S newer rest m st q) (I : Inv P K ih ops b s M ρ0 w0 a0 S ρ vals w a) (hs : Hs s ρ0 w0) (ht : VL (Dm s) ρ0 s.tmps a0.tmps.toList) :
    Hs st ρ w ∧ ∀ (x : Nat) (o : Ob), st.heap.get x = some o → curO s S M x = some o := by
  have hvl := A.vl I ht
  have hd : ∀ (x : Nat) (o : Ob), st.heap.get x = some o → m.wr = false → st.hid x = false := fun x o hx hw => by
    obtain ⟨_, _, ⟨u, _, hu⟩, _⟩ := (A.non hw).2.2.2 x o hx
    exact (evD_dm hvl hu).2
  have hf : ∀ (x : Nat) (o : Ob), st.heap.get x = some o → curO s S M x = some o ∧ Dm st x ∧ (∀ y, curD s S M x y → Dm st y) := fun x o hx => A.finds hs (fun nw r k e => I.eff nw r k e) hx (hd x o hx)
  have hlo : s.next ≤ m.lo := by have := A.fact.2.curN_le; have := A.fact.1.lo; omega
  have hwf := hs.wf
  refine ⟨⟨⟨fun x o hx => ?_, fun x y o o' hx hy hk he => I.inj x y o o' (hf x o hx).1 (hf y o' hy).1 (by
    have hle : s.roB ≤ st.roB := by
      cases hw : m.wr with
      | true => rw [(A.wrt hw).1]; exact Nat.le_refl _
      | false => rw [(A.non hw).1]; exact Nat.le_trans hwf.1 hlo
    rcases hk with hk | hk
    · exact .inl (Nat.le_trans hle hk)
    · exact .inr (Nat.le_trans hle hk)) he, fun x y o o' B hx hB hy hk => I.far x y o o' B (hf x o hx).1 hB (hf y o' hy).1 (by
    have hle : s.roB ≤ st.roB := by
      cases hw : m.wr with
      | true => rw [(A.wrt hw).1]; exact Nat.le_refl _
      | false => rw [(A.non hw).1]; exact Nat.le_trans hwf.1 hlo
    exact Nat.le_trans hle hk)⟩, fun x hx => ?_, ?_⟩, fun x o hx => (hf x o hx).1⟩
  · obtain ⟨h1, h2, h3⟩ := hf x o hx
    refine ⟨h2, ((I.ob x o h1).mono h3 (fun _ _ => rfl)).congr (fun hm => ?_) (fun _ => rfl) (Nat.le_refl _) fun _ _ => rfl⟩
    cases hw : m.wr with
    | true => rw [(A.wrt hw).1] at hm; exact hm
    | false => rw [(A.non hw).1] at hm; have := h2.1; rw [A.next] at this; omega
  · rw [A.next] at hx
    rw [A.hid, A.fact.1.hid]
    simp only [Bool.or_eq_false_iff]
    refine ⟨hs.hid x (by omega), ?_⟩
    cases hh : hidBy (pastB b m.idx) rest x with
    | false => rfl
    | true =>
      exfalso
      obtain ⟨j, hj, _, _, h2⟩ := hidBy_true.1 hh
      have := (Log.rest_hi A.fact.2 j hj).1
      have := A.fact.1.lo; omega
  · rw [A.next]
    cases hw : m.wr with
    | true =>
      rw [(A.wrt hw).1, (A.wrt hw).2.1]
      refine ⟨by omega, fun x hx => ?_⟩
      rcases List.mem_append.1 hx with hx | hx
      · rw [A.fact.1.prot, hw, if_pos rfl] at hx
        obtain ⟨k, hk, hks⟩ := seenOf_inv hx
        obtain ⟨n1, n2, e2⟩ := Shape.split hk
        have hfk := (Log.fact A.sh.log (show M = (newer ++ m :: n1) ++ k :: n2 by rw [A.e, e2]; simp)).1
        have := hfk.seenlt x hks
        have := hfk.le
        have := (Log.rest_hi A.fact.2 k hk).1
        have := A.fact.1.lo; omega
      · have := hwf.2 x hx; omega
    | false =>
      rw [(A.non hw).1, (A.non hw).2.1]
      exact ⟨Nat.le_refl _, fun x hx => by have := hwf.2 x hx; omega⟩
theorem go (A : At P K ih ops b s M S newer rest m st q) (I : Inv P K ih ops b s M ρ0 w0 a0 S ρ vals w a) (hs : Hs s ρ0 w0) (ht : VL (Dm s) ρ0 s.tmps a0.tmps.toList)
    (G : PG P) (hi : OrcOk P ih) {F : Fence} (hF : ∃ rd ρ0, F = fenceOf rd ρ0) {n : Nat} {Kn : Act → World → Prop} {Q : Exit → Act → World → Prop}
    (hn : ∀ v' ρ' w', VR (Dm q) ρ' m.val v' → Hs q ρ' w' → Tra st q ρ ρ' w w' → Kn (a.put m.dst v') w') : wpOpIn F n P ops Q m.idx Kn a w := by
  have hvl := A.vl I ht
  have hst := (A.holds I hs ht).1
  have hrun := A.run
  unfold runVal at hrun
  unfold wpOpIn
  split at hrun
  · simp at hrun
  · rename_i o hop
    rw [hop]
    simp only
    have hdst : m.dst = o.dst := by rw [A.fact.1.dst, hop]; rfl
    rw [bind_some] at hrun
    obtain ⟨⟨bb, s1⟩, h1, hrun⟩ := hrun
    have hag := fun t (h : t ∈ o.looksAt ops) => A.agrees I hop h
    have hai : VL (Dm st) ρ st.tmps ({ a0 with tmps := (setFrom a.tmps.toList a0.tmps.toList (lk ops b m.idx)).toArray } : Act).tmps.toList := hvl
    obtain ⟨k1, k2, k3⟩ := wanted_sound h1 hai
    have hy : Region.wanted o (yielded ops a.tmps) = Region.wanted o (yielded ops (setFrom a.tmps.toList a0.tmps.toList (lk ops b m.idx)).toArray) := by
      unfold Region.wanted
      cases hg : o.guard with
      | none => rfl
      | some g =>
        obtain ⟨j, want⟩ := g
        simp only
        have : yielded ops a.tmps j = yielded ops (setFrom a.tmps.toList a0.tmps.toList (lk ops b m.idx)).toArray j := by
          unfold yielded
          cases hd : (ops[j]?).bind (·.dst) with
          | none => rfl
          | some t =>
            have := hag t (by simp [Oper.looksAt, hg, hd])
            simp only [Option.bind_some]
            rw [← Array.getElem?_toList, this]
            simp
        rw [this]
    rw [hy]
    split at hrun
    · rename_i hb
      have o1 : s1.obl := doOp_obl hi.toOrcObl hrun A.obl
      obtain ⟨_, e, ht1⟩ := k3 o1
      have hb' : bb = true := hb
      have e' : Region.wanted o (yielded ops (setFrom a.tmps.toList a0.tmps.toList (lk ops b m.idx)).toArray) = bb := e
      rw [e', if_pos hb']
      refine op_wp (a0 := { a0 with tmps := (setFrom a.tmps.toList a0.tmps.toList (lk ops b m.idx)).toArray }) G hi hF hrun A.obl (k1.holds hst) (by rw [k1.dm]; exact ht1) (fun x hx => ?_) fun v' ρ' w' g1 g2 g3 => ?_
      · cases x with
        | tmp t =>
          have := hag t (List.mem_append_left _ (List.mem_filterMap.2 ⟨.tmp t, by simpa using hx, rfl⟩))
          simp only [Act.eval]
          rw [Array.getD_eq_getD_getElem?, Array.getD_eq_getD_getElem?, ← Array.getElem?_toList, this]
          simp
        | _ => rfl
      · rw [← hdst]; exact hn v' ρ' w' g1 g2 (k1.thenTra g3)
    · rename_i hb
      simp only [Option.some.injEq, Prod.mk.injEq] at hrun
      obtain ⟨hv, rfl⟩ := hrun
      obtain ⟨_, e, ht1⟩ := k3 A.obl
      have hb' : bb = false := by simpa using hb
      have e' : Region.wanted o (yielded ops (setFrom a.tmps.toList a0.tmps.toList (lk ops b m.idx)).toArray) = bb := e
      rw [e', hb', if_neg (by simp)]
      obtain ⟨rd, ρ1, rfl⟩ := hF
      refine ⟨fun f _ => fenceOf_fn rd ρ1 f, ?_⟩
      rw [← hdst]
      exact hn undef ρ w (by rw [← hv]; exact VR.undef) (k1.holds hst) (k1.tra _ _)
end At
end
end Go.Cln
