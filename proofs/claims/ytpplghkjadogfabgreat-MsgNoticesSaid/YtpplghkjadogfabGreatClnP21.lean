/- A determinate reading of Go's code: regions whose order is drawn: an operation goes as the reading says. -/
import Derived.Test.YtpplghkjadogfabGreatClnP20
namespace Go.Cln
set_option linter.unusedVariables false
set_option linter.unusedSimpArgs false
set_option linter.deprecated false

theorem evD_dm {N : Nat → Prop} {ρ : Nat → PB} {s : St} {l' : List Value} {u : Operand} {x : Nat} (h : VL N ρ s.tmps l') (hb : blockOf (evD s u) = some x) : N x := by
  cases u with
  | tmp t =>
    simp only [evD, ev, Option.getD_some] at hb
    rw [List.getD_eq_getElem?_getD] at hb
    cases hv : s.tmps[t]? with
    | none => rw [hv] at hb; simp [undef, blockOf] at hb
    | some v =>
      rw [hv, Option.getD_some] at hb
      obtain ⟨w, _, hr⟩ := h.get hv
      cases hr with
      | same hf => 
        cases v <;> simp [blockOf] at hb <;> simp [flat0] at hf
        all_goals (split at hb <;> simp at hb <;> simp_all [flat0])
      | ptr hN => simp [blockOf] at hb; subst hb; exact hN
      | slice hN => simp [blockOf] at hb; subst hb; exact hN
      | fn => simp [blockOf] at hb
      | yield => simp [blockOf] at hb
      | mapv hN => simp [blockOf] at hb; subst hb; exact hN
      | agg => simp [blockOf] at hb
      | tup => simp [blockOf] at hb
  | const v =>
    simp only [evD, ev] at hb
    split at hb
    · rename_i hf
      simp only [Option.getD_some] at hb
      exfalso
      cases v <;> simp [blockOf] at hb
      all_goals (split at hb <;> simp at hb <;> simp_all [flat, flat1, flat0])
    · simp [undef, blockOf] at hb
  | func f => simp [evD, ev, blockOf] at hb
  | global g => simp [evD, ev, undef, blockOf] at hb

section
variable {P : Program} {K : Given} {ih : Orc} {ops : Array Oper} {b : Array Nat} {s : St} {M : List Made} {ρ0 : Nat → PB} {w0 : World} {a0 : Act}
variable {S : Nat → Bool} {newer rest : List Made} {m : Made} {st q : St} {ρ : Nat → PB} {vals : Nat → Value} {w : World} {a : Act}

namespace At
theorem dm (A : At P K ih ops b s M S newer rest m st q) {y : Nat} (hy : Dm s y) : Dm st y := by
  refine ⟨?_, ?_⟩
  · rw [A.next]; have := A.fact.2.curN_le; have := A.fact.1.lo; have := hy.1; omega
  · rw [A.hid, A.fact.1.hid]
    simp only [Bool.or_eq_false_iff]
    refine ⟨hy.2, ?_⟩
    cases hh : hidBy (pastB b m.idx) rest y with
    | false => rfl
    | true =>
      exfalso
      obtain ⟨j, hj, _, h1, _⟩ := hidBy_true.1 hh
      have := (Log.rest_hi A.fact.2 j hj).2
      have := hy.1; omega
theorem mem (A : At P K ih ops b s M S newer rest m st q) : m ∈ M := by rw [A.e]; simp
theorem memR (A : At P K ih ops b s M S newer rest m st q) {k : Made} (hk : k ∈ rest) : k ∈ M := by rw [A.e]; simp [hk]

theorem vl (A : At P K ih ops b s M S newer rest m st q) (I : Inv P K ih ops b s M ρ0 w0 a0 S ρ vals w a) (ht : VL (Dm s) ρ0 s.tmps a0.tmps.toList) :
    VL (Dm st) ρ st.tmps (putP (pastB b m.idx) vals a0.tmps.toList rest.reverse) := by
  rw [A.tmps]
  refine putV_VL _ _ _ (ht.mono (fun y hy => A.dm hy) (fun y hy => I.ext y hy.1)) fun k hk hp => ?_
  have hk := List.mem_reverse.1 hk
  exact (I.vals k (A.memR hk) (A.past _ hp)).mono (fun y hy => let h := A.sh.dome A.e hk hp hy; ⟨by rw [A.next]; exact h.1, by rw [A.hid]; exact h.2⟩) (fun _ _ => rfl)

theorem agrees (A : At P K ih ops b s M S newer rest m st q) (I : Inv P K ih ops b s M ρ0 w0 a0 S ρ vals w a) {o : Oper} (ho : ops[m.idx]? = some o) {t : Nat} (ht : t ∈ o.looksAt ops) :
    a.tmps.toList[t]? = (putP (pastB b m.idx) vals a0.tmps.toList rest.reverse)[t]? := by
  by_cases hlen : t < a0.tmps.toList.length
  · by_cases hk : ∃ k ∈ rest, pastB b m.idx k.idx = true ∧ k.dst = some t
    · obtain ⟨k, hk, hp, hd⟩ := hk
      rw [I.at_ k (A.memR hk) (A.past _ hp) t hd hlen, putP_at _ _ t (vals k.idx) _ _ ⟨k, by simp [hk], hp, hd⟩ (fun k' hk' hp' hd' => by rw [A.sh.dsts k' k t (A.memR (List.mem_reverse.1 hk')) (A.memR hk) hd' hd]) hlen]
    · rw [putP_other _ _ t _ _ (fun k hk' hp hd => hk ⟨k, List.mem_reverse.1 hk', hp, hd⟩), I.off t fun k hkM hsk hd => ?_]
      rcases A.sh.looks m o t A.mem ho ht k hkM hd with h | h | h
      · subst h; rw [A.out] at hsk; cases hsk
      · obtain ⟨j, hj, he⟩ := A.pastIn h
        have := A.sh.uniq (A.memR hj) hkM he
        subst this; exact hk ⟨j, hj, h, hd⟩
      · have := A.closed k hkM hsk _ h; rw [A.out] at this; cases this
  · rw [List.getElem?_eq_none (by rw [I.len]; omega), List.getElem?_eq_none (by rw [putP_length]; omega)]

theorem holds (A : At P K ih ops b s M S newer rest m st q) (I : Inv P K ih ops b s M ρ0 w0 a0 S ρ vals w a) (hs : Hs s ρ0 w0) (ht : VL (Dm s) ρ0 s.tmps a0.tmps.toList) :
    Hs st ρ w ∧ ∀ (x : Nat) (o : Ob), st.heap.get x = some o → curO s S M x = some o := by
  have hvl := A.vl I ht
  have hd : ∀ (x : Nat) (o : Ob), st.heap.get x = some o → m.wr = false → st.hid x = false := fun x o hx hw => by
    obtain ⟨_, _, ⟨u, _, hu⟩, _⟩ := (A.non hw).2.2.2 x o hx
    exact (evD_dm hvl hu).2
  have hf : ∀ (x : Nat) (o : Ob), st.heap.get x = some o → curO s S M x = some o ∧ Dm st x ∧ (∀ y, curD s S M x y → Dm st y) := fun x o hx => A.finds hs (fun nw r k e => I.eff nw r k e) hx (hd x o hx)
  have hlo : s.next ≤ m.lo := by have := A.fact.2.curN_le; have := A.fact.1.lo; omega
  have hwf := hs.wf
  refine ⟨⟨⟨fun x o hx => ?_, fun x y o o' hx hy he => I.inj x y o o' (hf x o hx).1 (hf y o' hy).1 he⟩, fun x hx => ?_, ?_⟩, fun x o hx => (hf x o hx).1⟩
  · obtain ⟨h1, h2, h3⟩ := hf x o hx
    refine ⟨h2, ((I.ob x o h1).mono h3 (fun _ _ => rfl)).congr (fun hm => ?_) rfl⟩
    cases hw : m.wr with
    | true => rw [(A.wrt hw).1] at hm; exact hm
    | false => rw [(A.non hw).1] at hm; have := h2.1; rw [A.next] at this; omega
  · rw [A.next] at hx
    rw [A.hid, A.fact.1.hid]
    simp only [Bool.or_eq_false_iff]
    refine ⟨hs.hid x (by omega), ?_⟩
    cases hh : hidBy (pastB b m.idx) rest x with
    | false => rfl
    | true =>
      exfalso
      obtain ⟨j, hj, _, _, h2⟩ := hidBy_true.1 hh
      have := (Log.rest_hi A.fact.2 j hj).1
      have := A.fact.1.lo; omega
  · rw [A.next]
    cases hw : m.wr with
    | true =>
      rw [(A.wrt hw).1, (A.wrt hw).2.1]
      refine ⟨by omega, fun x hx => ?_⟩
      rcases List.mem_append.1 hx with hx | hx
      · rw [A.fact.1.prot, hw, if_pos rfl] at hx
        obtain ⟨k, hk, hks⟩ := seenOf_inv hx
        obtain ⟨n1, n2, e2⟩ := Shape.split hk
        have hfk := (Log.fact A.sh.log (show M = (newer ++ m :: n1) ++ k :: n2 by rw [A.e, e2]; simp)).1
        have := hfk.seenlt x hks
        have := hfk.le
        have := (Log.rest_hi A.fact.2 k hk).1
        have := A.fact.1.lo; omega
      · have := hwf.2 x hx; omega
    | false =>
      rw [(A.non hw).1, (A.non hw).2.1]
      exact ⟨Nat.le_refl _, fun x hx => by have := hwf.2 x hx; omega⟩

theorem go (A : At P K ih ops b s M S newer rest m st q) (I : Inv P K ih ops b s M ρ0 w0 a0 S ρ vals w a) (hs : Hs s ρ0 w0) (ht : VL (Dm s) ρ0 s.tmps a0.tmps.toList)
    (G : PG P) (hi : OrcOk P ih) {F : Fence} (hF : ∃ rd ρ0, F = fenceOf rd ρ0) {n : Nat} {Kn : Act → World → Prop} {Q : Exit → Act → World → Prop}
    (hn : ∀ v' ρ' w', VR (Dm q) ρ' m.val v' → Hs q ρ' w' → Tra st q ρ ρ' w w' → Kn (a.put m.dst v') w') : wpOpIn F n P ops Q m.idx Kn a w := by
  have hvl := A.vl I ht
  have hst := (A.holds I hs ht).1
  have hrun := A.run
  unfold runVal at hrun
  unfold wpOpIn
  split at hrun
  · simp at hrun
  · rename_i o hop
    rw [hop]
    simp only
    have hdst : m.dst = o.dst := by rw [A.fact.1.dst, hop]; rfl
    rw [bind_some] at hrun
    obtain ⟨⟨bb, s1⟩, h1, hrun⟩ := hrun
    have hag := fun t (h : t ∈ o.looksAt ops) => A.agrees I hop h
    have hai : VL (Dm st) ρ st.tmps ({ a0 with tmps := (putP (pastB b m.idx) vals a0.tmps.toList rest.reverse).toArray } : Act).tmps.toList := hvl
    obtain ⟨k1, k2, k3⟩ := wanted_sound h1 hai
    have hy : Region.wanted o (yielded ops a.tmps) = Region.wanted o (yielded ops (putP (pastB b m.idx) vals a0.tmps.toList rest.reverse).toArray) := by
      unfold Region.wanted
      cases hg : o.guard with
      | none => rfl
      | some g =>
        obtain ⟨j, want⟩ := g
        simp only
        have : yielded ops a.tmps j = yielded ops (putP (pastB b m.idx) vals a0.tmps.toList rest.reverse).toArray j := by
          unfold yielded
          cases hd : (ops[j]?).bind (·.dst) with
          | none => rfl
          | some t =>
            have := hag t (by simp [Oper.looksAt, hg, hd])
            simp only [Option.bind_some]
            rw [← Array.getElem?_toList, this]
            simp
        rw [this]
    rw [hy]
    split at hrun
    · rename_i hb
      have o1 : s1.obl := doOp_obl hi.toOrcObl hrun A.obl
      obtain ⟨_, e, ht1⟩ := k3 o1
      have hb' : bb = true := hb
      have e' : Region.wanted o (yielded ops (putP (pastB b m.idx) vals a0.tmps.toList rest.reverse).toArray) = bb := e
      rw [e', if_pos hb']
      refine op_wp (a0 := { a0 with tmps := (putP (pastB b m.idx) vals a0.tmps.toList rest.reverse).toArray }) G hi hF hrun A.obl (k1.holds hst) (by rw [k1.dm]; exact ht1) (fun x hx => ?_) fun v' ρ' w' g1 g2 g3 => ?_
      · cases x with
        | tmp t =>
          have := hag t (List.mem_append_left _ (List.mem_filterMap.2 ⟨.tmp t, by simpa using hx, rfl⟩))
          simp only [Act.eval]
          rw [Array.getD_eq_getD_getElem?, Array.getD_eq_getD_getElem?, ← Array.getElem?_toList, this]
          simp
        | _ => rfl
      · rw [← hdst]; exact hn v' ρ' w' g1 g2 (k1.thenTra g3)
    · rename_i hb
      simp only [Option.some.injEq, Prod.mk.injEq] at hrun
      obtain ⟨hv, rfl⟩ := hrun
      obtain ⟨_, e, ht1⟩ := k3 A.obl
      have hb' : bb = false := by simpa using hb
      have e' : Region.wanted o (yielded ops (putP (pastB b m.idx) vals a0.tmps.toList rest.reverse).toArray) = bb := e
      rw [e', hb', if_neg (by simp)]
      obtain ⟨rd, ρ1, rfl⟩ := hF
      refine ⟨fun f _ => fenceOf_fn rd ρ1 f, ?_⟩
      rw [← hdst]
      exact hn undef ρ w (by rw [← hv]; exact VR.undef) (k1.holds hst) (k1.tra _ _)
end At
end

end Go.Cln
