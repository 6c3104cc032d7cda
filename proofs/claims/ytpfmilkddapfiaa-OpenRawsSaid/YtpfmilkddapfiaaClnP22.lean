/- A determinate reading of Go's code: regions whose order is drawn: what holds once an operation has gone. -/
import Derived.Test.YtpfmilkddapfiaaClnP21
namespace Go.Cln
set_option linter.unusedVariables false
set_option linter.unusedSimpArgs false
set_option linter.deprecated false
section
variable {P : Program} {K : Given} {ih : Orc} {ops : Array Oper} {b : Array Nat} {s : St} {M : List Made} {ρ0 : Nat → PB} {w0 : World} {a0 : Act}
variable {S : Nat → Bool} {newer rest : List Made} {m : Made} {st q : St} {ρ : Nat → PB} {vals : Nat → Value} {w : World} {a : Act}
namespace At
theorem eff (A : At P K ih ops b s M S newer rest m st q) (hs : Hs s ρ0 w0) (he : ∀ (nw r : List Made) (k : Made), M = nw ++ k :: r → S k.idx = true → k.wr = true → Eff s k r)
    (hw : m.wr = true) {ρ' : Nat → PB} {w w' : World} (hq : Hs q ρ' w') (ht : Tra st q ρ ρ' w w') : Eff s m rest := by
  obtain ⟨_, lv⟩ := A.live hs he (fun k hk h => A.older hk hw h)
  obtain ⟨r1, r2, r3, r4⟩ := A.wrt hw
  have hle := A.fact.1.le
  have hqn := A.qnext
  have hqh : q.hid = m.hid := ht.hid.trans A.hid
  have hmh : ∀ x, m.hid x = (s.hid x || hidBy (pastB b m.idx) rest x) := fun x => by rw [A.fact.1.hid]
  refine ⟨fun x o hx => ?_, fun x hx => ?_⟩
  · rw [r4 x] at hx
    split at hx
    · have := lv x o hx; exact ⟨by omega, this.2⟩
    · split at hx
      · have := lv x o hx; exact ⟨by omega, this.2⟩
      · have := (hq.ob x o hx).1
        refine ⟨by rw [← hqn]; exact this.1, ?_⟩
        have h2 := this.2
        rw [hqh, hmh, Bool.or_eq_false_iff] at h2
        exact h2.1
  · rw [r4 x]
    split
    · rfl
    · rename_i hp
      split
      · rfl
      · rename_i hh
        have hh : hidBy (pastB b m.idx) rest x = false := by simpa using hh
        have hnt : ¬ ((m.lo ≤ x ∧ x < m.hi) ∨ (m.wr = true ∧ x < m.lo ∧ m.hid x = false ∧ m.prot.contains x = false ∧ s.may x = true)) := fun h => by rw [touch_iff.2 h] at hx; cases hx
        have hpc : m.prot.contains x = false := by
          cases hc : m.prot.contains x with
          | false => rfl
          | true => exact absurd (List.contains_iff_mem.1 hc) hp
        have nolive : ∀ {h : Option Ob} {h' : Option Ob}, (∀ o, h = some o → False) → (∀ o, h' = some o → False) → h = h' := fun {h h'} h1 h2 => by
          cases h with
          | some o => exact (h1 o rfl).elim
          | none => cases h' with
            | some o => exact (h2 o rfl).elim
            | none => rfl
        by_cases hlo : x < m.lo
        · cases hsh : s.hid x with
          | true =>
            refine nolive (fun o hx => ?_) (fun o hx => ?_)
            · have h2 := (hq.ob x o hx).1.2
              rw [hqh, hmh, hsh] at h2; simp at h2
            · have := (lv x o hx).2; rw [hsh] at this; cases this
          | false =>
            have hm : s.may x = false := by
              cases hm : s.may x with
              | false => rfl
              | true => exact absurd (.inr ⟨hw, hlo, by rw [hmh, hsh, hh]; rfl, hpc, hm⟩) hnt
            have hsm : st.may x = false := by
              cases hsm : st.may x with
              | false => rfl
              | true =>
                exfalso
                simp only [St.may, r1, r2, Bool.and_eq_true, decide_eq_true_eq, Bool.not_eq_true', List.contains_eq_mem, decide_eq_false_iff_not, List.mem_append, not_or] at hsm
                have : s.may x = true := by
                  simp only [St.may, Bool.and_eq_true, decide_eq_true_eq, Bool.not_eq_true', List.contains_eq_mem, decide_eq_false_iff_not]
                  exact ⟨hsm.1, hsm.2.2⟩
                rw [hm] at this; cases this
            rw [ht.same x hsm, r3 x, if_neg (by rw [hh]; simp)]
        · have hhi : m.hi ≤ x := by
            rcases Nat.lt_or_ge x m.hi with h | h
            · exact absurd (.inl ⟨by omega, h⟩) hnt
            · exact h
          refine nolive (fun o hx => ?_) (fun o hx => ?_)
          · have := (hq.ob x o hx).1.1; omega
          · have := (lv x o hx).1; omega
theorem stMay (A : At P K ih ops b s M S newer rest m st q) {x : Nat} {o : Ob} (hs : Hs st ρ w) (hx : st.heap.get x = some o) (hm : st.may x = true) : s.may x = true ∧ touch s m x = true := by
  have hd := (hs.ob x o hx).1
  have hlt : x < m.lo := by rw [← A.next]; exact hd.1
  have hh : m.hid x = false := by rw [← A.hid]; exact hd.2
  cases hw : m.wr with
  | true =>
    obtain ⟨r1, r2, _, _⟩ := A.wrt hw
    simp only [St.may, r1, r2, Bool.and_eq_true, decide_eq_true_eq, Bool.not_eq_true', List.contains_eq_mem, decide_eq_false_iff_not, List.mem_append, not_or] at hm
    have h2 : s.may x = true := by
      simp only [St.may, Bool.and_eq_true, decide_eq_true_eq, Bool.not_eq_true', List.contains_eq_mem, decide_eq_false_iff_not]
      exact ⟨hm.1, hm.2.2⟩
    exact ⟨h2, touch_iff.2 (.inr ⟨hw, hlt, hh, by simp [hm.2.1], h2⟩)⟩
  | false =>
    exfalso
    simp only [St.may, (A.non hw).1, Bool.and_eq_true, decide_eq_true_eq] at hm
    omega
theorem touched (A : At P K ih ops b s M S newer rest m st q) (hs : Hs s ρ0 w0) (hst : Hs st ρ w) {ρ' : Nat → PB} {w' : World} (hq : Hs q ρ' w') (ht : Tra st q ρ ρ' w w') {x : Nat} (hx : touch s m x = true) :
    m.heap.get x = q.heap.get x ∧ q.may x = true ∧ (s.roB ≤ x → q.roB ≤ x) := by
  have hn : s.next ≤ m.lo := by have := A.fact.2.curN_le; have := A.fact.1.lo; omega
  have hmq : q.may x = st.may x := may_of ht.roB ht.ro x
  have hwf := hst.wf
  rw [A.next] at hwf
  rcases touch_iff.1 hx with h | ⟨h1, h2, h3, h4, h5⟩
  · have hmay : st.may x = true := by
      simp only [St.may, Bool.and_eq_true, decide_eq_true_eq, Bool.not_eq_true', List.contains_eq_mem, decide_eq_false_iff_not]
      exact ⟨by omega, fun hc => by have := hwf.2 x hc; omega⟩
    refine ⟨?_, by rw [hmq]; exact hmay, fun _ => by rw [ht.roB]; omega⟩
    cases hw : m.wr with
    | true =>
      obtain ⟨r1, r2, r3, r4⟩ := A.wrt hw
      rw [r4 x, if_neg, if_neg]
      · intro hh
        obtain ⟨j, hj, _, _, h2⟩ := hidBy_true.1 hh
        have := (Log.rest_hi A.fact.2 j hj).1
        have := A.fact.1.lo; omega
      · intro hp
        have := hwf.2 x (by rw [r2]; simp [hp]); omega
    | false =>
      rw [(A.non hw).2.2.1 x, if_pos h]
  · obtain ⟨r1, r2, r3, r4⟩ := A.wrt h1
    have hmay : st.may x = true := by
      simp only [St.may, Bool.and_eq_true, decide_eq_true_eq, Bool.not_eq_true', List.contains_eq_mem, decide_eq_false_iff_not] at h4 h5 ⊢
      rw [r1, r2]
      exact ⟨h5.1, fun hc => by rcases List.mem_append.1 hc with h | h; exact h4 h; exact h5.2 h⟩
    refine ⟨?_, by rw [hmq]; exact hmay, fun h => by rw [ht.roB, r1]; exact h⟩
    rw [r4 x, if_neg, if_neg]
    · intro hh
      rw [A.fact.1.hid] at h3
      simp only [Bool.or_eq_false_iff] at h3
      rw [h3.2] at hh; cases hh
    · intro hp; rw [List.contains_iff_mem.2 hp] at h4; cases h4
theorem step (A : At P K ih ops b s M S newer rest m st q) (I : Inv P K ih ops b s M ρ0 w0 a0 S ρ vals w a) (hs : Hs s ρ0 w0) (htt : VL (Dm s) ρ0 s.tmps a0.tmps.toList)
    {v' : Value} {ρ' : Nat → PB} {w' : World} (hv : VR (Dm q) ρ' m.val v') (hq : Hs q ρ' w') (ht : Tra st q ρ ρ' w w') :
    Inv P K ih ops b s M ρ0 w0 a0 (ins S m.idx) (fun x => if m.lo ≤ x ∧ x < m.hi then ρ' x else ρ x) (fun i => if i = m.idx then v' else vals i) w' (a.put m.dst v') := by
  obtain ⟨hst, hlive⟩ := A.holds I hs htt
  have hn : s.next ≤ m.lo := by have := A.fact.2.curN_le; have := A.fact.1.lo; omega
  have hle := A.fact.1.le
  have hqh : q.hid = m.hid := ht.hid.trans A.hid
  generalize hr : (fun x => if m.lo ≤ x ∧ x < m.hi then ρ' x else ρ x) = ρ2
  have rin : ∀ x, m.lo ≤ x → x < m.hi → ρ2 x = ρ' x := fun x h1 h2 => by rw [← hr]; simp [h1, h2]
  have rout : ∀ x, ¬ (m.lo ≤ x ∧ x < m.hi) → ρ2 x = ρ x := fun x h => by rw [← hr]; exact if_neg h
  have rdm : ∀ x, Dm q x → ρ2 x = ρ' x := fun x h => by
    by_cases hx : m.lo ≤ x ∧ x < m.hi
    · exact rin x hx.1 hx.2
    · rw [rout x hx]
      refine (ht.ext x ?_).symm
      rw [A.next]; have := h.1; rw [A.qnext] at this; omega
  have rold : ∀ x, x < s.next → ρ2 x = ρ x := fun x h => rout x (by omega)
  have rdome : ∀ k ∈ M, S k.idx = true → ∀ x, Dome k x → ρ2 x = ρ x := fun k hk hsk x hx => by
    refine rout x fun h => ?_
    rw [A.e] at hk
    rcases List.mem_append.1 hk with hk | hk
    · have := (A.above hk hsk).2.1 x h.1 h.2
      rw [hx.2] at this; cases this
    · rcases List.mem_cons.1 hk with rfl | hk
      · rw [A.out] at hsk; cases hsk
      · have := (Log.rest_hi A.fact.2 k hk).1
        have := A.fact.1.lo
        have := hx.1; omega
  have rcur : ∀ x y, curD s S M x y → ρ2 y = ρ y := fun x y hy => by
    rcases curD_cases (s := s) (S := S) (x := x) M with h | ⟨k, hk, hsk, _, h⟩
    · rw [h] at hy; exact rold y hy.1
    · rw [h] at hy; exact rdome k hk hsk y hy
  have hap := A.sh.apart A.e
  have hcur : ∀ x, curO s (ins S m.idx) M x = (if touch s m x = true then m.heap.get x else curO s S M x) ∧ curD s (ins S m.idx) M x = (if touch s m x = true then Dome m else curD s S M x) := fun x => by
    have := cur_put (s := s) (S := S) (x := x) (m := m) (rest := rest) A.out (newer := newer) hap.1 hap.2.1 (fun t k hk hsk => A.touch1 t hk hsk)
    rw [← A.e] at this; exact this
  have hne : ∀ k ∈ M, S k.idx = true → k.idx ≠ m.idx := fun k hk hsk he => by
    have := A.sh.uniq hk A.mem he
    subst this; rw [A.out] at hsk; cases hsk
  have hins : ∀ {k : Made}, k ∈ M → ins S m.idx k.idx = true → k = m ∨ S k.idx = true := fun {k} hk h => by
    simp only [ins, Bool.or_eq_true, beq_iff_eq] at h
    rcases h with h | h
    · exact .inl (A.sh.uniq hk A.mem h)
    · exact .inr h
  -- what is left alone: where it lies nothing has changed
  have notst : ∀ x o, curO s S M x = some o → touch s m x = false → o.soft = false → ∀ (y : Nat) (oy : Ob), st.heap.get y = some oy → st.may y = true → (ρ y).blk ≠ (ρ x).blk := fun x o hx hnt q y oy hy hmy he => by
    have hle : s.roB ≤ st.roB := by
      cases hw : m.wr with
      | true => rw [(A.wrt hw).1]; exact Nat.le_refl _
      | false => rw [(A.non hw).1]; have := A.fact.2.curN_le; have := A.fact.1.lo; have := hs.wf.1; omega
    have : y = x := by
      rcases I.inj y x oy o (hlive y oy hy) hx (.inl (Nat.le_trans hle (may_ro hmy))) he with h | h | h
      · exact h
      · rw [(hst.ob y oy hy).2.hard (may_ro hmy)] at h; cases h
      · rw [q] at h; cases h
    subst this
    rw [(A.stMay hst hy hmy).2] at hnt; cases hnt
  have untouched : ∀ x, touch s m x = false → ρ2 x = ρ x := fun x h => rout x fun hx => by rw [touch_iff.2 (.inl hx)] at h; cases h
  have qlive : ∀ x o, touch s m x = true → m.heap.get x = some o → q.heap.get x = some o ∧ Dm q x ∧ q.may x = true ∧ ρ2 x = ρ' x := fun x o hx h => by
    obtain ⟨h1, h2, h3⟩ := A.touched hs hst hq ht hx
    rw [h1] at h
    have hd := (hq.ob x o h).1
    exact ⟨h, hd, h2, rdm x hd⟩
  have meet : ∀ x y o o', touch s m x = true → m.heap.get x = some o → touch s m y = false → curO s S M y = some o' → o'.soft = false → (ρ2 x).blk ≠ (ρ2 y).blk := fun x y o o' hx ho hy ho' q he => by
    obtain ⟨h1, h2, h3, h4⟩ := qlive x o hx ho
    rw [h4, untouched y hy] at he
    rcases ht.own x o h1 h3 with h | ⟨b0, o0, hb0, hm0, h⟩
    · have := (I.ob y o' ho').lt q; omega
    · exact notst y o' ho' hy q b0 o0 hb0 hm0 (h.trans he)
  constructor
  · intro k hk h j hj
    rcases hins hk h with rfl | h
    · simp [ins, A.past j hj]
    · simp [ins, I.closed k hk h j hj]
  · cases hd : m.dst with
    | none => exact I.len
    | some d => rw [put_tmps]; simp [I.len]
  · intro k hk h d hd hlt
    rcases hins hk h with rfl | h
    · rw [hd, put_tmps]
      simp only [if_true]
      rw [List.getElem?_set_self (by rw [I.len]; exact hlt)]
    · have hkm := hne k hk h
      simp only [if_neg hkm]
      cases hmd : m.dst with
      | none => exact I.at_ k hk h d hd hlt
      | some d' =>
        have : d' ≠ d := fun e => hkm (by rw [A.sh.dsts k m d hk A.mem hd (by rw [hmd, e])])
        rw [put_tmps, List.getElem?_set_ne this]
        exact I.at_ k hk h d hd hlt
  · intro t h
    have h0 : a.tmps.toList[t]? = a0.tmps.toList[t]? := I.off t fun k hk hsk => h k hk (by simp [ins, hsk])
    cases hmd : m.dst with
    | none => exact h0
    | some d' =>
      have : d' ≠ t := fun e => h m A.mem (by simp [ins]) (by rw [hmd, e])
      rw [put_tmps, List.getElem?_set_ne this]; exact h0
  · rw [← I.defers]; cases m.dst <;> rfl
  · intro k hk h
    rcases hins hk h with rfl | h
    · simp only [if_true]
      exact hv.mono (fun y hy => ⟨by rw [← A.qnext]; exact hy.1, by rw [← hqh]; exact hy.2⟩) rdm
    · simp only [if_neg (hne k hk h)]
      exact (I.vals k hk h).mono (fun _ h => h) (rdome k hk h)
  · intro x o hx
    obtain ⟨c1, c2⟩ := hcur x
    rw [c1] at hx; rw [c2]
    split at hx
    · rename_i htx
      rw [if_pos htx]
      obtain ⟨h1, h2, h3, h4⟩ := qlive x o htx hx
      rw [h4]
      exact ((hq.ob x o h1).2.mono (fun y hy => ⟨by rw [← A.qnext]; exact hy.1, by rw [← hqh]; exact hy.2⟩) rdm).congr (A.touched hs hst hq ht htx).2.2 (fun _ => rfl) (Nat.le_refl _) fun _ _ => rfl
    · rename_i htx
      have htx : touch s m x = false := by simpa using htx
      rw [if_neg (by rw [htx]; simp), untouched x htx]
      have ho := I.ob x o hx
      exact (ho.mono (fun _ h => h) (rcur x)).congr id (fun q => ht.frame _ (ho.lt q) (notst x o hx htx q)) ht.size fun B hB => ht.frame B (ho.farLt hB) fun y oy hy hmy he => I.far x y o oy B hx hB (hlive y oy hy) (may_ro (A.stMay hst hy hmy).1) he
  · intro x y o o' hx hy hkk he
    rw [(hcur x).1] at hx
    rw [(hcur y).1] at hy
    split at hx
    · rename_i tx
      split at hy
      · rename_i ty
        obtain ⟨h1, h2, h3, h4⟩ := qlive x o tx hx
        obtain ⟨k1, k2, k3, k4⟩ := qlive y o' ty hy
        rw [h4, k4] at he
        exact hq.inj x y o o' h1 k1 (.inl (may_ro h3)) he
      · rename_i ty
        cases q : o'.soft with
        | true => exact .inr (.inr rfl)
        | false => exact absurd he (meet x y o o' tx hx (by simpa using ty) hy q)
    · rename_i tx
      split at hy
      · rename_i ty
        cases q : o.soft with
        | true => exact .inr (.inl rfl)
        | false => exact absurd he.symm (meet y x o' o ty hy (by simpa using tx) hx q)
      · rename_i ty
        rw [untouched x (by simpa using tx), untouched y (by simpa using ty)] at he
        exact I.inj x y o o' hx hy hkk he
  · intro x y o o' B hx hB hy hk
    rw [(hcur x).1] at hx
    rw [(hcur y).1] at hy
    split at hx
    · rename_i tx
      obtain ⟨h1, h2, h3, h4⟩ := qlive x o tx hx
      exact absurd hB ((hq.ob x o h1).2.noFar (may_ro h3))
    · split at hy
      · rename_i ty
        obtain ⟨h1, h2, h3, h4⟩ := qlive y o' ty hy
        rw [h4]
        intro he
        rcases ht.own y o' h1 h3 with h | ⟨b0, o0, hb0, hm0, h⟩
        · have := (I.ob x o hx).farLt hB; omega
        · exact I.far x b0 o o0 B hx hB (hlive b0 o0 hb0) (may_ro (A.stMay hst hb0 hm0).1) (h.trans he)
      · rename_i ty
        rw [untouched y (by simpa using ty)]
        exact I.far x y o o' B hx hB hy hk
  · exact fun x hx => (rold x hx).trans (I.ext x hx)
  · exact ht.os.trans I.os
  · exact ht.tape.trans I.tape
  · exact ht.output.trans I.output
  · exact Nat.le_trans I.size ht.size
  · intro k hk hno
    rw [← I.frame k hk hno]
    refine ht.frame k (Nat.lt_of_lt_of_le hk I.size) fun y oy hy hmy he => ?_
    rcases I.own y oy (hlive y oy hy) (A.stMay hst hy hmy).1 with h | ⟨z, oz, hz, hmz, h⟩
    · omega
    · exact hno z oz hz hmz (h.trans he)
  · intro x o hx hm
    rw [(hcur x).1] at hx
    split at hx
    · rename_i tx
      obtain ⟨h1, h2, h3, h4⟩ := qlive x o tx hx
      rw [h4]
      rcases ht.own x o h1 h3 with h | ⟨b0, o0, hb0, hm0, h⟩
      · exact .inl (Nat.le_trans I.size h)
      · rw [← h]
        exact I.own b0 o0 (hlive b0 o0 hb0) (A.stMay hst hb0 hm0).1
    · rename_i tx
      rw [untouched x (by simpa using tx)]
      exact I.own x o hx hm
  · intro nw r k e h hw
    rcases hins (by rw [e]; simp) h with rfl | h
    · have hr : r = rest := by
        have hn := A.sh.nodup
        have e2 := A.e.symm.trans e
        rcases List.append_eq_append_iff.1 e2 with ⟨l, l1, l2⟩ | ⟨l, l1, l2⟩
        · cases l with
          | nil => simp at l2; exact l2.symm
          | cons z l =>
            simp only [List.cons_append, List.cons.injEq] at l2
            exact absurd rfl (hap.2.1 k (by rw [l2.2]; simp))
        · cases l with
          | nil => simp at l2; exact l2
          | cons z l =>
            simp only [List.cons_append, List.cons.injEq] at l2
            exact absurd rfl (hap.1 k (by rw [l1, ← l2.1]; simp))
      subst hr
      exact A.eff hs (fun nw r k e => I.eff nw r k e) hw hq ht
    · exact I.eff nw r k e h hw
end At
end
end Go.Cln
