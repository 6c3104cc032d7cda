/- A determinate reading of Go's code: regions whose order is drawn: begin, end, and any order between. -/
import Derived.Test.YtpfmilkddapfiaaClnP22
namespace Go.Cln
set_option linter.unusedVariables false
set_option linter.unusedSimpArgs false
set_option linter.deprecated false
section
variable {P : Program} {K : Given} {ih : Orc} {ops : Array Oper} {b : Array Nat} {s : St} {M : List Made} {ρ0 : Nat → PB} {w0 : World} {a0 : Act}
theorem Inv.start (hs : Hs s ρ0 w0) {S : Nat → Bool} (hS : ∀ i, S i = false) : Inv P K ih ops b s M ρ0 w0 a0 S ρ0 (fun _ => undef) w0 a0 := by
  have hc : ∀ x, curO s S M x = s.heap.get x ∧ curD s S M x = Dm s := fun x => by
    have := curO_skip (s := s) (S := S) (x := x) (r := []) (newer := M) fun k _ h => by rw [hS] at h; cases h
    simpa [curO, curD] using this
  constructor
  · intro m _ h; rw [hS] at h; cases h
  · rfl
  · intro m _ h; rw [hS] at h; cases h
  · exact fun _ _ => rfl
  · rfl
  · intro m _ h; rw [hS] at h; cases h
  · intro x o hx; rw [(hc x).1] at hx; rw [(hc x).2]; exact (hs.ob x o hx).2
  · intro x y o o' hx hy hk he; rw [(hc x).1] at hx; rw [(hc y).1] at hy; exact hs.inj x y o o' hx hy hk he
  · intro x y o o' B hx hB hy hk; rw [(hc x).1] at hx; rw [(hc y).1] at hy; exact hs.far x y o o' B hx hB hy hk
  · exact fun _ _ => rfl
  · rfl
  · rfl
  · rfl
  · exact Nat.le_refl _
  · exact fun _ _ _ => rfl
  · intro x o hx hm; rw [(hc x).1] at hx; exact .inr ⟨x, o, hx, hm, rfl⟩
  · intro _ _ m _ h; rw [hS] at h; cases h
theorem Inv.done (sh : Shape P K ih ops b s M) (hs : Hs s ρ0 w0) (ht : VL (Dm s) ρ0 s.tmps a0.tmps.toList) (hd : a0.defers = marksOf ρ0 s.defers) (hm : ∀ d ∈ s.defers, d < s.next)
    {S : Nat → Bool} {ρ : Nat → PB} {vals : Nat → Value} {w : World} {a : Act} (I : Inv P K ih ops b s M ρ0 w0 a0 S ρ vals w a) (hall : ∀ m ∈ M, S m.idx = true)
    {s' : St} (e1 : s'.tmps = putVals (fun _ => true) s.tmps M.reverse) (e2 : s'.defers = s.defers) (e3 : s'.roB = s.roB) (e4 : s'.ro = s.ro) (e5 : s'.hid = s.hid) (e6 : s'.next = curN s M) (e7 : s'.heap = curH s M) :
    Rel s' ρ w a ∧ Tra s s' ρ0 ρ w0 w := by
  obtain ⟨le, lv⟩ := effs hs sh.log fun nw r k e hk => I.eff nw r k e (hall k (by rw [e]; simp)) hk
  have hcur : ∀ x, s'.heap.get x = curO s S M x := fun x => by
    rw [e7, curO_all le, (curO_agree (s := s) (S := S) (S' := fun _ => true) (x := x) (l := M) fun k hk _ => hall k hk).1]
  have hn := sh.log.curN_le
  have hdome : ∀ k ∈ M, ∀ y, Dome k y → Dm s' y := fun k hk y hy => by
    obtain ⟨nw, r, e⟩ := Shape.split hk
    have hf := (Log.fact sh.log e).1
    have h1 := hy.2
    rw [hf.hid, Bool.or_eq_false_iff] at h1
    have := (Log.rest_hi sh.log k hk).1
    exact ⟨by rw [e6]; have := hy.1; omega, by rw [e5]; exact h1.1⟩
  have hdm : ∀ y, Dm s y → Dm s' y := fun y hy => ⟨by rw [e6]; have := hy.1; omega, by rw [e5]; exact hy.2⟩
  have hcd : ∀ x y, curD s S M x y → Dm s' y := fun x y hy => by
    rcases curD_cases (s := s) (S := S) (x := x) M with h | ⟨k, hk, _, _, h⟩
    · rw [h] at hy; exact hdm y hy
    · rw [h] at hy; exact hdome k hk y hy
  have hmay : ∀ x, s'.may x = s.may x := may_of e3 e4
  refine ⟨⟨⟨⟨fun x o hx => ?_, fun x y o o' hx hy hk he => I.inj x y o o' (by rw [← hcur]; exact hx) (by rw [← hcur]; exact hy) (by rw [e3] at hk; exact hk) he, fun x y o o' B hx hB hy hk => I.far x y o o' B (by rw [← hcur]; exact hx) hB (by rw [← hcur]; exact hy) (by rw [e3] at hk; exact hk)⟩, fun x hx => ?_, ?_⟩, ?_, ?_, ?_⟩, ?_⟩
  · have h1 := lv x o (by rw [← e7]; exact hx)
    rw [hcur] at hx
    rw [e3]
    exact ⟨⟨by rw [e6]; exact h1.1, by rw [e5]; exact h1.2⟩, (I.ob x o hx).mono (hcd x) (fun _ _ => rfl)⟩
  · rw [e5]; exact hs.hid x (by rw [e6] at hx; omega)
  · have := hs.wf
    rw [e3, e4, e6]
    exact ⟨by omega, fun x hx => by have := this.2 x hx; omega⟩
  · have h1 : VL (Dm s') ρ s'.tmps (putP (fun _ => true) vals a0.tmps.toList M.reverse) := by
      rw [e1]
      exact putV_VL _ _ _ (ht.mono hdm fun y hy => I.ext y hy.1) fun k hk _ => (I.vals k (List.mem_reverse.1 hk) (hall k (List.mem_reverse.1 hk))).mono (hdome k (List.mem_reverse.1 hk)) (fun _ _ => rfl)
    have h2 : putP (fun _ => true) vals a0.tmps.toList M.reverse = a.tmps.toList := by
      apply List.ext_getElem?
      intro t
      by_cases hlen : t < a0.tmps.toList.length
      · by_cases hk : ∃ k ∈ M, k.dst = some t
        · obtain ⟨k, hk, hd⟩ := hk
          rw [I.at_ k hk (hall k hk) t hd hlen, putP_at _ _ t (vals k.idx) _ _ ⟨k, by simp [hk], rfl, hd⟩ (fun k' hk' _ hd' => by rw [sh.dsts k' k t (List.mem_reverse.1 hk') hk hd' hd]) hlen]
        · rw [putP_other _ _ t _ _ (fun k hk' _ hd => hk ⟨k, List.mem_reverse.1 hk', hd⟩), I.off t fun k hkM _ hd => hk ⟨k, hkM, hd⟩]
      · rw [List.getElem?_eq_none (by rw [putP_length]; omega), List.getElem?_eq_none (by rw [I.len]; omega)]
    rw [← h2]; exact h1
  · rw [I.defers, hd, e2]; exact (marksOf_ext hm I.ext).symm
  · rw [e2, e6]; exact fun d hd => by have := hm d hd; omega
  · refine ⟨by rw [e6]; exact hn, I.ext, I.os, I.tape, I.output, I.size, I.frame, fun x o hx hmx => I.own x o (by rw [← hcur]; exact hx) (by rw [← hmay]; exact hmx), e3, e4, e5, fun x hx => ?_⟩
    rw [hcur]
    have := curO_skip (s := s) (S := S) (x := x) (r := []) (newer := M) fun k hk _ => by
      cases hc : touch s k x with
      | false => rfl
      | true =>
        exfalso
        rcases touch_iff.1 hc with c | ⟨_, _, _, _, c5⟩
        · have h1 := (Log.rest_hi sh.log k hk).2
          have hwf := hs.wf
          have : s.may x = true := by
            simp only [St.may, Bool.and_eq_true, decide_eq_true_eq, Bool.not_eq_true', List.contains_eq_mem, decide_eq_false_iff_not]
            exact ⟨by omega, fun hc => by have := hwf.2 x hc; omega⟩
          rw [hx] at this; cases this
        · rw [hx] at c5; cases c5
    simpa [curO] using this.1
end
def unl (f : Nat → Bool) : Nat → Nat
  | 0 => 0
  | n + 1 => unl f n + if f n = true then 0 else 1
theorem unl_zero {f : Nat → Bool} : ∀ {n : Nat}, unl f n = 0 → ∀ i, i < n → f i = true
  | n + 1, h, i, hi => by
    simp only [unl] at h
    by_cases hn : f n = true
    · rw [if_pos hn] at h
      rcases Nat.lt_or_ge i n with h' | h'
      · exact unl_zero (by omega) i h'
      · have : i = n := by omega
        subst this; exact hn
    · rw [if_neg hn] at h; omega
theorem unl_congr {f g : Nat → Bool} : ∀ {n : Nat}, (∀ i, i < n → f i = g i) → unl f n = unl g n
  | 0, _ => rfl
  | n + 1, h => by simp only [unl]; rw [h n (by omega), unl_congr fun i hi => h i (by omega)]
theorem ins_ne {f : Nat → Bool} {i j : Nat} (h : j ≠ i) : ins f i j = f j := by simp [ins, h]
theorem unl_ins {f : Nat → Bool} {i : Nat} (hf : f i = false) : ∀ {n : Nat}, i < n → unl (ins f i) n + 1 = unl f n
  | n + 1, hi => by
    simp only [unl]
    rcases Nat.lt_or_ge i n with h' | h'
    · rw [ins_ne (by omega)]
      have := unl_ins hf h'
      omega
    · have e : i = n := by omega
      subst e
      have h1 : ins f i i = true := by simp [ins]
      have h2 : unl (ins f i) i = unl f i := unl_congr fun j hj => ins_ne (by omega)
      rw [if_pos h1, hf, h2]; simp
section
variable {P : Program} {K : Given} {ih : Orc} {ops : Array Oper} {b : Array Nat} {s : St} {M : List Made} {ρ0 : Nat → PB} {w0 : World} {a0 : Act}
def sof (listed : Array Bool) : Nat → Bool := fun j => listed.getD j false
theorem getD_lt {listed : Array Bool} {j : Nat} (h : j < listed.size) (c d : Bool) : listed.getD j c = listed.getD j d := by
  simp [Array.getD, h]
theorem sof_lt {listed : Array Bool} {j : Nat} (h : sof listed j = true) : j < listed.size := by
  rcases Nat.lt_or_ge j listed.size with h' | h'
  · exact h'
  · simp [sof, Array.getD, Nat.not_lt.2 h'] at h
theorem sof_set {listed : Array Bool} {i : Nat} (h : i < listed.size) : sof (listed.setIfInBounds i true) = ins (sof listed) i := by
  funext j
  simp only [sof, ins, Array.getD_eq_getD_getElem?, Array.getElem?_setIfInBounds]
  by_cases hj : i = j
  · subst hj; simp [h]
  · have : (j == i) = false := by simp; omega
    simp [hj, this]
theorem all_of_none {md : Region.Mode} {listed : Array Bool} (hsz : listed.size = ops.size) (hr : Region.ready md ops listed = []) : ∀ (l done : List Nat), orderOk md ops done l = true → (∀ d ∈ done, sof listed d = true) → ∀ i ∈ l, sof listed i = true
  | [], _, _, _, i, hi => by simp at hi
  | j :: l, done, h, hd, i, hi => by
    simp only [orderOk, Bool.and_eq_true] at h
    obtain ⟨⟨h1, h2⟩, h3⟩ := h
    have hj : sof listed j = true := by
      cases hj : sof listed j with
      | true => rfl
      | false =>
        exfalso
        split at h2
        · rename_i o ho
          have hlt : j < listed.size := by rw [hsz]; exact (Array.getElem?_eq_some_iff.1 ho).1
          have : j ∈ Region.ready md ops listed := mem_ready.2 ⟨by rw [getD_lt hlt true false]; exact hj, o, ho, fun e he hb => by
            have := (List.all_eq_true.1 h2) e (by simpa using he)
            rw [hb] at this
            simp only [Bool.not_true, Bool.false_or, List.contains_iff_mem] at this
            exact hd _ this⟩
          rw [hr] at this; simp at this
        · cases h2
    rcases List.mem_cons.1 hi with rfl | hi
    · exact hj
    · exact all_of_none hsz hr l (j :: done) h3 (fun d hd' => by rcases List.mem_cons.1 hd' with rfl | hd'; exact hj; exact hd d hd') i hi
theorem draw_any (G : PG P) (hi : OrcOk P ih) (sh : Shape P K ih ops b s M) (hs : Hs s ρ0 w0) (ht : VL (Dm s) ρ0 s.tmps a0.tmps.toList)
    (hM : ∀ i, i < ops.size → ∃ m ∈ M, m.idx = i) (hMlt : ∀ m ∈ M, m.idx < ops.size)
    (hp : ∀ i o, ops[i]? = some o → ∀ j, pastB b i j = true → ∃ e ∈ o.after.toList, Region.binds .any e = true ∧ (j = e.on ∨ pastB b e.on j = true))
    (hobl : ∀ m ∈ M, ∀ nw r, M = nw ++ m :: r → Fact P K ih ops b s m r)
    {md : Region.Mode} (hmd : ∀ e, Region.binds .any e = true → Region.binds md e = true) {l : List Nat} (hl : orderOk md ops [] l = true) (hcov : ∀ i, i < ops.size → i ∈ l)
    {F : Fence} (hF : ∃ rd ρ0, F = fenceOf rd ρ0) {n : Nat} {Q : Exit → Act → World → Prop}
    (hend : ∀ (S : Nat → Bool) (ρ : Nat → PB) (vals : Nat → Value) (w : World) (a : Act), Inv P K ih ops b s M ρ0 w0 a0 S ρ vals w a → (∀ m ∈ M, S m.idx = true) → Q .normal a w) :
    ∀ (fuel : Nat) (listed : Array Bool) (ρ : Nat → PB) (vals : Nat → Value) (w : World) (a : Act), Inv P K ih ops b s M ρ0 w0 a0 (sof listed) ρ vals w a → listed.size = ops.size → unl (sof listed) ops.size ≤ fuel →
      wpAnyIn F n P md ops Q fuel listed a w := by
  intro fuel
  induction fuel with
  | zero =>
    intro listed ρ vals w a I hsz hu
    have hall := unl_zero (Nat.le_zero.1 hu)
    refine ⟨List.eq_nil_iff_forall_not_mem.2 fun j hj => ?_, hend _ ρ vals w a I fun m hm => hall _ (hMlt m hm)⟩
    obtain ⟨h1, o, ho, _⟩ := mem_ready.1 hj
    have hlt : j < ops.size := (Array.getElem?_eq_some_iff.1 ho).1
    have := hall j hlt
    rw [getD_lt (by rw [hsz]; exact hlt) true false] at h1
    unfold sof at this
    rw [h1] at this; cases this
  | succ fuel ihf =>
    intro listed ρ vals w a I hsz hu
    refine ⟨fun hr => hend _ ρ vals w a I fun m hm => all_of_none hsz hr l [] hl (fun d hd => by simp at hd) _ (hcov _ (hMlt m hm)), fun i hir => ?_⟩
    obtain ⟨h1, o, ho, h2⟩ := mem_ready.1 hir
    have hlt : i < ops.size := (Array.getElem?_eq_some_iff.1 ho).1
    have hlt' : i < listed.size := by rw [hsz]; exact hlt
    rw [getD_lt hlt' true false] at h1
    obtain ⟨m, hm, rfl⟩ := hM i hlt
    obtain ⟨newer, rest, e⟩ := Shape.split hm
    obtain ⟨st, q, f1, f2, f3, f4, f5, f6, f7, f8⟩ := (hobl m hm newer rest e).ev
    have A : At P K ih ops b s M (sof listed) newer rest m st q := by
      refine ⟨sh, e, h1, fun j hj => ?_, I.closed, f1, f2, f3, f4, f5, f6, f7, f8⟩
      obtain ⟨ed, hed, hb, hj⟩ := hp _ o ho j hj
      have h3 : sof listed ed.on = true := h2 ed (by simpa using hed) (hmd ed hb)
      rcases hj with rfl | hj
      · exact h3
      · obtain ⟨k, hk, hke⟩ := hM ed.on (by rw [← hsz]; exact sof_lt h3)
        exact I.closed k hk (by rw [hke]; exact h3) j (by rw [hke]; exact hj)
    refine A.go I hs ht G hi hF fun v' ρ' w' g1 g2 g3 => ?_
    have I2 := A.step I hs ht g1 g2 g3
    rw [← sof_set hlt'] at I2
    refine ihf _ _ _ _ _ I2 (by simp [hsz]) ?_
    have := unl_ins (f := sof listed) (i := m.idx) h1 (n := ops.size) hlt
    rw [sof_set hlt']; omega
end
end Go.Cln
