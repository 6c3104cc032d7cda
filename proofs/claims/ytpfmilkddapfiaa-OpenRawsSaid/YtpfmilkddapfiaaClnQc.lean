/- Read off the code by the clean reading. -/
import Derived.Test.YtpfmilkddapfiaaClnQa
import Derived.IntWalk
import Derived.ChangeOld
import Derived.Lib.SmallJoins
set_option linter.unusedVariables false
set_option linter.unusedSimpArgs false
set_option linter.deprecated false
set_option maxRecDepth 100000
namespace Go.Cln
set_option linter.unusedVariables false
noncomputable section
def nm (σ : List Nat) (b : Nat) : Nat := match σ[b]? with
  | some x => x
  | none => b
def maskOb : Option Ob → Option Ob → Option Ob
  | some (.cells (.lit l1) t1), some (.cells (.lit l) t) => some (.cells (.lit (maskJ l1 l)) t)
  | some (.cells (.lit l1) t1), some (.cells (.ints k l) t) => match intsOf k l1 with
    | some r => some (.cells (.ints k r) t)
    | none => none
  | some (.cells c1 t1), some (.cells c t) => some (.cells c1 t)
  | some (.loop r1), some (.loop r) => some (.loop { r1 with tmps := maskD r1.tmps r.tmps })
  | o1, some _ => o1
  | _, none => none
def renOb (σ : Nat → Nat) : Ob → Ob
  | .cells (.lit l) t => .cells (.lit (l.map (ren σ))) t
  | .loop r => .loop { r with tmps := r.tmps.map (ren σ), defers := σ r.defers }
  | .map es k => .map (es.map (fun e => { e with val := ren σ e.val })) k
  | o => o
def okOb2 (s : St) : Option Ob → Bool
  | some (.cells (.lit l) _) => l.all (okV s)
  | some (.cells (.ints _ _) _) => true
  | some (.cells (.fam _ _) _) => false
  | some (.cells (.rows _ _ _) _) => false
  | some (.loop r) => r.tmps.all (okV s) && okB s r.defers
  | some .marks => true
  | some (.fam _) => okB s 0
  | some (.map es _) => es.all (fun e => okV s e.val)
  | none => true
theorem maskOb_v {s2 : St} {σ : Nat → Nat} {o1 : Option Ob} {o : Ob} (h : maskOb o1 (some o) = some (renOb σ o)) (hk : okOb2 s2 (some o) = true) : ∃ x, o1 = some x ∧ ObV s2 σ x o := by
  cases o1 with
  | none =>
    cases o with
    | cells c t => cases c <;> simp [maskOb] at h
    | _ => simp [maskOb] at h
  | some x =>
    refine ⟨x, rfl, ?_⟩
    cases o with
    | cells c t =>
      cases c with
      | lit l =>
        cases x with
        | cells c1 t1 =>
          cases c1 with
          | lit l1 =>
            simp only [maskOb, renOb, Option.some.injEq, Ob.cells.injEq, Cells.lit.injEq, and_true] at h
            exact ObV.lit h hk
          | _ => simp [maskOb, renOb] at h
        | _ => simp [maskOb, renOb] at h
      | ints k l =>
        cases x with
        | cells c1 t1 =>
          cases c1 with
          | lit l1 =>
            simp only [maskOb] at h
            split at h
            · rename_i r hr
              simp only [renOb, Option.some.injEq, Ob.cells.injEq, Cells.ints.injEq, true_and, and_true] at h
              subst h
              refine ObV.ints fun i v hv => ?_
              have e := intsOf_eq hr
              simp only [Cells.get] at hv ⊢
              rw [e, List.getElem?_map]
              refine ⟨hv, ?_⟩
              rw [Option.map_eq_some_iff] at hv
              obtain ⟨n, _, rfl⟩ := hv; rfl
            · cases h
          | ints k1 l1 =>
            simp only [maskOb, renOb, Option.some.injEq, Ob.cells.injEq, Cells.ints.injEq, and_true] at h
            obtain ⟨rfl, rfl⟩ := h
            refine ObV.ints fun i v hv => ⟨hv, ?_⟩
            simp only [Cells.get, Option.map_eq_some_iff] at hv
            obtain ⟨n, _, rfl⟩ := hv; rfl
          | _ => simp [maskOb, renOb] at h
        | _ => simp [maskOb, renOb] at h
      | fam n f => simp [okOb2] at hk
      | rows n w g => simp [okOb2] at hk
    | loop r =>
      cases x with
      | loop r1 =>
        simp only [maskOb, renOb, Option.some.injEq, Ob.loop.injEq] at h
        simp only [okOb2, Bool.and_eq_true] at hk
        obtain ⟨st, pe, tm, pa, as, bo, de⟩ := r
        obtain ⟨st1, pe1, tm1, pa1, as1, bo1, de1⟩ := r1
        simp only [CLoop.mk.injEq] at h
        obtain ⟨h1, h2, h3, h4, h5, h6, h7⟩ := h
        exact .loop h1 h2 h3 hk.1 h4 h5 h6 h7 hk.2
      | cells c t => simp [maskOb, renOb] at h
      | _ => simp [maskOb, renOb] at h
    | marks =>
      cases x with
      | marks => exact .marks
      | _ => simp [maskOb, renOb] at h
    | fam F =>
      cases x with
      | fam F1 =>
        simp only [maskOb, renOb, Option.some.injEq, Ob.fam.injEq] at h
        subst h
        exact .fam hk
      | _ => simp [maskOb, renOb] at h
    | map es k =>
      cases x with
      | map es1 k1 =>
        simp only [maskOb, renOb, Option.some.injEq, Ob.map.injEq] at h
        obtain ⟨h1, rfl⟩ := h
        exact .map h1 hk
      | _ => simp [maskOb, renOb] at h
structure Seen where
  next : Nat
  roB : Nat
  ro : List Nat
  hid : Nat → Bool
  defers : List Nat
  tmps : List Value
  obs : List (Option Ob)
  looked : List (Option Ob)
def seenIn (s1 s2 : St) (σ : List Nat) : Seen := ⟨s1.next, s1.roB, s1.ro, s1.hid, s1.defers, maskD s1.tmps s2.tmps, (List.range s2.next).map fun b => maskOb (s1.heap.get (nm σ b)) (s2.heap.get b), (List.range s2.roB).map s1.heap.get⟩
def seenAs (s2 : St) (σ : List Nat) (n1 : Nat) : Seen := ⟨n1, s2.roB, s2.ro, s2.hid, s2.defers.map (nm σ), s2.tmps.map (ren (nm σ)), (List.range s2.next).map fun b => (s2.heap.get b).map (renOb (nm σ)), (List.range s2.roB).map s2.heap.get⟩
def picOk (s0 s2 : St) (σ : List Nat) (n1 : Nat) : Bool :=
  decide (s0.next ≤ s2.next) && s2.tmps.all (okV s2) && (s2.defers.all fun d => decide (d < s2.next)) && ((List.range s2.next).all fun b => okOb2 s2 (s2.heap.get b) && okB s2 b) &&
  ((List.range s2.next).all fun b => if b < s0.next then nm σ b == b else decide (s0.next ≤ nm σ b)) && decide (σ.length ≤ s2.next) &&
  ((List.range s2.next).all fun b => (List.range b).all fun c => nm σ b != nm σ c) && decide (s0.roB = s2.roB) && s0.ro.isEmpty && decide (s2.next ≤ n1) && decide (s2.next ≤ 1000000)
theorem nm_hi {σ : List Nat} {b : Nat} (h : σ.length ≤ b) : nm σ b = b := by unfold nm; rw [List.getElem?_eq_none h]
theorem heap_lt {s2 : St} {f : Nat → Option Ob} {n : Nat} (hh : s2.heap = Tr.rebuild f n) (hn : n ≤ 1000000) {b : Nat} {o : Ob} (h : s2.heap.get b = some o) : b < n := by
  rw [hh] at h; exact (heap_at hn h).1
theorem View.std {s0 s1 s2 : St} {σ : List Nat} {f : Nat → Option Ob} {n1 : Nat} (hh : s2.heap = Tr.rebuild f s2.next) (hk : picOk s0 s2 σ n1 = true) (hs : seenIn s1 s2 σ = seenAs s2 σ n1) : View s0 s1 s2 (nm σ) := by
  simp only [picOk, Bool.and_eq_true, decide_eq_true_eq, List.all_eq_true, List.mem_range] at hk
  obtain ⟨⟨⟨⟨⟨⟨⟨⟨⟨⟨k1, k2⟩, k3⟩, k4⟩, k5⟩, k6⟩, k7⟩, k8⟩, k9⟩, k10⟩, hn⟩ := hk
  simp only [seenIn, seenAs, Seen.mk.injEq] at hs
  obtain ⟨s_1, s_2, s_3, s_4, s_5, s_6, s_7, s_8⟩ := hs
  have obs : ∀ b, b < s2.next → maskOb (s1.heap.get (nm σ b)) (s2.heap.get b) = (s2.heap.get b).map (renOb (nm σ)) := fun b hb => by
    have := congrArg (fun l => l[b]?) s_7
    simpa [List.getElem?_map, List.getElem?_range hb] using this
  have k9 : s0.ro = [] := by simpa using k9
  refine ⟨k1, fun b hb => ?_, fun b hb => ?_, s_2.symm, s_3.symm, s_4.symm, s_6, ?_, s_5, fun d hd => k3 d hd, fun b o hb => ?_, fun b b' o o' hb hb' e => ?_, fun b hb hm => ?_⟩
  · have := k5 b (by omega)
    rw [if_pos hb] at this; simpa using this
  · rcases Nat.lt_or_ge b s2.next with h | h
    · have := k5 b h
      rw [if_neg (by omega)] at this; simpa using this
    · rw [nm_hi (by omega)]; exact hb
  · rw [List.all_eq_true]; exact k2
  · have hlt := heap_lt hh hn hb
    obtain ⟨q1, q2⟩ := k4 b hlt
    have := obs b hlt
    rw [hb] at this q1
    obtain ⟨x, hx, hv⟩ := maskOb_v (σ := nm σ) this q1
    exact ⟨q2, x, hx, hv⟩
  · have h1 := heap_lt hh hn hb
    have h2 := heap_lt hh hn hb'
    rcases Nat.lt_trichotomy b b' with h | h | h
    · have := k7 b' h2 b h; simp [e] at this
    · exact h
    · have := k7 b h1 b' h; simp [e] at this
  · have hlt : b < s2.roB := by
      rcases Nat.lt_or_ge b s2.roB with h | h
      · exact h
      · unfold St.may at hm
        rw [k8, k9] at hm
        simp at hm; omega
    have := congrArg (fun l => l[b]?) s_8
    have := by simpa [List.getElem?_map, List.getElem?_range hlt] using this
    exact this.symm
theorem Step.std {P : Program} (G : PG P) {K : Given} (hK : GivenOk P K) {n : Nat} {f : FuncId} {rd : Option Nat} {s0 s s2 : St} {c : Code} {e : Exit} {p : Prop} {o : List (Option Bool)} {σ : List Nat} {g : Nat → Option Ob} {n1 : Nat}
    (hr : ((mk P K n).code f rd c { s with obl := True, orc := o }).map (fun r => (r.1, r.2.obl, seenIn r.2 s2 σ)) = some (e, p, seenAs s2 σ n1)) (hp : p) (hn : s0.next ≤ s.next)
    (hh : s2.heap = Tr.rebuild g s2.next) (hk : picOk s0 s2 σ n1 = true) : Step P rd s0 c s (fun e' s' => e' = e ∧ s' = s2) := by
  cases hc : (mk P K n).code f rd c { s with obl := True, orc := o } with
  | none => rw [hc] at hr; simp at hr
  | some r =>
    rw [hc] at hr
    simp only [Option.map_some, Option.some.injEq, Prod.mk.injEq] at hr
    obtain ⟨h1, h2, h3⟩ := hr
    refine Step.exec (s0 := s0) (s := s) (s2 := s2) (σ := nm σ) (n := n) (f := f) (K := K) (o := o) (p := p) (e := e) G hK (by rw [hc]; simp [h1, h2]) hp hn ?_
    rw [hc]
    exact View.std hh hk h3
structure Frm2 where
  J : List Nat
  ints : List (Nat × IntKind)
  JB : List (Nat × List Nat)
  drop : List Nat
def canonOb2 (a : Frm2) (b : Nat) (o : Ob) : Option Ob :=
  if a.drop.contains b then none else
  match a.ints.find? (fun x => x.1 == b) with
  | some (_, k) => match o with
    | .cells (.lit l) t => match intsOf k l with
      | some r => some (.cells (.ints k r) t)
      | none => some o
    | o => some o
  | none => some (canonOb ⟨[], [], a.JB⟩ b o)
def canon2 (a : Frm2) (s : St) : St :=
  { s with obl := True, orc := [], tmps := maskAt a.J 0 s.tmps, heap := Tr.rebuild (fun b => match s.heap.get b with
    | some o => if s.may b then canonOb2 a b o else some o
    | none => none) s.next }
theorem canonOb2_obR {a : Frm2} {b : Nat} {N : Nat → Prop} {ρ : Nat → PB} {may : Prop} {p : PB} {w : World} {o o' : Ob} (h : ObR N ρ may p w o) (e : canonOb2 a b o = some o') : ObR N ρ may p w o' := by
  unfold canonOb2 at e
  split at e
  · cases e
  · split at e
    · split at e
      · rename_i k _ l t
        split at e
        · rename_i r hr
          cases e
          obtain ⟨pc, ty, fr, h1, h2, h3, h4⟩ := h
          refine ⟨pc, ty, fr, h1, h2, h3, fun i v hv => h4 i v ?_⟩
          simp only [Cells.get] at hv ⊢
          rw [intsOf_eq hr, List.getElem?_map]; exact hv
        · cases e; exact h
      · cases e; exact h
    · cases e; exact canonOb_obR h
theorem canonOb2_soft {a : Frm2} {b : Nat} {o o' : Ob} (e : canonOb2 a b o = some o') (h : o.soft = true) : o'.soft = true := by
  cases o with
  | fam F =>
    unfold canonOb2 at e
    split at e
    · cases e
    · split at e
      · cases e; rfl
      · cases e; rfl
  | _ => cases h
theorem canonOb2_far {a : Frm2} {b B : Nat} {o o' : Ob} (e : canonOb2 a b o = some o') (h : o'.far B) : o.far B := by
  obtain ⟨F, g, P, i, v, rfl, hv⟩ := h
  unfold canonOb2 at e
  split at e
  · cases e
  · split at e
    · split at e
      · split at e
        · cases e
        · cases e
      · cases e; exact ⟨F, g, P, i, v, rfl, hv⟩
    · simp only [Option.some.injEq] at e
      exact canonOb_far (a := _) (b := b) (by rw [e]; exact ⟨F, g, P, i, v, rfl, hv⟩)
theorem canon2_get {a : Frm2} {s : St} (hn : s.next ≤ 1000000) (b : Nat) : (canon2 a s).heap.get b = if b < s.next then (match s.heap.get b with | some o => if s.may b then canonOb2 a b o else some o | none => none) else none :=
  Tr.get_rebuild _ _ _ hn
theorem canon2_rel {a : Frm2} {s : St} {ρ : Nat → PB} {w : World} {x : Act} (hn : s.next ≤ 1000000) (h : Rel s ρ w x) : Rel (canon2 a s) ρ w x ∧ Tra s (canon2 a s) ρ ρ w w := by
  have dm : Dm (canon2 a s) = Dm s := rfl
  have old : ∀ (b : Nat) (o : Ob), (canon2 a s).heap.get b = some o → ∃ o0, s.heap.get b = some o0 ∧ (o = o0 ∨ canonOb2 a b o0 = some o) := fun b o hb => by
    rw [canon2_get hn] at hb
    split at hb
    · cases hg : s.heap.get b with
      | none => rw [hg] at hb; cases hb
      | some o0 =>
        rw [hg] at hb
        refine ⟨o0, rfl, ?_⟩
        simp only at hb
        split at hb
        · exact .inr hb
        · cases hb; exact .inl rfl
    · cases hb
  refine ⟨⟨⟨⟨fun b o hb => ?_, fun b b' o o' hb hb' hk e => ?_, fun b b' o o' B hb hB hb' hk => ?_⟩, h.hs.hid, h.hs.wf⟩, mask_vl 0 h.tmps, h.defers, h.marks⟩, ?_⟩
  · obtain ⟨o0, g1, g2⟩ := old b o hb
    obtain ⟨k1, k2⟩ := h.hs.ob b o0 g1
    refine ⟨k1, ?_⟩
    rcases g2 with rfl | g2
    · exact k2
    · exact canonOb2_obR k2 g2
  · obtain ⟨o0, g1, q1⟩ := old b o hb
    obtain ⟨o1, g2, q2⟩ := old b' o' hb'
    refine (h.hs.inj b b' _ _ g1 g2 hk e).imp_right (Or.imp (fun k => ?_) fun k => ?_)
    · rcases q1 with rfl | q1
      · exact k
      · exact canonOb2_soft q1 k
    · rcases q2 with rfl | q2
      · exact k
      · exact canonOb2_soft q2 k
  · obtain ⟨o0, g1, g2⟩ := old b o hb
    obtain ⟨o1, g3, _⟩ := old b' o' hb'
    refine h.hs.far b b' _ _ B g1 ?_ g3 hk
    rcases g2 with rfl | g2
    · exact hB
    · exact canonOb2_far g2 hB
  · refine ⟨Nat.le_refl _, fun _ _ => rfl, rfl, rfl, rfl, Nat.le_refl _, fun _ _ _ => rfl, fun b o hb hm => ?_, rfl, rfl, rfl, fun b hb => ?_⟩
    · obtain ⟨o0, g1, _⟩ := old b o hb
      exact .inr ⟨b, o0, g1, hm, rfl⟩
    · have hlt := may_lt h.hs hb
      rw [canon2_get hn, if_pos hlt]
      cases s.heap.get b with
      | none => rfl
      | some o => simp only [hb]; rfl
structure Ask2 where
  frm : Frm2
  e : Exit
  fin : St → St
def Given.asking2 (K : Given) (P : Program) (L : FuncId → Code → St → Option Ask2) : Given :=
  { K with loop := fun f c s => match L f c s with
      | some a => if s.next ≤ 1000000 then some (a.e, { a.fin (canon2 a.frm s) with obl := s.obl ∧ ∀ rd, CodeOk P rd (.loop c) (canon2 a.frm s) a.e (a.fin (canon2 a.frm s)).bare, orc := s.orc }) else none
      | none => K.loop f c s }
theorem GivenOk.asking2 {P : Program} {K : Given} (h : GivenOk P K) (L : FuncId → Code → St → Option Ask2) : GivenOk P (Given.asking2 K P L) := by
  refine ⟨h.callObl, h.call, fun {f c s s' e} hc => ?_, fun {f c s s' e} hc => ?_⟩
  · simp only [Given.asking2] at hc
    split at hc
    · split at hc
      · simp only [Option.some.injEq, Prod.mk.injEq] at hc; obtain ⟨_, rfl⟩ := hc; exact fun k => k.1
      · cases hc
    · exact h.loopObl hc
  · simp only [Given.asking2] at hc
    split at hc
    · rename_i a _
      split at hc
      · rename_i hn
        simp only [Option.some.injEq, Prod.mk.injEq] at hc; obtain ⟨rfl, rfl⟩ := hc
        intro rd ho n ρ w x Q hrd hr hq
        obtain ⟨r1, t1⟩ := canon2_rel (a := a.frm) hn hr
        have l1 : Like (a.fin (canon2 a.frm s)).bare { a.fin (canon2 a.frm s) with obl := s.obl ∧ ∀ rd, CodeOk P rd (.loop c) (canon2 a.frm s) a.e (a.fin (canon2 a.frm s)).bare, orc := s.orc } := ⟨rfl, rfl, rfl, rfl, rfl⟩
        refine ho.2 rd trivial n ρ w x Q (fun l hl => Nat.lt_of_lt_of_le (hrd l hl) t1.next) r1 fun ρ' w' a' r' t' => ?_
        exact hq ρ' w' a' (r'.like l1 rfl rfl) ((t1.trans t').like l1)
      · cases hc
    · exact h.loop hc
end
end Go.Cln
namespace Go.Cln
set_option linter.unusedVariables false
noncomputable def Given.framesO (K : Given) (F : FuncId → List Value → St → Option (Inst × Nat)) : Given := { K with call := fun f args s => match F f args s with
  | some (i, k) => (i.app s).bind fun r => some (r.1, { r.2 with orc := s.orc.drop k })
  | none => K.call f args s }
theorem GivenOk.framesO {P : Program} {K : Given} (hK : GivenOk P K) {F : FuncId → List Value → St → Option (Inst × Nat)}
    (h : ∀ f args s i k, F f args s = some (i, k) → Fits s i args ∧ (i.ask → CallOk P f i.args i.s0 i.val i.s1)) : GivenOk P (Given.framesO K F) := by
  refine ⟨fun {f args s s' v} hc => ?_, fun {f args s s' v} hc => ?_, hK.loopObl, hK.loop⟩
  · simp only [Given.framesO] at hc
    split at hc
    · rw [bind_some] at hc
      obtain ⟨r, hr, hc⟩ := hc
      cases hc
      exact fun k => (app_obl hr k).1
    · exact hK.callObl hc
  · simp only [Given.framesO] at hc
    split at hc
    · rename_i i k hF
      rw [bind_some] at hc
      obtain ⟨r, hr, hc⟩ := hc
      cases hc
      obtain ⟨h1, h2⟩ := h _ _ _ _ _ hF
      intro ho n ρ w args' hs ha
      have ho' : r.2.obl := ho
      have := frame_sound (h2 (app_obl hr ho').2) h1 hr ho' n ρ w args' hs ha
      refine callsIn_wide.2 ((callsIn_wide.1 this).mono ?_)
      rintro e w' ⟨v', ρ', rfl, g1, g2, g3⟩
      have l1 : Like r.2 { r.2 with orc := s.orc.drop k } := ⟨rfl, rfl, rfl, rfl, rfl⟩
      exact ⟨v', ρ', rfl, by rw [l1.dm]; exact g1, l1.holds g2, g3.like l1⟩
    · exact hK.call hc
theorem frames_fits {P : Program} {K : Given} (h : GivenOk P K) (b : Bool) : GivenOk P { K with fits := b } := ⟨h.callObl, h.call, h.loopObl, h.loop⟩
end Go.Cln
namespace Go.Cln
set_option linter.unusedVariables false
end Go.Cln
namespace Go.Cln
set_option linter.unusedVariables false
abbrev nI (n : Nat) : Int := (n : Int)
abbrev beqB (a b : List UInt8) : Bool := a == b
end Go.Cln
namespace Go.Cln
set_option linter.unusedVariables false
theorem hget_pad (l : List (Option Ob)) (k b : Nat) : hget (l ++ List.replicate k none) b = hget l b := by
  unfold hget
  rcases Nat.lt_or_ge b l.length with h | h
  · rw [List.getElem?_append_left h]
  · rw [List.getElem?_append_right h, List.getElem?_eq_none h, List.getElem?_replicate]
    split
    · rename_i o ho
      split at ho
      · cases ho; rfl
      · cases ho
    · rfl
theorem CallOk.base {P : Program} {f : FuncId} {args : List Value} {ro : Nat} {l : List (Option Ob)} {v : Value} {s1 : St} (k : Nat) (hl : l.length + k ≤ 1000000) (hro : ro ≤ l.length)
    (h : CallOk P f args (smSt ro (l ++ List.replicate k none) []) v s1) : CallOk P f args (smSt ro l []) v s1 := by
  have hg : ∀ b, (Tr.ofL (l ++ List.replicate k none)).get b = (Tr.ofL l).get b := fun b => by
    rw [ofL_get (by simpa using hl), ofL_get (by omega), hget_pad]
  have dm : ∀ b, Dm (smSt ro l []) b → Dm (smSt ro (l ++ List.replicate k none) []) b := fun b hb => ⟨by
    have h1 : b < l.length := hb.1
    show b < (l ++ List.replicate k none).length
    rw [List.length_append]; omega, rfl⟩
  intro ho n ρ w args' hs ha
  have hs' : Hs (smSt ro (l ++ List.replicate k none) []) ρ w := by
    refine ⟨⟨fun b o hb => ?_, fun b b' o o' hb hb' => ?_, fun b b' o o' B hb hB hb' hk => hs.far b b' o o' B ((hg b).symm.trans hb) hB ((hg b').symm.trans hb') hk⟩, fun b hb => rfl, ?_, fun b hb => by simp [smSt] at hb⟩
    · obtain ⟨k1, k2⟩ := hs.ob b o ((hg b).symm.trans hb)
      exact ⟨dm b k1, k2.mono dm fun _ _ => rfl⟩
    · exact hs.inj b b' o o' ((hg b).symm.trans hb) ((hg b').symm.trans hb')
    · show ro ≤ (l ++ List.replicate k none).length
      rw [List.length_append]; omega
  refine callsIn_wide.2 ((callsIn_wide.1 (h ho n ρ w args' hs' (ha.mono dm fun _ _ => rfl))).mono ?_)
  rintro e w' ⟨v', ρ', rfl, g1, g2, g3⟩
  have hn : (l ++ List.replicate k (none : Option Ob)).length ≤ s1.next := g3.next
  rw [List.length_append, List.length_replicate] at hn
  refine ⟨v', ρ', rfl, g1, g2, ⟨?_, fun b hb => g3.ext b ?_, g3.os, g3.tape, g3.output, g3.size, fun k hk hf => g3.frame k hk fun b o hb => hf b o ((hg b).symm.trans hb), fun b o hb hm => ?_, g3.roB, g3.ro, g3.hid, fun b hb => (g3.same b hb).trans (hg b)⟩⟩
  · show l.length ≤ s1.next
    omega
  · have h1 : b < l.length := hb
    show b < (l ++ List.replicate k none).length
    rw [List.length_append]; omega
  · rcases g3.own b o hb hm with h1 | ⟨b0, o0, h1, h2, h3⟩
    · exact .inl h1
    · exact .inr ⟨b0, o0, (hg b0).symm.trans h1, h2, h3⟩
end Go.Cln
namespace Go.Cln
set_option linter.unusedVariables false
noncomputable section
def OkAt (w : World) (p : PB) : Option Ob → Prop
  | some (.cells (.ints k L) _) => ∃ (pc : Array Value) (ty : TypeId) (fr : Nat × Nat), w.heap[p.blk]? = some (.cells pc ty fr) ∧ pc.size = p.len ∧ ∀ (i : Nat) (v : Value), (L.map (Value.int k))[i]? = some v → pc[p.off + i]? = some v
  | some _ => False
  | none => True
theorem start_hs {w : World} {l : List (Option Ob)} {ρ : Nat → PB} {orc : List (Option Bool)} (hl : l.length ≤ 1000000) (h : ∀ (j : Nat) (o : Option Ob), l[j]? = some o → OkAt w (ρ j) o) : Hs (smSt l.length l orc) ρ w := by
  have dom : ∀ {b : Nat} {o : Ob}, (smSt l.length l orc).heap.get b = some o → b < l.length ∧ l[b]? = some (some o) := fun {b o} hb => by
    have hb : (Tr.ofL l).get b = some o := hb
    rw [ofL_get hl] at hb
    unfold hget at hb
    split at hb
    · rename_i x hx
      refine ⟨?_, by rw [hx, hb]⟩
      rcases Nat.lt_or_ge b l.length with h1 | h1
      · exact h1
      · rw [List.getElem?_eq_none h1] at hx; cases hx
    · cases hb
  refine ⟨⟨fun b o hb => ?_, fun b b' o o' hb hb' hk e => ?_, fun b b' o o' B hb hB hb' hk => absurd (show l.length ≤ b' from hk) (by have := (dom hb').1; omega)⟩, fun _ _ => rfl, ⟨Nat.le_refl _, fun x hx => by simp [smSt] at hx⟩⟩
  · obtain ⟨h1, h2⟩ := dom hb
    have := h b (some o) h2
    refine ⟨⟨h1, rfl⟩, ?_⟩
    cases o with
    | cells c t =>
      cases c with
      | ints k L =>
        obtain ⟨pc, ty, fr, g1, g2, g3⟩ := this
        refine ⟨pc, ty, fr, g1, g2, fun m => absurd (show l.length ≤ b from m) (by omega), fun i v hv => ⟨v, g3 i v ?_, ?_⟩⟩
        · simp only [Cells.get] at hv
          rw [List.getElem?_map]; exact hv
        · simp only [Cells.get, Option.map_eq_some_iff] at hv
          obtain ⟨a, _, rfl⟩ := hv
          exact .same rfl
      | lit l => exact this.elim
      | fam n f => exact this.elim
      | rows n w g => exact this.elim
    | loop l => exact this.elim
    | marks => exact this.elim
    | map es k => exact this.elim
    | fam F => exact this.elim
  · have h1 := (dom hb).1
    have h2 := (dom hb').1
    rcases hk with hk | hk
    · have : l.length ≤ b := hk; omega
    · have : l.length ≤ b' := hk; omega
theorem place {w : World} {b o : Nat} {L : List Int} (h : HasCells w b o (L.map (Value.int .u8))) : ∃ len, OkAt w ⟨b, o, len⟩ (some (.cells (.ints .u8 L) 5)) := by
  obtain ⟨pc, t, fr, h1, h2⟩ := h
  exact ⟨pc.size, pc, t, fr, h1, rfl, h2⟩
def pl (p q : PB) (j : Nat) : PB := if j = 0 then p else q
theorem ok1 {w : World} {p q : PB} {x : Option Ob} (hx : OkAt w p x) (j : Nat) (o : Option Ob) (h : [x][j]? = some o) : OkAt w (pl p q j) o := by
  rcases j with _ | j
  · simp only [List.getElem?_cons_zero, Option.some.injEq] at h; subst h; exact hx
  · simp at h
theorem ok2 {w : World} {p q : PB} {x y : Option Ob} (hx : OkAt w p x) (hy : OkAt w q y) (j : Nat) (o : Option Ob) (h : [x, y][j]? = some o) : OkAt w (pl p q j) o := by
  rcases j with _ | _ | j
  · simp only [List.getElem?_cons_zero, Option.some.injEq] at h; subst h; exact hx
  · simp only [Nat.zero_add, List.getElem?_cons_succ, List.getElem?_cons_zero, Option.some.injEq] at h; subst h; exact hy
  · simp at h
end
end Go.Cln
namespace Go.Cln
set_option linter.unusedVariables false
end Go.Cln
namespace Go.Cln
set_option linter.unusedVariables false
theorem CallOk.grow {P : Program} {f : FuncId} {b o n z : Nat} {s s1 : St} {v : Value} (pre post : List Value)
    (h : ∀ c, n ≤ c → CallOk P f (pre ++ .slice (some ⟨b, o, none⟩) n c :: post) s v s1) (c : Nat) (hz : isAbs (some z) = false := by first | rfl | assumption) : CallOk P f (pre ++ .slice (some ⟨b, o, some z⟩) n c :: post) s v s1 := by
  intro ho m ρ w args' hs ha
  have hlen : (pre ++ Value.slice (some ⟨b, o, some z⟩) n c :: post).length = args'.length := ha.1
  have hj : pre.length < args'.length := by rw [← hlen]; simp
  have hv := ha.2 pre.length (.slice (some ⟨b, o, some z⟩) n c) args'[pre.length] (by simp) (by simp [hj])
  obtain ⟨a', c', ew, hN, hle, hok⟩ : ∃ a' c', args'[pre.length] = .slice (some a') n c' ∧ Dm s b ∧ n ≤ c' ∧ (c' = 0 ∨ a' = ⟨(ρ b).blk, (ρ b).off + o, none⟩) := by
    generalize args'[pre.length] = w' at hv
    cases hv with
    | same hf => simp [flat0] at hf
    | slice hN hle hok => exact ⟨_, _, rfl, hN, Nat.le_trans hle (hok.2.2 z rfl).1, hok.1⟩
    | abs _ hg _ => rw [hz] at hg; cases hg
  refine h c' hle ho m ρ w args' hs ⟨by rw [← hlen]; simp, fun i x y hx hy => ?_⟩
  by_cases hi : i = pre.length
  · subst hi
    simp at hx
    subst hx
    have : y = args'[pre.length] := by
      have e : args'[pre.length]? = some args'[pre.length] := by simp [hj]
      rw [e] at hy; exact (Option.some.inj hy).symm
    rw [this, ew]
    exact .slice hN hle ⟨hok, fun _ => rfl, fun z hz => by cases hz⟩
  · refine ha.2 i x y ?_ hy
    rw [List.getElem?_append] at hx ⊢
    split at hx
    · rename_i h; rw [if_pos h]; exact hx
    · rename_i h
      rw [if_neg h]
      obtain ⟨k, hk⟩ : ∃ k, i - pre.length = k + 1 := ⟨i - pre.length - 1, by omega⟩
      rw [hk] at hx ⊢
      simpa using hx
end Go.Cln
namespace Go.Cln
set_option linter.unusedVariables false
theorem CallOk.last {P : Program} {f : FuncId} {args : List Value} {ro : Nat} {l0 l : List (Option Ob)} {L : List Int} {ty : TypeId} {v : Value} (hl : l.length + 1 ≤ 1000000) (hro : ro ≤ l.length) (h0 : l0.length ≤ 1000000) (hr0 : ro ≤ l0.length) (hs : l.take ro = l0.take ro)
    (h : CallOk P f args (smSt ro l0 []) v (smSt ro (l ++ [some (.cells (.lit (L.map (Value.int .u8))) ty)]) [])) : CallOk P f args (smSt ro l0 []) v (smSt ro (l ++ [some (.cells (.ints .u8 L) ty)]) []) := by
  refine h.sub trivial ⟨by simp [smSt], rfl, rfl, rfl, fun b o' hb => ?_⟩ fun b hb => ?_
  · have hb' : (Tr.ofL (l ++ [some (.cells (.ints .u8 L) ty)])).get b = some o' := hb
    show ∃ o, (Tr.ofL (l ++ [some (.cells (.lit (L.map (Value.int .u8))) ty)])).get b = some o ∧ ObSub o o'
    rw [ofL_get (by simpa using hl)] at hb' ⊢
    unfold hget at hb' ⊢
    rcases Nat.lt_or_ge b l.length with h1 | h1
    · rw [List.getElem?_append_left h1] at hb' ⊢
      exact ⟨o', hb', .refl o'⟩
    · rw [List.getElem?_append_right h1] at hb' ⊢
      cases hk : b - l.length with
      | zero =>
        rw [hk] at hb'
        simp only [List.getElem?_cons_zero, Option.some.injEq] at hb' ⊢
        subst hb'
        refine ⟨_, rfl, .cells fun i v hv => ?_⟩
        simp only [Cells.get] at hv ⊢
        rw [List.getElem?_map]; exact hv
      | succ k => rw [hk] at hb'; simp at hb'
  · have hlt : b < ro := by
      rcases Nat.lt_or_ge b ro with h1 | h1
      · exact h1
      · rw [smMay.2 h1] at hb; cases hb
    show (Tr.ofL (l ++ [some (.cells (.ints .u8 L) ty)])).get b = (Tr.ofL l0).get b
    rw [ofL_get (by simpa using hl), ofL_get h0]
    unfold hget
    rw [List.getElem?_append_left (by omega)]
    have e1 : l[b]? = (l.take ro)[b]? := (List.getElem?_take_of_lt hlt).symm
    have e2 : l0[b]? = (l0.take ro)[b]? := (List.getElem?_take_of_lt hlt).symm
    rw [e1, e2, hs]
end Go.Cln
namespace Go.Cln
set_option linter.unusedVariables false
noncomputable section
def argOk : Value → Bool
  | .pointer (some ⟨b, _, none⟩) => decide (b ≠ 0)
  | v => flat v
theorem argOk_vr {N N' : Nat → Prop} {ρ ρ' : Nat → PB} {v w : Value} (h : VR N ρ v w) (ho : argOk v = true) (hr : ∀ b, b ≠ 0 → N b → N' b ∧ ρ' b = ρ b) : VR N' ρ' v w := by
  by_cases hf : flat v = true
  · rw [h.eq_flat hf]; exact .of_flat hf
  cases h with
  | ptr hN =>
    rename_i b o
    have hb : b ≠ 0 := by simpa [argOk] using ho
    obtain ⟨k1, k2⟩ := hr b hb hN
    rw [← k2]; exact .ptr k1
  | same h => exact .same h
  | _ => exact absurd ho hf
def restOk : Option Ob → Bool
  | none => true
  | some (.cells (.lit l) _) => l.all flat0
  | some (.cells (.ints _ _) _) => true
  | _ => false
theorem restOk_obR {N N' : Nat → Prop} {ρ ρ' : Nat → PB} {may : Prop} {p : PB} {w : World} {o : Ob} (h : ObR N ρ may p w o) (ho : restOk (some o) = true) : ObR N' ρ' may p w o := by
  cases o with
  | cells c t =>
    cases c with
    | lit l =>
      obtain ⟨pc, ty, fr, h1, h2, h3, h4⟩ := h
      refine ⟨pc, ty, fr, h1, h2, h3, fun i v hv => ?_⟩
      obtain ⟨v', k1, k2⟩ := h4 i v hv
      have hf : flat0 v = true := List.all_eq_true.1 ho v (List.mem_of_getElem? hv)
      exact ⟨v', k1, by rw [k2.eq_flat0 hf]; exact .same hf⟩
    | ints k l =>
      obtain ⟨pc, ty, fr, h1, h2, h3, h4⟩ := h
      refine ⟨pc, ty, fr, h1, h2, h3, fun i v hv => ?_⟩
      obtain ⟨v', k1, k2⟩ := h4 i v hv
      simp only [Cells.get, Option.map_eq_some_iff] at hv
      obtain ⟨n, _, rfl⟩ := hv
      exact ⟨v', k1, by rw [k2.eq_flat0 rfl]; exact .same rfl⟩
    | _ => cases ho
  | _ => cases ho
theorem restOk_far {o : Ob} (ho : restOk (some o) = true) {B : Nat} : ¬ o.far B := by
  rintro ⟨F, g, P, i, v, rfl, _⟩
  cases ho
theorem hget_succ (x : Option Ob) (l : List (Option Ob)) (b : Nat) : hget (x :: l) (b + 1) = hget l b := by simp [hget]
theorem hget_zero (x : Option Ob) (l : List (Option Ob)) : hget (x :: l) 0 = x := by simp [hget]
theorem hget_ok {l : List (Option Ob)} (h : l.all restOk = true) {b : Nat} {o : Ob} (hb : hget l b = some o) : restOk (some o) = true := by
  unfold hget at hb
  split at hb
  · rename_i x hx
    subst hb
    exact List.all_eq_true.1 h _ (List.mem_of_getElem? hx)
  · cases hb
theorem CallOk.abs {P : Program} {f : FuncId} {args : List Value} {j P0 o g n c ro : Nat} {rest rest' : List (Option Ob)} {v : Value} {F : Nat → Nat → Cells} {k : IntKind} {L : List Int} {t : TypeId}
    (hro : 1 ≤ ro) (hr1 : ro ≤ rest.length + 1) (hl1 : rest.length ≤ 900000) (hl2 : rest'.length ≤ 900000) (hg : isAbs (some g) = true) (hj : args[j]? = some (.slice (some ⟨P0, o, some g⟩) n c))
    (hF : ∀ (x : Nat) (y : Int), L[x]? = some y → (F g P0).get (o + x) = some (.int k y)) (hn : n = L.length)
    (ha0 : (args.set j (.bool true)).all argOk = true) (h1 : rest.all restOk = true) (h2 : rest'.all restOk = true) (hv : flat v = true)
    (hi : CallOk P f (args.set j (.slice (some ⟨0, 0, none⟩) n c)) (smSt ro (some (.cells (.ints k L) t) :: rest) []) v (smSt ro (some (.cells (.ints k L) t) :: rest') []))
    (h0 : n = 0 → CallOk P f args (smSt ro (some (.fam F) :: rest) []) v (smSt ro (some (.fam F) :: rest') [])) :
    CallOk P f args (smSt ro (some (.fam F) :: rest) []) v (smSt ro (some (.fam F) :: rest') []) := by
  by_cases hn0 : n = 0
  · exact h0 hn0
  intro ho m ρ w args' hs ha
  have gA : ∀ (l : List (Option Ob)) (b : Nat), l.length ≤ 1000000 → (smSt ro l []).heap.get b = hget l b := fun l b hl => ofL_get hl b
  have gA1 : ∀ b, (smSt ro (some (.fam F) :: rest) []).heap.get b = hget (some (.fam F) :: rest) b := fun b => gA _ b (by simp; omega)
  have gA2 : ∀ b, (smSt ro (some (.fam F) :: rest') []).heap.get b = hget (some (.fam F) :: rest') b := fun b => gA _ b (by simp; omega)
  have gB1 : ∀ b, (smSt ro (some (.cells (.ints k L) t) :: rest) []).heap.get b = hget (some (.cells (.ints k L) t) :: rest) b := fun b => gA _ b (by simp; omega)
  have gB2 : ∀ b, (smSt ro (some (.cells (.ints k L) t) :: rest') []).heap.get b = hget (some (.cells (.ints k L) t) :: rest') b := fun b => gA _ b (by simp; omega)
  -- the slice there
  obtain ⟨wj, hwj, hrj⟩ := ha.get hj
  have hfam : (smSt ro (some (.fam F) :: rest) []).heap.get 0 = some (.fam F) := by rw [gA1]; rfl
  obtain ⟨d0, f1, f3⟩ := hs.ob 0 _ hfam
  have hwe : wj = .slice (some ⟨blkOf P0, baseOf P0 + o, none⟩) n c ∧ n ≤ c := by
    cases hrj with
    | same hf => simp [flat0] at hf
    | slice _ _ hok => have := hok.noAbs; rw [hg] at this; cases this
    | abs _ _ hk =>
      obtain ⟨k1, k2 | ⟨k2, _⟩⟩ := hk
      · exact ⟨k2, k1⟩
      · omega
  obtain ⟨rfl, hnc⟩ := hwe
  obtain ⟨y0, hy0⟩ : ∃ y0, L[0]? = some y0 := ⟨L[0], List.getElem?_eq_getElem (by omega)⟩
  obtain ⟨pc, ty, fr, _, q1, _⟩ := f3 g P0 _ _ (hF 0 y0 hy0)
  let ρ0 : Nat → PB := fun b => if b = 0 then ⟨blkOf P0, baseOf P0 + o, pc.size⟩ else ρ b
  have r0 : ρ0 0 = ⟨blkOf P0, baseOf P0 + o, pc.size⟩ := if_pos rfl
  have r1 : ∀ b, b ≠ 0 → ρ0 b = ρ b := fun b hb => if_neg hb
  have dB : ∀ b, Dm (smSt ro (some (.fam F) :: rest) []) b → Dm (smSt ro (some (.cells (.ints k L) t) :: rest) []) b := fun b hb => hb
  have farB : ∀ (b : Nat) (ob : Ob), (smSt ro (some (.fam F) :: rest) []).heap.get b = some ob → ro ≤ b → (ρ b).blk ≠ blkOf P0 := fun b ob hb hm =>
    hs.far 0 b _ ob _ hfam ⟨F, g, P0, _, _, rfl, hF 0 y0 hy0, rfl⟩ hb hm
  have same1 : ∀ (b : Nat), b ≠ 0 → (smSt ro (some (.cells (.ints k L) t) :: rest) []).heap.get b = (smSt ro (some (.fam F) :: rest) []).heap.get b := fun b hb => by
    rw [gA1, gB1]
    obtain ⟨b', rfl⟩ : ∃ b', b = b' + 1 := ⟨b - 1, by omega⟩
    rw [hget_succ, hget_succ]
  have same2 : ∀ (b : Nat), b ≠ 0 → (smSt ro (some (.cells (.ints k L) t) :: rest') []).heap.get b = (smSt ro (some (.fam F) :: rest') []).heap.get b := fun b hb => by
    rw [gA2, gB2]
    obtain ⟨b', rfl⟩ : ∃ b', b = b' + 1 := ⟨b - 1, by omega⟩
    rw [hget_succ, hget_succ]
  have ok1 : ∀ (b : Nat) (ob : Ob), b ≠ 0 → (smSt ro (some (.fam F) :: rest) []).heap.get b = some ob → restOk (some ob) = true := fun b ob hb hg => by
    rw [gA1] at hg
    obtain ⟨b', rfl⟩ : ∃ b', b = b' + 1 := ⟨b - 1, by omega⟩
    rw [hget_succ] at hg
    exact hget_ok h1 hg
  have ok2 : ∀ (b : Nat) (ob : Ob), b ≠ 0 → (smSt ro (some (.fam F) :: rest') []).heap.get b = some ob → restOk (some ob) = true := fun b ob hb hg => by
    rw [gA2] at hg
    obtain ⟨b', rfl⟩ : ∃ b', b = b' + 1 := ⟨b - 1, by omega⟩
    rw [hget_succ] at hg
    exact hget_ok h2 hg
  have hsB : Hs (smSt ro (some (.cells (.ints k L) t) :: rest) []) ρ0 w := by
    refine ⟨⟨fun b ob hb => ?_, fun b b' ob ob' hb hb' hk e => ?_, fun b b' ob ob' B hb hB hb' hk => ?_⟩, fun _ _ => rfl, ⟨by show ro ≤ (some (Ob.cells (.ints k L) t) :: rest).length; simp only [List.length_cons]; omega, fun x hx => by simp [smSt] at hx⟩⟩
    · by_cases hb0 : b = 0
      · subst hb0
        rw [gB1, hget_zero] at hb
        cases hb
        rw [r0]
        refine ⟨d0, pc, ty, fr, q1, rfl, fun hm => absurd (show ro ≤ 0 from hm) (by omega), fun i x hx => ?_⟩
        simp only [Cells.get, Option.map_eq_some_iff] at hx
        obtain ⟨y, hy, rfl⟩ := hx
        obtain ⟨pc2, ty2, fr2, v', k1, k2, k3, _⟩ := f3 g P0 _ _ (hF i y hy)
        rw [q1] at k1; cases k1
        refine ⟨v', by rw [Nat.add_assoc]; exact k2, ?_⟩
        rw [k3.eq_flat0 rfl]; exact .same rfl
      · rw [same1 b hb0] at hb
        obtain ⟨k1, k2⟩ := hs.ob b ob hb
        rw [r1 b hb0]
        exact ⟨k1, restOk_obR k2 (ok1 b ob hb0 hb)⟩
    · by_cases hb0 : b = 0 <;> by_cases hb0' : b' = 0
      · exact .inl (by rw [hb0, hb0'])
      · exfalso
        subst hb0
        rw [same1 b' hb0'] at hb'
        rw [r0, r1 b' hb0'] at e
        rcases hk with hk | hk
        · have hk : ro ≤ 0 := hk; omega
        · exact farB b' ob' hb' hk e.symm
      · exfalso
        subst hb0'
        rw [same1 b hb0] at hb
        rw [r0, r1 b hb0] at e
        rcases hk with hk | hk
        · exact farB b ob hb hk e
        · have hk : ro ≤ 0 := hk; omega
      · rw [same1 b hb0] at hb
        rw [same1 b' hb0'] at hb'
        rw [r1 b hb0, r1 b' hb0'] at e
        exact hs.inj b b' ob ob' hb hb' hk e
    · exfalso
      by_cases hb0 : b = 0
      · subst hb0
        rw [gB1, hget_zero] at hb
        cases hb
        obtain ⟨_, _, _, _, _, hF', _⟩ := hB
        cases hF'
      · rw [same1 b hb0] at hb
        exact restOk_far (ok1 b ob hb0 hb) hB
  have haB : VL (Dm (smSt ro (some (.cells (.ints k L) t) :: rest) [])) ρ0 (args.set j (.slice (some ⟨0, 0, none⟩) n c)) args' := by
    refine ⟨by rw [List.length_set]; exact ha.1, fun i x y hx hy => ?_⟩
    by_cases hij : j = i
    · subst hij
      rw [List.getElem?_set_self (by rcases Nat.lt_or_ge j args.length with h | h; exact h; rw [List.getElem?_eq_none h] at hj; cases hj)] at hx
      cases hx
      rw [hwj] at hy; cases hy
      exact .slice d0 hnc ⟨.inr (by rw [r0]; rfl), fun _ => rfl, fun z hz => by cases hz⟩
    · rw [List.getElem?_set_ne hij] at hx
      refine argOk_vr (ha.2 i x y hx hy) ?_ fun b hb hN => ⟨hN, r1 b hb⟩
      refine List.all_eq_true.1 ha0 x (List.mem_of_getElem? (i := i) ?_)
      rw [List.getElem?_set_ne hij]; exact hx
  refine callsIn_wide.2 ((callsIn_wide.1 (hi ho m ρ0 w args' hsB haB)).mono ?_)
  rintro e w' ⟨v', ρ', rfl, g1, g2, g3⟩
  let ρ2 : Nat → PB := fun b => if b = 0 then ρ 0 else ρ' b
  have s0 : ρ2 0 = ρ 0 := if_pos rfl
  have s1 : ∀ b, b ≠ 0 → ρ2 b = ρ' b := fun b hb => if_neg hb
  have own : ∀ (b : Nat) (ob : Ob), b ≠ 0 → ro ≤ b → (smSt ro (some (.fam F) :: rest') []).heap.get b = some ob → w.heap.size ≤ (ρ' b).blk ∨ ∃ (b0 : Nat) (o0 : Ob), b0 ≠ 0 ∧ (smSt ro (some (.fam F) :: rest) []).heap.get b0 = some o0 ∧ ro ≤ b0 ∧ (ρ b0).blk = (ρ' b).blk := fun b ob hb0 hm hb => by
    rw [← same2 b hb0] at hb
    rcases g3.own b ob hb (smMay.2 hm) with h | ⟨b0, o0, k1, k2, k3⟩
    · exact .inl h
    · have hm0 : ro ≤ b0 := smMay.1 k2
      have hz : b0 ≠ 0 := by omega
      rw [same1 b0 hz] at k1
      rw [r1 b0 hz] at k3
      exact .inr ⟨b0, o0, hz, k1, hm0, k3⟩
  refine ⟨v', ρ2, rfl, by rw [g1.eq_flat hv]; exact .of_flat hv, ⟨⟨fun b ob hb => ?_, fun b b' ob ob' hb hb' hk e => ?_, fun b b' ob ob' B hb hB hb' hk => ?_⟩, fun _ _ => rfl, g2.wf⟩, ⟨g3.next, fun b hb => ?_, g3.os, g3.tape, g3.output, g3.size, fun x hx hno => ?_, fun b ob hb hm => ?_, rfl, rfl, rfl, fun b hm => ?_⟩⟩
  · by_cases hb0 : b = 0
    · subst hb0
      rw [gA2, hget_zero] at hb
      cases hb
      rw [s0]
      refine ⟨⟨by show 0 < (some (Ob.fam F) :: rest').length; simp, rfl⟩, fun hm => f1 hm, fun g' P' i x hx => ?_⟩
      obtain ⟨pc2, ty2, fr2, x', k1, k2, k3, k4⟩ := f3 g' P' i x hx
      refine ⟨pc2, ty2, fr2, x', ?_, k2, famV_vr k3 k4 ⟨by show 0 < (some (Ob.fam F) :: rest').length; simp, rfl⟩, k4⟩
      rw [g3.frame _ (heapObj_lt k1) fun b ob hb hm he => ?_]
      · exact k1
      · have hm' : ro ≤ b := smMay.1 hm
        have hz : b ≠ 0 := by omega
        rw [same1 b hz] at hb
        rw [r1 b hz] at he
        exact hs.far 0 b _ ob _ hfam ⟨F, g', P', i, x, rfl, hx, rfl⟩ hb hm' he
    · have hb2 := hb
      rw [← same2 b hb0] at hb
      obtain ⟨k1, k2⟩ := g2.ob b ob hb
      rw [s1 b hb0]
      exact ⟨k1, restOk_obR k2 (ok2 b ob hb0 hb2)⟩
  · by_cases hb0 : b = 0 <;> by_cases hb0' : b' = 0
    · exact .inl (by rw [hb0, hb0'])
    · subst hb0
      rw [gA2, hget_zero] at hb
      cases hb
      exact .inr (.inl rfl)
    · subst hb0'
      rw [gA2, hget_zero] at hb'
      cases hb'
      exact .inr (.inr rfl)
    · rw [← same2 b hb0] at hb
      rw [← same2 b' hb0'] at hb'
      rw [s1 b hb0, s1 b' hb0'] at e
      exact g2.inj b b' ob ob' hb hb' hk e
  · by_cases hb0 : b = 0
    · subst hb0
      rw [gA2, hget_zero] at hb
      cases hb
      have hk : ro ≤ b' := hk
      have hz : b' ≠ 0 := by omega
      rw [s1 b' hz]
      intro he
      rcases own b' ob' hz hk hb' with h | ⟨b0, o0, z, k1, k2, k3⟩
      · obtain ⟨F', g', P', i, x, hF', hx, hB'⟩ := hB
        cases hF'
        obtain ⟨_, _, _, _, q, _⟩ := f3 g' P' i x hx
        have := heapObj_lt q
        omega
      · exact hs.far 0 b0 _ o0 B hfam hB k1 k2 (k3.trans he)
    · exact absurd hB (restOk_far (ok2 b ob hb0 hb))
  · by_cases hb0 : b = 0
    · rw [hb0, s0]
    · rw [s1 b hb0, ← r1 b hb0]
      exact g3.ext b hb
  · refine g3.frame x hx fun b ob hb hm he => ?_
    have hm' : ro ≤ b := smMay.1 hm
    have hz : b ≠ 0 := by omega
    rw [same1 b hz] at hb
    rw [r1 b hz] at he
    exact hno b ob hb (smMay.2 hm') he
  · have hm' : ro ≤ b := smMay.1 hm
    have hz : b ≠ 0 := by omega
    rw [s1 b hz]
    rcases own b ob hz hm' hb with h | ⟨b0, o0, z, k1, k2, k3⟩
    · exact .inl h
    · exact .inr ⟨b0, o0, k1, smMay.2 k2, k3⟩
  · by_cases hb0 : b = 0
    · subst hb0
      rw [gA1, gA2, hget_zero, hget_zero]
    · rw [← same2 b hb0, ← same1 b hb0]
      refine g3.same b ?_
      cases hq : (smSt ro (some (.cells (.ints k L) t) :: rest) []).may b with
      | false => rfl
      | true =>
        have : (smSt ro (some (.fam F) :: rest) []).may b = true := smMay.2 (smMay.1 hq)
        rw [this] at hm; cases hm
end
end Go.Cln
namespace Go.Cln
set_option linter.unusedVariables false
structure Nest where
  N : Nat → Nat
  Q : Nat → Nat → Nat
  m : Nat → Nat → Nat
  c : Nat → Nat → Nat
  D : Nat → List Int
def Nest.F (x : Nest) (g P : Nat) : Cells := match Nat.beq g 1000 with
  | true => .ints .u8 (x.D P)
  | false => .fam (x.N P) fun i => .slice (some ⟨x.Q P i, 0, some 1000⟩) (x.m P i) (x.c P i)
def Nest.row (x : Nest) (P i : Nat) : List Int := ((x.D (x.Q P i)).drop 0).take (x.m P i)
def Nest.cat (x : Nest) (P : Nat) : Nat → List Int
  | 0 => []
  | k + 1 => x.cat P k ++ x.row P k
structure Nest.Ok (x : Nest) (P : Nat) : Prop where
  len : ∀ i, i < x.N P → (x.row P i).length = x.m P i
  room : ∀ i, i < x.N P → x.m P i ≤ x.c P i
  byte : ∀ i, i < x.N P → ∀ y ∈ x.row P i, 0 ≤ y ∧ y < 256
structure Nest.At (x : Nest) (W : World) : Prop where
  bytes : ∀ (P j : Nat) (y : Int), (x.D P)[j]? = some y → ∃ pc t fr, W.heap[blkOf P]? = some (.cells pc t fr) ∧ pc[baseOf P + j]? = some (.int .u8 y)
  rows : ∀ (P i : Nat), i < x.N P → ∃ pc t fr v, W.heap[blkOf P]? = some (.cells pc t fr) ∧ pc[baseOf P + i]? = some v ∧ AbsOk (x.Q P i) 0 (x.m P i) (x.c P i) v
theorem Nest.start {x : Nest} {W : World} (h : x.At W) (hW : 0 < W.heap.size) (orc : List (Option Bool)) :
    ∃ ρ : Nat → PB, Hs (smSt 1 [some (.fam x.F)] orc) ρ W ∧ ∀ (P n c : Nat) (v : Value), AbsOk P 0 n c v → VR (Dm (smSt 1 [some (.fam x.F)] orc)) ρ (.slice (some ⟨P, 0, some 1001⟩) n c) v := by
  have get : ∀ (b : Nat) (o : Ob), (smSt 1 [some (.fam x.F)] orc).heap.get b = some o → b = 0 ∧ o = .fam x.F := fun b o hb => by
    have hb : (Tr.ofL [some (Ob.fam x.F)]).get b = some o := hb
    rw [ofL_get (by simp)] at hb
    rcases b with _ | b
    · simp only [hget, List.getElem?_cons_zero] at hb
      cases hb; exact ⟨rfl, rfl⟩
    · simp [hget] at hb
  have d0 : Dm (smSt 1 [some (.fam x.F)] orc) 0 := ⟨Nat.zero_lt_one, rfl⟩
  refine ⟨fun _ => ⟨0, 0, 0⟩, ⟨⟨fun b o hb => ?_, fun b b' o o' hb hb' _ _ => .inl (by rw [(get b o hb).1, (get b' o' hb').1]), fun b b' o o' B hb hB hb' hk => ?_⟩, fun _ _ => rfl, ⟨Nat.le_refl _, fun x hx => by simp [smSt] at hx⟩⟩, fun P n c v hv => .abs d0 rfl hv⟩
  · obtain ⟨rfl, rfl⟩ := get b o hb
    refine ⟨d0, fun hm => absurd (show 1 ≤ 0 from hm) (by omega), fun g P i v hv => ?_⟩
    unfold Nest.F at hv
    split at hv
    · simp only [Cells.get, Option.map_eq_some_iff] at hv
      obtain ⟨y, hy, rfl⟩ := hv
      obtain ⟨pc, t, fr, k1, k2⟩ := h.bytes P i y hy
      exact ⟨pc, t, fr, _, k1, k2, .same rfl, rfl⟩
    · simp only [Cells.get] at hv
      split at hv
      · rename_i hi
        cases hv
        obtain ⟨pc, t, fr, w, k1, k2, k3⟩ := h.rows P i hi
        exact ⟨pc, t, fr, w, k1, k2, .abs d0 rfl k3, rfl⟩
      · cases hv
  · have := (get b' o' hb').1
    have hk : 1 ≤ b' := hk
    omega
theorem AbsOk.of {b o n c : Nat} (h : n ≤ c) : AbsOk (plc b o) 0 n c (.slice (some ⟨b, o, none⟩) n c) := ⟨h, .inl (by rw [blkOf_plc, baseOf_plc, Nat.add_zero])⟩
theorem AbsOk.none {P : Nat} {a : Option Addr} {c : Nat} : AbsOk P 0 0 0 (.slice a 0 c) := ⟨Nat.le_refl _, .inr ⟨rfl, _, _, rfl⟩⟩
end Go.Cln
namespace Go.Cln
open Go.ChangeShapes Go.WideShapes Go.ChangeAt Go.RowKit
set_option linter.unusedVariables false
noncomputable section
def bytesAt : List Value → List Int
  | .int .u8 y :: l => y :: bytesAt l
  | _ => []
theorem bytesAt_get : ∀ {l : List Value} {j : Nat} {y : Int}, (bytesAt l)[j]? = some y → l[j]? = some (.int .u8 y)
  | [], j, y, h => by simp [bytesAt] at h
  | v :: l, j, y, h => by
    unfold bytesAt at h
    split at h
    · rename_i z r e
      cases e
      cases j with
      | zero => simp only [List.getElem?_cons_zero, Option.some.injEq] at h ⊢; rw [h]
      | succ j => simp only [List.getElem?_cons_succ] at h ⊢; exact bytesAt_get h
    · simp at h
theorem bytesAt_len : ∀ {l : List Value} {m : Nat}, (∀ j, j < m → ∃ y, l[j]? = some (.int .u8 y)) → m ≤ (bytesAt l).length
  | l, 0, _ => Nat.zero_le _
  | [], m + 1, h => by obtain ⟨y, hy⟩ := h 0 (by omega); simp at hy
  | v :: l, m + 1, h => by
    obtain ⟨y, hy⟩ := h 0 (by omega)
    simp only [List.getElem?_cons_zero, Option.some.injEq] at hy
    subst hy
    have := bytesAt_len (l := l) (m := m) fun j hj => by
      obtain ⟨z, hz⟩ := h (j + 1) (by omega)
      exact ⟨z, by simpa using hz⟩
    simp only [bytesAt, List.length_cons]; omega
def worldB (W : World) (P : Nat) : List Int := match W.heap[blkOf P]? with
  | some (.cells pc _ _) => bytesAt (pc.toList.drop (baseOf P))
  | _ => []
theorem worldB_get {W : World} {P j : Nat} {y : Int} (h : (worldB W P)[j]? = some y) : ∃ pc t fr, W.heap[blkOf P]? = some (.cells pc t fr) ∧ pc[baseOf P + j]? = some (.int .u8 y) := by
  unfold worldB at h
  split at h
  · rename_i pc t fr hc
    have := bytesAt_get h
    rw [List.getElem?_drop] at this
    exact ⟨pc, t, fr, hc, by simpa using this⟩
  · simp at h
theorem cell_in {W : World} {b o : Nat} {v : Value} (h : W.cell? ⟨b, o, none⟩ = some v) : ∃ pc t fr, W.heap[b]? = some (.cells pc t fr) ∧ pc[o]? = some v := by
  unfold World.cell? at h
  simp only at h
  split at h
  · rename_i pc t fr hc
    exact ⟨pc, t, fr, hc, by simpa using h⟩
  · cases h
def InRow (W : World) (v : Value) : Prop := ∃ a m c, v = .slice a m c ∧ m ≤ c ∧ (m = 0 ∨ ∃ (b o : Nat) (f : Nat → Int), a = some ⟨b, o, none⟩ ∧ ∀ j, j < m → W.cell? ⟨b, o + j, none⟩ = some (.int .u8 (f j)) ∧ (Lit.int .u8 (f j)).wf = true)
def rowQ : Value → Nat
  | .slice (some a) (_ + 1) _ => plc a.block a.off
  | _ => 0
def rowM : Value → Nat
  | .slice _ m _ => m
  | _ => 0
def rowC : Value → Nat
  | .slice _ (_ + 1) c => c
  | _ => 0
theorem worldB_row {W : World} {b o m : Nat} {f : Nat → Int} (h : ∀ j, j < m → W.cell? ⟨b, o + j, none⟩ = some (.int .u8 (f j)) ∧ (Lit.int .u8 (f j)).wf = true) (h0 : m ≠ 0) :
    ((worldB W (plc b o)).take m).length = m ∧ ∀ y ∈ (worldB W (plc b o)).take m, 0 ≤ y ∧ y < 256 := by
  obtain ⟨pc, t, fr, k1, _⟩ := cell_in (h 0 (by omega)).1
  have at_ : ∀ j, j < m → pc[o + j]? = some (.int .u8 (f j)) := fun j hj => by
    obtain ⟨pc', t', fr', q1, q2⟩ := cell_in (h j hj).1
    rw [k1] at q1; cases q1; exact q2
  have hl : m ≤ (worldB W (plc b o)).length := by
    unfold worldB
    rw [blkOf_plc, baseOf_plc, k1]
    refine bytesAt_len fun j hj => ⟨f j, ?_⟩
    rw [List.getElem?_drop]
    simpa using at_ j hj
  refine ⟨by rw [List.length_take]; omega, fun y hy => ?_⟩
  obtain ⟨j, hj⟩ := List.mem_iff_getElem?.1 hy
  rw [List.getElem?_take] at hj
  split at hj
  · rename_i hjm
    obtain ⟨pc', t', fr', q1, q2⟩ := worldB_get hj
    rw [blkOf_plc, k1] at q1; cases q1
    rw [baseOf_plc, at_ j hjm] at q2
    cases q2
    have := (h j hjm).2
    simp [Lit.wf] at this
    have e1 : IntKind.u8.min = 0 := rfl
    have e2 : IntKind.u8.max = 255 := rfl
    rw [e1, e2] at this
    omega
  · cases hj
theorem Nest.of {W : World} {b o n : Nat} (h : ∀ i, i < n → ∃ v, W.cell? ⟨b, o + i, none⟩ = some v ∧ InRow W v) : ∃ x : Nest, x.At W ∧ x.Ok (plc b o) ∧ x.N (plc b o) = n := by
  let v : Nat → Value := fun i => (W.cell? ⟨b, o + i, none⟩).getD undef
  have hv : ∀ i, i < n → W.cell? ⟨b, o + i, none⟩ = some (v i) ∧ InRow W (v i) := fun i hi => by
    obtain ⟨u, h1, h2⟩ := h i hi
    have : v i = u := by show (W.cell? ⟨b, o + i, none⟩).getD undef = u; rw [h1]; rfl
    rw [this]; exact ⟨h1, h2⟩
  have row : ∀ i, i < n → ((worldB W (rowQ (v i))).drop 0).take (rowM (v i)) = (worldB W (rowQ (v i))).take (rowM (v i)) := fun i _ => by rw [List.drop_zero]
  have good : ∀ i, i < n → (((worldB W (rowQ (v i))).take (rowM (v i))).length = rowM (v i) ∧ ∀ y ∈ (worldB W (rowQ (v i))).take (rowM (v i)), 0 ≤ y ∧ y < 256) ∧ rowM (v i) ≤ rowC (v i) ∧ AbsOk (rowQ (v i)) 0 (rowM (v i)) (rowC (v i)) (v i) := fun i hi => by
    obtain ⟨_, a, m, c, e, hle, hm⟩ := hv i hi
    rw [e]
    cases m with
    | zero => exact ⟨⟨by simp [rowM], fun y hy => by simp [rowM] at hy⟩, Nat.zero_le _, Nat.zero_le _, .inr ⟨rfl, a, c, rfl⟩⟩
    | succ m =>
      rcases hm with h0 | ⟨b', o', f, rfl, hf⟩
      · exact absurd h0 (by omega)
      · exact ⟨worldB_row (m := m + 1) hf (Nat.succ_ne_zero m), hle, AbsOk.of hle⟩
  refine ⟨⟨fun P => if P = plc b o then n else 0, fun _ i => rowQ (v i), fun _ i => rowM (v i), fun _ i => rowC (v i), worldB W⟩, ⟨fun P j y hy => worldB_get hy, fun P i hi => ?_⟩, ⟨fun i hi => ?_, fun i hi => ?_, fun i hi => ?_⟩, if_pos rfl⟩
  · by_cases hP : P = plc b o
    · subst hP
      simp only [if_true] at hi
      obtain ⟨pc, t, fr, q1, q2⟩ := cell_in (hv i hi).1
      exact ⟨pc, t, fr, v i, by rw [blkOf_plc]; exact q1, by rw [baseOf_plc]; exact q2, (good i hi).2.2⟩
    · simp only [if_neg hP] at hi; omega
  · simp only [if_true] at hi
    unfold Nest.row; rw [List.drop_zero]; exact (good i hi).1.1
  · simp only [if_true] at hi; exact (good i hi).2.1
  · simp only [if_true] at hi
    unfold Nest.row; rw [List.drop_zero]; exact (good i hi).1.2
section
variable {H : Type} {enc : TypeId × Value → H} {P : Program} {w : World} {base : Nat} {spare : Nat → Bool} {held : Bool}
end
end
end Go.Cln
namespace Go.Cln
open Go.ChangeShapes Go.WideShapes Go.ChangeAt Go.RowKit
set_option linter.unusedVariables false
noncomputable section
def Given.readsP (K : Given) (F : FuncId → List Value → St → Option (Value × Prop)) : Given := { K with call := fun f args s => match F f args s with
  | some r => some (r.1, s.and r.2)
  | none => K.call f args s }
theorem GivenOk.readsP {P : Program} {K : Given} (hK : GivenOk P K) {F : FuncId → List Value → St → Option (Value × Prop)}
    (h : ∀ f args s r, F f args s = some r → flat r.1 = true ∧ (r.2 → ∀ (ρ : Nat → PB) (w : World) (args' : List Value), Hs s ρ w → VL (Dm s) ρ args args' → Calls P f args'.toArray w fun e w' => e = .returned r.1 ∧ Go.RowKit.Below w.heap.size w w')) : GivenOk P (Given.readsP K F) := by
  refine ⟨fun {f args s s' v} hc => ?_, fun {f args s s' v} hc => ?_, hK.loopObl, hK.loop⟩
  · simp only [Given.readsP] at hc
    split at hc
    · cases hc; exact fun k => k.1
    · exact hK.callObl hc
  · simp only [Given.readsP] at hc
    split at hc
    · rename_i v0 hF
      cases hc
      obtain ⟨h1, h2⟩ := h _ _ _ _ hF
      intro ho n ρ w args' hs hl
      refine callsIn_wide.2 ((h2 ho.2 ρ w args' hs hl).mono ?_)
      rintro e w' ⟨rfl, hb⟩
      have l1 : Like s (s.and v0.2) := ⟨rfl, rfl, rfl, rfl, rfl⟩
      obtain ⟨g1, g2⟩ := (l1.holds hs).below hb
      exact ⟨_, ρ, rfl, .of_flat h1, g1, l1.thenTra g2⟩
    · exact hK.call hc
def RowIs (W : World) (v : Value) (R : List Int) : Prop := (∃ a c, v = .slice a R.length c ∧ R.length ≤ c ∧ (R.length = 0 ∨ ∃ b o, a = some ⟨b, o, none⟩ ∧ ∀ j, j < R.length → W.cell? ⟨b, o + j, none⟩ = some (.int .u8 (R.getD j 0)))) ∧ ∀ y ∈ R, 0 ≤ y ∧ y < 256
theorem worldB_is {W : World} {b o : Nat} {R : List Int} (h : ∀ j, j < R.length → W.cell? ⟨b, o + j, none⟩ = some (.int .u8 (R.getD j 0))) (h0 : R.length ≠ 0) : (worldB W (plc b o)).take R.length = R := by
  obtain ⟨pc, t, fr, k1, _⟩ := cell_in (h 0 (by omega))
  have at_ : ∀ j, j < R.length → pc[o + j]? = some (.int .u8 (R.getD j 0)) := fun j hj => by
    obtain ⟨pc', t', fr', q1, q2⟩ := cell_in (h j hj)
    rw [k1] at q1; cases q1; exact q2
  have hl : R.length ≤ (worldB W (plc b o)).length := by
    unfold worldB
    rw [blkOf_plc, baseOf_plc, k1]
    refine bytesAt_len fun j hj => ⟨R.getD j 0, ?_⟩
    rw [List.getElem?_drop]
    simpa using at_ j hj
  refine List.ext_getElem? fun j => ?_
  rw [List.getElem?_take]
  split
  · rename_i hj
    have hj2 : j < (worldB W (plc b o)).length := by omega
    have e1 : (worldB W (plc b o))[j]? = some (worldB W (plc b o))[j] := List.getElem?_eq_getElem hj2
    obtain ⟨pc', t', fr', q1, q2⟩ := worldB_get e1
    rw [blkOf_plc, k1] at q1; cases q1
    rw [baseOf_plc, at_ j hj] at q2
    rw [e1, List.getElem?_eq_getElem hj]
    injection q2 with q2
    injection q2 with _ q2
    rw [← q2, List.getD_eq_getElem?_getD, List.getElem?_eq_getElem hj]; rfl
  · rename_i hj
    rw [List.getElem?_eq_none (by omega)]
theorem Nest.is {W : World} {b o n : Nat} {R : Nat → List Int} (h : ∀ i, i < n → ∃ v, W.cell? ⟨b, o + i, none⟩ = some v ∧ RowIs W v (R i)) : ∃ x : Nest, x.At W ∧ x.Ok (plc b o) ∧ x.N (plc b o) = n ∧ ∀ i, i < n → x.row (plc b o) i = R i ∧ x.m (plc b o) i = (R i).length := by
  let v : Nat → Value := fun i => (W.cell? ⟨b, o + i, none⟩).getD undef
  have hv : ∀ i, i < n → W.cell? ⟨b, o + i, none⟩ = some (v i) ∧ RowIs W (v i) (R i) := fun i hi => by
    obtain ⟨u, h1, h2⟩ := h i hi
    have : v i = u := by show (W.cell? ⟨b, o + i, none⟩).getD undef = u; rw [h1]; rfl
    rw [this]; exact ⟨h1, h2⟩
  have good : ∀ i, i < n → (worldB W (rowQ (v i))).take (rowM (v i)) = R i ∧ rowM (v i) = (R i).length ∧ rowM (v i) ≤ rowC (v i) ∧ AbsOk (rowQ (v i)) 0 (rowM (v i)) (rowC (v i)) (v i) := fun i hi => by
    obtain ⟨_, ⟨a, c, e, hle, hm⟩, _⟩ := hv i hi
    rw [e]
    by_cases h0 : (R i).length = 0
    · rw [h0]
      exact ⟨by rw [List.eq_nil_of_length_eq_zero h0]; rfl, rfl, Nat.zero_le _, Nat.zero_le _, .inr ⟨rfl, a, c, rfl⟩⟩
    · rcases hm with h1 | ⟨b', o', rfl, hf⟩
      · exact absurd h1 h0
      · have e1 := worldB_is hf h0
        obtain ⟨m, hm⟩ : ∃ m, (R i).length = m + 1 := ⟨(R i).length - 1, by omega⟩
        rw [hm] at hle e1 ⊢
        exact ⟨e1, rfl, hle, AbsOk.of hle⟩
  have byte : ∀ i, i < n → ∀ y ∈ R i, 0 ≤ y ∧ y < 256 := fun i hi => (hv i hi).2.2
  have rw_ : ∀ i, i < n → (((worldB W (rowQ (v i))).drop 0).take (rowM (v i))) = R i := fun i hi => by rw [List.drop_zero]; exact (good i hi).1
  refine ⟨⟨fun P => if P = plc b o then n else 0, fun _ i => rowQ (v i), fun _ i => rowM (v i), fun _ i => rowC (v i), worldB W⟩, ⟨fun P j y hy => worldB_get hy, fun P i hi => ?_⟩, ⟨fun i hi => ?_, fun i hi => ?_, fun i hi => ?_⟩, if_pos rfl, fun i hi => ⟨rw_ i hi, (good i hi).2.1⟩⟩
  · by_cases hP : P = plc b o
    · subst hP
      simp only [if_true] at hi
      obtain ⟨pc, t, fr, q1, q2⟩ := cell_in (hv i hi).1
      exact ⟨pc, t, fr, v i, by rw [blkOf_plc]; exact q1, by rw [baseOf_plc]; exact q2, (good i hi).2.2.2⟩
    · simp only [if_neg hP] at hi; omega
  · simp only [if_true] at hi
    unfold Nest.row; rw [rw_ i hi]; exact (good i hi).2.1.symm
  · simp only [if_true] at hi; exact (good i hi).2.2.1
  · simp only [if_true] at hi
    unfold Nest.row; rw [rw_ i hi]; exact byte i hi
def rowV2 (D : Nat → List Int) : Value → List Int
  | .slice (some ⟨P, o, some _⟩) n _ => ((D P).drop o).take n
  | _ => []
def catV (D : Nat → List Int) : List Value → List Int
  | v :: l => rowV2 D v ++ catV D l
  | [] => []
def RowsOk (D : Nat → List Int) (B : Nat) : List Value → Prop
  | .slice (some ⟨P, o, some 1000⟩) n c :: l => (((D P).drop o).take n).length = n ∧ (∀ y ∈ ((D P).drop o).take n, 0 ≤ y ∧ y < 256) ∧ n ≤ B ∧ n ≤ c ∧ RowsOk D B l
  | [] => True
  | _ => False
theorem RowsOk.at {D : Nat → List Int} {B : Nat} : ∀ {L : List Value} {i : Nat} {v : Value}, RowsOk D B L → L[i]? = some v → ∃ P o n c, v = .slice (some ⟨P, o, some 1000⟩) n c ∧ (((D P).drop o).take n).length = n ∧ (∀ y ∈ ((D P).drop o).take n, 0 ≤ y ∧ y < 256) ∧ n ≤ B ∧ n ≤ c
  | [], i, v, _, h => by simp at h
  | u :: l, i, v, h, hv => by
    unfold RowsOk at h
    split at h
    · rename_i P o n c l' e
      cases e
      obtain ⟨h1, h2, h3, h4, h5⟩ := h
      cases i with
      | zero => simp only [List.getElem?_cons_zero, Option.some.injEq] at hv; exact ⟨P, o, n, c, hv.symm, h1, h2, h3, h4⟩
      | succ i => exact RowsOk.at h5 (by simpa using hv)
    · rename_i e; cases e
    · exact h.elim
theorem catV_eq (D : Nat → List Int) : ∀ L : List Value, catV D L = (L.map (rowV2 D)).flatten
  | [] => rfl
  | v :: l => by
    rw [List.map_cons, List.flatten_cons, ← catV_eq D l]
    rfl
theorem cat_flat {x : Nest} {P : Nat} {R : Nat → List Int} : ∀ n, (∀ i, i < n → x.row P i = R i) → x.cat P n = ((List.range n).map R).flatten
  | 0, _ => rfl
  | n + 1, h => by
    rw [List.range_succ, List.map_append, List.flatten_append, ← cat_flat n fun i hi => h i (by omega)]
    show x.cat P n ++ x.row P n = _
    rw [h n (by omega)]; simp
theorem listedW {P : Program} {f : FuncId} {V : List Int → Value} {m B k : Nat} (hV : ∀ l, flat (V l) = true)
    (hcall : ∀ (x : Nest) (Pl c : Nat), x.Ok Pl → m ≤ x.N Pl → (∀ i, i < m → x.m Pl i ≤ B) → CallOk P f [.slice (some ⟨Pl, 0, some 1001⟩) m c] (smSt 1 [some (.fam x.F)] []) (V (x.cat Pl m)) (smSt 1 (some (.fam x.F) :: List.replicate k none) []))
    {N : Nat → Prop} {ρ : Nat → PB} {w : World} {b c : Nat} {g : Option Nat} {R : Nat → List Int} {v' : Value} (hW : 0 < w.heap.size) (hg : isAbs g = false)
    (rows : ∀ i, i < m → ∃ v, w.cell? ⟨(ρ b).blk, (ρ b).off + i, none⟩ = some v ∧ RowIs w v (R i)) (hB : ∀ i, i < m → (R i).length ≤ B) (hv : VR N ρ (.slice (some ⟨b, 0, g⟩) m c) v') :
    Calls P f #[v'] w fun e w' => e = .returned (V ((List.range m).map R).flatten) ∧ Go.RowKit.Below w.heap.size w w' := by
  obtain ⟨x, hx, hok, hN, hrow⟩ := Nest.is rows
  obtain ⟨ρ2, g1, g2⟩ := Nest.start hx hW []
  obtain ⟨a', c', rfl, hle, hat⟩ : ∃ a' c', v' = .slice (some a') m c' ∧ m ≤ c' ∧ (c' = 0 ∨ a' = ⟨(ρ b).blk, (ρ b).off, none⟩) := by
    cases hv with
    | same hf => simp [flat0] at hf
    | slice _ hn hk =>
      obtain ⟨k1, k2, k3⟩ := hk
      refine ⟨_, _, rfl, ?_, by rcases k1 with h | h; exact .inl h; exact .inr (by rw [h, Nat.add_zero])⟩
      cases g with
      | none => rw [k2 rfl]; exact hn
      | some z => exact Nat.le_trans hn (k3 z rfl).1
    | abs _ h _ => rw [h] at hg; cases hg
  have habs : AbsOk (plc (ρ b).blk (ρ b).off) 0 m c' (.slice (some a') m c') := by
    rcases Nat.eq_zero_or_pos c' with h | h
    · subst h
      exact ⟨hle, .inr ⟨rfl, some a', 0, by rw [show m = 0 by omega]⟩⟩
    · rcases hat with h' | rfl
      · omega
      · exact AbsOk.of hle
  have hc := hcall x _ c' hok (by omega) (fun i hi => by rw [(hrow i hi).2]; exact hB i hi)
  have := hc trivial 0 ρ2 w [.slice (some a') m c'] g1 (VL.cons (g2 _ _ _ _ habs) VL.nil)
  refine (callsIn_wide.1 this).mono ?_
  rintro e w' ⟨u, ρ3, rfl, q1, q2, q3⟩
  have eu := q1.eq_flat (hV _)
  have ecat : x.cat (plc (ρ b).blk (ρ b).off) m = ((List.range m).map R).flatten := cat_flat m fun i hi => (hrow i hi).1
  refine ⟨by rw [eu, ecat], q3.os, q3.tape, q3.output, q3.size, fun j hj => q3.frame j hj fun b' o hb' hm' => ?_⟩
  have hlt : 1 ≤ b' := by
    unfold St.may at hm'
    rw [Bool.and_eq_true] at hm'
    exact of_decide_eq_true hm'.1
  have hget : (Tr.ofL [some (Ob.fam x.F)]).get b' = some o := hb'
  rw [ofL_get (by simp)] at hget
  obtain ⟨b', rfl⟩ : ∃ z, b' = z + 1 := ⟨b' - 1, by omega⟩
  simp [Go.Cln.hget] at hget
theorem listed {P : Program} {f : FuncId} {V : List Int → Value} {m B k : Nat} (hV : ∀ l, flat (V l) = true)
    (hcall : ∀ (x : Nest) (Pl c : Nat), x.Ok Pl → m ≤ x.N Pl → (∀ i, i < m → x.m Pl i ≤ B) → CallOk P f [.slice (some ⟨Pl, 0, some 1001⟩) m c] (smSt 1 [some (.fam x.F)] []) (V (x.cat Pl m)) (smSt 1 (some (.fam x.F) :: List.replicate k none) []))
    {s : St} {ρ : Nat → PB} {w : World} {b c : Nat} {g : Option Nat} {L : List Value} {ty : TypeId} {D : Nat → List Int} {F : Nat → Nat → Cells} {v' : Value} (hs : Hs s ρ w) (h0 : s.heap.get 0 = some (.fam F)) (hF : ∀ Q, F 1000 Q = .ints .u8 (D Q)) (hb : s.heap.get b = some (.cells (.lit L) ty)) (hg : isAbs g = false)
    (hm : L.length = m) (hL : RowsOk D B L) (hv : VR (Dm s) ρ (.slice (some ⟨b, 0, g⟩) m c) v') : Calls P f #[v'] w fun e w' => e = .returned (V (catV D L)) ∧ Go.RowKit.Below w.heap.size w w' := by
  obtain ⟨d0, f1, f3⟩ := hs.ob 0 _ h0
  obtain ⟨db, pc, tb, fr, b1, b2, b3, b4⟩ := hs.ob b _ hb
  have rows : ∀ i, i < m → ∃ v, w.cell? ⟨(ρ b).blk, (ρ b).off + i, none⟩ = some v ∧ RowIs w v (rowV2 D (L.getD i undef)) := fun i hi => by
    have hi' : L[i]? = some (L[i]'(by omega)) := List.getElem?_eq_getElem (by omega)
    obtain ⟨Q, o, n, c', e, r1, r2, r3, r4⟩ := hL.at hi'
    obtain ⟨u, u1, u2⟩ := b4 i _ hi'
    have eg : L.getD i undef = .slice (some ⟨Q, o, some 1000⟩) n c' := by rw [List.getD_eq_getElem?_getD, hi', e]; rfl
    rw [e] at u2
    have u2 : AbsOk Q o n c' u := by
      cases u2 with
      | same hf => simp [flat0] at hf
      | slice _ _ hk => have := (hk.2.2 1000 rfl).2.2; omega
      | abs _ _ hk => exact hk
    refine ⟨u, ?_, ?_⟩
    · unfold World.cell?
      simp only [b1]
      simpa using u1
    · rw [eg]
      show RowIs w u (((D Q).drop o).take n)
      refine ⟨?_, r2⟩
      rw [r1]
      obtain ⟨k1, k2 | ⟨k2, a, c2, k3⟩⟩ := u2
      · refine ⟨_, c', k2, k1, ?_⟩
        rcases Nat.eq_zero_or_pos n with h | h
        · exact .inl h
        · refine .inr ⟨_, _, rfl, fun j hj => ?_⟩
          have hD : (D Q)[o + j]? = some ((((D Q).drop o).take n).getD j 0) := by
            have hl : j < (((D Q).drop o).take n).length := by omega
            rw [List.getD_eq_getElem?_getD, List.getElem?_eq_getElem hl]
            have : (((D Q).drop o).take n)[j]? = some (((D Q).drop o).take n)[j] := List.getElem?_eq_getElem hl
            rw [List.getElem?_take, if_pos hj, List.getElem?_drop] at this
            exact this
          obtain ⟨pc2, t2, fr2, x', q1, q2, q3, _⟩ := f3 1000 Q (o + j) (.int .u8 ((((D Q).drop o).take n).getD j 0)) (by rw [hF]; simp only [Cells.get, hD]; rfl)
          have := q3.eq_flat0 rfl
          subst this
          unfold World.cell?
          simp only [q1]
          simpa [Nat.add_assoc] using q2
      · have hn : n = 0 := by omega
        subst hn
        exact ⟨a, c2, by rw [k3], Nat.zero_le _, .inl rfl⟩
  have hW : 0 < w.heap.size := Nat.lt_of_le_of_lt (Nat.zero_le _) (heapObj_lt b1)
  have := listedW hV hcall hW hg rows (fun i hi => by
    have hi' : L[i]? = some (L[i]'(by omega)) := List.getElem?_eq_getElem (by omega)
    obtain ⟨Q, o, n, c2, e, r1, r2, r3, r4⟩ := hL.at hi'
    rw [List.getD_eq_getElem?_getD, hi', e]
    show (((D Q).drop o).take n).length ≤ B
    omega) hv
  have ecat : ((List.range m).map fun i => rowV2 D (L.getD i undef)).flatten = catV D L := by
    rw [catV_eq]
    congr 1
    refine List.ext_getElem? fun i => ?_
    rw [List.getElem?_map, List.getElem?_map]
    by_cases hi : i < m
    · rw [List.getElem?_range hi, List.getElem?_eq_getElem (by omega : i < L.length)]
      simp only [Option.map_some, List.getD_eq_getElem?_getD, List.getElem?_eq_getElem (by omega : i < L.length), Option.getD_some]
    · rw [List.getElem?_eq_none (by simpa using hi), List.getElem?_eq_none (by omega : L.length ≤ i)]; rfl
  rw [ecat] at this; exact this
end
end Go.Cln
namespace Go.Cln
open Go.ChangeShapes Go.WideShapes Go.ChangeAt Go.RowKit
set_option linter.unusedVariables false
noncomputable section
structure Acts where
  wh : Nat → Int
  tw : Nat → Bool
  Q : Nat → Nat
  m : Nat → Nat
  c : Nat → Nat
  D : Nat → List Int
def Acts.row (x : Acts) (i : Nat) : List Value := [.int .i64 (x.wh i), .bool (x.tw i), .slice (some ⟨x.Q i, 0, some 1000⟩) (x.m i) (x.c i)]
def Acts.F (x : Acts) (g P : Nat) : Cells := .ints .u8 (x.D P)
def Acts.by (x : Acts) (i : Nat) : List Int := (x.D (x.Q i)).take (x.m i)
structure Acts.Ok (x : Acts) (n : Nat) : Prop where
  len : ∀ i, i < n → (x.by i).length = x.m i
  room : ∀ i, i < n → x.m i ≤ x.c i
  byte : ∀ i, i < n → ∀ y ∈ x.by i, 0 ≤ y ∧ y < 256
  what : ∀ i, i < n → -9223372036854775808 ≤ x.wh i ∧ x.wh i ≤ 9223372036854775807
structure Acts.At (x : Acts) (W : World) (b o n : Nat) : Prop where
  bytes : ∀ (P j : Nat) (y : Int), (x.D P)[j]? = some y → ∃ pc t fr, W.heap[blkOf P]? = some (.cells pc t fr) ∧ pc[baseOf P + j]? = some (.int .u8 y)
  rows : ∃ pc t fr, W.heap[b]? = some (.cells pc t fr) ∧ ∀ i, i < n → pc[o + i * 3]? = some (.int .i64 (x.wh i)) ∧ pc[o + i * 3 + 1]? = some (.bool (x.tw i)) ∧ ∃ v, pc[o + i * 3 + 2]? = some v ∧ AbsOk (x.Q i) 0 (x.m i) (x.c i) v
def Acts.heap (x : Acts) (n : Nat) : List (Option Ob) := [some (.fam x.F), some (.cells (.rows n 3 x.row) 0)]
theorem Acts.start {x : Acts} {W : World} {b o n : Nat} (h : x.At W b o n) (orc : List (Option Bool)) :
    ∃ ρ : Nat → PB, Hs (smSt 2 (x.heap n) orc) ρ W ∧ ∀ m c, m ≤ c → VR (Dm (smSt 2 (x.heap n) orc)) ρ (.slice (some ⟨1, 0, none⟩) m c) (.slice (some ⟨b, o, none⟩) m c) := by
  obtain ⟨pc, t, fr, hb, hr⟩ := h.rows
  have hW : b < W.heap.size := by
    rcases Nat.lt_or_ge b W.heap.size with h | h
    · exact h
    · simp [Array.getElem?_eq_none h] at hb
  have get : ∀ (k : Nat) (ob : Ob), (smSt 2 (x.heap n) orc).heap.get k = some ob → (k = 0 ∧ ob = .fam x.F) ∨ (k = 1 ∧ ob = .cells (.rows n 3 x.row) 0) := fun k ob hk => by
    have hk : (Tr.ofL (x.heap n)).get k = some ob := hk
    rw [ofL_get (by simp [Acts.heap])] at hk
    rcases k with _ | _ | k
    · simp only [hget, Acts.heap, List.getElem?_cons_zero] at hk
      cases hk; exact .inl ⟨rfl, rfl⟩
    · simp only [hget, Acts.heap, List.getElem?_cons_succ, List.getElem?_cons_zero] at hk
      cases hk; exact .inr ⟨rfl, rfl⟩
    · simp [hget, Acts.heap] at hk
  have d0 : Dm (smSt 2 (x.heap n) orc) 0 := ⟨(show 0 < 2 by decide), rfl⟩
  have d1 : Dm (smSt 2 (x.heap n) orc) 1 := ⟨(show 1 < 2 by decide), rfl⟩
  refine ⟨fun k => match k with | 0 => ⟨0, 0, 0⟩ | _ => ⟨b, o, pc.size⟩, ⟨⟨fun k ob hk => ?_, fun k k' ob ob' hk hk' hm _ => ?_, fun k k' ob ob' B hk hB hk' hm => ?_⟩, fun _ _ => rfl, ⟨Nat.le_refl _, fun z hz => by simp [smSt] at hz⟩⟩, fun m c hmc => .slice (b := 1) (o := 0) d1 hmc ⟨.inr rfl, fun _ => rfl, fun z hz => by cases hz⟩⟩
  · rcases get k ob hk with ⟨rfl, rfl⟩ | ⟨rfl, rfl⟩
    · refine ⟨d0, fun hm => absurd (show 2 ≤ 0 from hm) (by omega), fun g P i v hv => ?_⟩
      unfold Acts.F at hv
      simp only [Cells.get, Option.map_eq_some_iff] at hv
      obtain ⟨y, hy, rfl⟩ := hv
      obtain ⟨pc, t, fr, k1, k2⟩ := h.bytes P i y hy
      exact ⟨pc, t, fr, _, k1, k2, .same rfl, rfl⟩
    · refine ⟨d1, pc, t, fr, hb, rfl, fun hm => absurd (show 2 ≤ 1 from hm) (by omega), fun i v hv => ?_⟩
      simp only [Cells.get] at hv
      split at hv
      · rename_i hi
        obtain ⟨r0, r1, u, r2, r3⟩ := hr _ hi
        have h3 : i % 3 = 0 ∨ i % 3 = 1 ∨ i % 3 = 2 := by omega
        have ei : o + i = o + i / 3 * 3 + i % 3 := by omega
        show ∃ v', pc[o + i]? = some v' ∧ _
        rw [ei]
        rcases h3 with e | e | e <;> rw [e] at hv ⊢
        · cases hv; exact ⟨_, r0, .same rfl⟩
        · cases hv; exact ⟨_, r1, .same rfl⟩
        · cases hv; exact ⟨_, r2, .abs d0 rfl r3⟩
      · cases hv
  · have hm : 2 ≤ k ∨ 2 ≤ k' := hm
    have e1 : k < 2 := by rcases get k ob hk with ⟨e, _⟩ | ⟨e, _⟩ <;> omega
    have e2 : k' < 2 := by rcases get k' ob' hk' with ⟨e, _⟩ | ⟨e, _⟩ <;> omega
    omega
  · have hm : 2 ≤ k' := hm
    have e2 : k' < 2 := by rcases get k' ob' hk' with ⟨e, _⟩ | ⟨e, _⟩ <;> omega
    omega
def actsI (W : World) (b o : Nat) : Int := match W.cell? ⟨b, o, none⟩ with | some (.int _ z) => z | _ => 0
def actsB (W : World) (b o : Nat) : Bool := match W.cell? ⟨b, o, none⟩ with | some (.bool z) => z | _ => false
def actsV (W : World) (b o : Nat) : Value := (W.cell? ⟨b, o, none⟩).getD undef
def Acts.of (W : World) (b o : Nat) : Acts := ⟨fun i => actsI W b (o + i * 3), fun i => actsB W b (o + i * 3 + 1), fun i => rowQ (actsV W b (o + i * 3 + 2)), fun i => rowM (actsV W b (o + i * 3 + 2)), fun i => rowC (actsV W b (o + i * 3 + 2)), worldB W⟩
theorem row_ok {W : World} {v : Value} (h : InRow W v) : (((worldB W (rowQ v)).take (rowM v)).length = rowM v ∧ ∀ y ∈ (worldB W (rowQ v)).take (rowM v), 0 ≤ y ∧ y < 256) ∧ rowM v ≤ rowC v ∧ AbsOk (rowQ v) 0 (rowM v) (rowC v) v := by
  obtain ⟨a, m, c, rfl, hle, hm⟩ := h
  cases m with
  | zero => exact ⟨⟨by simp [rowM], fun y hy => by simp [rowM] at hy⟩, Nat.zero_le _, Nat.zero_le _, .inr ⟨rfl, a, c, rfl⟩⟩
  | succ m =>
    rcases hm with h0 | ⟨b', o', f, rfl, hf⟩
    · exact absurd h0 (by omega)
    · exact ⟨worldB_row (m := m + 1) hf (Nat.succ_ne_zero m), hle, AbsOk.of hle⟩
section
variable {H : Type} {enc : TypeId × Value → H} {P : Program} {w : World} {base : Nat} {spare : Nat → Bool} {held : Bool}
end
end
end Go.Cln
namespace Go.Cln
set_option linter.unusedVariables false
def maskT (B : Nat → Bool) : Nat → List Value → List Value → List Value
  | i, v1 :: l1, v2 :: l2 => (if B i then mask3 v1 v2 else v1) :: maskT B (i + 1) l1 l2
  | _, [], _ => []
  | _, v1 :: l1, [] => v1 :: l1
def renT (B : Nat → Bool) (σ : Nat → Nat) : Nat → List Value → List Value
  | i, v :: l => (if B i then ren σ v else v) :: renT B σ (i + 1) l
  | _, [] => []
def okT (B : Nat → Bool) (s : St) : Nat → List Value → Bool
  | i, v :: l => (if B i then okV s v else true) && okT B s (i + 1) l
  | _, [] => true
structure DeadV (v : Value) : Prop where
  mask : mask3 v v = v
  ren : ∀ σ, Go.Cln.ren σ v = v
  ok : ∀ s, okV s v = true
theorem DeadV.undef : DeadV undef := ⟨rfl, fun _ => rfl, fun _ => rfl⟩
theorem DeadV.junk : DeadV junk := ⟨rfl, fun _ => rfl, fun _ => rfl⟩
def deadT (B : Nat → Bool) : Nat → List Value → Prop
  | i, v :: l => (B i = false → DeadV v) ∧ deadT B (i + 1) l
  | _, [] => True
theorem maskT_ok {B : Nat → Bool} {σ : Nat → Nat} : ∀ {i : Nat} {l1 l2 : List Value}, deadT B i l2 → maskT B i l1 l2 = renT B σ i l2 → maskD l1 l2 = l2.map (ren σ)
  | i, [], [], hd, h => rfl
  | i, [], v :: l, hd, h => by simp [maskT, renT] at h
  | i, v :: l, [], hd, h => by simp [maskT, renT] at h
  | i, v1 :: l1, v2 :: l2, hd, h => by
    obtain ⟨h1, h2⟩ := hd
    simp only [maskT, renT, List.cons.injEq] at h
    obtain ⟨h3, h4⟩ := h
    have := maskT_ok h2 h4
    simp only [maskD, List.map_cons, this, List.cons.injEq, and_true]
    cases hb : B i with
    | true => rw [hb] at h3; simpa using h3
    | false =>
      rw [hb] at h3
      have h3 : v1 = v2 := by simpa using h3
      have hv := h1 hb
      rw [h3, hv.mask, hv.ren]
theorem okT_all {B : Nat → Bool} {s : St} : ∀ {i : Nat} {l : List Value}, deadT B i l → okT B s i l = true → l.all (okV s) = true
  | i, [], hd, h => rfl
  | i, v :: l, hd, h => by
    obtain ⟨h1, h2⟩ := hd
    simp only [okT, Bool.and_eq_true] at h
    obtain ⟨h3, h4⟩ := h
    have := okT_all h2 h4
    simp only [List.all_cons, this, Bool.and_true]
    cases hb : B i with
    | true => rw [hb] at h3; simpa using h3
    | false => exact (h1 hb).ok s
def seenInT (B : Nat → Bool) (s1 s2 : St) (σ : List Nat) : Seen := ⟨s1.next, s1.roB, s1.ro, s1.hid, s1.defers, maskT B 0 s1.tmps s2.tmps, (List.range s2.next).map fun b => maskOb (s1.heap.get (nm σ b)) (s2.heap.get b), (List.range s2.roB).map s1.heap.get⟩
def seenAsT (B : Nat → Bool) (s2 : St) (σ : List Nat) (n1 : Nat) : Seen := ⟨n1, s2.roB, s2.ro, s2.hid, s2.defers.map (nm σ), renT B (nm σ) 0 s2.tmps, (List.range s2.next).map fun b => (s2.heap.get b).map (renOb (nm σ)), (List.range s2.roB).map s2.heap.get⟩
def okOb3 (s : St) : Option Ob → Bool
  | some (.cells (.rows _ _ _) _) => okB s 0
  | o => okOb2 s o
def RowsIn (f : Nat → Option Ob) : Prop := ∀ (b n w : Nat) (g : Nat → List Value) (t : TypeId), f b = some (.cells (.rows n w g) t) → ∀ (i : Nat) (v : Value), v ∈ g i → (∀ σ, Go.Cln.ren σ v = v) ∧ ∀ s : St, okB s 0 = true → okV s v = true
theorem maskOb_w {s2 : St} {σ : Nat → Nat} {o1 : Option Ob} {o : Ob} (h : maskOb o1 (some o) = some (renOb σ o)) (hk : okOb3 s2 (some o) = true)
    (hR : ∀ (n w : Nat) (g : Nat → List Value) (t : TypeId), o = .cells (.rows n w g) t → ∀ (i : Nat) (v : Value), v ∈ g i → (∀ σ, Go.Cln.ren σ v = v) ∧ ∀ s : St, okB s 0 = true → okV s v = true) : ∃ x, o1 = some x ∧ ObV s2 σ x o := by
  by_cases hr : ∃ n w g t, o = .cells (.rows n w g) t
  · obtain ⟨n, w, g, t, rfl⟩ := hr
    have h0 : okB s2 0 = true := hk
    cases o1 with
    | none => simp [maskOb] at h
    | some x =>
      refine ⟨x, rfl, ?_⟩
      have hx : ∃ t1, x = .cells (.rows n w g) t1 := by
        cases x with
        | cells c1 t1 =>
          refine ⟨t1, ?_⟩
          have h : some (Ob.cells c1 t) = some (Ob.cells (.rows n w g) t) := by cases c1 <;> exact h
          cases h; rfl
        | _ => simp [maskOb, renOb] at h
      obtain ⟨t1, rfl⟩ := hx
      refine .cells fun i v hv => ⟨v, hv, .inl ?_, ?_⟩
      · simp only [Cells.get] at hv
        split at hv
        · exact ((hR n w g t rfl _ v (List.mem_of_getElem? hv)).1 σ).symm
        · cases hv
      · simp only [Cells.get] at hv
        split at hv
        · exact (hR n w g t rfl _ v (List.mem_of_getElem? hv)).2 s2 h0
        · cases hv
  · refine maskOb_v h ?_
    cases o with
    | cells c t =>
      cases c with
      | rows n w g => exact absurd ⟨n, w, g, t, rfl⟩ hr
      | _ => exact hk
    | _ => exact hk
def picOkT (B : Nat → Bool) (s0 s2 : St) (σ : List Nat) : Bool :=
  decide (s0.next ≤ s2.next) && okT B s2 0 s2.tmps && (s2.defers.all fun d => decide (d < s2.next)) && ((List.range s2.next).all fun b => okOb3 s2 (s2.heap.get b) && okB s2 b) &&
  ((List.range s2.next).all fun b => if b < s0.next then nm σ b == b else (decide (s0.next ≤ nm σ b) || s0.may (nm σ b))) && decide (σ.length ≤ s2.next) &&
  ((List.range s2.next).all fun b => (List.range b).all fun c => !((s2.heap.get b).isSome && (s2.heap.get c).isSome) || nm σ b != nm σ c) && decide (s0.roB = s2.roB) && s0.ro.isEmpty && decide (s2.next ≤ 1000000)
structure ViewM (s0 s1 s2 : St) (σ : Nat → Nat) : Prop where
  next : s0.next ≤ s2.next
  idn : ∀ b, b < s0.next → σ b = b
  fresh : ∀ b, s0.next ≤ b → s0.next ≤ σ b ∨ s0.may (σ b) = true
  roB : s2.roB = s1.roB
  ro : s2.ro = s1.ro
  hid : s2.hid = s1.hid
  tmps : maskD s1.tmps s2.tmps = s2.tmps.map (ren σ)
  okT : s2.tmps.all (okV s2) = true
  defers : s1.defers = s2.defers.map σ
  okD : ∀ d ∈ s2.defers, d < s2.next
  heap : ∀ (b : Nat) (o : Ob), s2.heap.get b = some o → okB s2 b = true ∧ ∃ o1, s1.heap.get (σ b) = some o1 ∧ ObV s2 σ o1 o
  inj : ∀ (b b' : Nat) (o o' : Ob), s2.heap.get b = some o → s2.heap.get b' = some o' → σ b = σ b' → b = b'
  same : ∀ b, b < s0.next → s0.may b = false → s2.heap.get b = s1.heap.get b
theorem Pic.viewM {s0 s1 s2 : St} {ρ0 : Nat → PB} {w0 w : World} {a : Act} {σ : Nat → Nat} (hs0 : Hs s0 ρ0 w0) (v : ViewM s0 s1 s2 σ) (h : Pic s0 ρ0 w0 s1 w a) : Pic s0 ρ0 w0 s2 w a := by
  obtain ⟨ρ1, r, t⟩ := h
  have hρ : ∀ b, (fun b => ρ1 (σ b)) b = ρ1 (σ b) := fun _ => rfl
  have hro : s0.roB ≤ s0.next := hs0.wf.1
  have hrm : ∀ b, s0.may b = true → s0.roB ≤ b := fun b hb => by
    rcases Nat.lt_or_ge b s0.roB with h | h
    · unfold St.may at hb
      simp [h] at hb
      omega
    · exact h
  have hmay : ∀ b, s2.may b = s0.may b := fun b => by rw [may_of v.roB v.ro, may_of t.roB t.ro]
  have hmay1 : ∀ b, s1.may b = s0.may b := fun b => may_of t.roB t.ro b
  refine ⟨fun b => ρ1 (σ b), ⟨⟨⟨fun b o hb => ?_, fun b b' o o' hb hb' hk e => ?_, fun b b' o o' B hb hB hb' hk => ?_⟩, fun b hb => ?_, ?_⟩, ?_, ?_, v.okD⟩, ?_⟩
  · obtain ⟨hd, o1, h1, ho⟩ := v.heap b o hb
    obtain ⟨_, k⟩ := r.hs.ob _ _ h1
    refine ⟨okB_dm hd, ?_⟩
    have hr : s2.roB ≤ b → s1.roB ≤ σ b := fun hb => by
      rw [v.roB] at hb
      rcases Nat.lt_or_ge b s0.next with hlt | hge
      · rw [v.idn b hlt]; exact hb
      · rw [t.roB]; rcases v.fresh b hge with h | h
        · omega
        · exact hrm _ h
    cases ho with
    | cells hc =>
      obtain ⟨pc, ty, fr, k1, k2, k3, k4⟩ := k
      refine ⟨pc, ty, fr, k1, k2, fun m => k3 (hr m), fun i x hx => ?_⟩
      obtain ⟨v1, y1, y2, y3⟩ := hc i x hx
      obtain ⟨z, z1, z2⟩ := k4 i _ y1
      refine ⟨z, z1, ?_⟩
      rcases y2 with rfl | ⟨rfl, y2⟩
      · exact ren_sound hρ x z y3 z2
      · exact .any (by rw [z2.one]; exact y2)
    | loop e1 e2 e3 e4 e5 e6 e7 e8 e9 =>
      rename_i lo1 lo
      obtain ⟨l', k1, k2⟩ := k
      refine ⟨l', k1, ⟨k2.state.trans e1, k2.pending.trans e2, ?_, k2.params.trans e5, k2.assign.trans e6, k2.body.trans e7, okB_dm e9, ?_⟩⟩
      · have := maskD_vl (l2 := lo.tmps) k2.tmps; rw [e3] at this; exact renAll_sound hρ e4 this
      · rw [k2.defers, e8]
    | marks => exact k
    | fam hz =>
      obtain ⟨k1, k3⟩ := k
      refine ⟨fun hb => k1 (hr hb), fun g P i x hx => ?_⟩
      obtain ⟨pc, ty, fr, x', q1, q2, q3, q4⟩ := k3 g P i x hx
      exact ⟨pc, ty, fr, x', q1, q2, famV_vr q3 q4 (okB_dm hz), q4⟩
    | map e1 e2 =>
      rename_i es1 es kk
      obtain ⟨es', k1, k2, k3⟩ := k
      refine ⟨es', k1, by rw [k2, e1]; simp, fun i x y hx hy => ?_⟩
      obtain ⟨y1, y2, y3⟩ := k3 i { x with val := ren σ x.val } y (by rw [e1, List.getElem?_map, hx]; rfl) hy
      exact ⟨y1, y2, ren_sound hρ _ _ (List.all_eq_true.1 e2 x (List.mem_of_getElem? hx)) y3⟩
  · obtain ⟨_, o1, h1, q1⟩ := v.heap b o hb
    obtain ⟨_, o2, h2, q2⟩ := v.heap b' o' hb'
    have up : ∀ c, s2.roB ≤ c → s1.roB ≤ σ c := fun c hc => by
      rw [v.roB] at hc
      rcases Nat.lt_or_ge c s0.next with hlt | hge
      · rw [v.idn c hlt]; exact hc
      · rw [t.roB]; rcases v.fresh c hge with h | h
        · omega
        · exact hrm _ h
    exact (r.hs.inj _ _ _ _ h1 h2 (hk.imp (up b) (up b')) e).imp (v.inj b b' o o' hb hb') (Or.imp q1.soft q2.soft)
  · obtain ⟨_, o1, h1, hv⟩ := v.heap b o hb
    obtain ⟨_, o2, h2, _⟩ := v.heap b' o' hb'
    have up : ∀ c, s2.roB ≤ c → s1.roB ≤ σ c := fun c hc => by
      rw [v.roB] at hc
      rcases Nat.lt_or_ge c s0.next with hlt | hge
      · rw [v.idn c hlt]; exact hc
      · rw [t.roB]; rcases v.fresh c hge with h | h
        · omega
        · exact hrm _ h
    refine r.hs.far _ _ o1 o2 B h1 ?_ h2 (up b' hk)
    obtain ⟨F, g, P, i, x, rfl, hx, hB⟩ := hB
    cases hv
    exact ⟨F, g, P, i, x, rfl, hx, hB⟩
  · rw [v.hid, t.hid]; exact hs0.hid b (Nat.le_trans v.next hb)
  · rw [v.roB, v.ro, t.roB, t.ro]
    exact ⟨Nat.le_trans hro v.next, fun b hb => Nat.lt_of_lt_of_le (hs0.wf.2 b hb) v.next⟩
  · have := maskD_vl (l2 := s2.tmps) r.tmps; rw [v.tmps] at this; exact renAll_sound hρ v.okT this
  · rw [r.defers, v.defers]; simp [marksOf]
  · refine ⟨v.next, fun b hb => ?_, t.os, t.tape, t.output, t.size, t.frame, fun b o hb hm => ?_, v.roB.trans t.roB, v.ro.trans t.ro, v.hid.trans t.hid, fun b hb => ?_⟩
    · show ρ1 (σ b) = ρ0 b
      rw [v.idn b hb]; exact t.ext b hb
    · obtain ⟨_, o1, h1, _⟩ := v.heap b o hb
      refine t.own (σ b) o1 h1 ?_
      rw [hmay1]; rw [hmay] at hm
      rcases Nat.lt_or_ge b s0.next with hlt | hge
      · rw [v.idn b hlt]; exact hm
      · exact (v.fresh b hge).elim (fun h => hs0.may_next h) id
    · have := may_lt hs0 hb
      rw [v.same b this hb]; exact t.same b hb
theorem ViewM.stdT {B : Nat → Bool} {s0 s1 s2 : St} {σ : List Nat} {f : Nat → Option Ob} {n1 : Nat} (hd : deadT B 0 s2.tmps) (hR : RowsIn f) (hh : s2.heap = Tr.rebuild f s2.next) (hk : picOkT B s0 s2 σ = true) (hs : seenInT B s1 s2 σ = seenAsT B s2 σ n1) : ViewM s0 s1 s2 (nm σ) := by
  simp only [picOkT, Bool.and_eq_true, decide_eq_true_eq, List.all_eq_true, List.mem_range] at hk
  obtain ⟨⟨⟨⟨⟨⟨⟨⟨⟨k1, k2⟩, k3⟩, k4⟩, k5⟩, k6⟩, k7⟩, k8⟩, k9⟩, hn⟩ := hk
  simp only [seenInT, seenAsT, Seen.mk.injEq] at hs
  obtain ⟨s_1, s_2, s_3, s_4, s_5, s_6, s_7, s_8⟩ := hs
  have obs : ∀ b, b < s2.next → maskOb (s1.heap.get (nm σ b)) (s2.heap.get b) = (s2.heap.get b).map (renOb (nm σ)) := fun b hb => by
    have := congrArg (fun l => l[b]?) s_7
    simpa [List.getElem?_map, List.getElem?_range hb] using this
  have k9 : s0.ro = [] := by simpa using k9
  refine ⟨k1, fun b hb => ?_, fun b hb => ?_, s_2.symm, s_3.symm, s_4.symm, maskT_ok hd s_6, okT_all hd k2, s_5, fun d hd => k3 d hd, fun b o hb => ?_, fun b b' o o' hb hb' e => ?_, fun b hb hm => ?_⟩
  · have := k5 b (by omega)
    rw [if_pos hb] at this; simpa using this
  · rcases Nat.lt_or_ge b s2.next with h | h
    · have := k5 b h
      rw [if_neg (by omega)] at this
      simpa using this
    · rw [nm_hi (by omega)]; exact .inl hb
  · have hlt := heap_lt hh hn hb
    obtain ⟨q1, q2⟩ := k4 b hlt
    have := obs b hlt
    rw [hb] at this q1
    have hfb : f b = some o := by rw [hh] at hb; exact (heap_at hn hb).2
    obtain ⟨x, hx, hv⟩ := maskOb_w (σ := nm σ) this q1 (fun n w g t e => hR b n w g t (by rw [hfb, e]))
    exact ⟨q2, x, hx, hv⟩
  · have h1 := heap_lt hh hn hb
    have h2 := heap_lt hh hn hb'
    have e1 : ∀ b c, b < s2.next → c < b → (s2.heap.get b).isSome = true → (s2.heap.get c).isSome = true → nm σ b ≠ nm σ c := fun b c hb hc x y => by
      have := k7 b hb c hc
      rw [x, y] at this
      simpa using this
    rcases Nat.lt_trichotomy b b' with h | h | h
    · exact absurd e.symm (e1 b' b h2 h (by rw [hb']; rfl) (by rw [hb]; rfl))
    · exact h
    · exact absurd e (e1 b b' h1 h (by rw [hb]; rfl) (by rw [hb']; rfl))
  · have hlt : b < s2.roB := by
      rcases Nat.lt_or_ge b s2.roB with h | h
      · exact h
      · unfold St.may at hm
        rw [k8, k9] at hm
        simp at hm; omega
    have := congrArg (fun l => l[b]?) s_8
    have := by simpa [List.getElem?_map, List.getElem?_range hlt] using this
    exact this.symm
theorem Step.viewM {P : Program} {rd : Option Nat} {s0 : St} {c : Code} {s s2 : St} {Q : Exit → St → Prop} {σ : Nat → Nat} (v : ViewM s0 s s2 σ) (h : Step P rd s0 c s2 Q) : Step P rd s0 c s Q :=
  fun n ρ0 w0 w a R h1 h2 h3 h4 => h n ρ0 w0 w a R h1 h2 (h3.viewM h2 v) h4
theorem Step.stdT {P : Program} (G : PG P) {K : Given} (hK : GivenOk P K) {B : Nat → Bool} {n : Nat} {f : FuncId} {rd : Option Nat} {s0 s s2 : St} {c : Code} {e : Exit} {p : Prop} {o : List (Option Bool)} {σ : List Nat} {g : Nat → Option Ob} {n1 : Nat}
    (hr : ((mk P K n).code f rd c { s with obl := True, orc := o }).map (fun r => (r.1, r.2.obl, seenInT B r.2 s2 σ)) = some (e, p, seenAsT B s2 σ n1)) (hp : p) (hn : s0.next ≤ s.next) (hd : deadT B 0 s2.tmps) (hR : RowsIn g)
    (hh : s2.heap = Tr.rebuild g s2.next) (hk : picOkT B s0 s2 σ = true) : Step P rd s0 c s (fun e' s' => e' = e ∧ s' = s2) := by
  cases hc : (mk P K n).code f rd c { s with obl := True, orc := o } with
  | none => rw [hc] at hr; simp at hr
  | some r =>
    obtain ⟨e1, s1⟩ := r
    rw [hc] at hr
    simp only [Option.map_some, Option.some.injEq, Prod.mk.injEq] at hr
    obtain ⟨rfl, h2, h3⟩ := hr
    have v := ViewM.stdT hd hR hh hk h3
    have l1 : Like s { s with obl := True, orc := o } := ⟨rfl, rfl, rfl, rfl, rfl⟩
    have h := (mk_ok G hK n).okCode hc
    intro m ρ0 w0 w a R g1 g2 ⟨ρ, r, t⟩ g4
    have := h (by rw [h2]; exact hp) m ρ w a R (fun l hl => Nat.lt_of_lt_of_le (g1 l hl) hn) (r.like l1 rfl rfl) fun ρ' w' a' r' t' => g4 _ s2 w' a' ⟨rfl, rfl⟩ (Pic.viewM g2 v ⟨ρ', r', t.trans (l1.thenTra t')⟩)
    rwa [fenceOf_ext g1 t.ext] at this
def E0 : Value := .slice (some ⟨0, 0, some 1000⟩) 0 0
structure Wk (s s2 : St) : Prop where
  next : s2.next = s.next
  roB : s2.roB = s.roB
  ro : s2.ro = s.ro
  hid : s2.hid = s.hid
  defers : s2.defers = s.defers
  tmps : s2.tmps = s.tmps
  zero : Dm s 0
  heap : ∀ (b : Nat) (o2 : Ob), s2.heap.get b = some o2 → ∃ o, s.heap.get b = some o ∧ (o = o2 ∨ ∃ (l l2 : List Value) (t : TypeId), o = .cells (.lit l) t ∧ o2 = .cells (.lit l2) t ∧ ∀ (i : Nat) (x : Value), l2[i]? = some x → ∃ y, l[i]? = some y ∧ (y = x ∨ x = E0 ∧ ∃ a, y = .slice a 0 0))
  same : ∀ b, s.may b = false → s2.heap.get b = s.heap.get b
theorem VR.empty {N : Nat → Prop} {ρ : Nat → PB} {a : Option Addr} {w : Value} (h : VR N ρ (.slice a 0 0) w) (h0 : N 0) : VR N ρ E0 w := by
  have key : ∃ a' c', w = .slice a' 0 c' := by
    cases h with
    | same _ => exact ⟨_, _, rfl⟩
    | slice _ _ _ => exact ⟨_, _, rfl⟩
    | abs _ _ k =>
      rcases k.2 with rfl | ⟨_, a', c', rfl⟩
      · exact ⟨_, _, rfl⟩
      · exact ⟨_, _, rfl⟩
  obtain ⟨a', c', rfl⟩ := key
  exact .abs h0 rfl ⟨Nat.le_refl _, .inr ⟨rfl, a', c', rfl⟩⟩
theorem Pic.weak {s0 s s2 : St} {ρ0 : Nat → PB} {w0 w : World} {a : Act} (v : Wk s s2) (h : Pic s0 ρ0 w0 s w a) : Pic s0 ρ0 w0 s2 w a := by
  obtain ⟨ρ, r, t⟩ := h
  have hdm : Dm s2 = Dm s := by unfold Dm; rw [v.next, v.hid]
  refine ⟨ρ, ⟨⟨⟨fun b o hb => ?_, fun b b' o o' hb hb' hk e => ?_, fun b b' o o' B hb hB hb' hk => ?_⟩, fun b hb => ?_, ?_⟩, ?_, ?_, ?_⟩, ?_⟩
  · obtain ⟨o1, h1, h2⟩ := v.heap b o hb
    obtain ⟨k1, k2⟩ := r.hs.ob b o1 h1
    rw [hdm, v.roB]
    refine ⟨k1, ?_⟩
    rcases h2 with rfl | ⟨l, l2, ty, rfl, rfl, hl⟩
    · exact k2
    · obtain ⟨pc, ty', fr, q1, q2, q3, q4⟩ := k2
      refine ⟨pc, ty', fr, q1, q2, q3, fun i x hx => ?_⟩
      obtain ⟨y, hy, hyx⟩ := hl i x hx
      obtain ⟨z, z1, z2⟩ := q4 i y hy
      refine ⟨z, z1, ?_⟩
      rcases hyx with rfl | ⟨rfl, a', rfl⟩
      · exact z2
      · exact z2.empty v.zero
  · obtain ⟨o1, h1, q1⟩ := v.heap b o hb
    obtain ⟨o2, h2, q2⟩ := v.heap b' o' hb'
    rw [v.roB] at hk
    refine (r.hs.inj _ _ _ _ h1 h2 hk e).imp_right (Or.imp (fun k => ?_) fun k => ?_)
    · rcases q1 with rfl | ⟨_, _, _, rfl, rfl, _⟩
      · exact k
      · cases k
    · rcases q2 with rfl | ⟨_, _, _, rfl, rfl, _⟩
      · exact k
      · cases k
  · obtain ⟨o1, h1, h3⟩ := v.heap b o hb
    obtain ⟨o2, h2, _⟩ := v.heap b' o' hb'
    rw [v.roB] at hk
    refine r.hs.far _ _ o1 o2 B h1 ?_ h2 hk
    rcases h3 with rfl | ⟨l, l2, ty, rfl, rfl, _⟩
    · exact hB
    · obtain ⟨F, g, P, i, x, hx, _⟩ := hB; cases hx
  · rw [v.hid]; exact r.hs.hid b (by rw [← v.next]; exact hb)
  · rw [v.roB, v.next, v.ro]; exact r.hs.wf
  · rw [hdm, v.tmps]; exact r.tmps
  · rw [v.defers]; exact r.defers
  · rw [v.defers, v.next]; exact r.marks
  · refine ⟨by rw [v.next]; exact t.next, t.ext, t.os, t.tape, t.output, t.size, t.frame, fun b o hb hm => ?_, v.roB.trans t.roB, v.ro.trans t.ro, v.hid.trans t.hid, fun b hb => ?_⟩
    · obtain ⟨o1, h1, _⟩ := v.heap b o hb
      exact t.own b o1 h1 (by rw [← may_of v.roB v.ro]; exact hm)
    · rw [v.same b (by rw [may_of t.roB t.ro]; exact hb)]; exact t.same b hb
theorem Step.weak {P : Program} {rd : Option Nat} {s0 s s2 : St} {c : Code} {Q : Exit → St → Prop} (v : Wk s s2) (h : Step P rd s0 c s2 Q) : Step P rd s0 c s Q :=
  fun n ρ0 w0 w a R h1 h2 h3 h4 => h n ρ0 w0 w a R h1 h2 (h3.weak v) h4
end Go.Cln
namespace Go.Cln
open Go.ChangeShapes Go.WideShapes Go.ChangeAt Go.RowKit
set_option linter.unusedVariables false
noncomputable section
inductive FK where
  | int (k : IntKind)
  | bool
  | row
def fkOk (W : World) (b o : Nat) : FK → Prop
  | .int k => W.cell? ⟨b, o, none⟩ = some (.int k (actsI W b o)) ∧ (Lit.int k (actsI W b o)).wf = true
  | .bool => W.cell? ⟨b, o, none⟩ = some (.bool (actsB W b o))
  | .row => W.cell? ⟨b, o, none⟩ = some (actsV W b o) ∧ InRow W (actsV W b o)
def RecsAt (W : World) (b o n : Nat) (ks : List FK) : Prop := ∀ i, i < n → ∀ j k, ks[j]? = some k → fkOk W b (o + i * ks.length + j) k
theorem fkOk.row {W : World} {b o : Nat} (h : fkOk W b o .row) : (((worldB W (rowQ (actsV W b o))).take (rowM (actsV W b o))).length = rowM (actsV W b o) ∧ ∀ y ∈ (worldB W (rowQ (actsV W b o))).take (rowM (actsV W b o)), 0 ≤ y ∧ y < 256) ∧ rowM (actsV W b o) ≤ rowC (actsV W b o) ∧ AbsOk (rowQ (actsV W b o)) 0 (rowM (actsV W b o)) (rowC (actsV W b o)) (actsV W b o) := row_ok h.2
def FamIn (W : World) (F : Nat → Nat → Cells) : Prop := ∀ (g P i : Nat) (v : Value), (F g P).get i = some v → ∃ (k : IntKind) (y : Int) (pc : Array Value) (t : TypeId) (fr : Nat × Nat), v = .int k y ∧ W.heap[blkOf P]? = some (.cells pc t fr) ∧ pc[baseOf P + i]? = some (.int k y)
theorem FamIn.bytes (W : World) : FamIn W fun _ P => .ints .u8 (worldB W P) := fun g P i v hv => by
  simp only [Cells.get, Option.map_eq_some_iff] at hv
  obtain ⟨y, hy, rfl⟩ := hv
  obtain ⟨pc, t, fr, k1, k2⟩ := worldB_get hy
  exact ⟨_, y, pc, t, fr, rfl, k1, k2⟩
theorem RecsAt.block {W : World} {b o n : Nat} {ks : List FK} (h : RecsAt W b o n ks) (h0 : 0 < n) {k0 : FK} (hk : ks[0]? = some k0) : ∃ pc t fr, W.heap[b]? = some (.cells pc t fr) := by
  have h1 := h 0 h0 0 k0 hk
  have : ∃ v, W.cell? ⟨b, o + 0 * ks.length + 0, none⟩ = some v := by cases k0 <;> first | exact ⟨_, h1.1⟩ | exact ⟨_, h1⟩
  obtain ⟨v, hv⟩ := this
  obtain ⟨pc, t, fr, q, _⟩ := cell_in hv
  exact ⟨pc, t, fr, q⟩
section
variable {H : Type} {enc : TypeId × Value → H} {P : Program} {w : World} {base : Nat} {spare : Nat → Bool} {held : Bool}
end
end
end Go.Cln
