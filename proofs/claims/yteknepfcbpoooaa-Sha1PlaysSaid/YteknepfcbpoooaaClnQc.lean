/- Read off the code by the clean reading. -/
import Derived.Test.YteknepfcbpoooaaClnQb
import Derived.IntWalk
set_option linter.unusedVariables false
set_option linter.unusedSimpArgs false
set_option linter.deprecated false
set_option maxRecDepth 100000
namespace Go.Cln
set_option linter.unusedVariables false
noncomputable section
def nm (σ : List Nat) (b : Nat) : Nat := match σ[b]? with
  | some x => x
  | none => b
def maskOb : Option Ob → Option Ob → Option Ob
  | some (.cells (.lit l1) t1), some (.cells (.lit l) t) => some (.cells (.lit (maskJ l1 l)) t)
  | some (.cells (.lit l1) t1), some (.cells (.ints k l) t) => match intsOf k l1 with
    | some r => some (.cells (.ints k r) t)
    | none => none
  | some (.cells c1 t1), some (.cells c t) => some (.cells c1 t)
  | some (.loop r1), some (.loop r) => some (.loop { r1 with tmps := maskJ r1.tmps r.tmps })
  | o1, some _ => o1
  | _, none => none
def renOb (σ : Nat → Nat) : Ob → Ob
  | .cells (.lit l) t => .cells (.lit (l.map (ren σ))) t
  | .loop r => .loop { r with tmps := r.tmps.map (ren σ), defers := σ r.defers }
  | .map es k => .map (es.map (fun e => { e with val := ren σ e.val })) k
  | o => o
def okOb2 (s : St) : Option Ob → Bool
  | some (.cells (.lit l) _) => l.all (okV s)
  | some (.cells (.ints _ _) _) => true
  | some (.cells (.fam _ _) _) => false
  | some (.cells (.rows _ _ _) _) => false
  | some (.loop r) => r.tmps.all (okV s) && okB s r.defers
  | some .marks => true
  | some (.fam _) => okB s 0
  | some (.map es _) => es.all (fun e => okV s e.val)
  | none => true
theorem maskOb_v {s2 : St} {σ : Nat → Nat} {o1 : Option Ob} {o : Ob} (h : maskOb o1 (some o) = some (renOb σ o)) (hk : okOb2 s2 (some o) = true) : ∃ x, o1 = some x ∧ ObV s2 σ x o := by
  cases o1 with
  | none =>
    cases o with
    | cells c t => cases c <;> simp [maskOb] at h
    | _ => simp [maskOb] at h
  | some x =>
    refine ⟨x, rfl, ?_⟩
    cases o with
    | cells c t =>
      cases c with
      | lit l =>
        cases x with
        | cells c1 t1 =>
          cases c1 with
          | lit l1 =>
            simp only [maskOb, renOb, Option.some.injEq, Ob.cells.injEq, Cells.lit.injEq, and_true] at h
            exact ObV.lit h hk
          | _ => simp [maskOb, renOb] at h
        | _ => simp [maskOb, renOb] at h
      | ints k l =>
        cases x with
        | cells c1 t1 =>
          cases c1 with
          | lit l1 =>
            simp only [maskOb] at h
            split at h
            · rename_i r hr
              simp only [renOb, Option.some.injEq, Ob.cells.injEq, Cells.ints.injEq, true_and, and_true] at h
              subst h
              refine ObV.ints fun i v hv => ?_
              have e := intsOf_eq hr
              simp only [Cells.get] at hv ⊢
              rw [e, List.getElem?_map]
              refine ⟨hv, ?_⟩
              rw [Option.map_eq_some_iff] at hv
              obtain ⟨n, _, rfl⟩ := hv; rfl
            · cases h
          | ints k1 l1 =>
            simp only [maskOb, renOb, Option.some.injEq, Ob.cells.injEq, Cells.ints.injEq, and_true] at h
            obtain ⟨rfl, rfl⟩ := h
            refine ObV.ints fun i v hv => ⟨hv, ?_⟩
            simp only [Cells.get, Option.map_eq_some_iff] at hv
            obtain ⟨n, _, rfl⟩ := hv; rfl
          | _ => simp [maskOb, renOb] at h
        | _ => simp [maskOb, renOb] at h
      | fam n f => simp [okOb2] at hk
      | rows n w g => simp [okOb2] at hk
    | loop r =>
      cases x with
      | loop r1 =>
        simp only [maskOb, renOb, Option.some.injEq, Ob.loop.injEq] at h
        simp only [okOb2, Bool.and_eq_true] at hk
        obtain ⟨st, pe, tm, pa, as, bo, de⟩ := r
        obtain ⟨st1, pe1, tm1, pa1, as1, bo1, de1⟩ := r1
        simp only [CLoop.mk.injEq] at h
        obtain ⟨h1, h2, h3, h4, h5, h6, h7⟩ := h
        exact .loop h1 h2 h3 hk.1 h4 h5 h6 h7 hk.2
      | cells c t => simp [maskOb, renOb] at h
      | _ => simp [maskOb, renOb] at h
    | marks =>
      cases x with
      | marks => exact .marks
      | _ => simp [maskOb, renOb] at h
    | fam F =>
      cases x with
      | fam F1 =>
        simp only [maskOb, renOb, Option.some.injEq, Ob.fam.injEq] at h
        subst h
        exact .fam hk
      | _ => simp [maskOb, renOb] at h
    | map es k =>
      cases x with
      | map es1 k1 =>
        simp only [maskOb, renOb, Option.some.injEq, Ob.map.injEq] at h
        obtain ⟨h1, rfl⟩ := h
        exact .map h1 hk
      | _ => simp [maskOb, renOb] at h
structure Seen where
  next : Nat
  roB : Nat
  ro : List Nat
  hid : Nat → Bool
  defers : List Nat
  tmps : List Value
  obs : List (Option Ob)
  looked : List (Option Ob)
def seenIn (s1 s2 : St) (σ : List Nat) : Seen := ⟨s1.next, s1.roB, s1.ro, s1.hid, s1.defers, maskD s1.tmps s2.tmps, (List.range s2.next).map fun b => maskOb (s1.heap.get (nm σ b)) (s2.heap.get b), (List.range s2.roB).map s1.heap.get⟩
def seenAs (s2 : St) (σ : List Nat) (n1 : Nat) : Seen := ⟨n1, s2.roB, s2.ro, s2.hid, s2.defers.map (nm σ), s2.tmps.map (ren (nm σ)), (List.range s2.next).map fun b => (s2.heap.get b).map (renOb (nm σ)), (List.range s2.roB).map s2.heap.get⟩
def picOk (s0 s2 : St) (σ : List Nat) (n1 : Nat) : Bool :=
  decide (s0.next ≤ s2.next) && s2.tmps.all (okV s2) && (s2.defers.all fun d => decide (d < s2.next)) && ((List.range s2.next).all fun b => okOb2 s2 (s2.heap.get b) && okB s2 b) &&
  ((List.range s2.next).all fun b => if b < s0.next then nm σ b == b else decide (s0.next ≤ nm σ b)) && decide (σ.length ≤ s2.next) &&
  ((List.range s2.next).all fun b => (List.range b).all fun c => nm σ b != nm σ c) && decide (s0.roB = s2.roB) && s0.ro.isEmpty && decide (s2.next ≤ n1) && decide (s2.next ≤ 1000000)
theorem nm_hi {σ : List Nat} {b : Nat} (h : σ.length ≤ b) : nm σ b = b := by unfold nm; rw [List.getElem?_eq_none h]
theorem heap_lt {s2 : St} {f : Nat → Option Ob} {n : Nat} (hh : s2.heap = Tr.rebuild f n) (hn : n ≤ 1000000) {b : Nat} {o : Ob} (h : s2.heap.get b = some o) : b < n := by
  rw [hh] at h; exact (heap_at hn h).1
theorem View.std {s0 s1 s2 : St} {σ : List Nat} {f : Nat → Option Ob} {n1 : Nat} (hh : s2.heap = Tr.rebuild f s2.next) (hk : picOk s0 s2 σ n1 = true) (hs : seenIn s1 s2 σ = seenAs s2 σ n1) : View s0 s1 s2 (nm σ) := by
  simp only [picOk, Bool.and_eq_true, decide_eq_true_eq, List.all_eq_true, List.mem_range] at hk
  obtain ⟨⟨⟨⟨⟨⟨⟨⟨⟨⟨k1, k2⟩, k3⟩, k4⟩, k5⟩, k6⟩, k7⟩, k8⟩, k9⟩, k10⟩, hn⟩ := hk
  simp only [seenIn, seenAs, Seen.mk.injEq] at hs
  obtain ⟨s_1, s_2, s_3, s_4, s_5, s_6, s_7, s_8⟩ := hs
  have obs : ∀ b, b < s2.next → maskOb (s1.heap.get (nm σ b)) (s2.heap.get b) = (s2.heap.get b).map (renOb (nm σ)) := fun b hb => by
    have := congrArg (fun l => l[b]?) s_7
    simpa [List.getElem?_map, List.getElem?_range hb] using this
  have k9 : s0.ro = [] := by simpa using k9
  refine ⟨k1, fun b hb => ?_, fun b hb => ?_, s_2.symm, s_3.symm, s_4.symm, s_6, ?_, s_5, fun d hd => k3 d hd, fun b o hb => ?_, fun b b' o o' hb hb' e => ?_, fun b hb hm => ?_⟩
  · have := k5 b (by omega)
    rw [if_pos hb] at this; simpa using this
  · rcases Nat.lt_or_ge b s2.next with h | h
    · have := k5 b h
      rw [if_neg (by omega)] at this; simpa using this
    · rw [nm_hi (by omega)]; exact hb
  · rw [List.all_eq_true]; exact k2
  · have hlt := heap_lt hh hn hb
    obtain ⟨q1, q2⟩ := k4 b hlt
    have := obs b hlt
    rw [hb] at this q1
    obtain ⟨x, hx, hv⟩ := maskOb_v (σ := nm σ) this q1
    exact ⟨q2, x, hx, hv⟩
  · have h1 := heap_lt hh hn hb
    have h2 := heap_lt hh hn hb'
    rcases Nat.lt_trichotomy b b' with h | h | h
    · have := k7 b' h2 b h; simp [e] at this
    · exact h
    · have := k7 b h1 b' h; simp [e] at this
  · have hlt : b < s2.roB := by
      rcases Nat.lt_or_ge b s2.roB with h | h
      · exact h
      · unfold St.may at hm
        rw [k8, k9] at hm
        simp at hm; omega
    have := congrArg (fun l => l[b]?) s_8
    have := by simpa [List.getElem?_map, List.getElem?_range hlt] using this
    exact this.symm
theorem Step.std {P : Program} (G : PG P) {K : Given} (hK : GivenOk P K) {n : Nat} {f : FuncId} {rd : Option Nat} {s0 s s2 : St} {c : Code} {e : Exit} {p : Prop} {o : List (Option Bool)} {σ : List Nat} {g : Nat → Option Ob} {n1 : Nat}
    (hr : ((mk P K n).code f rd c { s with obl := True, orc := o }).map (fun r => (r.1, r.2.obl, seenIn r.2 s2 σ)) = some (e, p, seenAs s2 σ n1)) (hp : p) (hn : s0.next ≤ s.next)
    (hh : s2.heap = Tr.rebuild g s2.next) (hk : picOk s0 s2 σ n1 = true) : Step P rd s0 c s (fun e' s' => e' = e ∧ s' = s2) := by
  cases hc : (mk P K n).code f rd c { s with obl := True, orc := o } with
  | none => rw [hc] at hr; simp at hr
  | some r =>
    rw [hc] at hr
    simp only [Option.map_some, Option.some.injEq, Prod.mk.injEq] at hr
    obtain ⟨h1, h2, h3⟩ := hr
    refine Step.exec (s0 := s0) (s := s) (s2 := s2) (σ := nm σ) (n := n) (f := f) (K := K) (o := o) (p := p) (e := e) G hK (by rw [hc]; simp [h1, h2]) hp hn ?_
    rw [hc]
    exact View.std hh hk h3
structure Frm2 where
  J : List Nat
  ints : List (Nat × IntKind)
  JB : List (Nat × List Nat)
  drop : List Nat
def canonOb2 (a : Frm2) (b : Nat) (o : Ob) : Option Ob :=
  if a.drop.contains b then none else
  match a.ints.find? (fun x => x.1 == b) with
  | some (_, k) => match o with
    | .cells (.lit l) t => match intsOf k l with
      | some r => some (.cells (.ints k r) t)
      | none => some o
    | o => some o
  | none => some (canonOb ⟨[], [], a.JB⟩ b o)
def canon2 (a : Frm2) (s : St) : St :=
  { s with obl := True, orc := [], tmps := maskAt a.J 0 s.tmps, heap := Tr.rebuild (fun b => match s.heap.get b with
    | some o => if s.may b then canonOb2 a b o else some o
    | none => none) s.next }
theorem canonOb2_obR {a : Frm2} {b : Nat} {N : Nat → Prop} {ρ : Nat → PB} {may : Prop} {p : PB} {w : World} {o o' : Ob} (h : ObR N ρ may p w o) (e : canonOb2 a b o = some o') : ObR N ρ may p w o' := by
  unfold canonOb2 at e
  split at e
  · cases e
  · split at e
    · split at e
      · rename_i k _ l t
        split at e
        · rename_i r hr
          cases e
          obtain ⟨pc, ty, fr, h1, h2, h3, h4⟩ := h
          refine ⟨pc, ty, fr, h1, h2, h3, fun i v hv => h4 i v ?_⟩
          simp only [Cells.get] at hv ⊢
          rw [intsOf_eq hr, List.getElem?_map]; exact hv
        · cases e; exact h
      · cases e; exact h
    · cases e; exact canonOb_obR h
theorem canonOb2_far {a : Frm2} {b B : Nat} {o o' : Ob} (e : canonOb2 a b o = some o') (h : o'.far B) : o.far B := by
  obtain ⟨F, g, P, i, v, rfl, hv⟩ := h
  unfold canonOb2 at e
  split at e
  · cases e
  · split at e
    · split at e
      · split at e
        · cases e
        · cases e
      · cases e; exact ⟨F, g, P, i, v, rfl, hv⟩
    · simp only [Option.some.injEq] at e
      exact canonOb_far (a := _) (b := b) (by rw [e]; exact ⟨F, g, P, i, v, rfl, hv⟩)
theorem canon2_get {a : Frm2} {s : St} (hn : s.next ≤ 1000000) (b : Nat) : (canon2 a s).heap.get b = if b < s.next then (match s.heap.get b with | some o => if s.may b then canonOb2 a b o else some o | none => none) else none :=
  Tr.get_rebuild _ _ _ hn
theorem canon2_rel {a : Frm2} {s : St} {ρ : Nat → PB} {w : World} {x : Act} (hn : s.next ≤ 1000000) (h : Rel s ρ w x) : Rel (canon2 a s) ρ w x ∧ Tra s (canon2 a s) ρ ρ w w := by
  have dm : Dm (canon2 a s) = Dm s := rfl
  have old : ∀ (b : Nat) (o : Ob), (canon2 a s).heap.get b = some o → ∃ o0, s.heap.get b = some o0 ∧ (o = o0 ∨ canonOb2 a b o0 = some o) := fun b o hb => by
    rw [canon2_get hn] at hb
    split at hb
    · cases hg : s.heap.get b with
      | none => rw [hg] at hb; cases hb
      | some o0 =>
        rw [hg] at hb
        refine ⟨o0, rfl, ?_⟩
        simp only at hb
        split at hb
        · exact .inr hb
        · cases hb; exact .inl rfl
    · cases hb
  refine ⟨⟨⟨⟨fun b o hb => ?_, fun b b' o o' hb hb' hk e => ?_, fun b b' o o' B hb hB hb' hk => ?_⟩, h.hs.hid, h.hs.wf⟩, mask_vl 0 h.tmps, h.defers, h.marks⟩, ?_⟩
  · obtain ⟨o0, g1, g2⟩ := old b o hb
    obtain ⟨k1, k2⟩ := h.hs.ob b o0 g1
    refine ⟨k1, ?_⟩
    rcases g2 with rfl | g2
    · exact k2
    · exact canonOb2_obR k2 g2
  · obtain ⟨o0, g1, _⟩ := old b o hb
    obtain ⟨o1, g2, _⟩ := old b' o' hb'
    exact h.hs.inj b b' _ _ g1 g2 hk e
  · obtain ⟨o0, g1, g2⟩ := old b o hb
    obtain ⟨o1, g3, _⟩ := old b' o' hb'
    refine h.hs.far b b' _ _ B g1 ?_ g3 hk
    rcases g2 with rfl | g2
    · exact hB
    · exact canonOb2_far g2 hB
  · refine ⟨Nat.le_refl _, fun _ _ => rfl, rfl, rfl, rfl, Nat.le_refl _, fun _ _ _ => rfl, fun b o hb hm => ?_, rfl, rfl, rfl, fun b hb => ?_⟩
    · obtain ⟨o0, g1, _⟩ := old b o hb
      exact .inr ⟨b, o0, g1, hm, rfl⟩
    · have hlt := may_lt h.hs hb
      rw [canon2_get hn, if_pos hlt]
      cases s.heap.get b with
      | none => rfl
      | some o => simp only [hb]; rfl
structure Ask2 where
  frm : Frm2
  e : Exit
  fin : St → St
def Given.asking2 (K : Given) (P : Program) (L : FuncId → Code → St → Option Ask2) : Given :=
  { K with loop := fun f c s => match L f c s with
      | some a => if s.next ≤ 1000000 then some (a.e, { a.fin (canon2 a.frm s) with obl := s.obl ∧ ∀ rd, CodeOk P rd (.loop c) (canon2 a.frm s) a.e (a.fin (canon2 a.frm s)).bare, orc := s.orc }) else none
      | none => K.loop f c s }
theorem GivenOk.asking2 {P : Program} {K : Given} (h : GivenOk P K) (L : FuncId → Code → St → Option Ask2) : GivenOk P (Given.asking2 K P L) := by
  refine ⟨h.callObl, h.call, fun {f c s s' e} hc => ?_, fun {f c s s' e} hc => ?_⟩
  · simp only [Given.asking2] at hc
    split at hc
    · split at hc
      · simp only [Option.some.injEq, Prod.mk.injEq] at hc; obtain ⟨_, rfl⟩ := hc; exact fun k => k.1
      · cases hc
    · exact h.loopObl hc
  · simp only [Given.asking2] at hc
    split at hc
    · rename_i a _
      split at hc
      · rename_i hn
        simp only [Option.some.injEq, Prod.mk.injEq] at hc; obtain ⟨rfl, rfl⟩ := hc
        intro rd ho n ρ w x Q hrd hr hq
        obtain ⟨r1, t1⟩ := canon2_rel (a := a.frm) hn hr
        have l1 : Like (a.fin (canon2 a.frm s)).bare { a.fin (canon2 a.frm s) with obl := s.obl ∧ ∀ rd, CodeOk P rd (.loop c) (canon2 a.frm s) a.e (a.fin (canon2 a.frm s)).bare, orc := s.orc } := ⟨rfl, rfl, rfl, rfl, rfl⟩
        refine ho.2 rd trivial n ρ w x Q (fun l hl => Nat.lt_of_lt_of_le (hrd l hl) t1.next) r1 fun ρ' w' a' r' t' => ?_
        exact hq ρ' w' a' (r'.like l1 rfl rfl) ((t1.trans t').like l1)
      · cases hc
    · exact h.loop hc
def rngsOf : Code → List (Array Tmp × Code × Code)
  | .seq a b => rngsOf a ++ rngsOf b
  | .cond _ a b => rngsOf a ++ rngsOf b
  | .block _ b => rngsOf b
  | .loop b => rngsOf b
  | .rangeFunc _ p a b => (p, a, b) :: (rngsOf a ++ rngsOf b)
  | .scope b => rngsOf b
  | _ => []
def rngAt (P : Program) (f k : Nat) : Array Tmp × Code × Code := match P.funcs[f]? with
  | some fn => match fn.body with
    | some c => (rngsOf c).getD k (#[], .skip, .skip)
    | none => (#[], .skip, .skip)
  | none => (#[], .skip, .skip)
def keepL (ks : List Bool) (h : Nat → Option Ob) : Nat → List (Option Ob) := fun i => match ks with
  | [] => []
  | k :: l => (if k then h i else none) :: keepL l h (i + 1)
theorem keepL_get (h : Nat → Option Ob) : ∀ (ks : List Bool) (i b : Nat) (o : Ob), (keepL ks h i)[b]? = some (some o) → h (i + b) = some o
  | [], i, b, o, e => by simp [keepL] at e
  | k :: l, i, 0, o, e => by
    simp only [keepL, List.getElem?_cons_zero, Option.some.injEq] at e
    split at e
    · exact e
    · cases e
  | k :: l, i, b + 1, o, e => by
    simp only [keepL, List.getElem?_cons_succ] at e
    rw [show i + (b + 1) = i + 1 + b by omega]; exact keepL_get h l (i + 1) b o e
theorem frame_by {P : Program} (G : PG P) {K : Given} (hK : GivenOk P K) {n : Nat} {f : FuncId} {args : List Value} {ro : Nat} {l l' : List (Option Ob)} {orc : List (Option Bool)} {v : Value} {p : Prop} (ks : List Bool)
    (hr : ((mk P K n).call f args (smSt ro l orc)).map (fun r => (r.1, r.2.obl, r.2.next, keepL ks r.2.heap.get 0)) = some (v, p, l'.length, l')) (hp : p)
    (hl : (decide (l'.length ≤ 1000000) && decide (l.length ≤ l'.length) && decide (ro ≤ l.length)) = true) (hsame : l'.take ro = l.take ro) :
    CallOk P f args (smSt ro l []) v (smSt ro l' []) := by
  simp only [Bool.and_eq_true, decide_eq_true_eq] at hl
  obtain ⟨⟨h1, h2⟩, h3⟩ := hl
  have key : ∀ r, (mk P K n).call f args (smSt ro l orc) = some r → keepL ks r.2.heap.get 0 = l' := fun r hc => by
    rw [hc] at hr
    simp only [Option.map_some, Option.some.injEq, Prod.mk.injEq] at hr
    exact hr.2.2.2
  refine frame_run G hK (n := n) (orc := orc) (p := p) ?_ (fun r hc b o hb => ?_) hp h1 h2 (fun b hb => ?_) h3
  · cases hc : (mk P K n).call f args (smSt ro l orc) with
    | none => rw [hc] at hr; cases hr
    | some r =>
      rw [hc] at hr
      simp only [Option.map_some, Option.some.injEq, Prod.mk.injEq] at hr
      obtain ⟨g1, g2, g3, _⟩ := hr
      simp only [Option.map_some, Option.some.injEq, Prod.mk.injEq]
      exact ⟨g1, g2, g3⟩
  · rw [← key r hc] at hb
    have := keepL_get r.2.heap.get ks 0 b o hb
    rw [Nat.zero_add] at this
    exact ⟨o, this, .refl _⟩
  · have := congrArg (fun x => x[b]?) hsame
    simp only [List.getElem?_take, hb, if_true] at this
    unfold hget
    rw [this]
end
end Go.Cln
namespace Go.Cln
set_option linter.unusedVariables false
theorem mv_flat0 (ν δ : Nat → Nat) {v : Value} (h : flat0 v = true) : mv ν δ v = v := by
  cases v with
  | pointer a => cases a <;> first | rfl | (simp [flat0] at h)
  | slice a n c => cases a <;> first | rfl | (simp [flat0] at h)
  | map a => cases a <;> first | rfl | (simp [flat0] at h)
  | func f x y =>
    cases f with
    | func f =>
      simp only [flat0, Bool.and_eq_true, List.isEmpty_iff] at h
      obtain ⟨x⟩ := x; obtain ⟨y⟩ := y
      simp only at h
      obtain ⟨rfl, rfl⟩ := h; rfl
    | _ => simp [flat0] at h
  | agg => simp [flat0] at h
  | tuple => simp [flat0] at h
  | _ => rfl
theorem okN_flat0 (n : Nat) {v : Value} (h : flat0 v = true) : okN n v = true := by
  cases v with
  | pointer a => cases a <;> first | rfl | (simp [flat0] at h)
  | slice a n c => cases a <;> first | rfl | (simp [flat0] at h)
  | map a => cases a <;> first | rfl | (simp [flat0] at h)
  | func f x y =>
    cases f with
    | func f =>
      simp only [flat0, Bool.and_eq_true, List.isEmpty_iff] at h
      obtain ⟨x⟩ := x; obtain ⟨y⟩ := y
      simp only at h
      obtain ⟨rfl, rfl⟩ := h; rfl
    | _ => simp [flat0] at h
  | agg => simp [flat0] at h
  | chan r =>
    cases r with
    | none => rfl
    | some k => simp [flat0] at h
  | tuple => simp [flat0] at h
  | _ => exact h
theorem fit_flat {L l0 : List Value} {d m : Nat} {ν δ : Nat → Nat} (h : ∀ x v, l0[x]? = some v → L[d + x]? = some v) (hf : l0.all flat0 = true) :
    ∀ (x : Nat) (v : Value), (Cells.lit l0).get x = some v → ∃ V, (Cells.lit L).get (d + x) = some V ∧ V = mv ν δ v ∧ okN m v = true := fun x v hv => by
  have hf := List.all_eq_true.1 hf v (List.mem_of_getElem? hv)
  exact ⟨v, h x v hv, (mv_flat0 ν δ hf).symm, okN_flat0 m hf⟩
theorem fit_ints {k : IntKind} {l : List Int} {d n m : Nat} {ν δ : Nat → Nat} :
    ∀ (x : Nat) (v : Value), (Cells.ints k ((l.drop d).take n)).get x = some v → ∃ V, (Cells.ints k l).get (d + x) = some V ∧ V = mv ν δ v ∧ okN m v = true := fun x v hv => by
  simp only [Cells.get, Option.map_eq_some_iff] at hv
  obtain ⟨a, ha, rfl⟩ := hv
  rw [List.getElem?_take] at ha
  split at ha
  · rw [List.getElem?_drop] at ha
    exact ⟨.int k a, by simp only [Cells.get, ha]; rfl, rfl, rfl⟩
  · cases ha
noncomputable def Given.framesO (K : Given) (F : FuncId → List Value → St → Option (Inst × Nat)) : Given := { K with call := fun f args s => match F f args s with
  | some (i, k) => (i.app s).bind fun r => some (r.1, { r.2 with orc := s.orc.drop k })
  | none => K.call f args s }
theorem GivenOk.framesO {P : Program} {K : Given} (hK : GivenOk P K) {F : FuncId → List Value → St → Option (Inst × Nat)}
    (h : ∀ f args s i k, F f args s = some (i, k) → Fits s i args ∧ (i.ask → CallOk P f i.args i.s0 i.val i.s1)) : GivenOk P (Given.framesO K F) := by
  refine ⟨fun {f args s s' v} hc => ?_, fun {f args s s' v} hc => ?_, hK.loopObl, hK.loop⟩
  · simp only [Given.framesO] at hc
    split at hc
    · rw [bind_some] at hc
      obtain ⟨r, hr, hc⟩ := hc
      cases hc
      exact fun k => (app_obl hr k).1
    · exact hK.callObl hc
  · simp only [Given.framesO] at hc
    split at hc
    · rename_i i k hF
      rw [bind_some] at hc
      obtain ⟨r, hr, hc⟩ := hc
      cases hc
      obtain ⟨h1, h2⟩ := h _ _ _ _ _ hF
      intro ho n ρ w args' hs ha
      have ho' : r.2.obl := ho
      have := frame_sound (h2 (app_obl hr ho').2) h1 hr ho' n ρ w args' hs ha
      refine callsIn_wide.2 ((callsIn_wide.1 this).mono ?_)
      rintro e w' ⟨v', ρ', rfl, g1, g2, g3⟩
      have l1 : Like r.2 { r.2 with orc := s.orc.drop k } := ⟨rfl, rfl, rfl, rfl, rfl⟩
      exact ⟨v', ρ', rfl, by rw [l1.dm]; exact g1, l1.holds g2, g3.like l1⟩
    · exact hK.call hc
theorem frames_fits {P : Program} {K : Given} (h : GivenOk P K) (b : Bool) : GivenOk P { K with fits := b } := ⟨h.callObl, h.call, h.loopObl, h.loop⟩
end Go.Cln
namespace Go.Cln
set_option linter.unusedVariables false
theorem CallOk.of_below {P : Program} {f : FuncId} {args : List Value} {v : Value} (h : ∀ W : World, Calls P f args.toArray W fun e w' => e = .returned v ∧ Go.RowKit.Below W.heap.size W w') (ha : args.all flat = true) (hv : flat v = true) (s : St) : CallOk P f args s v s := by
  intro ho n ρ w args' hs hl
  have : args' = args := hl.eq_flat ha
  subst this
  refine callsIn_wide.2 ((h w).mono ?_)
  rintro e w' ⟨rfl, hb⟩
  obtain ⟨g1, g2⟩ := hs.below hb
  exact ⟨v, ρ, rfl, .of_flat hv, g1, g2⟩
end Go.Cln
namespace Go.Cln
set_option linter.unusedVariables false
abbrev nI (n : Nat) : Int := (n : Int)
abbrev beqB (a b : List UInt8) : Bool := a == b
theorem beqB_of {X Y : List Int} (h : X = Y) : beqB (bytesI X).toList (bytesI Y).toList = true := by subst h; exact beq_self_eq_true _
theorem layI_mid {p q s r : List Int} {o : Nat} (ho : p.length = o) (h : q.length = r.length) : layI (p ++ (q ++ s)) o r = p ++ (r ++ s) := by
  subst ho
  have e : (p ++ (q ++ s)).drop (p.length + r.length) = s := by
    rw [← h, ← List.append_assoc]
    exact List.drop_left' (by simp)
  unfold layI
  rw [List.take_left' rfl, e]
theorem rep_split (a b : Nat) (x : Int) : List.replicate (a + b) x = List.replicate a x ++ List.replicate b x := (List.replicate_append_replicate).symm
end Go.Cln
namespace Go.Cln
set_option linter.unusedVariables false
theorem hget_pad (l : List (Option Ob)) (k b : Nat) : hget (l ++ List.replicate k none) b = hget l b := by
  unfold hget
  rcases Nat.lt_or_ge b l.length with h | h
  · rw [List.getElem?_append_left h]
  · rw [List.getElem?_append_right h, List.getElem?_eq_none h, List.getElem?_replicate]
    split
    · rename_i o ho
      split at ho
      · cases ho; rfl
      · cases ho
    · rfl
theorem CallOk.pad {P : Program} {f : FuncId} {args : List Value} {ro : Nat} {l l' : List (Option Ob)} {v : Value} (k : Nat) (hl : l'.length + k ≤ 1000000) (hro : ro ≤ l.length) (hll : l.length ≤ l'.length)
    (h : CallOk P f args (smSt ro l []) v (smSt ro l' [])) : CallOk P f args (smSt ro l []) v (smSt ro (l' ++ List.replicate k none) []) := by
  have hg : ∀ b, (Tr.ofL (l' ++ List.replicate k none)).get b = (Tr.ofL l').get b := fun b => by
    rw [ofL_get (by simpa using hl), ofL_get (by omega), hget_pad]
  have dm : ∀ b, Dm (smSt ro l' []) b → Dm (smSt ro (l' ++ List.replicate k none) []) b := fun b hb => ⟨by
    have h1 : b < l'.length := hb.1
    show b < (l' ++ List.replicate k none).length
    rw [List.length_append]; omega, rfl⟩
  intro ho n ρ w args' hs ha
  refine callsIn_wide.2 ((callsIn_wide.1 (h trivial n ρ w args' hs ha)).mono ?_)
  rintro e w' ⟨v', ρ', rfl, g1, g2, g3⟩
  refine ⟨v', ρ', rfl, g1.mono dm fun _ _ => rfl, ⟨⟨fun b o hb => ?_, fun b b' o o' hb hb' => ?_, fun b b' o o' B hb hB hb' hk => g2.far b b' o o' B ((hg b).symm.trans hb) hB ((hg b').symm.trans hb') hk⟩, fun b hb => rfl, ?_⟩, ⟨?_, g3.ext, g3.os, g3.tape, g3.output, g3.size, g3.frame, fun b o hb hm => ?_, rfl, rfl, rfl, fun b hb => ?_⟩⟩
  · have hb' : (Tr.ofL l').get b = some o := by rw [← hg]; exact hb
    obtain ⟨k1, k2⟩ := g2.ob b o hb'
    exact ⟨dm b k1, k2.mono dm fun _ _ => rfl⟩
  · exact g2.inj b b' o o' ((hg b).symm.trans hb) ((hg b').symm.trans hb')
  · refine ⟨?_, fun b hb => by simp [smSt] at hb⟩
    show ro ≤ (l' ++ List.replicate k none).length
    rw [List.length_append]; omega
  · show l.length ≤ (l' ++ List.replicate k none).length
    rw [List.length_append]; omega
  · exact g3.own b o ((hg b).symm.trans hb) (by rw [smMay] at hm ⊢; exact hm)
  · show (Tr.ofL (l' ++ List.replicate k none)).get b = _
    exact (hg b).trans (g3.same b hb)
theorem CallOk.base {P : Program} {f : FuncId} {args : List Value} {ro : Nat} {l : List (Option Ob)} {v : Value} {s1 : St} (k : Nat) (hl : l.length + k ≤ 1000000) (hro : ro ≤ l.length)
    (h : CallOk P f args (smSt ro (l ++ List.replicate k none) []) v s1) : CallOk P f args (smSt ro l []) v s1 := by
  have hg : ∀ b, (Tr.ofL (l ++ List.replicate k none)).get b = (Tr.ofL l).get b := fun b => by
    rw [ofL_get (by simpa using hl), ofL_get (by omega), hget_pad]
  have dm : ∀ b, Dm (smSt ro l []) b → Dm (smSt ro (l ++ List.replicate k none) []) b := fun b hb => ⟨by
    have h1 : b < l.length := hb.1
    show b < (l ++ List.replicate k none).length
    rw [List.length_append]; omega, rfl⟩
  intro ho n ρ w args' hs ha
  have hs' : Hs (smSt ro (l ++ List.replicate k none) []) ρ w := by
    refine ⟨⟨fun b o hb => ?_, fun b b' o o' hb hb' => ?_, fun b b' o o' B hb hB hb' hk => hs.far b b' o o' B ((hg b).symm.trans hb) hB ((hg b').symm.trans hb') hk⟩, fun b hb => rfl, ?_, fun b hb => by simp [smSt] at hb⟩
    · obtain ⟨k1, k2⟩ := hs.ob b o ((hg b).symm.trans hb)
      exact ⟨dm b k1, k2.mono dm fun _ _ => rfl⟩
    · exact hs.inj b b' o o' ((hg b).symm.trans hb) ((hg b').symm.trans hb')
    · show ro ≤ (l ++ List.replicate k none).length
      rw [List.length_append]; omega
  refine callsIn_wide.2 ((callsIn_wide.1 (h ho n ρ w args' hs' (ha.mono dm fun _ _ => rfl))).mono ?_)
  rintro e w' ⟨v', ρ', rfl, g1, g2, g3⟩
  have hn : (l ++ List.replicate k (none : Option Ob)).length ≤ s1.next := g3.next
  rw [List.length_append, List.length_replicate] at hn
  refine ⟨v', ρ', rfl, g1, g2, ⟨?_, fun b hb => g3.ext b ?_, g3.os, g3.tape, g3.output, g3.size, fun k hk hf => g3.frame k hk fun b o hb => hf b o ((hg b).symm.trans hb), fun b o hb hm => ?_, g3.roB, g3.ro, g3.hid, fun b hb => (g3.same b hb).trans (hg b)⟩⟩
  · show l.length ≤ s1.next
    omega
  · have h1 : b < l.length := hb
    show b < (l ++ List.replicate k none).length
    rw [List.length_append]; omega
  · rcases g3.own b o hb hm with h1 | ⟨b0, o0, h1, h2, h3⟩
    · exact .inl h1
    · exact .inr ⟨b0, o0, (hg b0).symm.trans h1, h2, h3⟩
end Go.Cln
