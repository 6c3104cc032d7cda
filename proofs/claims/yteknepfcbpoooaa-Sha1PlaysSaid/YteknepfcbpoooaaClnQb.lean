/- Read off the code by the clean reading. -/
import Derived.Test.YteknepfcbpoooaaClnQa
set_option linter.unusedVariables false
set_option linter.unusedSimpArgs false
set_option linter.deprecated false
set_option maxRecDepth 100000
namespace Go.Cln
noncomputable section
def HasCells (w : World) (b o : Nat) (l : List Value) : Prop := ∃ (pc : Array Value) (t : TypeId) (fr : Nat × Nat), w.heap[b]? = some (.cells pc t fr) ∧ ∀ (i : Nat) (v : Value), l[i]? = some v → pc[o + i]? = some v
def litHeap (l : List Value) : Tr := Tr.rebuild (fun i => match i with | 0 => some (.cells (.lit l) 0) | _ => none) 1
theorem lit_hs {w : World} {b o : Nat} {l : List Value} (hl : l.all flat0 = true) (h : HasCells w b o l) :
    ∃ ρ : Nat → PB, Hs (St.start 1 (litHeap l) []) ρ w ∧ VR (Dm (St.start 1 (litHeap l) [])) ρ (P0 0 0) (.pointer (some ⟨b, o, none⟩)) := by
  obtain ⟨pc, t, fr, h1, h2⟩ := h
  refine ⟨fun _ => ⟨b, o, pc.size⟩, ⟨⟨fun x y hx => ?_, fun x x' y y' hx hx' _ _ => ?_, fun x x' y y' B hx hB hx' hk => absurd hk (by obtain ⟨g2, _⟩ := heap_at (by omega) (show (litHeap l).get x' = some y' from hx'); show ¬ 1 ≤ x'; omega)⟩, fun _ _ => rfl, ⟨Nat.le_refl _, fun x hx => by simp [St.start] at hx⟩⟩, .ptr ⟨Nat.zero_lt_one, rfl⟩⟩
  · have hx' : (litHeap l).get x = some y := hx
    obtain ⟨g1, g2⟩ := heap_at (by omega) hx'
    have : x = 0 := by omega
    subst this
    simp only [Option.some.injEq] at g2
    subst g2
    refine ⟨⟨g1, rfl⟩, pc, t, fr, h1, rfl, fun m => absurd m (by simp [St.start]), fun i v hv => ⟨v, h2 i v hv, .same (List.all_eq_true.1 hl v (List.mem_of_getElem? hv))⟩⟩
  · obtain ⟨g1, _⟩ := heap_at (by omega) (show (litHeap l).get x = some y from hx)
    obtain ⟨g2, _⟩ := heap_at (by omega) (show (litHeap l).get x' = some y' from hx')
    omega
structure TellP (P : Program) where
  fn : FuncId
  cells : List Value
  args : List Value
  val : Value
  plain : cells.all flat0 = true ∧ args.all flat = true ∧ flat val = true
  runs : ∀ (W : World) (b o : Nat), HasCells W b o cells → Calls P fn (.pointer (some ⟨b, o, none⟩) :: args).toArray W fun e w' => e = .returned val ∧ Go.RowKit.Below W.heap.size W w'
end
end Go.Cln
namespace Go.Cln
noncomputable section
end
end Go.Cln
namespace Go.Cln
noncomputable section
structure But (b : Nat) (w w' : World) : Prop where
  os : w'.os = w.os
  tape : w'.tape = w.tape
  output : w'.output = w.output
  size : w.heap.size ≤ w'.heap.size
  rest : ∀ k, k < w.heap.size → k ≠ b → w'.heap[k]? = w.heap[k]?
def Own (w : World) (b o n : Nat) (l : List Value) : Prop := ∃ (pc : Array Value) (t : TypeId) (fr : Nat × Nat), w.heap[b]? = some (.cells pc t fr) ∧ pc.size = n ∧ FrOk fr pc.size ∧ ∀ (i : Nat) (v : Value), l[i]? = some v → pc[o + i]? = some v
def ActOk (P : Program) (f : FuncId) (rest : List Value) (l : List Value) (v : Value) (l' : List Value) : Prop :=
  ∀ (w : World) (b o n : Nat), Own w b o n l → Calls P f (.pointer (some ⟨b, o, none⟩) :: rest).toArray w fun e w' => e = .returned v ∧ But b w w' ∧ Own w' b o n l'
def ownStart (l : List Value) (orc : List (Option Bool)) : St := ⟨[], [], litHeap l, 1, 0, [], fun _ => false, True, orc⟩
theorem own_hs {w : World} {b o n : Nat} {l : List Value} (orc : List (Option Bool)) (hl : l.all flat0 = true) (h : Own w b o n l) :
    Hs (ownStart l orc) (fun _ => ⟨b, o, n⟩) w ∧ VR (Dm (ownStart l orc)) (fun _ => ⟨b, o, n⟩) (P0 0 0) (.pointer (some ⟨b, o, none⟩)) := by
  obtain ⟨pc, t, fr, h1, h2, h3, h4⟩ := h
  refine ⟨⟨⟨fun x y hx => ?_, fun x x' y y' hx hx' _ _ => ?_, fun x x' y y' B hx hB hx' _ => by
    obtain ⟨g1, g2⟩ := heap_at (by omega) (show (litHeap l).get x = some y from hx)
    have : x = 0 := by omega
    subst this
    simp only [Option.some.injEq] at g2
    subst g2
    obtain ⟨_, _, _, _, _, hF, _⟩ := hB
    cases hF⟩, fun _ _ => rfl, ⟨Nat.zero_le _, fun x hx => by simp [ownStart] at hx⟩⟩, .ptr ⟨Nat.zero_lt_one, rfl⟩⟩
  · have hx' : (litHeap l).get x = some y := hx
    obtain ⟨g1, g2⟩ := heap_at (by omega) hx'
    have : x = 0 := by omega
    subst this
    simp only [Option.some.injEq] at g2
    subst g2
    exact ⟨⟨g1, rfl⟩, pc, t, fr, h1, h2, fun _ => h3, fun i v hv => ⟨v, h4 i v hv, .same (List.all_eq_true.1 hl v (List.mem_of_getElem? hv))⟩⟩
  · obtain ⟨g1, _⟩ := heap_at (by omega) (show (litHeap l).get x = some y from hx)
    obtain ⟨g2, _⟩ := heap_at (by omega) (show (litHeap l).get x' = some y' from hx')
    omega
theorem ActOk.of_run {P : Program} (G : PG P) {K : Given} (hK : GivenOk P K) {n : Nat} {f : FuncId} {rest l l' : List Value} {orc : List (Option Bool)} {v : Value} {p : Prop} {t' : TypeId}
    (hr : ((mk P K n).call f (P0 0 0 :: rest) (ownStart l orc)).map (fun r => (r.1, r.2.obl, r.2.heap.get 0)) = some (v, p, some (.cells (.lit l') t'))) (hp : p)
    (hl : l.all flat0 = true) (hl' : l'.all flat0 = true) (ha : rest.all flat = true) (hv : flat v = true) : ActOk P f rest l v l' := by
  intro w b o m h
  obtain ⟨g1, g2⟩ := own_hs orc hl h
  cases hc : (mk P K n).call f (P0 0 0 :: rest) (ownStart l orc) with
  | none => rw [hc] at hr; simp at hr
  | some r =>
    obtain ⟨v1, s'⟩ := r
    rw [hc] at hr
    simp only [Option.map_some, Option.some.injEq, Prod.mk.injEq] at hr
    obtain ⟨rfl, hq, hb⟩ := hr
    have := (mk_ok G hK n).okCall hc (by rw [hq]; exact hp) 0 _ w _ g1 (VL.cons g2 (flat_vl ha))
    refine (callsIn_wide.1 this).mono ?_
    rintro e w' ⟨v', ρ', rfl, k1, k2, k3⟩
    have ev : v' = v1 := k1.eq_flat hv
    have e0 : ρ' 0 = ⟨b, o, m⟩ := k3.ext 0 (show 0 < 1 by omega)
    refine ⟨by rw [ev], ⟨k3.os, k3.tape, k3.output, k3.size, fun k hk hne => k3.frame k hk fun b1 o1 _ _ e => hne e.symm⟩, ?_⟩
    obtain ⟨_, pc, ty, fr, q1, q2, q3, q4⟩ := k2.ob 0 _ hb
    rw [e0] at q1 q2 q4
    refine ⟨pc, ty, fr, q1, q2, q3 (by rw [k3.roB]; exact Nat.le_refl 0), fun i x hx => ?_⟩
    obtain ⟨x', y1, y2⟩ := q4 i x hx
    rw [y2.eq_flat0 (List.all_eq_true.1 hl' x (List.mem_of_getElem? hx))] at y1
    exact y1
def Given.acts (K : Given) (F : FuncId → List Value → List Value → Option (Prop × Value × List Value)) : Given := { K with call := fun f args s => match args with
  | .pointer (some ⟨b, 0, none⟩) :: rest => match s.heap.get b with
    | some (.cells (.lit l) t) => match F f rest l with
      | some (p, v, l') => if s.may b = true then (s.setOb b (some (.cells (.lit l') t))).map fun s1 => (v, { s1 with obl := s.obl ∧ p }) else none
      | none => K.call f args s
    | _ => K.call f args s
  | _ => K.call f args s }
theorem setOb_spec {s s1 : St} {b : Nat} {o : Option Ob} (h : s.setOb b o = some s1) : ∃ h', s1 = { s with heap := h' } ∧ ∀ m, h'.get m = if m = b then o else s.heap.get m := by
  unfold St.setOb at h
  rw [bind_some] at h
  obtain ⟨h', e, h⟩ := h
  cases h
  exact ⟨h', rfl, fun m => Tr.get_put _ _ _ _ _ e m⟩
theorem GivenOk.acts {P : Program} {K : Given} (hK : GivenOk P K) {F : FuncId → List Value → List Value → Option (Prop × Value × List Value)}
    (h : ∀ f rest l p v l', F f rest l = some (p, v, l') → l.all flat0 = true ∧ l'.all flat0 = true ∧ rest.all flat = true ∧ flat v = true ∧ l'.length ≤ l.length ∧ (p → ActOk P f rest l v l')) : GivenOk P (Given.acts K F) := by
  refine ⟨fun {f args s s' v} hc => ?_, fun {f args s s' v} hc => ?_, hK.loopObl, hK.loop⟩
  · simp only [Given.acts] at hc
    split at hc
    · split at hc
      · split at hc
        · split at hc
          · simp only [Option.map_eq_some_iff, Prod.mk.injEq] at hc
            obtain ⟨s1, h1, rfl, rfl⟩ := hc
            exact fun k => k.1
          · cases hc
        · exact hK.callObl hc
      · exact hK.callObl hc
    · exact hK.callObl hc
  · simp only [Given.acts] at hc
    split at hc
    · rename_i b rest
      split at hc
      · rename_i l t hb
        split at hc
        · rename_i p v1 l' hF
          split at hc
          · rename_i hm
            simp only [Option.map_eq_some_iff, Prod.mk.injEq] at hc
            obtain ⟨s1, h1, rfl, rfl⟩ := hc
            obtain ⟨hp, rfl, hget⟩ := setOb_spec h1
            obtain ⟨a1, a2, a3, a4, a5, a6⟩ := h _ _ _ _ _ _ hF
            intro ho n ρ w args' hs hl
            obtain ⟨x, r, rfl, hx, hr⟩ := hl.inv_cons
            have er : r = rest := hr.eq_flat a3
            subst er
            obtain ⟨hd, pc, ty, fr, q1, q2, q3, q4⟩ := hs.ob b _ hb
            have hro : s.roB ≤ b := by
              unfold St.may at hm
              rw [Bool.and_eq_true] at hm
              exact of_decide_eq_true hm.1
            cases hx with
            | same hf => simp [flat0] at hf
            | ptr hN =>
              have own : Own w (ρ b).blk ((ρ b).off + 0) (ρ b).len l := ⟨pc, ty, fr, q1, q2, q3 hro, fun i v hv => by
                obtain ⟨v', k1, k2⟩ := q4 i v hv
                rw [k2.eq_flat0 (List.all_eq_true.1 a1 v (List.mem_of_getElem? hv))] at k1
                exact k1⟩
              refine callsIn_wide.2 ((a6 ho.2 w _ _ _ own).mono ?_)
              rintro e w' ⟨rfl, hbut, pc', t', fr', z1, z2, z3, z4⟩
              have old : ∀ (b' : Nat) (o' : Ob), hp.get b' = some o' → b' ≠ b → s.heap.get b' = some o' := fun b' o' hb' hne => by
                rw [hget, if_neg hne] at hb'; exact hb'
              have there : ∀ (b' : Nat) (o' : Ob), hp.get b' = some o' → ∃ o0, s.heap.get b' = some o0 := fun b' o' hb' => by
                by_cases e : b' = b
                · subst e; exact ⟨_, hb⟩
                · exact ⟨o', old b' o' hb' e⟩
              refine ⟨v1, ρ, rfl, .of_flat a4, ⟨⟨fun b' o' hb' => ?_, fun b1 b2 o1 o2 h1 h2 hk e => ?_, fun b1 b2 o1 o2 B h1 hB h2 hk => ?_⟩, hs.hid, hs.wf⟩, ?_⟩
              · by_cases e : b' = b
                · subst e
                  have hb' : hp.get b' = some o' := hb'
                  rw [hget, if_pos rfl] at hb'
                  cases hb'
                  refine ⟨hd, pc', t', fr', z1, z2, fun _ => z3, fun i v hv => ⟨v, z4 i v hv, .same (List.all_eq_true.1 a2 v (List.mem_of_getElem? hv))⟩⟩
                · have h0 := old b' o' hb' e
                  obtain ⟨k1, k2⟩ := hs.ob b' o' h0
                  refine ⟨k1, k2.congr id (hbut.rest _ k2.lt fun e' => e (hs.inj _ _ _ _ h0 hb (.inr hro) e')) hbut.size fun B hB => hbut.rest B (k2.farLt hB) fun e' => hs.far _ _ _ _ B h0 hB hb hro e'.symm⟩
              · obtain ⟨p1, y1⟩ := there _ _ h1
                obtain ⟨p2, y2⟩ := there _ _ h2
                exact hs.inj _ _ _ _ y1 y2 hk e
              · obtain ⟨p2, y2⟩ := there _ _ h2
                have h3 : hp.get b1 = some o1 := h1
                by_cases e : b1 = b
                · subst e
                  rw [hget, if_pos rfl] at h3; cases h3
                  obtain ⟨F, g, P, i, v, hF, _⟩ := hB
                  cases hF
                · exact hs.far _ _ _ _ B (old b1 o1 h3 e) hB y2 hk
              · refine ⟨Nat.le_refl _, fun _ _ => rfl, hbut.os, hbut.tape, hbut.output, hbut.size, fun k hk hn => hbut.rest k hk fun e => hn b _ hb hm e.symm, fun b' o' hb' hm' => ?_, rfl, rfl, rfl, fun b' hb' => ?_⟩
                · obtain ⟨o0, y⟩ := there b' o' hb'
                  exact .inr ⟨b', o0, y, hm', rfl⟩
                · show hp.get b' = _
                  rw [hget, if_neg (by rintro rfl; rw [hm] at hb'; cases hb')]
          · cases hc
        · exact hK.call hc
      · exact hK.call hc
    · exact hK.call hc
def SeeOk (P : Program) (f : FuncId) (rest : List Value) (l : List Value) (v : Value) : Prop :=
  ∀ (W : World) (b o : Nat), HasCells W b o l → Calls P f (.pointer (some ⟨b, o, none⟩) :: rest).toArray W fun e w' => e = .returned v ∧ Go.RowKit.Below W.heap.size W w'
theorem SeeOk.of_run {P : Program} (G : PG P) {K : Given} (hK : GivenOk P K) {n : Nat} {f : FuncId} {rest l : List Value} {orc : List (Option Bool)} {v : Value} {p : Prop}
    (hr : ((mk P K n).call f (P0 0 0 :: rest) (St.start 1 (litHeap l) orc)).map (fun r => (r.1, r.2.obl)) = some (v, p)) (hp : p)
    (hl : l.all flat0 = true) (ha : rest.all flat = true) (hv : flat v = true) : SeeOk P f rest l v := by
  intro W b o h
  obtain ⟨ρ, g1, g2⟩ := lit_hs hl h
  have g1' : Hs (St.start 1 (litHeap l) orc) ρ W := ⟨⟨g1.ob, g1.inj, g1.far⟩, g1.hid, g1.wf⟩
  exact ranG G hK hr hp hv g1' (VL.cons g2 (flat_vl ha))
def Given.sees (K : Given) (F : FuncId → List Value → List Value → Option (Nat × Prop × Value)) : Given := { K with call := fun f args s => match args with
  | .pointer (some ⟨b, o, none⟩) :: rest => match s.heap.get b with
    | some (.cells (.lit l) _) => match F f rest (l.drop o) with
      | some (_, p, v) => some (v, { s with obl := s.obl ∧ p })
      | none => K.call f args s
    | _ => K.call f args s
  | _ => K.call f args s }
theorem GivenOk.sees {P : Program} {K : Given} (hK : GivenOk P K) {F : FuncId → List Value → List Value → Option (Nat × Prop × Value)}
    (h : ∀ f rest l k p v, F f rest l = some (k, p, v) → (l.take k).all flat0 = true ∧ rest.all flat = true ∧ flat v = true ∧ (p → SeeOk P f rest (l.take k) v)) : GivenOk P (Given.sees K F) := by
  refine ⟨fun {f args s s' v} hc => ?_, fun {f args s s' v} hc => ?_, hK.loopObl, hK.loop⟩
  · simp only [Given.sees] at hc
    split at hc
    · split at hc
      · split at hc
        · cases hc; exact fun k => k.1
        · exact hK.callObl hc
      · exact hK.callObl hc
    · exact hK.callObl hc
  · simp only [Given.sees] at hc
    split at hc
    · rename_i b o rest
      split at hc
      · rename_i l t hb
        split at hc
        · rename_i k p v1 hF
          cases hc
          obtain ⟨a1, a2, a3, a4⟩ := h _ _ _ _ _ _ hF
          intro ho n ρ w args' hs hl
          obtain ⟨x, r, rfl, hx, hr⟩ := hl.inv_cons
          have er : r = rest := hr.eq_flat a2
          subst er
          obtain ⟨hd, pc, ty, fr, q1, q2, q3, q4⟩ := hs.ob b _ hb
          cases hx with
          | same hf => simp [flat0] at hf
          | ptr hN =>
            refine callsIn_wide.2 ((a4 ho.2 w (ρ b).blk ((ρ b).off + o) ⟨pc, ty, fr, q1, fun i x hx => ?_⟩).mono ?_)
            · have hfl := List.all_eq_true.1 a1 x (List.mem_of_getElem? hx)
              rw [List.getElem?_take] at hx
              split at hx
              · rw [List.getElem?_drop] at hx
                obtain ⟨x', k1, k2⟩ := q4 (o + i) x hx
                rw [k2.eq_flat0 hfl] at k1
                rw [Nat.add_assoc]; exact k1
              · cases hx
            · rintro e w' ⟨rfl, hbl⟩
              have l1 : Like s { s with obl := s.obl ∧ p } := ⟨rfl, rfl, rfl, rfl, rfl⟩
              obtain ⟨g1, g2⟩ := hs.below hbl
              exact ⟨_, ρ, rfl, .of_flat a3, l1.holds g1, g2.like l1⟩
        · exact hK.call hc
      · exact hK.call hc
    · exact hK.call hc
def CallOk0 (P : Program) (f : FuncId) (args : List Value) (v : Value) : Prop := ∀ W : World, Calls P f args.toArray W fun e w' => e = .returned v ∧ Go.RowKit.Below W.heap.size W w'
def Given.tells (K : Given) (F : FuncId → List Value → Option (Prop × Value)) : Given := { K with call := fun f args s => match F f args with
  | some (p, v) => some (v, { s with obl := s.obl ∧ p })
  | none => K.call f args s }
theorem GivenOk.tells {P : Program} {K : Given} (hK : GivenOk P K) {F : FuncId → List Value → Option (Prop × Value)}
    (h : ∀ f args p v, F f args = some (p, v) → args.all flat = true ∧ flat v = true ∧ (p → CallOk0 P f args v)) : GivenOk P (Given.tells K F) := by
  refine ⟨fun {f args s s' v} hc => ?_, fun {f args s s' v} hc => ?_, hK.loopObl, hK.loop⟩
  · simp only [Given.tells] at hc
    split at hc
    · cases hc; exact fun k => k.1
    · exact hK.callObl hc
  · simp only [Given.tells] at hc
    split at hc
    · rename_i p v1 hF
      cases hc
      obtain ⟨a1, a2, a3⟩ := h _ _ _ _ hF
      intro ho n ρ w args' hs hl
      have : args' = args := hl.eq_flat a1
      subst this
      refine callsIn_wide.2 ((a3 ho.2 w).mono ?_)
      rintro e w' ⟨rfl, hb⟩
      have l1 : Like s { s with obl := s.obl ∧ p } := ⟨rfl, rfl, rfl, rfl, rfl⟩
      obtain ⟨g1, g2⟩ := hs.below hb
      exact ⟨_, ρ, rfl, .of_flat a2, l1.holds g1, g2.like l1⟩
    · exact hK.call hc
def HasRows (w : World) (b o n k : Nat) (g : Nat → List Value) : Prop := ∀ i, i < n → HasCells w b (o + i * k) (g i)
theorem HasCells.rows {w : World} {b o n k : Nat} {g : Nat → List Value} (h : HasRows w b o n k g) (hk : 0 < k) {i : Nat} {v : Value} (hv : (Cells.rows n k g).get i = some v) :
    ∃ (pc : Array Value) (t : TypeId) (fr : Nat × Nat), w.heap[b]? = some (.cells pc t fr) ∧ pc[o + i]? = some v := by
  simp only [Cells.get] at hv
  split at hv
  · rename_i hi
    obtain ⟨pc, t, fr, h1, h2⟩ := h _ hi
    refine ⟨pc, t, fr, h1, ?_⟩
    have := h2 _ _ hv
    have e := Nat.div_add_mod i k
    rw [Nat.add_assoc, Nat.mul_comm (i / k) k, e] at this
    exact this
  · cases hv
end
end Go.Cln
namespace Go.Cln
set_option linter.unusedVariables false
end Go.Cln
namespace Go.Cln
set_option linter.unusedVariables false
def addO (d o : Nat) : Nat := match d with
  | 0 => o
  | d + 1 => d + 1 + o
theorem addO_eq (d o : Nat) : addO d o = d + o := by cases d <;> simp [addO]
def mvL (ν δ : Nat → Nat) : Value → Value
  | .pointer (some ⟨b, o, sp⟩) => if isAbs sp then .pointer (some ⟨b, o, sp⟩) else .pointer (some ⟨ν b, addO (δ b) o, sp⟩)
  | .slice (some ⟨b, o, sp⟩) n c => if isAbs sp then .slice (some ⟨b, o, sp⟩) n c else .slice (some ⟨ν b, addO (δ b) o, sp⟩) n c
  | .map (some b) => .map (some (ν b))
  | v => v
def mvA (r : Value → Value) (ν δ : Nat → Nat) : Value → Value
  | .agg x => .agg (x.toList.map r).toArray
  | .tuple x => .tuple (x.toList.map r).toArray
  | .func (.func f) x y => .func (.func f) (x.toList.map r).toArray (y.toList.map r).toArray
  | v => mvL ν δ v
def mv (ν δ : Nat → Nat) : Value → Value := mvA (mvA (mvL ν δ) ν δ) ν δ
def okNL (n : Nat) : Value → Bool
  | .pointer (some a) => decide ((if isAbs a.spot then 0 else a.block) < n)
  | .slice (some a) _ _ => decide ((if isAbs a.spot then 0 else a.block) < n)
  | .map (some b) => decide (b < n)
  | .chan (some 0) => true
  | v => flat0 v
def okNA (o : Value → Bool) (n : Nat) : Value → Bool
  | .agg x => x.toList.all o
  | .tuple x => x.toList.all o
  | .func (.func _) x y => x.toList.all o && y.toList.all o
  | v => okNL n v
def okN (n : Nat) : Value → Bool := okNA (okNA (okNL n) n) n
section
variable {N1 N2 : Nat → Prop} {ρ1 ρ2 : Nat → PB} {ν δ : Nat → Nat} {n : Nat}
def SamePl (ρ1 ρ2 : Nat → PB) (ν δ : Nat → Nat) (n : Nat) : Prop := ∀ b, b < n → (ρ2 b).blk = (ρ1 (ν b)).blk ∧ (ρ2 b).off = (ρ1 (ν b)).off + δ b ∧ (ρ2 b).len = (ρ1 (ν b)).len
theorem slice_pl (h : SamePl ρ1 ρ2 ν δ n) {b o c c' : Nat} {g : Option Nat} {a' : Addr} (hb : b < n) : SliceOk (ρ1 (ν b)) (addO (δ b) o) g c a' c' ↔ SliceOk (ρ2 b) o g c a' c' := by
  obtain ⟨h1, h2, h3⟩ := h b hb
  unfold SliceOk
  rw [h1, h2, h3, addO_eq, Nat.add_assoc]
theorem mvL_to (hs : SamePl ρ1 ρ2 ν δ n) (hN : ∀ b, b < n → N2 b) (v w : Value) (ho : okNL n v = true) (h : VR N1 ρ1 (mvL ν δ v) w) : VR N2 ρ2 v w := by
  have plain : flat0 v = true → mvL ν δ v = v → VR N2 ρ2 v w := fun hf e => by
    rw [e] at h; rw [h.eq_flat0 hf]; exact .same hf
  cases v with
  | pointer a =>
    cases a with
    | none => exact plain rfl rfl
    | some a =>
      obtain ⟨b, o, sp⟩ := a
      simp only [okNL, decide_eq_true_eq] at ho
      simp only [mvL] at h
      by_cases hg : isAbs sp = true
      · rw [if_pos hg] at h ho
        cases h with
        | same hf => simp [flat0] at hf
        | ptr _ => cases hg
        | absP _ hg => exact .absP (hN 0 ho) hg
      rw [if_neg hg] at h ho
      have hb : b < n := ho
      cases h with
      | same hf => simp [flat0] at hf
      | absP _ hg' => exact absurd hg' hg
      | ptr _ =>
        obtain ⟨h1, h2, _⟩ := hs b hb
        have e : (ρ1 (ν b)).off + addO (δ b) o = (ρ2 b).off + o := by rw [h2, addO_eq, Nat.add_assoc]
        rw [e, ← h1]; exact .ptr (hN b hb)
  | slice a m c =>
    cases a with
    | none => exact plain rfl rfl
    | some a =>
      obtain ⟨b, o, sp⟩ := a
      simp only [okNL, decide_eq_true_eq] at ho
      simp only [mvL] at h
      by_cases hg : isAbs sp = true
      · rw [if_pos hg] at h ho
        cases h with
        | same hf => simp [flat0] at hf
        | slice _ _ hok => rw [hok.noAbs] at hg; cases hg
        | abs _ hg hk => exact .abs (hN 0 ho) hg hk
      rw [if_neg hg] at h ho
      have hb : b < n := ho
      cases h with
      | same hf => simp [flat0] at hf
      | abs _ hg' _ => exact absurd hg' hg
      | slice _ hn hok => exact .slice (hN b hb) hn ((slice_pl hs hb).1 hok)
  | map b =>
    cases b with
    | none => exact plain rfl rfl
    | some b =>
      have hb : b < n := by simpa [okNL] using ho
      simp only [mvL] at h
      cases h with
      | same hf => simp [flat0] at hf
      | mapv _ => rw [← (hs b hb).1]; exact .mapv (hN b hb)
  | func f x y =>
    cases f with
    | yield l => simp [okNL, flat0] at ho
    | _ => exact plain ho rfl
  | chan r =>
    cases r with
    | none => exact plain ho rfl
    | some k =>
      cases k with
      | zero =>
        simp only [mvL] at h
        cases h with
        | same hf => simp [flat0] at hf
        | any hw => exact .any hw
      | succ k => exact plain ho rfl
  | _ => exact plain ho rfl
theorem mvL_from (hs : SamePl ρ1 ρ2 ν δ n) (h0 : N1 0) (hN : ∀ b, b < n → N2 b → N1 (ν b)) (v w : Value) (ho : okNL n v = true) (h : VR N2 ρ2 v w) : VR N1 ρ1 (mvL ν δ v) w := by
  have plain : flat0 v = true → mvL ν δ v = v → VR N1 ρ1 (mvL ν δ v) w := fun hf e => by
    rw [e]; rw [h.eq_flat0 hf]; exact .same hf
  cases v with
  | pointer a =>
    cases a with
    | none => exact plain rfl rfl
    | some a =>
      obtain ⟨b, o, sp⟩ := a
      simp only [okNL, decide_eq_true_eq] at ho
      simp only [mvL]
      by_cases hg : isAbs sp = true
      · rw [if_pos hg]
        cases h with
        | same hf => simp [flat0] at hf
        | ptr _ => cases hg
        | absP _ hg => exact .absP h0 hg
      rw [if_neg hg] at ho ⊢
      have hb : b < n := ho
      cases h with
      | same hf => simp [flat0] at hf
      | absP _ hg' => exact absurd hg' hg
      | ptr k =>
        obtain ⟨h1, h2, _⟩ := hs b hb
        have e : (ρ2 b).off + o = (ρ1 (ν b)).off + addO (δ b) o := by rw [h2, addO_eq, Nat.add_assoc]
        rw [e, h1]; exact .ptr (hN b hb k)
  | slice a m c =>
    cases a with
    | none => exact plain rfl rfl
    | some a =>
      obtain ⟨b, o, sp⟩ := a
      simp only [okNL, decide_eq_true_eq] at ho
      simp only [mvL]
      by_cases hg : isAbs sp = true
      · rw [if_pos hg]
        cases h with
        | same hf => simp [flat0] at hf
        | slice _ _ hok => rw [hok.noAbs] at hg; cases hg
        | abs _ hg hk => exact .abs h0 hg hk
      rw [if_neg hg] at ho ⊢
      have hb : b < n := ho
      cases h with
      | same hf => simp [flat0] at hf
      | abs _ hg' _ => exact absurd hg' hg
      | slice k hn hok => exact .slice (hN b hb k) hn ((slice_pl hs hb).2 hok)
  | map b =>
    cases b with
    | none => exact plain rfl rfl
    | some b =>
      have hb : b < n := by simpa [okNL] using ho
      simp only [mvL]
      cases h with
      | same hf => simp [flat0] at hf
      | mapv k => rw [(hs b hb).1]; exact .mapv (hN b hb k)
  | func f x y =>
    cases f with
    | yield l => simp [okNL, flat0] at ho
    | _ => exact plain ho rfl
  | chan r =>
    cases r with
    | none => exact plain ho rfl
    | some k =>
      cases k with
      | zero =>
        simp only [mvL]
        cases h with
        | same hf => simp [flat0] at hf
        | any hw => exact .any hw
      | succ k => exact plain ho rfl
  | _ => exact plain ho rfl
theorem mvA_to (hs : SamePl ρ1 ρ2 ν δ n) (hN : ∀ b, b < n → N2 b) {r : Value → Value} {o : Value → Bool} (hr : ∀ (v w : Value), o v = true → VR N1 ρ1 (r v) w → VR N2 ρ2 v w) :
    ∀ (v w : Value), okNA o n v = true → VR N1 ρ1 (mvA r ν δ v) w → VR N2 ρ2 v w := by
  have rows : ∀ (x : Array Value) (x' : Array Value), x.toList.all o = true → (x.toList.map r).toArray.toList.length = x'.toList.length → (∀ (i : Nat) (v w : Value), (x.toList.map r).toArray.toList[i]? = some v → x'.toList[i]? = some w → VR N1 ρ1 v w) →
      x.toList.length = x'.toList.length ∧ ∀ (i : Nat) (v w : Value), x.toList[i]? = some v → x'.toList[i]? = some w → VR N2 ρ2 v w := fun x x' ha h1 h2 => by
    refine ⟨by simpa using h1, fun i v w hv hw => ?_⟩
    refine hr v w (List.all_eq_true.1 ha v (List.mem_of_getElem? hv)) (h2 i _ w ?_ hw)
    show (x.toList.map r)[i]? = some (r v)
    rw [List.getElem?_map, hv]; rfl
  intro v w ho h
  cases v with
  | agg x =>
    simp only [mvA] at h
    cases h with
    | same hf => simp [flat0] at hf
    | agg h1 h2 => obtain ⟨a, b⟩ := rows x _ ho h1 h2; exact .agg a b
  | tuple x =>
    simp only [mvA] at h
    cases h with
    | same hf => simp [flat0] at hf
    | tup h1 h2 => obtain ⟨a, b⟩ := rows x _ ho h1 h2; exact .tup a b
  | func f x y =>
    cases f with
    | func f =>
      simp only [mvA] at h
      simp only [okNA, Bool.and_eq_true] at ho
      cases h with
      | same hf =>
        simp only [flat0, Bool.and_eq_true, List.isEmpty_iff, List.map_eq_nil_iff] at hf
        obtain ⟨hx, hy⟩ := hf
        obtain ⟨x⟩ := x; obtain ⟨y⟩ := y
        simp only at hx hy
        subst hx; subst hy
        exact .same rfl
      | fn h1 h2 h3 h4 => obtain ⟨a, b⟩ := rows x _ ho.1 h1 h2; obtain ⟨c, d⟩ := rows y _ ho.2 h3 h4; exact .fn a b c d
    | _ => exact mvL_to hs hN _ _ ho h
  | _ => exact mvL_to hs hN _ _ ho h
theorem mvA_from (hs : SamePl ρ1 ρ2 ν δ n) (h0 : N1 0) (hN : ∀ b, b < n → N2 b → N1 (ν b)) {r : Value → Value} {o : Value → Bool} (hr : ∀ (v w : Value), o v = true → VR N2 ρ2 v w → VR N1 ρ1 (r v) w) :
    ∀ (v w : Value), okNA o n v = true → VR N2 ρ2 v w → VR N1 ρ1 (mvA r ν δ v) w := by
  have rows : ∀ (x : Array Value) (x' : Array Value), x.toList.all o = true → x.toList.length = x'.toList.length → (∀ (i : Nat) (v w : Value), x.toList[i]? = some v → x'.toList[i]? = some w → VR N2 ρ2 v w) →
      (x.toList.map r).toArray.toList.length = x'.toList.length ∧ ∀ (i : Nat) (v w : Value), (x.toList.map r).toArray.toList[i]? = some v → x'.toList[i]? = some w → VR N1 ρ1 v w := fun x x' ha h1 h2 => by
    refine ⟨by simpa using h1, fun i v w hv hw => ?_⟩
    have hv : (x.toList.map r)[i]? = some v := hv
    rw [List.getElem?_map, Option.map_eq_some_iff] at hv
    obtain ⟨v0, hv0, rfl⟩ := hv
    exact hr v0 w (List.all_eq_true.1 ha v0 (List.mem_of_getElem? hv0)) (h2 i v0 w hv0 hw)
  intro v w ho h
  cases v with
  | agg x =>
    simp only [mvA]
    cases h with
    | same hf => simp [flat0] at hf
    | agg h1 h2 => obtain ⟨a, b⟩ := rows x _ ho h1 h2; exact .agg a b
  | tuple x =>
    simp only [mvA]
    cases h with
    | same hf => simp [flat0] at hf
    | tup h1 h2 => obtain ⟨a, b⟩ := rows x _ ho h1 h2; exact .tup a b
  | func f x y =>
    cases f with
    | func f =>
      simp only [mvA]
      simp only [okNA, Bool.and_eq_true] at ho
      cases h with
      | same hf =>
        simp only [flat0, Bool.and_eq_true, List.isEmpty_iff] at hf
        obtain ⟨hx, hy⟩ := hf
        obtain ⟨x⟩ := x; obtain ⟨y⟩ := y
        simp only at hx hy
        subst hx; subst hy
        exact .same rfl
      | fn h1 h2 h3 h4 => obtain ⟨a, b⟩ := rows x _ ho.1 h1 h2; obtain ⟨c, d⟩ := rows y _ ho.2 h3 h4; exact .fn a b c d
    | _ => exact mvL_from hs h0 hN (.func _ x y) w ho h
  | bool a => exact mvL_from hs h0 hN (.bool a) w ho h
  | int a b => exact mvL_from hs h0 hN (.int a b) w ho h
  | float a b => exact mvL_from hs h0 hN (.float a b) w ho h
  | complex a b c => exact mvL_from hs h0 hN (.complex a b c) w ho h
  | string a => exact mvL_from hs h0 hN (.string a) w ho h
  | pointer a => exact mvL_from hs h0 hN (.pointer a) w ho h
  | slice a b c => exact mvL_from hs h0 hN (.slice a b c) w ho h
  | map a => exact mvL_from hs h0 hN (.map a) w ho h
  | chan a => exact mvL_from hs h0 hN (.chan a) w ho h
  | nilFunc => exact mvL_from hs h0 hN .nilFunc w ho h
  | nilIface => exact mvL_from hs h0 hN .nilIface w ho h
  | iface a b => exact mvL_from hs h0 hN (.iface a b) w ho h
theorem mv_to (hs : SamePl ρ1 ρ2 ν δ n) (hN : ∀ b, b < n → N2 b) (v w : Value) (ho : okN n v = true) (h : VR N1 ρ1 (mv ν δ v) w) : VR N2 ρ2 v w :=
  mvA_to hs hN (mvA_to hs hN (mvL_to hs hN)) v w ho h
theorem mv_from (hs : SamePl ρ1 ρ2 ν δ n) (h0 : N1 0) (hN : ∀ b, b < n → N2 b → N1 (ν b)) (v w : Value) (ho : okN n v = true) (h : VR N2 ρ2 v w) : VR N1 ρ1 (mv ν δ v) w :=
  mvA_from hs h0 hN (mvA_from hs h0 hN (mvL_from hs h0 hN)) v w ho h
end
def hget (l : List (Option Ob)) (b : Nat) : Option Ob := match l[b]? with
  | some o => o
  | none => none
noncomputable def Tr.ofL (l : List (Option Ob)) : Tr := Tr.rebuild (hget l) l.length
theorem ofL_get {l : List (Option Ob)} (hl : l.length ≤ 1000000) (b : Nat) : (Tr.ofL l).get b = hget l b := by
  unfold Tr.ofL
  rw [Tr.get_rebuild _ _ _ hl]
  split
  · rfl
  · unfold hget; rw [List.getElem?_eq_none (by omega)]
structure Inst where
  win : List (Nat × Nat)
  ro : Nat
  heap : List (Option Ob)
  args : List Value
  val : Value
  heap' : List (Option Ob)
  ask : Prop
noncomputable def smSt (ro : Nat) (l : List (Option Ob)) (orc : List (Option Bool)) : St := ⟨[], [], Tr.ofL l, l.length, ro, [], fun _ => false, True, orc⟩
theorem smMay {ro : Nat} {l : List (Option Ob)} {orc : List (Option Bool)} {b : Nat} : (smSt ro l orc).may b = true ↔ ro ≤ b := by
  have e : (smSt ro l orc).may b = (decide (ro ≤ b) && !([] : List Nat).contains b) := rfl
  rw [e, Bool.and_eq_true]
  exact ⟨fun h => of_decide_eq_true h.1, fun h => ⟨decide_eq_true h, rfl⟩⟩
def Inst.nu (i : Inst) (base b : Nat) : Nat := match i.win[b]? with
  | some p => p.1
  | none => base + (b - i.win.length)
def Inst.del (i : Inst) (b : Nat) : Nat := match i.win[b]? with
  | some p => p.2
  | none => 0
def okOb (n : Nat) : Option Ob → Bool
  | some (.cells (.lit l) _) => l.all (okN n)
  | some (.cells (.ints _ _) _) => true
  | some (.fam _) => true
  | some _ => false
  | none => true
def mvOb (ν δ : Nat → Nat) : Ob → Ob
  | .cells (.lit l) t => .cells (.lit (l.map (mv ν δ))) t
  | o => o
noncomputable def Inst.lay (i : Inst) (base : Nat) : List (Option Ob) → Nat → Tr → Option Tr
  | [], _, h => some h
  | o :: l, j, h => if j < i.ro then Inst.lay i base l (j + 1) h else (h.put 64 (i.nu base j) (o.map (mvOb (i.nu base) i.del))).bind fun h => Inst.lay i base l (j + 1) h
def winOk (s : St) (ro : Nat) : List (Nat × Nat) → Nat → List Nat → Bool
  | [], _, _ => true
  | p :: l, j, seen => (if j < ro then !(l.drop (ro - (j + 1))).any (fun q => q.1 == p.1) else s.may p.1 && p.2 == 0 && !l.any (fun q => q.1 == p.1)) && winOk s ro l (j + 1) seen
noncomputable def Inst.app (i : Inst) (s : St) : Option (Value × St) :=
  if i.win.length = i.heap.length ∧ i.heap.length ≤ i.heap'.length ∧ i.heap'.length ≤ 1000000 ∧ i.ro ≤ i.heap.length ∧ i.args.all (okN i.win.length) = true ∧ i.heap.all (okOb i.win.length) = true ∧ okN i.heap'.length i.val = true ∧ i.heap'.all (okOb i.heap'.length) = true ∧ winOk s i.ro i.win 0 [] = true ∧ i.win.all (fun p => decide (p.1 < s.next) && !s.hid p.1) = true ∧ (decide (0 < s.next) && !s.hid 0) = true then
    (i.lay s.next i.heap' 0 s.heap).bind fun h => some (mv (i.nu s.next) i.del i.val, { s with heap := h, next := s.next + (i.heap'.length - i.heap.length), obl := s.obl ∧ i.ask })
  else none
structure Fits (s : St) (i : Inst) (args : List Value) : Prop where
  args : args = i.args.map (mv (i.nu s.next) i.del)
  ob : ∀ (j : Nat) (p : Nat × Nat) (o : Ob), i.win[j]? = some p → i.heap[j]? = some (some o) → ∃ O, s.heap.get p.1 = some O ∧ match o, O with
    | .fam F, .fam G => ∀ (g P x : Nat) (v : Value), (F g P).get x = some v → (G g P).get x = some v
    | .cells c _, .cells C _ => ∀ (x : Nat) (v : Value), c.get x = some v → ∃ V, C.get (p.2 + x) = some V ∧ V = mv (i.nu s.next) i.del v ∧ okN i.win.length v = true
    | _, _ => False
noncomputable def Inst.s0 (i : Inst) : St := smSt i.ro i.heap []
noncomputable def Inst.s1 (i : Inst) : St := { smSt i.ro i.heap' [] with next := i.heap'.length }
theorem CallOk.sub {P : Program} {f : FuncId} {args : List Value} {s s' t' : St} {v : Value} (h : CallOk P f args s v s') (ho : s'.obl) (hs : Sub s' t') (hsame : ∀ b, s.may b = false → t'.heap.get b = s.heap.get b) : CallOk P f args s v t' := fun _ n ρ w args' hh ha => by
  refine callsIn_wide.2 ((callsIn_wide.1 (h ho n ρ w args' hh ha)).mono ?_)
  rintro e w' ⟨v', ρ', rfl, g1, g2, g3⟩
  refine ⟨v', ρ', rfl, by rw [hs.dm]; exact g1, hs.hs g2, ⟨by rw [hs.next]; exact g3.next, g3.ext, g3.os, g3.tape, g3.output, g3.size, g3.frame, fun b o hb hm => ?_, by rw [hs.roB]; exact g3.roB, by rw [hs.ro]; exact g3.ro, by rw [hs.hid]; exact g3.hid, hsame⟩⟩
  obtain ⟨o1, k1, _⟩ := hs.ob b o hb
  exact g3.own b o1 k1 (by rw [← may_of hs.roB hs.ro]; exact hm)
theorem lay_get (i : Inst) (base : Nat) (hinj : ∀ j j', i.ro ≤ j → i.ro ≤ j' → i.nu base j = i.nu base j' → j = j') : ∀ (l : List (Option Ob)) (j : Nat) (h h' : Tr), i.lay base l j h = some h' → ∀ b, (∀ k o, l[k]? = some o → i.ro ≤ j + k → b = i.nu base (j + k) → h'.get b = o.map (mvOb (i.nu base) i.del)) ∧ ((∀ k, k < l.length → i.ro ≤ j + k → b ≠ i.nu base (j + k)) → h'.get b = h.get b)
  | [], j, h, h', e, b => by
    simp only [Inst.lay, Option.some.injEq] at e; subst e
    exact ⟨fun k o hk => by simp at hk, fun _ => rfl⟩
  | o :: l, j, h, h', e, b => by
    simp only [Inst.lay] at e
    split at e
    · rename_i hj
      obtain ⟨g1, g2⟩ := lay_get i base hinj l (j + 1) h h' e b
      refine ⟨fun k x hk hr hb => ?_, fun hn => g2 fun k hk hr => ?_⟩
      · cases k with
        | zero => omega
        | succ k => exact g1 k x (by simpa using hk) (by omega) (by rw [show j + 1 + k = j + (k + 1) by omega]; exact hb)
      · rw [show j + 1 + k = j + (k + 1) by omega]; exact hn (k + 1) (by simpa using hk) (by omega)
    · rename_i hj
      rw [bind_some] at e
      obtain ⟨h1, e1, e⟩ := e
      obtain ⟨g1, g2⟩ := lay_get i base hinj l (j + 1) h1 h' e b
      refine ⟨fun k x hk hr hb => ?_, fun hn => ?_⟩
      · cases k with
        | zero =>
          simp only [List.getElem?_cons_zero, Option.some.injEq] at hk; subst hk
          rw [g2, Tr.get_put _ _ _ _ _ e1, if_pos (by simpa using hb)]
          intro k hk hr' hbe
          have := hinj (j + 0) (j + 1 + k) (by omega) hr' (hb.symm.trans hbe)
          omega
        | succ k => exact g1 k x (by simpa using hk) (by omega) (by rw [show j + 1 + k = j + (k + 1) by omega]; exact hb)
      · rw [g2 fun k hk hr => by rw [show j + 1 + k = j + (k + 1) by omega]; exact hn (k + 1) (by simpa using hk) (by omega), Tr.get_put _ _ _ _ _ e1, if_neg (by simpa using hn 0 (by simp) (by omega))]
theorem winOk_spec {s : St} {ro : Nat} {seen : List Nat} : ∀ {l : List (Nat × Nat)} {j : Nat}, winOk s ro l j seen = true →
    (∀ k p, l[k]? = some p → ro ≤ j + k → s.may p.1 = true ∧ p.2 = 0) ∧ ∀ k k' p p', l[k]? = some p → l[k']? = some p' → k < k' → (ro ≤ j + k ∨ ro ≤ j + k') → p.1 ≠ p'.1
  | [], j, h => ⟨fun k p hk => by simp at hk, fun k k' p p' hk => by simp at hk⟩
  | q :: l, j, h => by
    simp only [winOk, Bool.and_eq_true] at h
    obtain ⟨h1, h2⟩ := h
    obtain ⟨g1, g2⟩ := winOk_spec h2
    refine ⟨fun k p hk hr => ?_, fun k k' p p' hk hk' hlt hr => ?_⟩
    · cases k with
      | zero =>
        simp only [List.getElem?_cons_zero, Option.some.injEq] at hk; subst hk
        rw [if_neg (by omega)] at h1
        simp only [Bool.and_eq_true] at h1
        exact ⟨h1.1.1, by simpa using h1.1.2⟩
      | succ k => exact g1 k p (by simpa using hk) (by omega)
    · cases k with
      | zero =>
        simp only [List.getElem?_cons_zero, Option.some.injEq] at hk; subst hk
        cases k' with
        | zero => omega
        | succ k' =>
          have hk' : l[k']? = some p' := by simpa using hk'
          split at h1
          · rename_i hj
            have hr' : ro ≤ j + (k' + 1) := by omega
            have h1 : (l.drop (ro - (j + 1))).any (fun x => x.1 == q.1) = false := by simpa using h1
            rw [List.any_eq_false] at h1
            have hm : p' ∈ l.drop (ro - (j + 1)) := by
              refine List.mem_of_getElem? (i := k' - (ro - (j + 1))) ?_
              rw [List.getElem?_drop, show ro - (j + 1) + (k' - (ro - (j + 1))) = k' by omega]; exact hk'
            intro e
            exact h1 p' hm (by simp [e])
          · simp only [Bool.and_eq_true] at h1
            have h1 : l.any (fun x => x.1 == q.1) = false := by simpa using h1.2
            rw [List.any_eq_false] at h1
            intro e
            exact h1 p' (List.mem_of_getElem? hk') (by simp [e])
      | succ k =>
        cases k' with
        | zero => omega
        | succ k' => exact g2 k k' p p' (by simpa using hk) (by simpa using hk') (by omega) (by omega)
theorem frame_sound {P : Program} {f : FuncId} {i : Inst} {s s' : St} {v : Value} {args : List Value} (hc : CallOk P f i.args i.s0 i.val i.s1) (hfit : Fits s i args) (happ : i.app s = some (v, s')) : CallOk P f args s v s' := by
  unfold Inst.app at happ
  split at happ
  · rename_i hcond
    obtain ⟨c1, c2, c3, c4, c5, c6, c7, c8, c9, c10, c11⟩ := hcond
    rw [bind_some] at happ
    obtain ⟨h', hlay, happ⟩ := happ
    simp only [Option.some.injEq, Prod.mk.injEq] at happ
    obtain ⟨rfl, rfl⟩ := happ
    intro ho n ρ w args' hs ha
    obtain ⟨w1, w2⟩ := winOk_spec c9
    have wd : ∀ (j : Nat) (p : Nat × Nat), i.win[j]? = some p → Dm s p.1 := fun j p hp => by
      have := List.all_eq_true.1 c10 p (List.mem_of_getElem? hp)
      rw [Bool.and_eq_true] at this
      exact ⟨of_decide_eq_true this.1, by simpa using this.2⟩
    have wex : ∀ j, j < i.win.length → ∃ p, i.win[j]? = some p := fun j hj => ⟨_, List.getElem?_eq_getElem hj⟩
    have nu_lo : ∀ (j : Nat) (p : Nat × Nat), i.win[j]? = some p → i.nu s.next j = p.1 ∧ i.del j = p.2 := fun j p hp => by simp [Inst.nu, Inst.del, hp]
    have nu_hi : ∀ j, i.win.length ≤ j → i.nu s.next j = s.next + (j - i.win.length) ∧ i.del j = 0 := fun j hj => by simp [Inst.nu, Inst.del, List.getElem?_eq_none hj]
    have hinj : ∀ j j', i.ro ≤ j → i.ro ≤ j' → i.nu s.next j = i.nu s.next j' → j = j' := fun j j' hj hj' e => by
      rcases Nat.lt_or_ge j i.win.length with h1 | h1
      · obtain ⟨p, hp⟩ := wex j h1
        rw [(nu_lo j p hp).1] at e
        rcases Nat.lt_or_ge j' i.win.length with h2 | h2
        · obtain ⟨p', hp'⟩ := wex j' h2
          rw [(nu_lo j' p' hp').1] at e
          rcases Nat.lt_trichotomy j j' with hl | hl | hl
          · exact absurd e (w2 j j' p p' hp hp' hl (by omega))
          · exact hl
          · exact absurd e.symm (w2 j' j p' p hp' hp hl (by omega))
        · rw [(nu_hi j' h2).1] at e
          have := (wd j p hp).1; omega
      · rw [(nu_hi j h1).1] at e
        rcases Nat.lt_or_ge j' i.win.length with h2 | h2
        · obtain ⟨p', hp'⟩ := wex j' h2
          rw [(nu_lo j' p' hp').1] at e
          have := (wd j' p' hp').1; omega
        · rw [(nu_hi j' h2).1] at e; omega
    -- the world, as the small picture sees it
    have e0 : i.s0.next = i.win.length := c1.symm
    let ρ0 : Nat → PB := fun b => ⟨(ρ (i.nu s.next b)).blk, (ρ (i.nu s.next b)).off + i.del b, (ρ (i.nu s.next b)).len⟩
    have pl : SamePl ρ ρ0 (i.nu s.next) i.del i.win.length := fun b _ => ⟨rfl, rfl, rfl⟩
    have dm0 : ∀ b, b < i.win.length → Dm i.s0 b := fun b hb => ⟨by rw [e0]; exact hb, rfl⟩
    have get0 : ∀ b, i.s0.heap.get b = hget i.heap b := fun b => ofL_get (by omega) b
    have hs0 : Hs i.s0 ρ0 w := by
      have lt : ∀ {b o}, hget i.heap b = some o → b < i.win.length := fun {b o} h => by
        unfold hget at h
        rcases Nat.lt_or_ge b i.heap.length with h1 | h1
        · omega
        · rw [List.getElem?_eq_none h1] at h; cases h
      have hh : ∀ {b o}, hget i.heap b = some o → i.heap[b]? = some (some o) := fun {b o} h => by
        unfold hget at h
        split at h
        · rename_i h1; rw [h1, h]
        · cases h
      have mroB : ∀ {x : Nat}, s.may x = true → s.roB ≤ x := fun {x} hm => by
        unfold St.may at hm; rw [Bool.and_eq_true] at hm; exact of_decide_eq_true hm.1
      refine ⟨⟨fun b o hb => ?_, fun b b' o o' hb hb' hk e => ?_, fun b b' o o' B hb hB hb' hk => ?_⟩, fun _ _ => rfl, ⟨c4, fun x hx => by simp [Inst.s0, smSt] at hx⟩⟩
      rotate_left 2
      · rw [get0] at hb hb'
        obtain ⟨p, hp⟩ := wex b (lt hb)
        obtain ⟨p', hp'⟩ := wex b' (lt hb')
        obtain ⟨O, hO, hf⟩ := hfit.ob b p o hp (hh hb)
        obtain ⟨O', hO', _⟩ := hfit.ob b' p' o' hp' (hh hb')
        obtain ⟨F, g, P0, x, v, rfl, hx, hPB⟩ := hB
        cases O with
        | fam G =>
          have := hs.far p.1 p'.1 (.fam G) O' B hO ⟨G, g, P0, x, v, rfl, hf g P0 x v hx, hPB⟩ hO' (mroB (w1 b' p' hp' (by have hk : i.ro ≤ b' := hk; omega)).1)
          show (ρ (i.nu s.next b')).blk ≠ B
          rw [(nu_lo b' p' hp').1]; exact this
        | _ => exact hf.elim
      · rw [get0] at hb
        unfold hget at hb
        split at hb
        · rename_i o1 hb1
          subst hb
          have hlt : b < i.win.length := by
            rcases Nat.lt_or_ge b i.heap.length with h | h
            · omega
            · rw [List.getElem?_eq_none h] at hb1; cases hb1
          obtain ⟨p, hp⟩ := wex b hlt
          obtain ⟨O, hO, hfits⟩ := hfit.ob b p o hp hb1
          refine ⟨dm0 b hlt, ?_⟩
          obtain ⟨_, hob⟩ := hs.ob _ _ hO
          cases o with
          | cells c t =>
            cases O with
            | cells C T =>
              obtain ⟨pc, ty, fr, g1, g2, g3, g4⟩ := hob
              refine ⟨pc, ty, fr, ?_, ?_, fun hm => ?_, fun x vv hv => ?_⟩
              · show w.heap[(ρ (i.nu s.next b)).blk]? = _; rw [(nu_lo b p hp).1]; exact g1
              · show pc.size = (ρ (i.nu s.next b)).len; rw [(nu_lo b p hp).1]; exact g2
              · refine g3 ?_
                have := (w1 b p hp (by simpa [Inst.s0, smSt] using hm)).1
                unfold St.may at this
                rw [Bool.and_eq_true] at this
                exact of_decide_eq_true this.1
              · obtain ⟨V, hV, hVe, hok⟩ := hfits x vv hv
                obtain ⟨V', k1, k2⟩ := g4 _ V hV
                refine ⟨V', ?_, ?_⟩
                · show pc[(ρ (i.nu s.next b)).off + i.del b + x]? = _
                  rw [(nu_lo b p hp).1, (nu_lo b p hp).2, Nat.add_assoc]; exact k1
                · rw [hVe] at k2
                  exact mv_to pl dm0 vv V' hok k2
            | _ => exact hfits.elim
          | fam F =>
            cases O with
            | fam G =>
              obtain ⟨g1, g2, g3⟩ := hob
              refine ⟨fun hm => g1 (mroB (w1 b p hp (by have hm : i.ro ≤ b := hm; omega)).1), ?_, fun g P0 x vv hv => ?_⟩
              · show (ρ (i.nu s.next b)).blk < _; rw [(nu_lo b p hp).1]; exact g2
              · obtain ⟨pc, ty, fr, v', k1, k2, k3, k4⟩ := g3 g P0 x vv (hfits g P0 x vv hv)
                exact ⟨pc, ty, fr, v', k1, k2, famV_vr k3 k4 (dm0 0 (by omega)), k4⟩
            | _ => exact hfits.elim
          | _ => exact hfits.elim
        · cases hb
      · rw [get0] at hb hb'
        have lt : ∀ {b o}, hget i.heap b = some o → b < i.win.length := fun {b o} h => by
          unfold hget at h
          rcases Nat.lt_or_ge b i.heap.length with h1 | h1
          · omega
          · rw [List.getElem?_eq_none h1] at h; cases h
        obtain ⟨p, hp⟩ := wex b (lt hb)
        obtain ⟨p', hp'⟩ := wex b' (lt hb')
        have hh : ∀ {b o}, hget i.heap b = some o → i.heap[b]? = some (some o) := fun {b o} h => by
          unfold hget at h
          split at h
          · rename_i h1; rw [h1, h]
          · cases h
        obtain ⟨O, hO, _⟩ := hfit.ob b p o hp (hh hb)
        obtain ⟨O', hO', _⟩ := hfit.ob b' p' o' hp' (hh hb')
        have e1 : (ρ p.1).blk = (ρ p'.1).blk := by
          have : (ρ (i.nu s.next b)).blk = (ρ (i.nu s.next b')).blk := e
          rw [(nu_lo b p hp).1, (nu_lo b' p' hp').1] at this; exact this
        have hk' : i.ro ≤ b ∨ i.ro ≤ b' := hk
        have mroB : ∀ {x : Nat}, s.may x = true → s.roB ≤ x := fun {x} hm => by
          unfold St.may at hm; rw [Bool.and_eq_true] at hm; exact of_decide_eq_true hm.1
        have e2 : p.1 = p'.1 := hs.inj p.1 p'.1 O O' hO hO' (hk'.elim (fun h => .inl (mroB (w1 b p hp (by omega)).1)) fun h => .inr (mroB (w1 b' p' hp' (by omega)).1)) e1
        rcases Nat.lt_trichotomy b b' with hl | hl | hl
        · exact absurd e2 (w2 b b' p p' hp hp' hl (by omega))
        · exact hl
        · exact absurd e2.symm (w2 b' b p' p hp' hp hl (by omega))
    have ha0 : VL (Dm i.s0) ρ0 i.args args' := by
      rw [hfit.args] at ha
      refine ⟨by simpa using ha.1, fun x a b hx hb => ?_⟩
      refine mv_to pl dm0 a b (List.all_eq_true.1 c5 a (List.mem_of_getElem? hx)) (ha.2 x _ b ?_ hb)
      rw [List.getElem?_map, hx]; rfl
    refine callsIn_wide.2 ((callsIn_wide.1 (hc trivial n ρ0 w args' hs0 ha0)).mono ?_)
    rintro e w' ⟨v', ρ', rfl, g1, g2, g3⟩
    let ρ2 : Nat → PB := fun b => if b < s.next then ρ b else ρ' (b - s.next + i.win.length)
    have n1 : i.s1.next = i.heap'.length := rfl
    have get1 : ∀ b, i.s1.heap.get b = hget i.heap' b := fun b => ofL_get c3 b
    have rhoLo : ∀ b, b < s.next → ρ2 b = ρ b := fun b hb => if_pos hb
    have rhoHi : ∀ j, i.win.length ≤ j → ρ2 (i.nu s.next j) = ρ' j := fun j hj => by
      rw [(nu_hi j hj).1]
      show (if _ then _ else _) = _
      rw [if_neg (by omega)]
      congr 1; omega
    have pl2 : SamePl ρ2 ρ' (i.nu s.next) i.del i.heap'.length := fun b hb => by
      rcases Nat.lt_or_ge b i.win.length with h1 | h1
      · obtain ⟨p, hp⟩ := wex b h1
        have e1 : ρ' b = ρ0 b := g3.ext b (by rw [e0]; exact h1)
        rw [e1]
        have : ρ2 (i.nu s.next b) = ρ (i.nu s.next b) := rhoLo _ (by rw [(nu_lo b p hp).1]; exact (wd b p hp).1)
        rw [this]; exact ⟨rfl, rfl, rfl⟩
      · rw [rhoHi b h1, (nu_hi b h1).2]; exact ⟨rfl, rfl, rfl⟩
    let s2 : St := { s with heap := h', next := s.next + (i.heap'.length - i.heap.length), obl := s.obl ∧ i.ask }
    have dm2 : ∀ b, b < i.heap'.length → Dm i.s1 b → Dm s2 (i.nu s.next b) := fun b hb _ => by
      rcases Nat.lt_or_ge b i.win.length with h1 | h1
      · obtain ⟨p, hp⟩ := wex b h1
        rw [(nu_lo b p hp).1]
        have := wd b p hp
        exact ⟨by show p.1 < s.next + _; have := this.1; omega, this.2⟩
      · rw [(nu_hi b h1).1]
        exact ⟨by show _ < s.next + _; omega, hs.hid _ (by omega)⟩
    have up : ∀ b, Dm s b → Dm s2 b := fun b hb => ⟨by show b < s.next + _; have := hb.1; omega, hb.2⟩
    have z2 : Dm s2 0 := up 0 (by
      rw [Bool.and_eq_true] at c11
      exact ⟨of_decide_eq_true c11.1, by simpa using c11.2⟩)
    have lay := fun b => lay_get i s.next hinj i.heap' 0 s.heap h' hlay b
    -- which blocks are there
    have cases' : ∀ (b : Nat) (o : Ob), h'.get b = some o → (∃ j o1, i.ro ≤ j ∧ j < i.heap'.length ∧ b = i.nu s.next j ∧ i.s1.heap.get j = some o1 ∧ o = mvOb (i.nu s.next) i.del o1 ∧ okOb i.heap'.length (some o1) = true) ∨ ((∀ j, j < i.heap'.length → i.ro ≤ j → b ≠ i.nu s.next j) ∧ s.heap.get b = some o) := fun b o hb => by
      by_cases hx : ∃ j, j < i.heap'.length ∧ i.ro ≤ j ∧ b = i.nu s.next j
      · obtain ⟨j, h1, h2, h3⟩ := hx
        left
        have hj : i.heap'[j]? = some i.heap'[j] := List.getElem?_eq_getElem h1
        have := (lay b).1 j _ hj (by omega) (by rw [Nat.zero_add]; exact h3)
        rw [hb] at this
        cases ho1 : i.heap'[j] with
        | none => rw [ho1] at this; cases this
        | some o1 =>
          rw [ho1] at this hj
          simp only [Option.map_some, Option.some.injEq] at this
          refine ⟨j, o1, h2, h1, h3, by rw [get1]; unfold hget; rw [hj], this, List.all_eq_true.1 c8 _ (List.mem_of_getElem? hj)⟩
      · right
        have hn : ∀ j, j < i.heap'.length → i.ro ≤ j → b ≠ i.nu s.next j := fun j h1 h2 h3 => hx ⟨j, h1, h2, h3⟩
        refine ⟨hn, ?_⟩
        rw [← (lay b).2 fun k hk hr => by rw [Nat.zero_add]; exact hn k hk (by omega)]; exact hb
    have mroB : ∀ {x : Nat}, s.may x = true → s.roB ≤ x := fun {x} hm => by
      unfold St.may at hm; rw [Bool.and_eq_true] at hm; exact of_decide_eq_true hm.1
    have may_hi : ∀ b, s.next ≤ b → s.may b = true := fun b hb => by
      cases hm : s.may b with
      | true => rfl
      | false => have := may_lt hs hm; omega
    have may_nu : ∀ j, i.ro ≤ j → s.may (i.nu s.next j) = true := fun j hj => by
      rcases Nat.lt_or_ge j i.win.length with h1 | h1
      · obtain ⟨p, hp⟩ := wex j h1
        rw [(nu_lo j p hp).1]; exact (w1 j p hp (by omega)).1
      · rw [(nu_hi j h1).1]; exact may_hi _ (by omega)
    -- a block of the small picture that may be written: in the world, a block of ours, or a new one
    have blk_of : ∀ (j : Nat) (o1 : Ob), i.ro ≤ j → i.s1.heap.get j = some o1 → w.heap.size ≤ (ρ' j).blk ∨ ∃ (p : Nat × Nat) (O : Ob) (j0 : Nat), i.win[j0]? = some p ∧ i.ro ≤ j0 ∧ s.may p.1 = true ∧ s.heap.get p.1 = some O ∧ (ρ p.1).blk = (ρ' j).blk := fun j o1 hj h1 => by
      have hm : i.s1.may j = true := by simp [Inst.s1, smSt, St.may, hj]
      rcases g3.own j o1 h1 hm with h2 | ⟨b0, o0, h2, h3, h4⟩
      · exact .inl h2
      · rw [get0] at h2
        have hlt : b0 < i.win.length := by
          unfold hget at h2
          rcases Nat.lt_or_ge b0 i.heap.length with h1 | h1
          · omega
          · rw [List.getElem?_eq_none h1] at h2; cases h2
        obtain ⟨p, hp⟩ := wex b0 hlt
        have hr : i.ro ≤ b0 := smMay.1 h3
        have hh : i.heap[b0]? = some (some o0) := by
          unfold hget at h2
          split at h2
          · rename_i h5; rw [h5, h2]
          · cases h2
        obtain ⟨O, hO, _⟩ := hfit.ob b0 p o0 hp hh
        refine .inr ⟨p, O, b0, hp, hr, (w1 b0 p hp (by omega)).1, hO, ?_⟩
        have : (ρ (i.nu s.next b0)).blk = (ρ' j).blk := h4
        rw [(nu_lo b0 p hp).1] at this; exact this
    have kept : ∀ (b : Nat) (o : Ob), s.heap.get b = some o → (∀ j, j < i.heap'.length → i.ro ≤ j → b ≠ i.nu s.next j) → w'.heap[(ρ b).blk]? = w.heap[(ρ b).blk]? := fun b o hb hn => by
      obtain ⟨_, hob⟩ := hs.ob b o hb
      refine g3.frame _ hob.lt fun b0 o0 hb0 hm0 e => ?_
      rw [get0] at hb0
      have hlt : b0 < i.win.length := by
        unfold hget at hb0
        rcases Nat.lt_or_ge b0 i.heap.length with h1 | h1
        · omega
        · rw [List.getElem?_eq_none h1] at hb0; cases hb0
      obtain ⟨p, hp⟩ := wex b0 hlt
      have hr : i.ro ≤ b0 := smMay.1 hm0
      have hh : i.heap[b0]? = some (some o0) := by
        unfold hget at hb0
        split at hb0
        · rename_i h5; rw [h5, hb0]
        · cases hb0
      obtain ⟨O, hO, _⟩ := hfit.ob b0 p o0 hp hh
      have e : (ρ (i.nu s.next b0)).blk = (ρ b).blk := e
      rw [(nu_lo b0 p hp).1] at e
      have := hs.inj p.1 b O o hO hb (.inl (mroB (w1 b0 p hp (by omega)).1)) e
      refine hn b0 (by omega) hr ?_
      rw [(nu_lo b0 p hp).1]; exact this.symm
    have keptFar : ∀ (b : Nat) (o : Ob) (B : Nat), s.heap.get b = some o → o.far B → w'.heap[B]? = w.heap[B]? := fun b o B hb hB => by
      obtain ⟨_, hob⟩ := hs.ob b o hb
      refine g3.frame _ (hob.farLt hB) fun b0 o0 hb0 hm0 e => ?_
      rw [get0] at hb0
      have hlt : b0 < i.win.length := by
        unfold hget at hb0
        rcases Nat.lt_or_ge b0 i.heap.length with h1 | h1
        · omega
        · rw [List.getElem?_eq_none h1] at hb0; cases hb0
      obtain ⟨p, hp⟩ := wex b0 hlt
      have hr : i.ro ≤ b0 := smMay.1 hm0
      have hh : i.heap[b0]? = some (some o0) := by
        unfold hget at hb0
        split at hb0
        · rename_i h5; rw [h5, hb0]
        · cases hb0
      obtain ⟨O, hO, _⟩ := hfit.ob b0 p o0 hp hh
      have e : (ρ (i.nu s.next b0)).blk = B := e
      rw [(nu_lo b0 p hp).1] at e
      exact hs.far b p.1 o O B hb hB hO (mroB (w1 b0 p hp (by omega)).1) e
    have old_lt : ∀ (b : Nat) (o : Ob), s.heap.get b = some o → b < s.next := fun b o hb => (hs.ob b o hb).1.1
    have noFam : ∀ (j : Nat) (o1 : Ob) (B : Nat), i.ro ≤ j → i.s1.heap.get j = some o1 → (mvOb (i.nu s.next) i.del o1).far B → False := fun j o1 B hj h4 hB => by
      obtain ⟨F, g, P0, x, v, hF, _⟩ := hB
      cases o1 with
      | cells c t => cases c <;> cases hF
      | fam F1 => exact (g2.ob j _ h4).2.1 (by simpa [Inst.s1, smSt] using hj)
      | _ => cases hF
    refine ⟨v', ρ2, rfl, mv_from pl2 z2 dm2 _ _ c7 g1, ⟨⟨fun b o hb => ?_, fun b b' o o' hb hb' hk e => ?_, fun b b' o o' B hb hB hb' hk => ?_⟩, fun b hb => hs.hid b (by have hb : s.next + _ ≤ b := hb; omega), ⟨by show s.roB ≤ s.next + _; have := hs.wf.1; omega, fun x hx => by show x < s.next + _; have := hs.wf.2 x hx; omega⟩⟩, ?_⟩
    · rcases cases' b o hb with ⟨j, o1, h1, h2, h3, h4, rfl, h6⟩ | ⟨h1, h2⟩
      · obtain ⟨k1, k2⟩ := g2.ob j o1 h4
        rw [h3]
        refine ⟨dm2 j h2 k1, ?_⟩
        obtain ⟨p1, p2, p3⟩ := pl2 j h2
        have hoff : (ρ2 (i.nu s.next j)).off = (ρ' j).off := by
          rw [p2]
          rcases Nat.lt_or_ge j i.win.length with h | h
          · obtain ⟨p, hp⟩ := wex j h
            rw [(nu_lo j p hp).2, (w1 j p hp (by omega)).2]; rfl
          · rw [(nu_hi j h).2]; rfl
        cases o1 with
        | cells c t =>
          cases c with
          | lit l =>
            obtain ⟨pc, ty, fr, q1, q2, q3, q4⟩ := k2
            refine ⟨pc, ty, fr, by rw [← p1]; exact q1, by rw [← p3]; exact q2, fun _ => q3 (by simpa [Inst.s1, smSt] using h1), fun x vv hv => ?_⟩
            simp only [Cells.get, List.getElem?_map, Option.map_eq_some_iff] at hv
            obtain ⟨v0, hv0, rfl⟩ := hv
            obtain ⟨x', y1, y2⟩ := q4 x v0 hv0
            refine ⟨x', by rw [hoff]; exact y1, mv_from pl2 z2 dm2 _ _ (List.all_eq_true.1 h6 v0 (List.mem_of_getElem? hv0)) y2⟩
          | ints k l =>
            obtain ⟨pc, ty, fr, q1, q2, q3, q4⟩ := k2
            refine ⟨pc, ty, fr, by rw [← p1]; exact q1, by rw [← p3]; exact q2, fun _ => q3 (by simpa [Inst.s1, smSt] using h1), fun x vv hv => ?_⟩
            obtain ⟨x', y1, y2⟩ := q4 x vv hv
            refine ⟨x', by rw [hoff]; exact y1, ?_⟩
            simp only [Cells.get, Option.map_eq_some_iff] at hv
            obtain ⟨n0, _, rfl⟩ := hv
            rw [y2.eq_flat0 rfl]; exact .same rfl
          | fam n f => simp [okOb] at h6
          | rows n w g => simp [okOb] at h6
        | loop l => simp [okOb] at h6
        | marks => simp [okOb] at h6
        | map es c => simp [okOb] at h6
        | fam F => exact absurd h1 (by simpa [Inst.s1, smSt] using k2.1)
      · obtain ⟨k1, k2⟩ := hs.ob b o h2
        rw [rhoLo b k1.1]
        exact ⟨up b k1, (k2.congr id (kept b o h2 h1) g3.size fun B hB => keptFar b o B h2 hB).mono up fun x hx => rhoLo x hx.1⟩
    · rcases cases' b o hb with ⟨j, o1, h1, h2, h3, h4, h5, h6⟩ | ⟨h1, h2⟩
      · rcases cases' b' o' hb' with ⟨j', o1', h1', h2', h3', h4', h5', h6'⟩ | ⟨h1', h2'⟩
        · rw [h3, h3'] at e ⊢
          rw [← (pl2 j h2).1, ← (pl2 j' h2').1] at e
          rw [g2.inj j j' o1 o1' h4 h4' (.inl h1) e]
        · exfalso
          rw [h3, ← (pl2 j h2).1, rhoLo b' (old_lt _ _ h2')] at e
          rcases blk_of j o1 h1 h4 with h | ⟨p, O, j0, q1, q2, q3, q4, q5⟩
          · have := (hs.ob b' o' h2').2.lt; omega
          · have := hs.inj p.1 b' O o' q4 h2' (.inl (mroB q3)) (q5.trans e)
            refine h1' j0 ?_ q2 (by rw [(nu_lo j0 p q1).1]; exact this.symm)
            rcases Nat.lt_or_ge j0 i.win.length with h | h
            · omega
            · rw [List.getElem?_eq_none h] at q1; cases q1
      · rcases cases' b' o' hb' with ⟨j, o1, h3, h4, h5, h6, h7, h8⟩ | ⟨h1', h2'⟩
        · exfalso
          rw [h5, ← (pl2 j h4).1, rhoLo b (old_lt _ _ h2)] at e
          rcases blk_of j o1 h3 h6 with h | ⟨p, O, j0, q1, q2, q3, q4, q5⟩
          · have := (hs.ob b o h2).2.lt; omega
          · have := hs.inj p.1 b O o q4 h2 (.inl (mroB q3)) (q5.trans e.symm)
            refine h1 j0 ?_ q2 (by rw [(nu_lo j0 p q1).1]; exact this.symm)
            rcases Nat.lt_or_ge j0 i.win.length with h | h
            · omega
            · rw [List.getElem?_eq_none h] at q1; cases q1
        · rw [rhoLo b (old_lt _ _ h2), rhoLo b' (old_lt _ _ h2')] at e
          exact hs.inj b b' o o' h2 h2' hk e
    · rcases cases' b o hb with ⟨j, o1, h1, h2, h3, h4, h5, h6⟩ | ⟨h1, h2⟩
      · rw [h5] at hB; exact (noFam j o1 B h1 h4 hB).elim
      · rcases cases' b' o' hb' with ⟨j', o1', h1', h2', h3', h4', h5', h6'⟩ | ⟨h1', h2'⟩
        · rw [h3', ← (pl2 j' h2').1]
          intro e
          rcases blk_of j' o1' h1' h4' with h | ⟨p, O, j0, q1, q2, q3, q4, q5⟩
          · have := (hs.ob b o h2).2.farLt hB; omega
          · exact hs.far b p.1 o O B h2 hB q4 (mroB q3) (q5.trans e)
        · rw [rhoLo b' (old_lt _ _ h2')]
          exact hs.far b b' o o' B h2 hB h2' hk
    · refine ⟨by show s.next ≤ s.next + _; omega, fun b hb => rhoLo b hb, g3.os, g3.tape, g3.output, g3.size, fun k hk hn => g3.frame k hk fun b0 o0 hb0 hm0 e => ?_, fun b o hb hm => ?_, rfl, rfl, rfl, fun b hb => ?_⟩
      · rw [get0] at hb0
        have hlt : b0 < i.win.length := by
          unfold hget at hb0
          rcases Nat.lt_or_ge b0 i.heap.length with h1 | h1
          · omega
          · rw [List.getElem?_eq_none h1] at hb0; cases hb0
        obtain ⟨p, hp⟩ := wex b0 hlt
        have hr : i.ro ≤ b0 := smMay.1 hm0
        have hh : i.heap[b0]? = some (some o0) := by
          unfold hget at hb0
          split at hb0
          · rename_i h5; rw [h5, hb0]
          · cases hb0
        obtain ⟨O, hO, _⟩ := hfit.ob b0 p o0 hp hh
        refine hn p.1 O hO (w1 b0 p hp (by omega)).1 ?_
        have e : (ρ (i.nu s.next b0)).blk = k := e
        rw [(nu_lo b0 p hp).1] at e; exact e
      · rcases cases' b o hb with ⟨j, o1, h1, h2, h3, h4, h5, h6⟩ | ⟨h1, h2⟩
        · rw [h3, ← (pl2 j h2).1]
          rcases blk_of j o1 h1 h4 with h | ⟨p, O, j0, q1, q2, q3, q4, q5⟩
          · exact .inl h
          · exact .inr ⟨p.1, O, q4, q3, q5⟩
        · refine .inr ⟨b, o, h2, hm, ?_⟩
          rw [rhoLo b (old_lt _ _ h2)]
      · refine (lay b).2 fun k hk hr e => ?_
        rw [Nat.zero_add] at e
        rw [e, may_nu k (by omega)] at hb; cases hb
  · cases happ
noncomputable def Given.frames (K : Given) (F : FuncId → List Value → St → Option Inst) : Given := { K with call := fun f args s => match F f args s with
  | some i => i.app s
  | none => K.call f args s }
theorem app_obl {i : Inst} {s s' : St} {v : Value} (h : i.app s = some (v, s')) : s'.obl → s.obl ∧ i.ask := by
  unfold Inst.app at h
  split at h
  · rw [bind_some] at h
    obtain ⟨h', _, h⟩ := h
    simp only [Option.some.injEq, Prod.mk.injEq] at h
    obtain ⟨_, rfl⟩ := h; exact id
  · cases h
theorem GivenOk.frames {P : Program} {K : Given} (hK : GivenOk P K) {F : FuncId → List Value → St → Option Inst}
    (h : ∀ f args s i, F f args s = some i → Fits s i args ∧ (i.ask → CallOk P f i.args i.s0 i.val i.s1)) : GivenOk P (Given.frames K F) := by
  refine ⟨fun {f args s s' v} hc => ?_, fun {f args s s' v} hc => ?_, hK.loopObl, hK.loop⟩
  · simp only [Given.frames] at hc
    split at hc
    · exact fun k => (app_obl hc k).1
    · exact hK.callObl hc
  · simp only [Given.frames] at hc
    split at hc
    · rename_i i hF
      obtain ⟨h1, h2⟩ := h _ _ _ _ hF
      intro ho
      exact frame_sound (h2 (app_obl hc ho).2) h1 hc ho
    · exact hK.call hc
theorem frame_run {P : Program} (G : PG P) {K : Given} (hK : GivenOk P K) {n : Nat} {f : FuncId} {args : List Value} {ro : Nat} {l l' : List (Option Ob)} {orc : List (Option Bool)} {v : Value} {p : Prop}
    (hr : ((mk P K n).call f args (smSt ro l orc)).map (fun r => (r.1, r.2.obl, r.2.next)) = some (v, p, l'.length)) (hh : ∀ r, (mk P K n).call f args (smSt ro l orc) = some r → ∀ b o, l'[b]? = some (some o) → ∃ o1, r.2.heap.get b = some o1 ∧ ObSub o1 o)
    (hp : p) (hl' : l'.length ≤ 1000000) (hl : l.length ≤ l'.length) (hsame : ∀ b, b < ro → hget l' b = hget l b) (hro : ro ≤ l.length) :
    CallOk P f args (smSt ro l []) v (smSt ro l' []) := by
  cases hc : (mk P K n).call f args (smSt ro l orc) with
  | none => rw [hc] at hr; simp at hr
  | some r =>
    have hh := hh r hc
    obtain ⟨v1, s'⟩ := r
    rw [hc] at hr
    simp only [Option.map_some, Option.some.injEq, Prod.mk.injEq] at hr
    obtain ⟨rfl, hq, hn⟩ := hr
    have hob : s'.obl := by rw [hq]; exact hp
    have h0 := (mk_ok G hK n).okCall hc
    intro ho m ρ w args' hs ha
    have l1 : Like (smSt ro l []) (smSt ro l orc) := ⟨rfl, rfl, rfl, rfl, rfl⟩
    have hs1 : Hs (smSt ro l orc) ρ w := l1.holds hs
    refine callsIn_wide.2 ((callsIn_wide.1 (h0 hob m ρ w args' hs1 ha)).mono ?_)
    rintro e w' ⟨v', ρ', rfl, g1, g2, g3⟩
    have sub : Sub s' (smSt ro l' []) := ⟨by rw [hn]; rfl, by rw [g3.roB]; rfl, by rw [g3.ro]; rfl, by rw [g3.hid]; rfl, fun b o hb => by
      have hb : (Tr.ofL l').get b = some o := hb
      rw [ofL_get hl'] at hb
      unfold hget at hb
      split at hb
      · rename_i h5; exact hh b o (by rw [h5, hb])
      · cases hb⟩
    refine ⟨v', ρ', rfl, by rw [sub.dm]; exact g1, sub.hs g2, ⟨by rw [sub.next]; exact g3.next, g3.ext, g3.os, g3.tape, g3.output, g3.size, g3.frame, fun b o hb hm => ?_, rfl, rfl, rfl, fun b hb => ?_⟩⟩
    · obtain ⟨o1, k1, _⟩ := sub.ob b o hb
      exact g3.own b o1 k1 (by rw [← may_of sub.roB sub.ro]; exact hm)
    · show (Tr.ofL l').get b = (Tr.ofL l).get b
      rw [ofL_get hl', ofL_get (by omega)]
      have : ¬ ro ≤ b := fun h => by rw [smMay.2 h] at hb; cases hb
      exact hsame b (by omega)
end Go.Cln
