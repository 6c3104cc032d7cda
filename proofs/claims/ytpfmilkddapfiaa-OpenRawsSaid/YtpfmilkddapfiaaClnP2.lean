/- A determinate reading of Go's code: blocks of ours and blocks there; steps of both. -/
import Derived.Test.YtpfmilkddapfiaaClnP1
import Derived.Laws.Cells
namespace Go.Cln
set_option linter.unusedVariables false
set_option linter.unusedSimpArgs false
set_option linter.deprecated false
def FrOk (fr : Nat × Nat) (n : Nat) : Prop := fr.1 = fr.2 ∨ n ≤ fr.1
structure LoopR (N : Nat → Prop) (ρ : Nat → PB) (l : CLoop) (l' : Loop) : Prop where
  state : l'.state = l.state
  pending : l'.pending = l.pending
  tmps : VL N ρ l.tmps l'.tmps.toList
  params : l'.params = l.params
  assign : l'.assign = l.assign
  body : l'.body = l.body
  lt : N l.defers
  defers : l'.defers = (ρ l.defers).blk
def EL (N : Nat → Prop) (ρ : Nat → PB) (l l' : List MapEntry) : Prop := l'.length = l.length ∧ ∀ (i : Nat) (e e' : MapEntry), l[i]? = some e → l'[i]? = some e' → e'.key = e.key ∧ e'.born = e.born ∧ VR N ρ e.val e'.val
theorem EL.mono {N N' : Nat → Prop} {ρ ρ' : Nat → PB} (hN : ∀ b, N b → N' b) (hρ : ∀ b, N b → ρ' b = ρ b) {l l' : List MapEntry} (h : EL N ρ l l') : EL N' ρ' l l' :=
  ⟨h.1, fun i e e' he he' => let ⟨a, b, c⟩ := h.2 i e e' he he'; ⟨a, b, c.mono hN hρ⟩⟩
def famV : Value → Bool
  | .slice (some ⟨_, _, some g⟩) _ _ => Nat.ble 1000 g
  | .pointer (some ⟨_, _, some g⟩) => Nat.ble 1000 g
  | v => flat0 v
theorem famV_vr {N N' : Nat → Prop} {ρ ρ' : Nat → PB} {v w : Value} (h : VR N ρ v w) (hf : famV v = true) (h0 : N' 0) : VR N' ρ' v w := by
  by_cases hf0 : flat0 v = true
  · rw [h.eq_flat0 hf0]; exact .same hf0
  cases h with
  | same h => exact .same h
  | abs _ h k => exact .abs h0 h k
  | absP _ h => exact .absP h0 h
  | @slice b o n c c' g a' _ _ hok =>
    cases g with
    | none => exact absurd hf hf0
    | some z =>
      have := (hok.2.2 z rfl).2.2
      have := Nat.le_of_ble_eq_true (show Nat.ble 1000 z = true from hf)
      omega
  | _ => exact absurd hf hf0
def ObR (N : Nat → Prop) (ρ : Nat → PB) (may : Prop) (p : PB) (w : World) : Ob → Prop
  | .cells c _ => ∃ pc t fr, w.heap[p.blk]? = some (.cells pc t fr) ∧ pc.size = p.len ∧ (may → FrOk fr pc.size) ∧ ∀ (i : Nat) (v : Value), c.get i = some v → ∃ v', pc[p.off + i]? = some v' ∧ VR N ρ v v'
  | .loop l => ∃ l', w.heap[p.blk]? = some (.loop l') ∧ LoopR N ρ l l'
  | .marks => w.heap[p.blk]? = some (.deferred (some []))
  | .map es clock => ∃ es', w.heap[p.blk]? = some (.map es' clock) ∧ EL N ρ es es'.toList
  | .fam F => ¬ may ∧ ∀ (g B i : Nat) (v : Value), (F g B).get i = some v → ∃ pc t fr v', w.heap[blkOf B]? = some (.cells pc t fr) ∧ pc[baseOf B + i]? = some v' ∧ VR N ρ v v' ∧ famV v = true
def Ob.far (o : Ob) (B : Nat) : Prop := ∃ F g P i v, o = .fam F ∧ (F g P).get i = some v ∧ blkOf P = B
def Ob.soft : Ob → Bool
  | .fam _ => true
  | _ => false
structure Holds (N : Nat → Prop) (roB : Nat) (ρ : Nat → PB) (h : Nat → Option Ob) (w : World) : Prop where
  ob : ∀ (b : Nat) (o : Ob), h b = some o → N b ∧ ObR N ρ (roB ≤ b) (ρ b) w o
  inj : ∀ (b b' : Nat) (o o' : Ob), h b = some o → h b' = some o' → (roB ≤ b ∨ roB ≤ b') → (ρ b).blk = (ρ b').blk → b = b' ∨ o.soft = true ∨ o'.soft = true
  far : ∀ (b b' : Nat) (o o' : Ob) (B : Nat), h b = some o → o.far B → h b' = some o' → roB ≤ b' → (ρ b').blk ≠ B
def Dm (s : St) (b : Nat) : Prop := b < s.next ∧ s.hid b = false
structure Hs (s : St) (ρ : Nat → PB) (w : World) : Prop extends Holds (Dm s) s.roB ρ s.heap.get w where
  hid : ∀ b, s.next ≤ b → s.hid b = false
  wf : s.roB ≤ s.next ∧ ∀ b ∈ s.ro, b < s.next
theorem heapObj_lt {w : World} {k : Nat} {x : Obj} (hx : w.heap[k]? = some x) : k < w.heap.size := by
  rcases Nat.lt_or_ge k w.heap.size with h | h
  · exact h
  · simp [Array.getElem?_eq_none h] at hx
theorem ObR.farLt {N : Nat → Prop} {ρ : Nat → PB} {may : Prop} {p : PB} {w : World} {o : Ob} (h : ObR N ρ may p w o) {B : Nat} (hf : o.far B) : B < w.heap.size := by
  obtain ⟨F, g, P, i, v, rfl, hB, rfl⟩ := hf
  obtain ⟨_, h⟩ := h
  obtain ⟨pc, t, fr, v', h1, _⟩ := h g P i v hB
  exact heapObj_lt h1
theorem ObR.noFar {N : Nat → Prop} {ρ : Nat → PB} {may : Prop} {p : PB} {w : World} {o : Ob} (h : ObR N ρ may p w o) (hm : may) {B : Nat} : ¬ o.far B := by
  rintro ⟨F, g, P, i, v, rfl, hB, _⟩
  exact h.1 hm
theorem ObR.congr {N : Nat → Prop} {ρ : Nat → PB} {may may' : Prop} {p : PB} {w w' : World} {o : Ob} (h : ObR N ρ may p w o) (hm : may' → may) (hb : o.soft = false → w'.heap[p.blk]? = w.heap[p.blk]?) (hs : w.heap.size ≤ w'.heap.size) (hfar : ∀ B, o.far B → w'.heap[B]? = w.heap[B]?) : ObR N ρ may' p w' o := by
  cases o with
  | fam F =>
    obtain ⟨h1, h3⟩ := h
    refine ⟨fun m => h1 (hm m), fun g B i v hB => ?_⟩
    obtain ⟨pc, t, fr, v', k1, k2⟩ := h3 g B i v hB
    exact ⟨pc, t, fr, v', (hfar _ ⟨F, g, B, i, v, rfl, hB, rfl⟩).trans k1, k2⟩
  | cells c t => obtain ⟨pc, t, fr, h1, h2, h3, h4⟩ := h; exact ⟨pc, t, fr, (hb rfl).trans h1, h2, fun m => h3 (hm m), h4⟩
  | loop l => obtain ⟨l', h1, h2⟩ := h; exact ⟨l', (hb rfl).trans h1, h2⟩
  | marks => exact (hb rfl).trans h
  | map es clock => obtain ⟨es', h1, h2⟩ := h; exact ⟨es', (hb rfl).trans h1, h2⟩
theorem LoopR.mono {N N' : Nat → Prop} {ρ ρ' : Nat → PB} (hN : ∀ b, N b → N' b) (hρ : ∀ b, N b → ρ' b = ρ b) {l : CLoop} {l' : Loop} (h : LoopR N ρ l l') : LoopR N' ρ' l l' :=
  ⟨h.state, h.pending, h.tmps.mono hN hρ, h.params, h.assign, h.body, hN _ h.lt, by rw [hρ _ h.lt]; exact h.defers⟩
theorem ObR.mono {N N' : Nat → Prop} {ρ ρ' : Nat → PB} (hN : ∀ b, N b → N' b) (hρ : ∀ b, N b → ρ' b = ρ b) {may : Prop} {p : PB} {w : World} {o : Ob} (h : ObR N ρ may p w o) : ObR N' ρ' may p w o := by
  cases o with
  | cells c t => obtain ⟨pc, t, fr, h1, h2, h3, h4⟩ := h; exact ⟨pc, t, fr, h1, h2, h3, fun i v hv => let ⟨v', a, b⟩ := h4 i v hv; ⟨v', a, b.mono hN hρ⟩⟩
  | loop l => obtain ⟨l', h1, h2⟩ := h; exact ⟨l', h1, h2.mono hN hρ⟩
  | marks => exact h
  | map es clock => obtain ⟨es', h1, h2⟩ := h; exact ⟨es', h1, h2.mono hN hρ⟩
  | fam F =>
    obtain ⟨h1, h3⟩ := h
    refine ⟨h1, fun g B i v hB => ?_⟩
    obtain ⟨pc, t, fr, v', k1, k2, k3, k4⟩ := h3 g B i v hB
    exact ⟨pc, t, fr, v', k1, k2, k3.mono hN hρ, k4⟩
theorem ObR.lt {N : Nat → Prop} {ρ : Nat → PB} {may : Prop} {p : PB} {w : World} {o : Ob} (h : ObR N ρ may p w o) (hsf : o.soft = false) : p.blk < w.heap.size := by
  have key : ∀ x : Obj, w.heap[p.blk]? = some x → p.blk < w.heap.size := fun x hx => by
    rcases Nat.lt_or_ge p.blk w.heap.size with h | h
    · exact h
    · simp [Array.getElem?_eq_none h] at hx
  cases o with
  | cells c t => obtain ⟨pc, t, fr, h1, _⟩ := h; exact key _ h1
  | loop l => obtain ⟨l', h1, _⟩ := h; exact key _ h1
  | marks => exact key _ h
  | map es clock => obtain ⟨es', h1, h2⟩ := h; exact key _ h1
  | fam F => cases hsf
theorem ObR.hard {N : Nat → Prop} {ρ : Nat → PB} {may : Prop} {p : PB} {w : World} {o : Ob} (h : ObR N ρ may p w o) (hm : may) : o.soft = false := by
  cases o with
  | fam F => exact absurd hm h.1
  | _ => rfl
theorem Holds.injM {N : Nat → Prop} {roB : Nat} {ρ : Nat → PB} {h : Nat → Option Ob} {w : World} (k : Holds N roB ρ h w) {b b' : Nat} {o o' : Ob} (hb : h b = some o) (hb' : h b' = some o') (hm : roB ≤ b') (e : (ρ b).blk = (ρ b').blk) (hsf : o.soft = false) : b = b' := by
  rcases k.inj b b' o o' hb hb' (.inr hm) e with e | e | e
  · exact e
  · rw [hsf] at e; cases e
  · rw [(k.ob b' o' hb').2.hard hm] at e; cases e
structure Tra (s s' : St) (ρ ρ' : Nat → PB) (w w' : World) : Prop where
  next : s.next ≤ s'.next
  ext : ∀ b, b < s.next → ρ' b = ρ b
  os : w'.os = w.os
  tape : w'.tape = w.tape
  output : w'.output = w.output
  size : w.heap.size ≤ w'.heap.size
  frame : ∀ k, k < w.heap.size → (∀ (b : Nat) (o : Ob), s.heap.get b = some o → s.may b = true → (ρ b).blk ≠ k) → w'.heap[k]? = w.heap[k]?
  own : ∀ (b : Nat) (o : Ob), s'.heap.get b = some o → s'.may b = true → w.heap.size ≤ (ρ' b).blk ∨ ∃ (b0 : Nat) (o0 : Ob), s.heap.get b0 = some o0 ∧ s.may b0 = true ∧ (ρ b0).blk = (ρ' b).blk
  roB : s'.roB = s.roB
  ro : s'.ro = s.ro
  hid : s'.hid = s.hid
  same : ∀ b, s.may b = false → s'.heap.get b = s.heap.get b
theorem may_of {s s' : St} (h1 : s'.roB = s.roB) (h2 : s'.ro = s.ro) (b : Nat) : s'.may b = s.may b := by simp [St.may, h1, h2]
theorem Tra.trans {s s1 s2 : St} {ρ ρ1 ρ2 : Nat → PB} {w w1 w2 : World} (h : Tra s s1 ρ ρ1 w w1) (k : Tra s1 s2 ρ1 ρ2 w1 w2) : Tra s s2 ρ ρ2 w w2 where
  next := Nat.le_trans h.next k.next
  ext b hb := (k.ext b (Nat.lt_of_lt_of_le hb h.next)).trans (h.ext b hb)
  os := k.os.trans h.os
  tape := k.tape.trans h.tape
  output := k.output.trans h.output
  size := Nat.le_trans h.size k.size
  frame i hi hn := by
    rw [k.frame i (Nat.lt_of_lt_of_le hi h.size) ?_, h.frame i hi hn]
    intro b o hb hm e
    rcases h.own b o hb hm with h1 | ⟨b0, o0, h1, h2, h3⟩
    · omega
    · exact hn b0 o0 h1 h2 (h3.trans e)
  own b o hb hm := by
    rcases k.own b o hb hm with h1 | ⟨b1, o1, h1, h2, h3⟩
    · exact .inl (Nat.le_trans h.size h1)
    · rcases h.own b1 o1 h1 h2 with h4 | ⟨b0, o0, h4, h5, h6⟩
      · exact .inl (h3 ▸ h4)
      · exact .inr ⟨b0, o0, h4, h5, h6.trans h3⟩
  roB := k.roB.trans h.roB
  ro := k.ro.trans h.ro
  hid := k.hid.trans h.hid
  same b hb := (k.same b (by rw [may_of h.roB h.ro]; exact hb)).trans (h.same b hb)
theorem Tra.dm {s s' : St} {ρ ρ' : Nat → PB} {w w' : World} (h : Tra s s' ρ ρ' w w') (b : Nat) (hb : Dm s b) : Dm s' b := ⟨Nat.lt_of_lt_of_le hb.1 h.next, by rw [h.hid]; exact hb.2⟩
theorem Tra.extD {s s' : St} {ρ ρ' : Nat → PB} {w w' : World} (h : Tra s s' ρ ρ' w w') (b : Nat) (hb : Dm s b) : ρ' b = ρ b := h.ext b hb.1
structure Like (s s' : St) : Prop where
  heap : s'.heap = s.heap
  next : s'.next = s.next
  roB : s'.roB = s.roB
  ro : s'.ro = s.ro
  hid : s'.hid = s.hid
theorem Like.refl (s : St) : Like s s := ⟨rfl, rfl, rfl, rfl, rfl⟩
theorem Like.symm {s s' : St} (h : Like s s') : Like s' s := ⟨h.heap.symm, h.next.symm, h.roB.symm, h.ro.symm, h.hid.symm⟩
theorem Like.trans {s s1 s2 : St} (h : Like s s1) (k : Like s1 s2) : Like s s2 := ⟨k.heap.trans h.heap, k.next.trans h.next, k.roB.trans h.roB, k.ro.trans h.ro, k.hid.trans h.hid⟩
theorem Like.dm {s s' : St} (h : Like s s') : Dm s' = Dm s := by unfold Dm; rw [h.next, h.hid]
theorem Like.holds {s s' : St} (h : Like s s') {ρ : Nat → PB} {w : World} (k : Hs s ρ w) : Hs s' ρ w where
  toHolds := by rw [h.dm, h.heap, h.roB]; exact k.toHolds
  hid b hb := by rw [h.hid]; exact k.hid b (by rw [← h.next]; exact hb)
  wf := by rw [h.roB, h.next, h.ro]; exact k.wf
theorem Like.tra {s s' : St} (h : Like s s') (ρ : Nat → PB) (w : World) : Tra s s' ρ ρ w w where
  next := Nat.le_of_eq h.next.symm
  ext _ _ := rfl
  os := rfl
  tape := rfl
  output := rfl
  size := Nat.le_refl _
  frame _ _ _ := rfl
  own b o hb hm := .inr ⟨b, o, h.heap ▸ hb, (may_of h.roB h.ro b) ▸ hm, rfl⟩
  roB := h.roB
  ro := h.ro
  hid := h.hid
  same b _ := by rw [h.heap]
theorem Tra.refl (s : St) (ρ : Nat → PB) (w : World) : Tra s s ρ ρ w w := (Like.refl s).tra ρ w
theorem Tra.like {s s1 s2 : St} {ρ ρ1 : Nat → PB} {w w1 : World} (h : Tra s s1 ρ ρ1 w w1) (k : Like s1 s2) : Tra s s2 ρ ρ1 w w1 := h.trans (k.tra _ _)
theorem Like.thenTra {s s1 s2 : St} {ρ ρ1 : Nat → PB} {w w1 : World} (k : Like s s1) (h : Tra s1 s2 ρ ρ1 w w1) : Tra s s2 ρ ρ1 w w1 := (k.tra _ _).trans h
theorem Tra.drew (s : St) (ρ : Nat → PB) (w : World) (n : Nat) : Tra s s ρ ρ w { w with drawn := n } :=
  ⟨Nat.le_refl _, fun _ _ => rfl, rfl, rfl, rfl, Nat.le_refl _, fun _ _ _ => rfl, fun b o hb hm => .inr ⟨b, o, hb, hm, rfl⟩, rfl, rfl, rfl, fun _ _ => rfl⟩
theorem Hs.drew {s : St} {ρ : Nat → PB} {w : World} (h : Hs s ρ w) (n : Nat) : Hs s ρ { w with drawn := n } := ⟨⟨fun b o hb => let ⟨h1, h2⟩ := h.ob b o hb; ⟨h1, h2.congr id (fun _ => rfl) (Nat.le_refl _) fun _ _ => rfl⟩, h.inj, h.far⟩, h.hid, h.wf⟩
theorem St.need_spec {s s' : St} {p : Prop} [Decidable p] (h : s.need p = some s') : Like s s' ∧ s'.tmps = s.tmps ∧ s'.defers = s.defers ∧ (s'.obl → s.obl ∧ p) := by
  unfold St.need at h
  split at h
  · split at h
    · rename_i hp; simp only [Option.some.injEq] at h; subst h; exact ⟨Like.refl _, rfl, rfl, fun x => ⟨x, hp⟩⟩
    · simp at h
  · split at h
    · rename_i hp; simp only [Option.some.injEq] at h; subst h; exact ⟨⟨rfl, rfl, rfl, rfl, rfl⟩, rfl, rfl, fun x => ⟨x, hp⟩⟩
    · simp at h
  · simp only [Option.some.injEq] at h; subst h; exact ⟨⟨rfl, rfl, rfl, rfl, rfl⟩, rfl, rfl, id⟩
theorem St.branch_spec {s s' : St} {b e : Bool} (h : s.branch b = some (e, s')) : Like s s' ∧ s'.tmps = s.tmps ∧ s'.defers = s.defers ∧ (s'.obl → s.obl ∧ b = e) := by
  unfold St.branch at h
  split at h
  · simp only [Option.some.injEq, Prod.mk.injEq] at h; obtain ⟨rfl, rfl⟩ := h; exact ⟨Like.refl _, rfl, rfl, fun x => ⟨x, rfl⟩⟩
  · simp only [Option.some.injEq, Prod.mk.injEq] at h; obtain ⟨rfl, rfl⟩ := h; exact ⟨⟨rfl, rfl, rfl, rfl, rfl⟩, rfl, rfl, fun x => ⟨x, rfl⟩⟩
  · simp only [Option.some.injEq, Prod.mk.injEq] at h; obtain ⟨rfl, rfl⟩ := h; exact ⟨⟨rfl, rfl, rfl, rfl, rfl⟩, rfl, rfl, id⟩
def upd (ρ : Nat → PB) (b : Nat) (p : PB) : Nat → PB := fun x => if x = b then p else ρ x
theorem upd_at (ρ : Nat → PB) (b : Nat) (p : PB) : upd ρ b p b = p := by simp [upd]
theorem upd_lt (ρ : Nat → PB) {b N : Nat} (p : PB) (h : b < N) : upd ρ N p b = ρ b := by simp [upd]; intro e; omega
theorem Hs.may_next {s : St} {ρ : Nat → PB} {w : World} (hs : Hs s ρ w) {b : Nat} (hb : s.next ≤ b) : s.may b = true := by
  obtain ⟨h1, h2⟩ := hs.wf
  simp only [St.may, Bool.and_eq_true, decide_eq_true_eq, Bool.not_eq_true', List.contains_iff_mem, Bool.eq_false_iff, ne_eq]
  exact ⟨by omega, fun e => by have := h2 b e; omega⟩
theorem heap_alloc_lt (w : World) (o : Obj) {k : Nat} (h : k < w.heap.size) : (w.alloc o).heap[k]? = w.heap[k]? := by
  show (w.heap.push o)[k]? = _; rw [Array.getElem?_push, if_neg (by omega)]
theorem heap_alloc_new (w : World) (o : Obj) : (w.alloc o).heap[w.heap.size]? = some o := by
  show (w.heap.push o)[w.heap.size]? = _; rw [Array.getElem?_push, if_pos rfl]
theorem St.alloc_next {s s' : St} {b : Nat} {o : Ob} (h : s.alloc o = some (b, s')) : b = s.next ∧ s'.next = s.next + 1 ∧ s'.roB = s.roB ∧ s'.ro = s.ro ∧ s'.obl = s.obl ∧ s'.orc = s.orc ∧ s'.tmps = s.tmps ∧ s'.defers = s.defers ∧ (∀ m, s'.heap.get m = if m = s.next then some o else s.heap.get m) ∧ s'.hid = s.hid := by
  unfold St.alloc at h
  rw [Option.bind_eq_some_iff] at h
  obtain ⟨t, ht, h⟩ := h
  simp only [Option.some.injEq, Prod.mk.injEq] at h
  obtain ⟨rfl, rfl⟩ := h
  exact ⟨rfl, rfl, rfl, rfl, rfl, rfl, rfl, rfl, Tr.get_put _ _ _ _ _ ht, rfl⟩
theorem St.alloc_dm {s s' : St} {b : Nat} {o : Ob} (h : s.alloc o = some (b, s')) (hh : ∀ b, s.next ≤ b → s.hid b = false) : Dm s' s.next ∧ ∀ x, Dm s x → Dm s' x := by
  obtain ⟨_, hn, _, _, _, _, _, _, _, hd⟩ := St.alloc_next h
  exact ⟨⟨by rw [hn]; exact Nat.lt_succ_self _, by rw [hd]; exact hh _ (Nat.le_refl _)⟩, fun x hx => ⟨by rw [hn]; exact Nat.lt_succ_of_lt hx.1, by rw [hd]; exact hx.2⟩⟩
theorem alloc_sound {s s' : St} {b : Nat} {o : Ob} {o' : Obj} {ρ : Nat → PB} {w : World} (p : PB) (h : s.alloc o = some (b, s')) (hs : Hs s ρ w) (hp : p.blk = w.heap.size)
    (ho : ObR (Dm s') (upd ρ s.next p) True p (w.alloc o') o) : Hs s' (upd ρ s.next p) (w.alloc o') ∧ Tra s s' ρ (upd ρ s.next p) w (w.alloc o') := by
  have hdm := St.alloc_dm h hs.hid
  obtain ⟨rfl, hn, hr, hro, _, _, _, _, hg, hh⟩ := St.alloc_next h
  have old : ∀ (b : Nat) (x : Ob), s.heap.get b = some x → Dm s b ∧ (x.soft = false → (ρ b).blk < w.heap.size) ∧ ObR (Dm s') (upd ρ s.next p) (s.roB ≤ b) (ρ b) (w.alloc o') x := fun b x hx => by
    obtain ⟨h1, h2⟩ := hs.ob b x hx
    exact ⟨h1, h2.lt, (h2.congr id (fun q => heap_alloc_lt w o' (h2.lt q)) (by simp) fun B hB => heap_alloc_lt w o' (h2.farLt hB)).mono hdm.2 fun b hb => upd_lt ρ p hb.1⟩
  refine ⟨⟨⟨fun b x hx => ?_, fun b b' x x' hx hx' hk e => ?_, fun b b' x x' B hx hB hx' hk => ?_⟩, fun b hb => by rw [hh]; exact hs.hid b (by omega), by rw [hr, hro, hn]; exact ⟨by have := hs.wf.1; omega, fun b hb => by have := hs.wf.2 b hb; omega⟩⟩, ?_⟩
  rotate_left 2
  · rw [hg] at hx hx'
    by_cases hb : b = s.next
    · subst hb; rw [if_pos rfl] at hx; cases hx; exact absurd hB (ho.noFar trivial)
    · rw [if_neg hb] at hx
      obtain ⟨_, _, h3⟩ := old b x hx
      by_cases hb' : b' = s.next
      · subst hb'; rw [upd_at, hp]
        have := (hs.ob b x hx).2.farLt hB
        omega
      · rw [if_neg hb'] at hx'
        rw [upd_lt ρ p (hs.ob b' x' hx').1.1]
        exact hs.far b b' x x' B hx hB hx' (by rw [hr] at hk; exact hk)
  rotate_left 1
  · rw [hg] at hx; rw [hr]
    by_cases hb : b = s.next
    · subst hb; rw [if_pos rfl] at hx; cases hx; rw [upd_at]; exact ⟨hdm.1, ho.congr (fun _ => trivial) (fun _ => rfl) (Nat.le_refl _) fun _ _ => rfl⟩
    · rw [if_neg hb] at hx
      obtain ⟨h1, _, h3⟩ := old b x hx
      rw [upd_lt ρ p h1.1]; exact ⟨hdm.2 b h1, h3⟩
  · rw [hg] at hx hx'
    by_cases hb : b = s.next <;> by_cases hb' : b' = s.next
    · exact .inl (by rw [hb, hb'])
    · subst hb; rw [if_neg hb'] at hx'; obtain ⟨h1, h2, _⟩ := old b' x' hx'; rw [upd_at, upd_lt ρ p h1.1, hp] at e
      cases q : x'.soft with
      | true => exact .inr (.inr rfl)
      | false => have := h2 q; omega
    · subst hb'; rw [if_neg hb] at hx; obtain ⟨h1, h2, _⟩ := old b x hx; rw [upd_at, upd_lt ρ p h1.1, hp] at e
      cases q : x.soft with
      | true => exact .inr (.inl rfl)
      | false => have := h2 q; omega
    · rw [if_neg hb] at hx; rw [if_neg hb'] at hx'
      obtain ⟨h1, _, _⟩ := old b x hx; obtain ⟨h1', _, _⟩ := old b' x' hx'
      rw [upd_lt ρ p h1.1, upd_lt ρ p h1'.1] at e; exact hs.inj b b' x x' hx hx' (by rw [hr] at hk; exact hk) e
  · refine ⟨by omega, fun b hb => upd_lt ρ p hb, rfl, rfl, rfl, by simp, fun k hk _ => heap_alloc_lt w o' hk, fun b x hx hm => ?_, hr, hro, hh, fun b hb => by rw [hg, if_neg (fun e => by rw [e, hs.may_next (Nat.le_refl _)] at hb; cases hb)]⟩
    rw [hg] at hx
    by_cases hb : b = s.next
    · subst hb; rw [upd_at, hp]; exact .inl (Nat.le_refl _)
    · rw [if_neg hb] at hx
      refine .inr ⟨b, x, hx, (may_of hr hro b) ▸ hm, ?_⟩
      rw [upd_lt ρ p (old b x hx).1.1]
theorem St.setOb_spec {s s' : St} {b : Nat} {o : Option Ob} (h : s.setOb b o = some s') : s'.next = s.next ∧ s'.roB = s.roB ∧ s'.ro = s.ro ∧ s'.obl = s.obl ∧ s'.orc = s.orc ∧ s'.tmps = s.tmps ∧ s'.defers = s.defers ∧ (∀ m, s'.heap.get m = if m = b then o else s.heap.get m) ∧ s'.hid = s.hid := by
  unfold St.setOb at h
  rw [Option.bind_eq_some_iff] at h
  obtain ⟨t, ht, h⟩ := h
  simp only [Option.some.injEq] at h; subst h
  exact ⟨rfl, rfl, rfl, rfl, rfl, rfl, rfl, Tr.get_put _ _ _ _ _ ht, rfl⟩
theorem St.setOb_dm {s s' : St} {b : Nat} {o : Option Ob} (h : s.setOb b o = some s') : Dm s' = Dm s := by
  obtain ⟨hn, _, _, _, _, _, _, _, hh⟩ := St.setOb_spec h; unfold Dm; rw [hn, hh]
theorem may_ro {s : St} {b : Nat} (h : s.may b = true) : s.roB ≤ b := by
  unfold St.may at h
  rw [Bool.and_eq_true] at h
  exact of_decide_eq_true h.1
theorem set_sound {s s' : St} {b : Nat} {o o0 : Ob} {ρ : Nat → PB} {w w' : World} (h : s.setOb b (some o) = some s') (hs : Hs s ρ w) (hb : s.heap.get b = some o0) (hm : s.may b = true)
    (hos : w'.os = w.os) (htape : w'.tape = w.tape) (hout : w'.output = w.output) (hsz : w'.heap.size = w.heap.size) (hk : ∀ k, k ≠ (ρ b).blk → w'.heap[k]? = w.heap[k]?)
    (ho : ObR (Dm s) ρ True (ρ b) w' o) : Hs s' ρ w' ∧ Tra s s' ρ ρ w w' := by
  have hdm := St.setOb_dm h
  obtain ⟨hn, hr, hro, _, _, _, _, hg, hh⟩ := St.setOb_spec h
  have hlive : ∀ (c : Nat) (x : Ob), s'.heap.get c = some x → ∃ y, s.heap.get c = some y := fun c x hx => by
    rw [hg] at hx; by_cases hc : c = b
    · subst hc; exact ⟨_, hb⟩
    · rw [if_neg hc] at hx; exact ⟨_, hx⟩
  have hnf : ∀ B, o.far B → False := fun B hB => (ho.noFar trivial) hB
  refine ⟨⟨⟨fun c x hx => ?_, fun c c' x x' hx hx' hk2 e => ?_, fun c c' x x' B hx hB hx' hk2 => ?_⟩, fun b hb => by rw [hh]; exact hs.hid b (by omega), by rw [hr, hro, hn]; exact ⟨by have := hs.wf.1; omega, fun b hb => by have := hs.wf.2 b hb; omega⟩⟩, ?_⟩
  rotate_left 2
  · obtain ⟨y', hy'⟩ := hlive c' x' hx'
    rw [hg] at hx
    by_cases hc : c = b
    · rw [if_pos hc] at hx; cases hx; exact absurd hB (hnf B)
    · rw [if_neg hc] at hx
      exact hs.far c c' x y' B hx hB hy' (by rw [hr] at hk2; exact hk2)
  rotate_left 1
  · rw [hg] at hx; rw [hdm, hr]
    by_cases hc : c = b
    · subst hc; rw [if_pos rfl] at hx; cases hx; exact ⟨(hs.ob c o0 hb).1, ho.congr (fun _ => trivial) (fun _ => rfl) (Nat.le_refl _) fun _ _ => rfl⟩
    · rw [if_neg hc] at hx
      obtain ⟨h1, h2⟩ := hs.ob c x hx
      exact ⟨h1, h2.congr id (fun q => hk _ fun e => hc (hs.injM hx hb (may_ro hm) e q)) (by omega) fun B hB => hk B fun e => hs.far c b x o0 B hx hB hb (may_ro hm) e.symm⟩
  · obtain ⟨y, hy⟩ := hlive c x hx; obtain ⟨y', hy'⟩ := hlive c' x' hx'
    have up : ∀ {c : Nat} {x y : Ob}, s'.heap.get c = some x → s.heap.get c = some y → y.soft = true → x.soft = true := fun {c x y} h1 h2 h3 => by
      rw [hg] at h1
      by_cases hc : c = b
      · subst hc; rw [hb] at h2; cases h2
        rw [(hs.ob c _ hb).2.hard (may_ro hm)] at h3; cases h3
      · rw [if_neg hc, h2] at h1; cases h1; exact h3
    exact (hs.inj c c' y y' hy hy' (by rw [hr] at hk2; exact hk2) e).imp_right (Or.imp (up hx hy) (up hx' hy'))
  · refine ⟨by omega, fun _ _ => rfl, hos, htape, hout, by omega, fun k _ hn => hk k fun e => hn b o0 hb hm e.symm, fun c x hx hmc => ?_, hr, hro, hh, fun c hc => by rw [hg, if_neg (fun e => by rw [e, hm] at hc; cases hc)]⟩
    obtain ⟨y, hy⟩ := hlive c x hx
    exact .inr ⟨c, y, hy, (may_of hr hro c) ▸ hmc, rfl⟩
theorem drop_sound {s s' : St} {b : Nat} {ρ : Nat → PB} {w : World} (h : s.setOb b none = some s') (hs : Hs s ρ w) (hm : s.may b = true) : Hs s' ρ w ∧ Tra s s' ρ ρ w w := by
  have hdm := St.setOb_dm h
  obtain ⟨hn, hr, hro, _, _, _, _, hg, hh⟩ := St.setOb_spec h
  have hlive : ∀ (c : Nat) (x : Ob), s'.heap.get c = some x → s.heap.get c = some x := fun c x hx => by
    rw [hg] at hx; by_cases hc : c = b
    · rw [if_pos hc] at hx; cases hx
    · rw [if_neg hc] at hx; exact hx
  refine ⟨⟨⟨fun c x hx => ?_, fun c c' x x' hx hx' hk e => hs.inj c c' x x' (hlive c x hx) (hlive c' x' hx') (by rw [hr] at hk; exact hk) e, fun c c' x x' B hx hB hx' hk => hs.far c c' x x' B (hlive c x hx) hB (hlive c' x' hx') (by rw [hr] at hk; exact hk)⟩, fun b hb => by rw [hh]; exact hs.hid b (by omega), by rw [hr, hro, hn]; exact ⟨by have := hs.wf.1; omega, fun b hb => by have := hs.wf.2 b hb; omega⟩⟩, ?_⟩
  · rw [hdm, hr]; exact hs.ob c x (hlive c x hx)
  · exact ⟨by omega, fun _ _ => rfl, rfl, rfl, rfl, Nat.le_refl _, fun _ _ _ => rfl, fun c x hx hmc => .inr ⟨c, x, hlive c x hx, (may_of hr hro c) ▸ hmc, rfl⟩, hr, hro, hh, fun c hc => by rw [hg, if_neg (fun e => by rw [e, hm] at hc; cases hc)]⟩
theorem cell_at {w : World} {b : Nat} {pc : Array Value} {t : TypeId} {fr : Nat × Nat} (h : w.heap[b]? = some (.cells pc t fr)) (o : Nat) : w.cell? ⟨b, o, none⟩ = pc[o]? := by
  simp [World.cell?, h]
theorem frozen_at {w : World} {b : Nat} {pc : Array Value} {t : TypeId} {fr : Nat × Nat} (h : w.heap[b]? = some (.cells pc t fr)) (o : Nat) (hf : FrOk fr pc.size) (ho : o < pc.size) : w.frozen? ⟨b, o, none⟩ = false := by
  obtain ⟨lo, hi⟩ := fr
  simp only [World.frozen?, h]
  rcases hf with hf | hf <;> simp at hf ⊢ <;> omega
theorem setCell_at {w : World} {b : Nat} {pc : Array Value} {t : TypeId} {fr : Nat × Nat} (h : w.heap[b]? = some (.cells pc t fr)) (o : Nat) (v : Value) :
    (w.setCell ⟨b, o, none⟩ v).heap[b]? = some (.cells (pc.setIfInBounds o v) t fr) := by
  simp [World.setCell, Array.getElem?_modify, h]
theorem setCell_other {w : World} {b : Nat} (o : Nat) (v : Value) {k : Nat} (hk : k ≠ b) : (w.setCell ⟨b, o, none⟩ v).heap[k]? = w.heap[k]? := by
  simp only [World.setCell, Array.getElem?_modify]; rw [if_neg (fun e => hk e.symm)]
theorem add_none (b o n : Nat) : (⟨b, o, none⟩ : Addr).add n = ⟨b, o + n, none⟩ := by
  unfold Addr.add; split
  · rename_i h; simp [h]
  · rfl
theorem run_stores (P : Program) (b o : Nat) (t : TypeId) (fr : Nat × Nat) : ∀ (vs : List Value) (i : Nat) (pc : Array Value) (w : World), w.heap[b]? = some (.cells pc t fr) → o + i + vs.length ≤ pc.size → FrOk fr pc.size → vs.all Value.oneCell' = true →
    ∃ w' pc', (storeCells ⟨b, o, none⟩ vs i).run P w = .ok () w' ∧ w'.heap[b]? = some (.cells pc' t fr) ∧ pc'.toList = setAll pc.toList (o + i) vs ∧ pc'.size = pc.size ∧
      w'.os = w.os ∧ w'.tape = w.tape ∧ w'.output = w.output ∧ w'.heap.size = w.heap.size ∧ ∀ k, k ≠ b → w'.heap[k]? = w.heap[k]? := by
  intro vs
  induction vs with
  | nil => intro i pc w h _ _ _; exact ⟨w, pc, rfl, h, rfl, rfl, rfl, rfl, rfl, rfl, fun _ _ => rfl⟩
  | cons v vs ih =>
    intro i pc w h hl hf ho
    simp only [List.all_cons, Bool.and_eq_true] at ho
    simp only [List.length_cons] at hl
    have hc : w.cell? ⟨b, o + i, none⟩ = some pc[o + i] := by rw [cell_at h]; simp
    have hz := frozen_at h (o + i) hf (by omega)
    have hstore : (store ((⟨b, o, none⟩ : Addr).add i) v).run P w = .ok () (w.setCell ⟨b, o + i, none⟩ v) := by
      rw [add_none, run_store P w _ v _ ho.1, hc]; simp [hz]
    have h1 := setCell_at h (o + i) v
    obtain ⟨w', pc', e1, e2, e3, e4, e5, e6, e7, e8, e9⟩ := ih (i + 1) (pc.setIfInBounds (o + i) v) (w.setCell ⟨b, o + i, none⟩ v) h1 (by simp; omega) (by simpa using hf) ho.2
    refine ⟨w', pc', ?_, e2, ?_, by simpa using e4, e5, e6, e7, by simpa using e8, fun k hk => (e9 k hk).trans (setCell_other _ _ hk)⟩
    · simp only [storeCells, Sem.run_bind, hstore, Result.andThen_ok]; exact e1
    · rw [e3]; simp [setAll, Nat.add_assoc]
theorem run_loads (P : Program) (b o : Nat) {t : TypeId} {fr : Nat × Nat} {pc : Array Value} {w : World} (n : Nat) (h : w.heap[b]? = some (.cells pc t fr)) (hn : o + n ≤ pc.size) :
    (loadCells ⟨b, o, none⟩ n).run P w = .ok ((pc.toList.drop o).take n).toArray w := by
  have := run_loadCells (P := P) (w := w) ⟨b, o, none⟩ n (fun j => (pc.toList[o + j]?).getD undef) (fun j hj => by
    rw [add_none, cell_at h]; have : o + j < pc.size := by omega
    simp [this])
  rw [this]
  congr 1
  apply Array.ext'
  apply List.ext_getElem?
  intro i
  simp only [List.getElem?_take, List.getElem?_drop]
  by_cases hi : i < n
  · have h2 : o + i < pc.size := by omega
    simp [hi, h2]
  · simp [hi]
end Go.Cln
