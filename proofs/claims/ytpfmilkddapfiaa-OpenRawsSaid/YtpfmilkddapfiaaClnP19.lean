/- A determinate reading of Go's code: regions whose order is drawn: any order does what the reading says. -/
import Derived.Test.YtpfmilkddapfiaaClnP15
namespace Go.Cln
set_option linter.unusedVariables false
set_option linter.unusedSimpArgs false
set_option linter.deprecated false
theorem Log.fact {P : Program} {K : Given} {ih : Orc} {ops : Array Oper} {b : Array Nat} {s : St} : ∀ {M newer rest : List Made} {m : Made}, Log P K ih ops b s M → M = newer ++ m :: rest → Fact P K ih ops b s m rest ∧ Log P K ih ops b s rest
  | M, [], rest, m, h, e => by simp only [List.nil_append] at e; subst e; exact h
  | M, x :: newer, rest, m, h, e => by subst e; exact Log.fact (newer := newer) h.2 rfl
def Dome (m : Made) (x : Nat) : Prop := x < m.hi ∧ m.hid x = false
def touch (s : St) (m : Made) (x : Nat) : Bool := (decide (m.lo ≤ x) && decide (x < m.hi)) || (m.wr && decide (x < m.lo) && !m.hid x && !m.prot.contains x && s.may x)
def curO (s : St) (S : Nat → Bool) : List Made → Nat → Option Ob
  | [], x => s.heap.get x
  | m :: r, x => if S m.idx && touch s m x then m.heap.get x else curO s S r x
def curD (s : St) (S : Nat → Bool) : List Made → Nat → Nat → Prop
  | [], _ => Dm s
  | m :: r, x => if S m.idx && touch s m x then Dome m else curD s S r x
def putP (S : Nat → Bool) (vals : Nat → Value) (l : List Value) : List Made → List Value
  | [] => l
  | m :: r => putP S vals (match m.dst with | some d => if S m.idx then l.set d (vals m.idx) else l | none => l) r
theorem putP_length (S : Nat → Bool) (vals : Nat → Value) : ∀ (ms : List Made) (l : List Value), (putP S vals l ms).length = l.length
  | [], l => rfl
  | m :: r, l => by
    simp only [putP]
    rw [putP_length S vals r]
    split
    · split <;> simp
    · rfl
theorem putP_other (S : Nat → Bool) (vals : Nat → Value) (t : Nat) : ∀ (ms : List Made) (l : List Value), (∀ m ∈ ms, S m.idx = true → m.dst ≠ some t) → (putP S vals l ms)[t]? = l[t]?
  | [], l, _ => rfl
  | m :: r, l, h => by
    simp only [putP]
    rw [putP_other S vals t r _ (fun m hm => h m (List.mem_cons_of_mem _ hm))]
    split
    · rename_i d hd
      split
      · rename_i hs
        have := h m (by simp) hs
        rw [hd] at this
        rw [List.getElem?_set_ne (fun e => this (by rw [e]))]
      · rfl
    · rfl
theorem putP_at (S : Nat → Bool) (vals : Nat → Value) (t : Nat) (v : Value) : ∀ (ms : List Made) (l : List Value), (∃ m ∈ ms, S m.idx = true ∧ m.dst = some t) → (∀ m ∈ ms, S m.idx = true → m.dst = some t → vals m.idx = v) → t < l.length → (putP S vals l ms)[t]? = some v
  | [], l, h, _, _ => by obtain ⟨m, hm, _⟩ := h; simp at hm
  | m :: r, l, h, hv, ht => by
    simp only [putP]
    by_cases hr : ∃ m ∈ r, S m.idx = true ∧ m.dst = some t
    · refine putP_at S vals t v r _ hr (fun m hm => hv m (List.mem_cons_of_mem _ hm)) ?_
      split
      · split <;> simpa using ht
      · exact ht
    · obtain ⟨m', hm', hs', hd'⟩ := h
      rcases List.mem_cons.1 hm' with rfl | hm'
      · rw [putP_other S vals t r _ (fun m hm hs hd => hr ⟨m, hm, hs, hd⟩), hd']
        simp only [hs', if_true]
        rw [List.getElem?_set_self ht, hv m' (by simp) hs' hd']
      · exact absurd ⟨m', hm', hs', hd'⟩ hr
theorem putV_VL {D : Nat → Prop} {ρ : Nat → PB} {past : Nat → Bool} {vals : Nat → Value} : ∀ (ms : List Made) (l l' : List Value), VL D ρ l l' → (∀ m ∈ ms, past m.idx = true → VR D ρ m.val (vals m.idx)) → VL D ρ (putVals past l ms) (putP past vals l' ms)
  | [], l, l', h, _ => h
  | m :: r, l, l', h, hv => by
    simp only [putVals, putP]
    refine putV_VL r _ _ ?_ (fun m hm => hv m (List.mem_cons_of_mem _ hm))
    cases hd : m.dst with
    | none => exact h
    | some d =>
      cases hp : past m.idx with
      | false => exact h
      | true => exact h.set _ (hv m (by simp) hp)
structure Shape (P : Program) (K : Given) (ih : Orc) (ops : Array Oper) (b : Array Nat) (s : St) (M : List Made) : Prop where
  log : Log P K ih ops b s M
  nodup : (M.map (·.idx)).Nodup
  back : ∀ (newer rest : List Made) (m : Made), M = newer ++ m :: rest → ∀ j, pastB b m.idx j = true → ∃ k ∈ rest, k.idx = j
  trans : ∀ i j k, (∃ m ∈ M, m.idx = i) → pastB b i j = true → pastB b j k = true → pastB b i k = true
  writers : ∀ m m', m ∈ M → m' ∈ M → m.wr = true → m'.wr = true → m = m' ∨ pastB b m.idx m'.idx = true ∨ pastB b m'.idx m.idx = true
  dsts : ∀ m m' t, m ∈ M → m' ∈ M → m.dst = some t → m'.dst = some t → m = m'
  looks : ∀ m o t, m ∈ M → ops[m.idx]? = some o → t ∈ o.looksAt ops → ∀ m' ∈ M, m'.dst = some t → m' = m ∨ pastB b m.idx m'.idx = true ∨ pastB b m'.idx m.idx = true
def Eff (s : St) (m : Made) (rest : List Made) : Prop := (∀ (x : Nat) (o : Ob), m.heap.get x = some o → x < m.hi ∧ s.hid x = false) ∧ ∀ x, touch s m x = false → m.heap.get x = (curH s rest).get x
structure Inv (P : Program) (K : Given) (ih : Orc) (ops : Array Oper) (b : Array Nat) (s : St) (M : List Made) (ρ0 : Nat → PB) (w0 : World) (a0 : Act) (S : Nat → Bool) (ρ : Nat → PB) (vals : Nat → Value) (w : World) (a : Act) : Prop where
  closed : ∀ m ∈ M, S m.idx = true → ∀ j, pastB b m.idx j = true → S j = true
  len : a.tmps.toList.length = a0.tmps.toList.length
  at_ : ∀ m ∈ M, S m.idx = true → ∀ d, m.dst = some d → d < a0.tmps.toList.length → a.tmps.toList[d]? = some (vals m.idx)
  off : ∀ t, (∀ m ∈ M, S m.idx = true → m.dst ≠ some t) → a.tmps.toList[t]? = a0.tmps.toList[t]?
  defers : a.defers = a0.defers
  vals : ∀ m ∈ M, S m.idx = true → VR (Dome m) ρ m.val (vals m.idx)
  ob : ∀ (x : Nat) (o : Ob), curO s S M x = some o → ObR (curD s S M x) ρ (s.roB ≤ x) (ρ x) w o
  inj : ∀ (x y : Nat) (o o' : Ob), curO s S M x = some o → curO s S M y = some o' → (s.roB ≤ x ∨ s.roB ≤ y) → (ρ x).blk = (ρ y).blk → x = y ∨ o.soft = true ∨ o'.soft = true
  far : ∀ (x y : Nat) (o o' : Ob) (B : Nat), curO s S M x = some o → o.far B → curO s S M y = some o' → s.roB ≤ y → (ρ y).blk ≠ B
  ext : ∀ x, x < s.next → ρ x = ρ0 x
  os : w.os = w0.os
  tape : w.tape = w0.tape
  output : w.output = w0.output
  size : w0.heap.size ≤ w.heap.size
  frame : ∀ k, k < w0.heap.size → (∀ (x : Nat) (o : Ob), s.heap.get x = some o → s.may x = true → (ρ0 x).blk ≠ k) → w.heap[k]? = w0.heap[k]?
  own : ∀ (x : Nat) (o : Ob), curO s S M x = some o → s.may x = true → w0.heap.size ≤ (ρ x).blk ∨ ∃ (y : Nat) (o' : Ob), s.heap.get y = some o' ∧ s.may y = true ∧ (ρ0 y).blk = (ρ x).blk
  eff : ∀ (newer rest : List Made) (m : Made), M = newer ++ m :: rest → S m.idx = true → m.wr = true → Eff s m rest
section
variable {P : Program} {K : Given} {ih : Orc} {ops : Array Oper} {b : Array Nat} {s : St} {M : List Made}
theorem Shape.mem {newer rest : List Made} {m : Made} (e : M = newer ++ m :: rest) : m ∈ M := by rw [e]; simp
theorem Shape.split {m : Made} (h : m ∈ M) : ∃ newer rest, M = newer ++ m :: rest := List.append_of_mem h
theorem Shape.uniq (sh : Shape P K ih ops b s M) {m m' : Made} (h : m ∈ M) (h' : m' ∈ M) (e : m.idx = m'.idx) : m = m' := by
  obtain ⟨nw, rs, hM⟩ := Shape.split h
  have hn := sh.nodup
  rw [hM] at hn h'
  rcases List.mem_append.1 h' with h' | h'
  · rw [List.map_append, List.nodup_append] at hn
    exact absurd e.symm (hn.2.2 _ (List.mem_map_of_mem h') _ (by simp))
  · rcases List.mem_cons.1 h' with h' | h'
    · exact h'.symm
    · rw [List.map_append, List.nodup_append] at hn
      have := hn.2.1
      rw [List.map_cons, List.nodup_cons] at this
      exact absurd (List.mem_map_of_mem (f := (·.idx)) h') (by rw [← e]; exact this.1)
theorem Log.curN_le : ∀ {rest : List Made}, Log P K ih ops b s rest → s.next ≤ curN s rest
  | [], _ => Nat.le_refl _
  | m :: r, h => by have := Log.curN_le h.2; have h1 := h.1.lo; have h2 := h.1.le; show s.next ≤ m.hi; omega
theorem Log.rest_hi : ∀ {rest : List Made}, Log P K ih ops b s rest → ∀ k ∈ rest, k.hi ≤ curN s rest ∧ s.next ≤ k.lo
  | [], _, k, hk => by simp at hk
  | m :: r, h, k, hk => by
    have h1 := h.1.lo; have h2 := h.1.le; have h3 := Log.curN_le h.2
    rcases List.mem_cons.1 hk with rfl | hk
    · exact ⟨Nat.le_refl _, by omega⟩
    · have := Log.rest_hi h.2 k hk
      exact ⟨by show k.hi ≤ m.hi; omega, this.2⟩
theorem Log.newer_lo {m : Made} {rest : List Made} : ∀ {newer : List Made}, Log P K ih ops b s (newer ++ m :: rest) → (∀ k ∈ newer, m.hi ≤ k.lo) ∧ m.hi ≤ curN s (newer ++ m :: rest)
  | [], h => ⟨fun k hk => by simp at hk, Nat.le_refl _⟩
  | x :: nw, h => by
    obtain ⟨h1, h2⟩ := Log.newer_lo h.2
    have h3 : x.lo = curN s (nw ++ m :: rest) := h.1.lo
    have h4 := h.1.le
    refine ⟨fun k hk => ?_, ?_⟩
    · rcases List.mem_cons.1 hk with rfl | hk
      · omega
      · exact h1 k hk
    · show m.hi ≤ x.hi; omega
theorem hidBy_true {past : Nat → Bool} {l : List Made} {x : Nat} : hidBy past l x = true ↔ ∃ k ∈ l, past k.idx = false ∧ k.lo ≤ x ∧ x < k.hi := by
  simp [hidBy, and_assoc]
theorem hidBy_false {past : Nat → Bool} {l : List Made} {x : Nat} (h : hidBy past l x = false) {k : Made} (hk : k ∈ l) (h1 : k.lo ≤ x) (h2 : x < k.hi) : past k.idx = true := by
  cases hp : past k.idx with
  | true => rfl
  | false =>
    have : hidBy past l x = true := hidBy_true.2 ⟨k, hk, hp, h1, h2⟩
    rw [h] at this; cases this
theorem Shape.dome (sh : Shape P K ih ops b s M) {newer rest : List Made} {m k : Made} (e : M = newer ++ m :: rest) (hk : k ∈ rest) (hp : pastB b m.idx k.idx = true) {x : Nat} (hx : Dome k x) : x < m.lo ∧ m.hid x = false := by
  obtain ⟨hf, hl⟩ := Log.fact sh.log e
  have h1 := (Log.rest_hi hl k hk).1
  have hlo := hf.lo
  refine ⟨by have := hx.1; omega, ?_⟩
  rw [hf.hid]
  simp only [Bool.or_eq_false_iff]
  obtain ⟨n2, r2, e2⟩ := Shape.split hk
  have eM : M = (newer ++ m :: n2) ++ k :: r2 := by rw [e, e2]; simp
  obtain ⟨hfk, hlk⟩ := Log.fact sh.log eM
  have hkh := hx.2
  rw [hfk.hid] at hkh
  simp only [Bool.or_eq_false_iff] at hkh
  refine ⟨hkh.1, ?_⟩
  cases hh : hidBy (pastB b m.idx) rest x with
  | false => rfl
  | true =>
    exfalso
    obtain ⟨j, hj, hjp, hj1, hj2⟩ := hidBy_true.1 hh
    rw [e2] at hj
    rcases List.mem_append.1 hj with hj | hj
    · -- newer than k: its range lies above
      have := (Log.newer_lo (m := k) (rest := r2) (newer := n2) (by rw [← e2]; exact hl)).1 j hj
      have := hx.1; omega
    · rcases List.mem_cons.1 hj with rfl | hj
      · rw [hp] at hjp; cases hjp
      · have hk2 : pastB b k.idx j.idx = true := hidBy_false hkh.2 hj hj1 hj2
        rw [sh.trans m.idx k.idx j.idx ⟨m, Shape.mem e, rfl⟩ hp hk2] at hjp; cases hjp
end
end Go.Cln
