/- A determinate reading of Go's code: regions whose order is drawn: what stands where when an operation comes up. -/
import Derived.Test.YtpfmilkddapfiaaClnP19
namespace Go.Cln
set_option linter.unusedVariables false
set_option linter.unusedSimpArgs false
set_option linter.deprecated false
def ins (S : Nat → Bool) (i : Nat) : Nat → Bool := fun j => j == i || S j
theorem touch_iff {s : St} {m : Made} {x : Nat} : touch s m x = true ↔ (m.lo ≤ x ∧ x < m.hi) ∨ (m.wr = true ∧ x < m.lo ∧ m.hid x = false ∧ m.prot.contains x = false ∧ s.may x = true) := by
  simp only [touch, Bool.or_eq_true, Bool.and_eq_true, decide_eq_true_eq, Bool.not_eq_true']
  constructor
  · rintro (h | ⟨⟨⟨⟨h1, h2⟩, h3⟩, h4⟩, h5⟩)
    · exact .inl h
    · exact .inr ⟨h1, h2, h3, h4, h5⟩
  · rintro (h | ⟨h1, h2, h3, h4, h5⟩)
    · exact .inl h
    · exact .inr ⟨⟨⟨⟨h1, h2⟩, h3⟩, h4⟩, h5⟩
theorem seenOf_mem {past : Nat → Bool} {x : Nat} : ∀ {l : List Made} {m : Made}, m ∈ l → m.seen = some x → past m.idx = false → x ∈ seenOf past l
  | k :: r, m, hm, hs, hp => by
    rcases List.mem_cons.1 hm with rfl | hm
    · simp [seenOf, hs, hp]
    · have := seenOf_mem hm hs hp
      simp only [seenOf]
      split
      · split
        · exact this
        · exact List.mem_cons_of_mem _ this
      · exact this
theorem seenOf_inv {past : Nat → Bool} {x : Nat} : ∀ {l : List Made}, x ∈ seenOf past l → ∃ m ∈ l, m.seen = some x
  | [], h => by simp [seenOf] at h
  | k :: r, h => by
    simp only [seenOf] at h
    have go : x ∈ seenOf past r → ∃ m ∈ k :: r, m.seen = some x := fun h => let ⟨m, hm, hs⟩ := seenOf_inv h; ⟨m, List.mem_cons_of_mem _ hm, hs⟩
    split at h
    · rename_i y hy
      split at h
      · exact go h
      · rcases List.mem_cons.1 h with rfl | h
        · exact ⟨k, by simp, hy⟩
        · exact go h
    · exact go h
theorem curO_skip {s : St} {S : Nat → Bool} {x : Nat} {r : List Made} : ∀ {newer : List Made}, (∀ k ∈ newer, S k.idx = true → touch s k x = false) → curO s S (newer ++ r) x = curO s S r x ∧ curD s S (newer ++ r) x = curD s S r x
  | [], _ => ⟨rfl, rfl⟩
  | k :: nw, h => by
    have h1 : (S k.idx && touch s k x) = false := by
      cases hs : S k.idx with
      | false => rfl
      | true => simp [h k (by simp) hs]
    simp only [List.cons_append, curO, curD, h1, Bool.false_eq_true, if_false]
    exact curO_skip fun k hk => h k (List.mem_cons_of_mem _ hk)
theorem curO_agree {s : St} {S S' : Nat → Bool} {x : Nat} : ∀ {l : List Made}, (∀ k ∈ l, touch s k x = true → S k.idx = S' k.idx) → curO s S l x = curO s S' l x ∧ curD s S l x = curD s S' l x
  | [], _ => ⟨rfl, rfl⟩
  | k :: l, h => by
    have h1 : (S k.idx && touch s k x) = (S' k.idx && touch s k x) := by
      cases ht : touch s k x with
      | false => simp
      | true => rw [h k (by simp) ht]
    have ⟨i1, i2⟩ := curO_agree (l := l) fun k hk => h k (List.mem_cons_of_mem _ hk)
    simp only [curO, curD, h1]
    rw [i1, i2]; exact ⟨rfl, rfl⟩
theorem curD_cases {s : St} {S : Nat → Bool} {x : Nat} : ∀ (l : List Made), curD s S l x = Dm s ∨ ∃ k ∈ l, S k.idx = true ∧ touch s k x = true ∧ curD s S l x = Dome k
  | [] => .inl rfl
  | k :: l => by
    simp only [curD]
    split
    · rename_i h; rw [Bool.and_eq_true] at h; exact .inr ⟨k, by simp, h.1, h.2, rfl⟩
    · rcases curD_cases l with h | ⟨k', h1, h2⟩
      · exact .inl h
      · exact .inr ⟨k', List.mem_cons_of_mem _ h1, h2⟩
theorem cur_put {s : St} {S : Nat → Bool} {x : Nat} {m : Made} {rest : List Made} (ho : S m.idx = false) : ∀ {newer : List Made}, (∀ k ∈ newer, k.idx ≠ m.idx) → (∀ k ∈ rest, k.idx ≠ m.idx) → (touch s m x = true → ∀ k ∈ newer, S k.idx = true → touch s k x = false) →
    curO s (ins S m.idx) (newer ++ m :: rest) x = (if touch s m x = true then m.heap.get x else curO s S (newer ++ m :: rest) x) ∧
    curD s (ins S m.idx) (newer ++ m :: rest) x = (if touch s m x = true then Dome m else curD s S (newer ++ m :: rest) x)
  | [], _, hr, _ => by
    have h1 : ins S m.idx m.idx = true := by simp [ins]
    have ⟨i1, i2⟩ := curO_agree (s := s) (S := ins S m.idx) (S' := S) (x := x) (l := rest) fun k hk _ => by simp [ins, hr k hk]
    simp only [List.nil_append, curO, curD, h1, Bool.true_and, ho, Bool.false_and, Bool.false_eq_true, if_false]
    rw [i1, i2]; exact ⟨rfl, rfl⟩
  | k :: nw, hn, hr, ht => by
    have h1 : ins S m.idx k.idx = S k.idx := by simp [ins, hn k (by simp)]
    have ⟨i1, i2⟩ := cur_put (s := s) (x := x) (rest := rest) ho (newer := nw) (fun k hk => hn k (List.mem_cons_of_mem _ hk)) hr fun t k hk => ht t k (List.mem_cons_of_mem _ hk)
    simp only [List.cons_append, curO, curD, h1]
    by_cases hc : (S k.idx && touch s k x) = true
    · have hc' := hc
      rw [Bool.and_eq_true] at hc'
      have hm : touch s m x = false := by
        cases hm : touch s m x with
        | false => rfl
        | true => have := ht hm k (by simp) hc'.1; rw [this] at hc'; exact absurd hc'.2 (by simp)
      simp only [hc, hm, if_true, Bool.false_eq_true, if_false]
      exact ⟨trivial, trivial⟩
    · simp only [hc, if_false]
      rw [i1, i2]; exact ⟨rfl, rfl⟩
section
variable {P : Program} {K : Given} {ih : Orc} {ops : Array Oper} {b : Array Nat} {s : St} {M : List Made} {ρ0 : Nat → PB} {w0 : World} {a0 : Act}
theorem Fact.eff_non (hs : Hs s ρ0 w0) {m : Made} {rest : List Made} (hf : Fact P K ih ops b s m rest) (hl : Log P K ih ops b s rest) (hw : m.wr = false)
    (hv : ∀ (x : Nat) (o : Ob), (curH s rest).get x = some o → x < curN s rest ∧ s.hid x = false) : Eff s m rest := by
  obtain ⟨st, q, _, _, _, _, _, _, _, h⟩ := hf.ev
  obtain ⟨_, _, h, _⟩ := h hw
  have hlo := hf.lo; have hle := hf.le; have hn := hl.curN_le
  refine ⟨fun x o hx => ?_, fun x hx => ?_⟩
  · rw [h x] at hx
    split at hx
    · rename_i h'; exact ⟨h'.2, hs.hid x (by omega)⟩
    · have := hv x o hx; exact ⟨by omega, this.2⟩
  · rw [h x, if_neg]
    intro h'
    have := touch_iff.2 (.inl h' : _ ∨ (m.wr = true ∧ x < m.lo ∧ m.hid x = false ∧ m.prot.contains x = false ∧ s.may x = true))
    rw [hx] at this; cases this
theorem effs (hs : Hs s ρ0 w0) : ∀ {rest : List Made}, Log P K ih ops b s rest → (∀ (nw r : List Made) (m : Made), rest = nw ++ m :: r → m.wr = true → Eff s m r) →
    (∀ (nw r : List Made) (m : Made), rest = nw ++ m :: r → Eff s m r) ∧ ∀ (x : Nat) (o : Ob), (curH s rest).get x = some o → x < curN s rest ∧ s.hid x = false
  | [], _, _ => ⟨fun nw r m e => by simp at e, fun x o hx => (hs.ob x o hx).1⟩
  | m :: r, hl, h => by
    obtain ⟨i1, i2⟩ := effs hs hl.2 fun nw r' k e hk => h (m :: nw) r' k (by rw [e]; rfl) hk
    have hm : Eff s m r := by
      cases hw : m.wr with
      | true => exact h [] r m rfl hw
      | false => exact hl.1.eff_non hs hl.2 hw i2
    refine ⟨fun nw r' k e => ?_, fun x o hx => hm.1 x o hx⟩
    cases nw with
    | nil => simp only [List.nil_append, List.cons.injEq] at e; obtain ⟨rfl, rfl⟩ := e; exact hm
    | cons y nw => simp only [List.cons_append, List.cons.injEq] at e; exact i1 nw r' k e.2
theorem curO_all : ∀ {rest : List Made}, (∀ (nw r : List Made) (m : Made), rest = nw ++ m :: r → Eff s m r) → ∀ x, (curH s rest).get x = curO s (fun _ => true) rest x
  | [], _, x => rfl
  | m :: r, h, x => by
    simp only [curO, curH, Bool.true_and]
    split
    · rfl
    · rename_i ht
      rw [(h [] r m rfl).2 x (by simpa using ht)]
      exact curO_all (fun nw r' k e => h (m :: nw) r' k (by rw [e]; rfl)) x
theorem Shape.apart (sh : Shape P K ih ops b s M) {newer rest : List Made} {m : Made} (e : M = newer ++ m :: rest) : (∀ k ∈ newer, k.idx ≠ m.idx) ∧ (∀ k ∈ rest, k.idx ≠ m.idx) ∧ ∀ k ∈ newer, ∀ j ∈ rest, k.idx ≠ j.idx := by
  have hn := sh.nodup
  rw [e, List.map_append, List.nodup_append, List.map_cons, List.nodup_cons] at hn
  obtain ⟨_, ⟨h1, _⟩, h2⟩ := hn
  refine ⟨fun k hk he => h2 _ (List.mem_map_of_mem hk) m.idx (by simp) he, fun k hk he => h1 (by rw [← he]; exact List.mem_map_of_mem hk), fun k hk j hj he => h2 _ (List.mem_map_of_mem hk) j.idx (List.mem_cons_of_mem _ (List.mem_map_of_mem hj)) he⟩
structure At (P : Program) (K : Given) (ih : Orc) (ops : Array Oper) (b : Array Nat) (s : St) (M : List Made) (S : Nat → Bool) (newer rest : List Made) (m : Made) (st q : St) : Prop where
  sh : Shape P K ih ops b s M
  e : M = newer ++ m :: rest
  out : S m.idx = false
  past : ∀ j, pastB b m.idx j = true → S j = true
  closed : ∀ k ∈ M, S k.idx = true → ∀ j, pastB b k.idx j = true → S j = true
  run : runVal P K ih ops st m.idx = some (m.val, q)
  obl : q.obl
  qnext : q.next = m.hi
  tmps : st.tmps = setFrom (fullR s.tmps rest) s.tmps (lk ops b m.idx)
  next : st.next = m.lo
  hid : st.hid = m.hid
  wrt : m.wr = true → st.roB = s.roB ∧ st.ro = m.prot ++ s.ro ∧ (∀ x, st.heap.get x = if hidBy (pastB b m.idx) rest x = true then none else (curH s rest).get x) ∧
      (∀ x, m.heap.get x = if x ∈ m.prot then (curH s rest).get x else if hidBy (pastB b m.idx) rest x = true then (curH s rest).get x else q.heap.get x)
  non : m.wr = false → st.roB = m.lo ∧ st.ro = s.ro ∧ (∀ x, m.heap.get x = if m.lo ≤ x ∧ x < m.hi then q.heap.get x else (curH s rest).get x) ∧
      (∀ x o, st.heap.get x = some o → m.seen = some x ∧ (curH s rest).get x = some o ∧ (∃ u, kindAt P ops m.idx = .reader u ∧ blockOf (evD st u) = some x) ∧ ∀ k ∈ rest, k.wr = true → pastB b m.idx k.idx = true)
namespace At
variable {S : Nat → Bool} {newer rest : List Made} {m : Made} {st q : St}
theorem fact (A : At P K ih ops b s M S newer rest m st q) : Fact P K ih ops b s m rest ∧ Log P K ih ops b s rest := Log.fact A.sh.log A.e
theorem unord (A : At P K ih ops b s M S newer rest m st q) {k : Made} (hk : k ∈ newer) (hs : S k.idx = true) : pastB b m.idx k.idx = false ∧ pastB b k.idx m.idx = false := by
  constructor
  · cases h : pastB b m.idx k.idx with
    | false => rfl
    | true =>
      obtain ⟨j, hj, he⟩ := A.sh.back newer rest m A.e _ h
      exact absurd he.symm ((A.sh.apart A.e).2.2 k hk j hj)
  · cases h : pastB b k.idx m.idx with
    | false => rfl
    | true =>
      have := A.closed k (by rw [A.e]; simp [hk]) hs _ h
      rw [A.out] at this; cases this
theorem above (A : At P K ih ops b s M S newer rest m st q) {k : Made} (hk : k ∈ newer) (hs : S k.idx = true) :
    m.hi ≤ k.lo ∧ (∀ x, m.lo ≤ x → x < m.hi → k.hid x = true) ∧ (∀ x, m.seen = some x → k.wr = true → k.prot.contains x = true) := by
  obtain ⟨n1, n2, e2⟩ := Shape.split hk
  have eM : M = n1 ++ k :: (n2 ++ m :: rest) := by rw [A.e, e2]; simp
  obtain ⟨hfk, _⟩ := Log.fact A.sh.log eM
  have hl : Log P K ih ops b s (newer ++ m :: rest) := by rw [← A.e]; exact A.sh.log
  have hu := (A.unord hk hs).2
  refine ⟨(Log.newer_lo hl).1 k hk, fun x h1 h2 => ?_, fun x hx hw => ?_⟩
  · rw [hfk.hid]
    simp only [Bool.or_eq_true]
    right
    exact hidBy_true.2 ⟨m, by simp, hu, h1, h2⟩
  · rw [hfk.prot, hw, if_pos rfl]
    simp only [List.contains_iff_mem]
    exact seenOf_mem (m := m) (by simp) hx hu
theorem two (A : At P K ih ops b s M S newer rest m st q) {k : Made} (hk : k ∈ newer) (hs : S k.idx = true) (hw : m.wr = true) (hw' : k.wr = true) : False := by
  have hu := A.unord hk hs
  rcases A.sh.writers m k (by rw [A.e]; simp) (by rw [A.e]; simp [hk]) hw hw' with h | h | h
  · exact (A.sh.apart A.e).1 k hk (by rw [h])
  · rw [hu.1] at h; cases h
  · rw [hu.2] at h; cases h
theorem touch1 (A : At P K ih ops b s M S newer rest m st q) {x : Nat} (ht : touch s m x = true) {k : Made} (hk : k ∈ newer) (hs : S k.idx = true) : touch s k x = false := by
  obtain ⟨h1, h2, h3⟩ := A.above hk hs
  have hle := A.fact.1.le
  cases hc : touch s k x with
  | false => rfl
  | true =>
    exfalso
    rcases touch_iff.1 ht with t | ⟨t1, t2, t3, t4, t5⟩ <;> rcases touch_iff.1 hc with c | ⟨c1, c2, c3, c4, c5⟩
    · omega
    · have := h2 x t.1 t.2; rw [c3] at this; cases this
    · omega
    · exact A.two hk hs t1 c1
theorem pastIn (A : At P K ih ops b s M S newer rest m st q) {j : Nat} (h : pastB b m.idx j = true) : ∃ k ∈ rest, k.idx = j := A.sh.back newer rest m A.e j h
theorem older (A : At P K ih ops b s M S newer rest m st q) {k : Made} (hk : k ∈ rest) (hw : m.wr = true) (hw' : k.wr = true) : pastB b m.idx k.idx = true := by
  rcases A.sh.writers m k (by rw [A.e]; simp) (by rw [A.e]; simp [hk]) hw hw' with h | h | h
  · exact absurd (by rw [h]) ((A.sh.apart A.e).2.1 k hk)
  · exact h
  · obtain ⟨n1, n2, e2⟩ := Shape.split hk
    obtain ⟨j, hj, he⟩ := A.sh.back (newer ++ m :: n1) n2 k (by rw [A.e, e2]; simp) _ h
    exact absurd he ((A.sh.apart A.e).2.1 j (by rw [e2]; simp [hj]))
theorem live (A : At P K ih ops b s M S newer rest m st q) (hs : Hs s ρ0 w0) (he : ∀ (nw r : List Made) (k : Made), M = nw ++ k :: r → S k.idx = true → k.wr = true → Eff s k r)
    (hw : ∀ k ∈ rest, k.wr = true → pastB b m.idx k.idx = true) :
    (∀ (nw r : List Made) (k : Made), rest = nw ++ k :: r → Eff s k r) ∧ ∀ (x : Nat) (o : Ob), (curH s rest).get x = some o → x < m.lo ∧ s.hid x = false := by
  obtain ⟨i1, i2⟩ := effs hs A.fact.2 fun nw r k e hk => he (newer ++ m :: nw) r k (by rw [A.e, e]; simp) (A.past _ (hw k (by rw [e]; simp) hk)) hk
  refine ⟨i1, fun x o hx => ?_⟩
  rw [A.fact.1.lo]; exact i2 x o hx
theorem finds (A : At P K ih ops b s M S newer rest m st q) (hs : Hs s ρ0 w0) (he : ∀ (nw r : List Made) (k : Made), M = nw ++ k :: r → S k.idx = true → k.wr = true → Eff s k r) {x : Nat} {o : Ob} (hx : st.heap.get x = some o)
    (hd : m.wr = false → st.hid x = false) : curO s S M x = some o ∧ Dm st x ∧ (∀ y, curD s S M x y → Dm st y) := by
  have hwr : ∀ k ∈ rest, k.wr = true → pastB b m.idx k.idx = true := by
    cases hw : m.wr with
    | true => exact fun k hk h => A.older hk hw h
    | false => exact ((A.non hw).2.2.2 x o hx).2.2.2
  obtain ⟨le, lv⟩ := A.live hs he hwr
  have hcur : (curH s rest).get x = some o ∧ hidBy (pastB b m.idx) rest x = false := by
    cases hw : m.wr with
    | true =>
      rw [(A.wrt hw).2.2.1 x] at hx
      split at hx
      · simp at hx
      · rename_i h; exact ⟨hx, by simpa using h⟩
    | false =>
      refine ⟨((A.non hw).2.2.2 x o hx).2.1, ?_⟩
      have := hd hw
      rw [A.hid, A.fact.1.hid] at this
      simp only [Bool.or_eq_false_iff] at this
      exact this.2
  have hlx := lv x o hcur.1
  have skip : ∀ k ∈ newer, S k.idx = true → touch s k x = false := fun k hk hsk => by
    obtain ⟨h1, h2, h3⟩ := A.above hk hsk
    have hle := A.fact.1.le
    cases hc : touch s k x with
    | false => rfl
    | true =>
      exfalso
      rcases touch_iff.1 hc with c | ⟨c1, c2, c3, c4, c5⟩
      · omega
      · cases hw : m.wr with
        | true => exact A.two hk hsk hw c1
        | false =>
          have := h3 x ((A.non hw).2.2.2 x o hx).1 c1
          rw [c4] at this; cases this
  have back : ∀ k ∈ rest, touch s k x = true → pastB b m.idx k.idx = true := fun k hk hc => by
    cases hp : pastB b m.idx k.idx with
    | true => rfl
    | false =>
      exfalso
      rcases touch_iff.1 hc with c | ⟨c1, c2, c3, c4, c5⟩
      · have := hidBy_true.2 ⟨k, hk, hp, c.1, c.2⟩
        rw [hcur.2] at this; cases this
      · rw [hwr k hk c1] at hp; cases hp
  have e1 := curO_skip (s := s) (S := S) (x := x) (r := m :: rest) skip
  have e2 : curO s S (m :: rest) x = curO s S rest x ∧ curD s S (m :: rest) x = curD s S rest x := by simp [curO, curD, A.out]
  have e3 := curO_agree (s := s) (S := S) (S' := fun _ => true) (x := x) (l := rest) fun k hk ht => A.past _ (back k hk ht)
  have hdm : Dm st x := by
    refine ⟨by rw [A.next]; exact hlx.1, ?_⟩
    rw [A.hid, A.fact.1.hid]
    simp [hlx.2, hcur.2]
  refine ⟨by rw [A.e, e1.1, e2.1, e3.1, ← curO_all le]; exact hcur.1, hdm, fun y hy => ?_⟩
  rw [A.e, e1.2, e2.2] at hy
  rcases curD_cases (s := s) (S := S) (x := x) rest with h | ⟨k, hk, _, ht, h⟩
  · rw [h] at hy
    refine ⟨?_, ?_⟩
    · rw [A.next]; have := A.fact.2.curN_le; have := A.fact.1.lo; have := hy.1; omega
    · rw [A.hid, A.fact.1.hid]
      simp only [Bool.or_eq_false_iff]
      refine ⟨hy.2, ?_⟩
      cases hh : hidBy (pastB b m.idx) rest y with
      | false => rfl
      | true =>
        exfalso
        obtain ⟨j, hj, _, h1, _⟩ := hidBy_true.1 hh
        have := (Log.rest_hi A.fact.2 j hj).2
        have := hy.1; omega
  · rw [h] at hy
    have := A.sh.dome A.e hk (back k hk ht) hy
    exact ⟨by rw [A.next]; exact this.1, by rw [A.hid]; exact this.2⟩
end At
end
end Go.Cln
