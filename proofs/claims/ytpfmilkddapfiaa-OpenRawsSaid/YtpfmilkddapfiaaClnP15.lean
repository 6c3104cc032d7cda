/- A determinate reading of Go's code: regions whose order is drawn: what a reading of them leaves. -/
import Derived.Test.YtpfmilkddapfiaaClnP16
namespace Go.Cln
set_option linter.unusedVariables false
set_option linter.unusedSimpArgs false
set_option linter.deprecated false
theorem dropIds_get : ∀ (n lo : Nat) {h h' : Tr}, dropIds h lo n = some h' → ∀ x, h'.get x = if lo ≤ x ∧ x < lo + n then none else h.get x
  | 0, lo, h, h', e, x => by simp [dropIds] at e; subst e; rw [if_neg (by omega)]
  | n + 1, lo, h, h', e, x => by
    simp only [dropIds, bind_some] at e
    obtain ⟨h1, e1, e⟩ := e
    rw [dropIds_get n (lo + 1) e x, Tr.get_put _ _ _ _ _ e1 x]
    by_cases hx : x = lo
    · subst hx; rw [if_neg (by omega), if_pos rfl, if_pos (by omega)]
    · rw [if_neg hx]
      by_cases h2 : lo + 1 ≤ x ∧ x < lo + 1 + n
      · rw [if_pos h2, if_pos (by omega)]
      · rw [if_neg h2, if_neg (by omega)]
theorem copyIds_get : ∀ (n lo : Nat) {src h h' : Tr}, copyIds src h lo n = some h' → ∀ x, h'.get x = if lo ≤ x ∧ x < lo + n then src.get x else h.get x
  | 0, lo, src, h, h', e, x => by simp [copyIds] at e; subst e; rw [if_neg (by omega)]
  | n + 1, lo, src, h, h', e, x => by
    simp only [copyIds, bind_some] at e
    obtain ⟨h1, e1, e⟩ := e
    rw [copyIds_get n (lo + 1) e x, Tr.get_put _ _ _ _ _ e1 x]
    by_cases hx : x = lo
    · subst hx; rw [if_neg (by omega), if_pos rfl, if_pos (by omega)]
    · rw [if_neg hx]
      by_cases h2 : lo + 1 ≤ x ∧ x < lo + 1 + n
      · rw [if_pos h2, if_pos (by omega)]
      · rw [if_neg h2, if_neg (by omega)]
theorem hidBy_cons (past : Nat → Bool) (m : Made) (r : List Made) (x : Nat) : hidBy past (m :: r) x = ((!past m.idx && decide (m.lo ≤ x) && decide (x < m.hi)) || hidBy past r x) := by simp [hidBy]
theorem dropMade_get {past : Nat → Bool} : ∀ {made : List Made} {h h' : Tr}, dropMade past h made = some h' → ∀ x, h'.get x = if hidBy past made x = true then none else h.get x
  | [], h, h', e, x => by simp [dropMade] at e; subst e; simp [hidBy]
  | m :: r, h, h', e, x => by
    simp only [dropMade, bind_some] at e
    obtain ⟨h1, e1, e⟩ := e
    rw [dropMade_get e x, hidBy_cons]
    split at e1
    · rename_i hp; simp at e1; subst e1; simp [hp]
    · rename_i hp
      rw [dropIds_get _ _ e1 x]
      by_cases hr : hidBy past r x = true
      · simp [hr]
      · by_cases h2 : m.lo ≤ x ∧ x < m.lo + (m.hi - m.lo)
        · have : m.lo ≤ x ∧ x < m.hi := by omega
          simp [hr, hp, h2, this]
        · have h3 : ¬ (m.lo ≤ x ∧ x < m.hi) := by omega
          have h4 : (decide (m.lo ≤ x) && decide (x < m.hi)) = false := by simp; omega
          simp only [Bool.and_assoc, h4, Bool.and_false, Bool.false_or]
          rw [if_neg hr, if_neg hr, if_neg h2]
theorem backMade_get {past : Nat → Bool} {src : Tr} : ∀ {made : List Made} {h h' : Tr}, backMade past src h made = some h' → ∀ x, h'.get x = if hidBy past made x = true then src.get x else h.get x
  | [], h, h', e, x => by simp [backMade] at e; subst e; simp [hidBy]
  | m :: r, h, h', e, x => by
    simp only [backMade, bind_some] at e
    obtain ⟨h1, e1, e⟩ := e
    rw [backMade_get e x, hidBy_cons]
    split at e1
    · rename_i hp; simp at e1; subst e1; simp [hp]
    · rename_i hp
      rw [copyIds_get _ _ e1 x]
      by_cases hr : hidBy past r x = true
      · simp [hr]
      · by_cases h2 : m.lo ≤ x ∧ x < m.lo + (m.hi - m.lo)
        · have : m.lo ≤ x ∧ x < m.hi := by omega
          simp [hr, hp, h2, this]
        · have h4 : (decide (m.lo ≤ x) && decide (x < m.hi)) = false := by simp; omega
          simp only [Bool.and_assoc, h4, Bool.and_false, Bool.false_or]
          rw [if_neg hr, if_neg hr, if_neg h2]
theorem backSeen_get {src : Tr} : ∀ {l : List Nat} {h h' : Tr}, backSeen src h l = some h' → ∀ x, h'.get x = if x ∈ l then src.get x else h.get x
  | [], h, h', e, x => by simp [backSeen] at e; subst e; simp
  | b :: r, h, h', e, x => by
    simp only [backSeen, bind_some] at e
    obtain ⟨h1, e1, e⟩ := e
    rw [backSeen_get e x, Tr.get_put _ _ _ _ _ e1 x]
    by_cases h2 : x ∈ r
    · simp [h2]
    · by_cases hx : x = b
      · subst hx; simp
      · simp [h2, hx]
section
variable (P : Program) (K : Given) (ih : Orc) (ops : Array Oper) (b : Array Nat) (s : St)
def pastB (i j : Nat) : Bool := (b.getD i 0).testBit j
def curN : List Made → Nat
  | [] => s.next
  | m :: _ => m.hi
def curH : List Made → Tr
  | [] => s.heap
  | m :: _ => m.heap
structure Fact (m : Made) (rest : List Made) : Prop where
  lo : m.lo = curN s rest
  le : m.lo ≤ m.hi
  dst : m.dst = (ops[m.idx]?).bind (·.dst)
  hid : m.hid = fun x => s.hid x || hidBy (pastB b m.idx) rest x
  prot : m.prot = if m.wr then seenOf (pastB b m.idx) rest else []
  kind : m.wr = (kindAt P ops m.idx).isWriter
  seen : m.wr = true → m.seen = none
  seenlt : ∀ x, m.seen = some x → x < m.lo
  ev : ∃ st q, runVal P K ih ops st m.idx = some (m.val, q) ∧ q.obl ∧ q.next = m.hi ∧ st.tmps = setFrom (fullR s.tmps rest) s.tmps (lk ops b m.idx) ∧ st.next = m.lo ∧ st.hid = m.hid ∧
    (m.wr = true → st.roB = s.roB ∧ st.ro = m.prot ++ s.ro ∧ (∀ x, st.heap.get x = if hidBy (pastB b m.idx) rest x = true then none else (curH s rest).get x) ∧
      (∀ x, m.heap.get x = if x ∈ m.prot then (curH s rest).get x else if hidBy (pastB b m.idx) rest x = true then (curH s rest).get x else q.heap.get x)) ∧
    (m.wr = false → st.roB = m.lo ∧ st.ro = s.ro ∧ (∀ x, m.heap.get x = if m.lo ≤ x ∧ x < m.hi then q.heap.get x else (curH s rest).get x) ∧
      (∀ x o, st.heap.get x = some o → m.seen = some x ∧ (curH s rest).get x = some o ∧ (∃ u, kindAt P ops m.idx = .reader u ∧ blockOf (evD st u) = some x) ∧ ∀ k ∈ rest, k.wr = true → pastB b m.idx k.idx = true))
def Log : List Made → Prop
  | [] => True
  | m :: rest => Fact P K ih ops b s m rest ∧ Log rest
structure GrpOk (g : Grp) : Prop where
  tmps : g.s.tmps = s.tmps
  defers : g.s.defers = s.defers
  roB : g.s.roB = s.roB
  ro : g.s.ro = s.ro
  hid : g.s.hid = s.hid
  next : g.s.next = curN s g.made
  heap : g.s.heap = curH s g.made
end
theorem runVal_obl {P : Program} {K : Given} {ih : Orc} (hi : OrcObl ih) {ops : Array Oper} {s s' : St} {i : Nat} {v : Value} (h : runVal P K ih ops s i = some (v, s')) : s'.obl → s.obl := by
  unfold runVal at h
  split at h
  · simp at h
  · rw [bind_some] at h
    obtain ⟨⟨c, s1⟩, h1, h⟩ := h
    split at h
    · exact fun k => wanted_obl h1 (doOp_obl hi h k)
    · simp only [Option.some.injEq, Prod.mk.injEq] at h; obtain ⟨_, rfl⟩ := h; exact wanted_obl h1
theorem readBlk_lt {s : St} {k : Kind} {x : Nat} (h : readBlk s k = some x) : x < s.next := by
  unfold readBlk at h
  split at h
  · rw [bind_some] at h; obtain ⟨b, _, h⟩ := h
    split at h
    · simp only [Option.some.injEq] at h; subst h; assumption
    · simp at h
  · simp at h
theorem readBlk_of {s : St} {u : Operand} {x : Nat} (h : readBlk s (.reader u) = some x) : blockOf (evD s u) = some x := by
  simp only [readBlk, bind_some] at h
  obtain ⟨b, hb, h⟩ := h
  split at h
  · simp only [Option.some.injEq] at h; subst h; exact hb
  · simp at h
theorem grpStep_fact {P : Program} {K : Given} {ih : Orc} (hi : OrcObl ih) {ops : Array Oper} {b : Array Nat} {s : St} {g g' : Grp} {i : Nat} (hg : GrpOk s g) (h : grpStep P K ih ops b g i = some g') :
    (g'.s.obl → g.s.obl) ∧ GrpOk s g' ∧ (g'.s.obl → ∃ m, g'.made = m :: g.made ∧ m.idx = i ∧ Fact P K ih ops b s m g.made) := by
  unfold grpStep at h
  simp only at h
  have hpast : (fun j => (b.getD i 0).testBit j) = pastB b i := rfl
  split at h
  · rename_i hk
    rw [bind_some] at h; obtain ⟨h1, e1, h⟩ := h
    rw [bind_some] at h; obtain ⟨⟨v, q⟩, e2, h⟩ := h
    split at h
    · rename_i hle
      rw [bind_some] at h; obtain ⟨h2, e3, h⟩ := h
      rw [bind_some] at h; obtain ⟨h3, e4, h⟩ := h
      simp only [Option.some.injEq] at h; subst h
      have ob : q.obl → g.s.obl := fun k => by have := runVal_obl hi e2 k; exact this
      refine ⟨ob, ⟨hg.tmps, hg.defers, hg.roB, hg.ro, hg.hid, rfl, rfl⟩, fun ho => ⟨_, rfl, rfl, ⟨hg.next, hle, rfl, ?_, rfl, hk.symm, fun _ => rfl, (fun x e => by cases e), _, q, e2, ho, rfl, ?_, rfl, rfl, fun _ => ⟨hg.roB, ?_, fun x => ?_, fun x => ?_⟩, fun e => by cases e⟩⟩⟩
      · funext x; rw [hg.hid]; rfl
      · rw [hg.tmps]
      · show seenOf _ _ ++ g.s.ro = _; rw [hg.ro]
      · show h1.get x = _; rw [dropMade_get e1 x, hg.heap]; rfl
      · show h3.get x = _; rw [backSeen_get e4 x, backMade_get e3 x, hg.heap]; rfl
    · simp at h
  · rename_i hk
    have hw : (kindAt P ops i).isWriter = false := by simpa using hk
    split at h
    · rename_i hall
      rw [bind_some] at h; obtain ⟨h1, e1, h⟩ := h
      rw [bind_some] at h; obtain ⟨⟨v, q⟩, e2, h⟩ := h
      split at h
      · rename_i hle
        rw [bind_some] at h; obtain ⟨h2, e3, h⟩ := h
        simp only [Option.some.injEq] at h; subst h
        have ob : q.obl → g.s.obl := fun k => by have := runVal_obl hi e2 k; exact this
        refine ⟨ob, ⟨hg.tmps, hg.defers, hg.roB, hg.ro, hg.hid, rfl, rfl⟩, fun ho => ⟨_, rfl, rfl, ⟨hg.next, hle, rfl, ?_, rfl, hw.symm, (fun e => by cases e), (fun x e => by have := readBlk_lt (s := { g.s with tmps := setFrom (fullR g.s.tmps g.made) g.s.tmps (lk ops b i) }) e; exact this), _, q, e2, ho, rfl, ?_, rfl, rfl, (fun e => by cases e), fun _ => ⟨rfl, hg.ro, fun x => ?_, fun x o hx => ?_⟩⟩⟩⟩
        · funext x; rw [hg.hid]; rfl
        · rw [hg.tmps]
        · show h2.get x = _
          rw [copyIds_get _ _ e3 x, hg.heap]
          have hle' : g.s.next ≤ q.next := hle
          have e : g.s.next + (q.next - g.s.next) = q.next := by omega
          show (if g.s.next ≤ x ∧ x < g.s.next + (q.next - g.s.next) then q.heap.get x else _) = _
          rw [e]
        · have hx : h1.get x = some o := hx
          show readBlk _ (kindAt P ops i) = some x ∧ _
          cases hb : readBlk { g.s with tmps := setFrom (fullR g.s.tmps g.made) g.s.tmps (lk ops b i) } (kindAt P ops i) with
          | none => rw [hb] at e1; simp only [oneHeap, Option.some.injEq] at e1; subst e1; simp [Tr.get] at hx
          | some rb =>
            rw [hb] at e1 hall
            simp only [oneHeap] at e1
            rw [Tr.get_put _ _ _ _ _ e1 x] at hx
            by_cases hxr : x = rb
            · rw [if_pos hxr, ← hxr, hg.heap] at hx
              refine ⟨by rw [hxr], hx, ?_, fun k hk1 hk2 => ?_⟩
              · show ∃ u, kindAt P ops i = .reader u ∧ _
                cases hkk : kindAt P ops i with
                | wild => rw [hkk] at hb; simp [readBlk] at hb
                | writer => rw [hkk] at hb; simp [readBlk] at hb
                | reader u => rw [hkk] at hb; exact ⟨u, rfl, by rw [hxr]; exact readBlk_of hb⟩
              · rw [wrBefore, List.all_eq_true] at hall
                have := hall k hk1
                rw [hk2] at this
                simp only [Bool.not_true, Bool.false_or, Option.isNone, Bool.or_false] at this
                exact this
            · rw [if_neg hxr] at hx; simp [Tr.get] at hx
      · simp at h
    · simp at h
theorem grpRun_log {P : Program} {K : Given} {ih : Orc} (hi : OrcObl ih) {ops : Array Oper} {b : Array Nat} {s : St} : ∀ {l : List Nat} {g g' : Grp}, GrpOk s g → grpRun P K ih ops b l g = some g' →
    (g'.s.obl → g.s.obl) ∧ GrpOk s g' ∧ (g'.s.obl → Log P K ih ops b s g.made → Log P K ih ops b s g'.made ∧ g'.made.map (·.idx) = l.reverse ++ g.made.map (·.idx))
  | [], g, g', hg, h => by simp [grpRun] at h; subst h; exact ⟨id, hg, fun _ hl => ⟨hl, rfl⟩⟩
  | i :: l, g, g', hg, h => by
    simp only [grpRun, St.norm_eq, bind_some] at h
    obtain ⟨g1, h1, h⟩ := h
    obtain ⟨a1, a2, a3⟩ := grpStep_fact hi hg h1
    obtain ⟨b1, b2, b3⟩ := grpRun_log hi a2 h
    refine ⟨fun k => a1 (b1 k), b2, fun ho hl => ?_⟩
    obtain ⟨m, hm, hmi, hf⟩ := a3 (b1 ho)
    obtain ⟨c1, c2⟩ := b3 ho (by rw [hm]; exact ⟨hf, hl⟩)
    exact ⟨c1, by rw [c2, hm]; simp [hmi]⟩
end Go.Cln
