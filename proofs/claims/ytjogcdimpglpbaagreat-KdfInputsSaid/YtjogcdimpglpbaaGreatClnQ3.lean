/- A determinate reading of Go's code: pictures in one form; loops that are asked for. -/
import Derived.Test.YtjogcdimpglpbaaGreatClnQ1
namespace Go.Cln
set_option linter.unusedVariables false
set_option linter.unusedSimpArgs false
set_option linter.deprecated false
noncomputable section

/-! ### heaps, written out -/
def Tr.rebuild (f : Nat → Option Ob) : Nat → Tr
  | 0 => .leaf
  | n + 1 => match f n with
    | some o => ((Tr.rebuild f n).put 64 n (some o)).getD .leaf
    | none => Tr.rebuild f n
theorem Tr.put_some : ∀ (k n : Nat) (t : Tr) (o : Option Ob), n + 1 < 2 ^ k → k ≠ 0 → ∃ t', t.put k n o = some t'
  | 0, _, _, _, _, h => absurd rfl h
  | k + 1, n, .leaf, o, hn, _ => by
    simp only [Tr.put]
    split
    · exact ⟨_, rfl⟩
    · rename_i h0
      have hk : k ≠ 0 := by intro e; subst e; simp at hn; omega
      have hp : 2 ^ (k + 1) = 2 ^ k * 2 := Nat.pow_succ ..
      split
      · obtain ⟨t', e⟩ := Tr.put_some k (n / 2) .leaf o (by clear o; omega) hk; rw [e]; exact ⟨_, rfl⟩
      · obtain ⟨t', e⟩ := Tr.put_some k (n / 2 - 1) .leaf o (by clear o; omega) hk; rw [e]; exact ⟨_, rfl⟩
  | k + 1, n, .node l v r, o, hn, _ => by
    simp only [Tr.put]
    split
    · exact ⟨_, rfl⟩
    · rename_i h0
      have hk : k ≠ 0 := by intro e; subst e; simp at hn; omega
      have hp : 2 ^ (k + 1) = 2 ^ k * 2 := Nat.pow_succ ..
      split
      · obtain ⟨t', e⟩ := Tr.put_some k (n / 2) l o (by clear o; omega) hk; rw [e]; exact ⟨_, rfl⟩
      · obtain ⟨t', e⟩ := Tr.put_some k (n / 2 - 1) r o (by clear o; omega) hk; rw [e]; exact ⟨_, rfl⟩
theorem Tr.get_rebuild (f : Nat → Option Ob) : ∀ (n b : Nat), n ≤ 1000000 → (Tr.rebuild f n).get b = if b < n then f b else none
  | 0, b, _ => by simp [Tr.rebuild, Tr.get]
  | n + 1, b, hn => by
    have ih := Tr.get_rebuild f n b (by omega)
    simp only [Tr.rebuild]
    split
    · rename_i o ho
      obtain ⟨t', e⟩ := Tr.put_some 64 n (Tr.rebuild f n) (some o) (by omega) (by decide)
      rw [e, Option.getD_some, Tr.get_put _ _ _ _ _ e b, ih]
      by_cases h : b = n
      · subst h; simp [ho]
      · rw [if_neg h]
        by_cases h2 : b < n
        · rw [if_pos h2, if_pos (by omega)]
        · rw [if_neg h2, if_neg (by omega)]
    · rename_i ho
      rw [ih]
      by_cases h : b = n
      · subst h; simp [ho]
      · by_cases h2 : b < n
        · rw [if_pos h2, if_pos (by omega)]
        · rw [if_neg h2, if_neg (by omega)]

/-! ### what is forgotten -/
def maskAt (J : List Nat) : Nat → List Value → List Value
  | _, [] => []
  | i, v :: l => (if J.contains i && v.oneCell' then junk else v) :: maskAt J (i + 1) l
def intAt (l : List Value) (i : Nat) : Int := match getL l i with
  | .int _ n => n
  | _ => 0
def isKind (k : IntKind) : Value → Bool
  | .int k' _ => decide (k' = k)
  | _ => false
/-- a row of whole numbers of one kind, as a family -/
def famOf (l : List Value) : Cells :=
  match l with
  | .int k _ :: _ => if l.all (isKind k) then .fam l.length (fun j => .int k (intAt l j)) else .lit l
  | _ => .lit l
structure Frm where
  J : List Nat
  fams : List Nat
  JB : List (Nat × List Nat)
def canonOb (a : Frm) (b : Nat) : Ob → Ob
  | .cells (.lit l) t =>
    if a.fams.contains b then .cells (famOf l) t else
    match a.JB.find? (fun x => x.1 == b) with
    | some (_, J) => .cells (.lit (maskAt J 0 l)) t
    | none => .cells (.lit l) t
  | .loop r => match a.JB.find? (fun x => x.1 == b) with
    | some (_, J) => .loop { r with tmps := maskAt J 0 r.tmps }
    | none => .loop r
  | o => o
def canon (a : Frm) (s : St) : St :=
  { s with obl := True, orc := [], tmps := maskAt a.J 0 s.tmps, heap := Tr.rebuild (fun b => match s.heap.get b with
    | some o => some (if s.may b then canonOb a b o else o)
    | none => none) s.next }

theorem mask_vl {N : Nat → Prop} {ρ : Nat → PB} {J : List Nat} : ∀ {l l' : List Value} (i : Nat), VL N ρ l l' → VL N ρ (maskAt J i l) l'
  | [], l', i, h => by rw [h.inv_nil]; exact VL.nil
  | v :: l, l', i, h => by
    obtain ⟨w, r, rfl, h1, h2⟩ := h.inv_cons
    refine VL.cons ?_ (mask_vl (i + 1) h2)
    split
    · rename_i hc
      rw [Bool.and_eq_true] at hc
      exact .any (by rw [h1.one]; exact hc.2)
    · exact h1
theorem maskAt_get {J : List Nat} : ∀ {l : List Value} {k i : Nat} {v : Value}, (maskAt J k l)[i]? = some v → ∃ v0, l[i]? = some v0 ∧ (v = v0 ∨ (v = junk ∧ v0.oneCell' = true))
  | [], k, i, v, h => by simp [maskAt] at h
  | a :: l, k, 0, v, h => by
    simp only [maskAt, List.getElem?_cons_zero, Option.some.injEq] at h
    refine ⟨a, rfl, ?_⟩
    split at h
    · rename_i hc; rw [Bool.and_eq_true] at hc; exact .inr ⟨h.symm, hc.2⟩
    · exact .inl h.symm
  | a :: l, k, i + 1, v, h => by
    simp only [maskAt, List.getElem?_cons_succ] at h
    simpa using maskAt_get h
theorem famOf_get {l : List Value} {i : Nat} {v : Value} (h : (famOf l).get i = some v) : l[i]? = some v := by
  unfold famOf at h
  split at h
  · rename_i k n r
    split at h
    · rename_i ha
      simp only [Cells.get] at h
      split at h
      · rename_i hi
        simp only [Option.some.injEq] at h
        have hm := List.all_eq_true.1 ha _ (List.getElem_mem hi)
        rw [List.getElem?_eq_getElem hi, ← h]
        have e : getL (.int k n :: r) i = (Value.int k n :: r)[i] := by rw [getL_eq, List.getD_eq_getElem?_getD, List.getElem?_eq_getElem hi]; rfl
        have key : ∀ x : Value, isKind k x = true → x = .int k (match x with | .int _ n => n | _ => 0) := fun x hx => by
          cases x <;> simp [isKind] at hx
          rw [hx]
        unfold intAt
        rw [e]
        exact congrArg some (key _ hm)
      · cases h
    · exact h
  · exact h

theorem canonOb_obR {a : Frm} {b : Nat} {N : Nat → Prop} {ρ : Nat → PB} {may : Prop} {p : PB} {w : World} {o : Ob} (h : ObR N ρ may p w o) : ObR N ρ may p w (canonOb a b o) := by
  cases o with
  | cells c t =>
    cases c with
    | lit l =>
      obtain ⟨pc, ty, fr, h1, h2, h3, h4⟩ := h
      simp only [canonOb]
      split
      · exact ⟨pc, ty, fr, h1, h2, h3, fun i v hv => h4 i v (famOf_get hv)⟩
      · split
        · refine ⟨pc, ty, fr, h1, h2, h3, fun i v hv => ?_⟩
          obtain ⟨v0, g1, g2⟩ := maskAt_get hv
          obtain ⟨v', k1, k2⟩ := h4 i v0 g1
          refine ⟨v', k1, ?_⟩
          rcases g2 with rfl | ⟨rfl, g2⟩
          · exact k2
          · exact .any (by rw [k2.one]; exact g2)
        · exact ⟨pc, ty, fr, h1, h2, h3, h4⟩
    | fam n f => exact h
  | loop r =>
    obtain ⟨l', h1, h2⟩ := h
    simp only [canonOb]
    split
    · exact ⟨l', h1, ⟨h2.state, h2.pending, mask_vl 0 h2.tmps, h2.params, h2.assign, h2.body, h2.lt, h2.defers⟩⟩
    · exact ⟨l', h1, h2⟩
  | marks => exact h
  | map es k => exact h

theorem canon_get {a : Frm} {s : St} (hn : s.next ≤ 1000000) (b : Nat) : (canon a s).heap.get b = if b < s.next then (match s.heap.get b with | some o => some (if s.may b then canonOb a b o else o) | none => none) else none :=
  Tr.get_rebuild _ _ _ hn
theorem canon_rel {a : Frm} {s : St} {ρ : Nat → PB} {w : World} {x : Act} (hn : s.next ≤ 1000000) (h : Rel s ρ w x) : Rel (canon a s) ρ w x ∧ Tra s (canon a s) ρ ρ w w := by
  have dm : Dm (canon a s) = Dm s := rfl
  have old : ∀ (b : Nat) (o : Ob), (canon a s).heap.get b = some o → ∃ o0, s.heap.get b = some o0 ∧ (o = o0 ∨ o = canonOb a b o0) := fun b o hb => by
    rw [canon_get hn] at hb
    split at hb
    · cases hg : s.heap.get b with
      | none => rw [hg] at hb; cases hb
      | some o0 =>
        rw [hg] at hb
        simp only [Option.some.injEq] at hb
        refine ⟨o0, rfl, ?_⟩
        split at hb
        · exact .inr hb.symm
        · exact .inl hb.symm
    · cases hb
  refine ⟨⟨⟨⟨fun b o hb => ?_, fun b b' o o' hb hb' e => ?_⟩, h.hs.hid, h.hs.wf⟩, mask_vl 0 h.tmps, h.defers, h.marks⟩, ?_⟩
  · obtain ⟨o0, g1, g2⟩ := old b o hb
    obtain ⟨k1, k2⟩ := h.hs.ob b o0 g1
    refine ⟨k1, ?_⟩
    rcases g2 with rfl | rfl
    · exact k2
    · exact canonOb_obR k2
  · obtain ⟨o0, g1, _⟩ := old b o hb
    obtain ⟨o1, g2, _⟩ := old b' o' hb'
    exact h.hs.inj b b' _ _ g1 g2 e
  · refine ⟨Nat.le_refl _, fun _ _ => rfl, rfl, rfl, rfl, Nat.le_refl _, fun _ _ _ => rfl, fun b o hb hm => ?_, rfl, rfl, rfl, fun b hb => ?_⟩
    · obtain ⟨o0, g1, _⟩ := old b o hb
      exact .inr ⟨b, o0, g1, hm, rfl⟩
    · have hlt := may_lt h.hs hb
      rw [canon_get hn, if_pos hlt]
      cases s.heap.get b with
      | none => rfl
      | some o => simp only [hb]; rfl

/-- a loop whose outcome is told: the picture at its head, how it is left, the picture behind -/
structure Ask where
  frm : Frm
  e : Exit
  fin : St → St
def Given.asking (K : Given) (P : Program) (L : FuncId → St → Option Ask) : Given :=
  { K with loop := fun f c s => match L f s with
      | some a => if s.next ≤ 1000000 then some (a.e, { a.fin (canon a.frm s) with obl := s.obl ∧ ∀ rd, CodeOk P rd (.loop c) (canon a.frm s) a.e (a.fin (canon a.frm s)).bare, orc := s.orc }) else none
      | none => K.loop f c s }
theorem GivenOk.asking {P : Program} {K : Given} (h : GivenOk P K) (L : FuncId → St → Option Ask) : GivenOk P (Given.asking K P L) := by
  refine ⟨h.callObl, h.call, fun {f c s s' e} hc => ?_, fun {f c s s' e} hc => ?_⟩
  · simp only [Given.asking] at hc
    split at hc
    · split at hc
      · simp only [Option.some.injEq, Prod.mk.injEq] at hc; obtain ⟨_, rfl⟩ := hc; exact fun k => k.1
      · cases hc
    · exact h.loopObl hc
  · simp only [Given.asking] at hc
    split at hc
    · rename_i a _
      split at hc
      · rename_i hn
        simp only [Option.some.injEq, Prod.mk.injEq] at hc; obtain ⟨rfl, rfl⟩ := hc
        intro rd ho n ρ w x Q hrd hr hq
        obtain ⟨r1, t1⟩ := canon_rel (a := a.frm) hn hr
        have l1 : Like (a.fin (canon a.frm s)).bare { a.fin (canon a.frm s) with obl := s.obl ∧ ∀ rd, CodeOk P rd (.loop c) (canon a.frm s) a.e (a.fin (canon a.frm s)).bare, orc := s.orc } := ⟨rfl, rfl, rfl, rfl, rfl⟩
        refine ho.2 rd trivial n ρ w x Q (fun l hl => Nat.lt_of_lt_of_le (hrd l hl) t1.next) r1 fun ρ' w' a' r' t' => ?_
        exact hq ρ' w' a' (r'.like l1 rfl rfl) ((t1.trans t').like l1)
      · cases hc
    · exact h.loop hc

end
end Go.Cln
