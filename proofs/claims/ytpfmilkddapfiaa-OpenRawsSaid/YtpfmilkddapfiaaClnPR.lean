/- A determinate reading of Go's code: rows that lie anywhere, laid down anew behind nothing. -/
import Derived.Test.YtpfmilkddapfiaaClnPS
namespace Go.Cln
set_option linter.unusedVariables false
set_option linter.unusedSimpArgs false
set_option linter.deprecated false
noncomputable section
def rowsL (g : Nat → List Value) : Nat → List Value
  | 0 => []
  | n + 1 => rowsL g n ++ g n
theorem rowsL_len {g : Nat → List Value} {w : Nat} : ∀ {n : Nat}, (∀ i, i < n → (g i).length = w) → (rowsL g n).length = n * w
  | 0, _ => by simp [rowsL]
  | n + 1, h => by
    simp only [rowsL, List.length_append, rowsL_len (n := n) fun i hi => h i (by omega), h n (by omega), Nat.add_mul, Nat.one_mul]
theorem rowsL_get {g : Nat → List Value} {w : Nat} (hw : 0 < w) : ∀ {n : Nat}, (∀ i, i < n → (g i).length = w) → ∀ (i : Nat) (v : Value), (rowsL g n)[i]? = some v ↔ (Cells.rows n w g).get i = some v
  | 0, _, i, v => by simp [rowsL, Cells.get]
  | n + 1, h, i, v => by
    have hl := rowsL_len (n := n) fun i hi => h i (by omega)
    have ih := rowsL_get hw (n := n) (fun i hi => h i (by omega)) i v
    have hn := h n (by omega)
    simp only [rowsL, List.getElem?_append, Cells.get, hl]
    simp only [Cells.get] at ih
    have hd := Nat.div_add_mod i w
    rcases Nat.lt_or_ge i (n * w) with hi | hi
    · have h1 : i / w < n := Nat.div_lt_of_lt_mul (by rw [Nat.mul_comm]; exact hi)
      rw [if_pos hi, if_pos (by omega)]
      rw [if_pos h1] at ih
      exact ih
    · rw [if_neg (by omega)]
      have h1 : n ≤ i / w := (Nat.le_div_iff_mul_le hw).2 hi
      rcases Nat.lt_or_ge (i / w) (n + 1) with h2 | h2
      · have h3 : i / w = n := by omega
        rw [if_pos h2, h3]
        rw [h3] at hd
        rw [show i - n * w = i % w by rw [Nat.mul_comm] at hd; omega]
      · rw [if_neg (by omega)]
        have h4 : (n + 1) * w ≤ i := (Nat.le_div_iff_mul_le hw).1 h2
        rw [Nat.add_mul, Nat.one_mul] at h4
        rw [List.getElem?_eq_none (by omega)]
theorem rowsL_take {g : Nat → List Value} {w n : Nat} : ∀ {N : Nat}, (∀ i, i < N → (g i).length = w) → n ≤ N → (rowsL g N).take (n * w) = rowsL g n
  | 0, _, h => by rw [Nat.le_zero.1 h]; simp [rowsL]
  | N + 1, h, hn => by
    have hl := rowsL_len (n := N) fun i hi => h i (by omega)
    rcases Nat.lt_or_ge n (N + 1) with h1 | h1
    · have h2 : n * w ≤ N * w := Nat.mul_le_mul_right _ (by omega)
      simp only [rowsL]
      rw [List.take_append_of_le_length (by rw [hl]; exact h2)]
      exact rowsL_take (fun i hi => h i (by omega)) (by omega)
    · have h3 : n = N + 1 := by omega
      subst h3
      exact List.take_of_length_le (by rw [rowsL_len h]; exact Nat.le_refl _)
def toLitRC (c : Cells) : Cells := match c with
  | .rows N w g => open Classical in if 0 < w ∧ ∀ i, (g i).length = w then .lit (rowsL g N) else .rows N w g
  | c => c
theorem toLitRC_get (c : Cells) (i : Nat) (v : Value) : (toLitRC c).get i = some v ↔ c.get i = some v := by
  cases c with
  | rows N w g =>
    simp only [toLitRC]
    split
    · rename_i hk
      exact rowsL_get hk.1 (fun i _ => hk.2 i) i v
    · exact Iff.rfl
  | _ => exact Iff.rfl
def toLitR : Ob → Ob
  | .fam F => .fam fun g B => toLitRC (F g B)
  | o => o
def lowR (s : St) : St := { s with heap := Tr.map toLitR s.heap, obl := True, orc := [] }
theorem toLitR_sub (o : Ob) : ObSub o (toLitR o) := by
  unfold toLitR
  split
  · exact .fam fun g P i v hv => (toLitRC_get _ _ _).1 hv
  · exact .refl _
theorem toLitR_back (o : Ob) : ObSub (toLitR o) o := by
  unfold toLitR
  split
  · exact .fam fun g P i v hv => (toLitRC_get _ _ _).2 hv
  · exact .refl _
theorem lowR_sub (s : St) : Sub s (lowR s) := ⟨rfl, rfl, rfl, rfl, fun b o' hb => by
  simp only [lowR, Tr.get_map, Option.map_eq_some_iff] at hb
  obtain ⟨o, h1, rfl⟩ := hb
  exact ⟨o, h1, toLitR_sub o⟩⟩
theorem Tra.lowR {s s' s1 : St} {ρ ρ' : Nat → PB} {w w' : World} (h : Tra (lowR s) s1 ρ ρ' w w') (k : Sub s1 s') (same : ∀ b, s.may b = false → s'.heap.get b = s.heap.get b) : Tra s s' ρ ρ' w w' where
  next := by rw [k.next]; exact h.next
  ext := h.ext
  os := h.os
  tape := h.tape
  output := h.output
  size := h.size
  frame i hi hn := h.frame i hi fun b o hb hm => by
    obtain ⟨o0, g1, _⟩ := (lowR_sub s).ob b o hb
    exact hn b o0 g1 hm
  own b o hb hm := by
    obtain ⟨o1, g1, _⟩ := k.ob b o hb
    have hm1 : s1.may b = true := by rw [← may_of k.roB k.ro]; exact hm
    rcases h.own b o1 g1 hm1 with h1 | ⟨b0, o0, h1, h2, h3⟩
    · exact .inl h1
    · obtain ⟨o2, g2, _⟩ := (lowR_sub s).ob b0 o0 h1
      exact .inr ⟨b0, o2, g2, h2, h3⟩
  roB := by rw [k.roB]; exact h.roB
  ro := by rw [k.ro]; exact h.ro
  hid := by rw [k.hid]; exact h.hid
  same := same
theorem lowR_out {P : Program} {x : Sem Value} {s s' s1E : St} {v : Value} {ρ : Nat → PB} {w : World} (h : ∃ v' w' ρ', x.run P w = .ok v' w' ∧ VR (Dm s1E) ρ' v v' ∧ Hs s1E ρ' w' ∧ Tra (lowR s) s1E ρ ρ' w w') (hsub : Sub s1E s') (same : ∀ b, s.may b = false → s'.heap.get b = s.heap.get b) :
    ∃ v' w' ρ', x.run P w = .ok v' w' ∧ VR (Dm s') ρ' v v' ∧ Hs s' ρ' w' ∧ Tra s s' ρ ρ' w w' := by
  obtain ⟨v', w', ρ', h1, h2, h3, h4⟩ := h
  exact ⟨v', w', ρ', h1, by rw [hsub.dm]; exact h2, hsub.hs h3, h4.lowR hsub same⟩
theorem backR_sub {s s0 : St} (hl : Like s s0) : Sub (lowR s) s0 := ⟨hl.next, hl.roB, hl.ro, hl.hid, fun m o' hm => by
  rw [hl.heap] at hm
  refine ⟨toLitR o', by simp only [lowR, Tr.get_map, hm]; rfl, ?_⟩
  exact toLitR_back _⟩
theorem rowsNew_low {s1 sE s' : St} {elem : TypeId} {N w : Nat} {g : Nat → List Value} {k : Nat} (hw : 0 < w) (hg : ∀ i, (g i).length = w) (hlt : Nat.ble 1000 w = false) (hsub : Sub sE s1) (hE : sE.obl) (h : s1.alloc (.cells (.rows N w g) elem) = some (k, s')) :
    ∃ sE', newRowOf sE elem w (rowsL g N) N = some (.slice (some ⟨k, 0, some w⟩) N N, sE') ∧ Sub sE' s' ∧ sE'.obl ∧ (∀ m, m < s1.next → s'.heap.get m = s1.heap.get m) ∧ (s'.obl → s1.obl) := by
  unfold St.alloc at h
  rw [bind_some] at h
  obtain ⟨h', e, h⟩ := h
  simp only [Option.some.injEq, Prod.mk.injEq] at h; obtain ⟨rfl, rfl⟩ := h
  obtain ⟨u, hu⟩ := Tr.put_ok _ _ _ _ _ e sE.heap (some (.cells (.lit (rowsL g N)) elem))
  unfold newRowOf St.alloc
  rw [if_neg (by rw [hlt]; decide), ← hsub.next, hu]
  refine ⟨_, rfl, ⟨by simp only [hsub.next], hsub.roB, hsub.ro, hsub.hid, fun m o' hm => ?_⟩, hE, fun m hm => ?_, id⟩
  · simp only at hm ⊢
    rw [Tr.get_put _ _ _ _ _ e] at hm
    rw [Tr.get_put _ _ _ _ _ hu]
    by_cases hb : m = s1.next
    · rw [if_pos hb] at hm
      rw [if_pos hb]
      cases hm
      exact ⟨_, rfl, .cells fun i v hv => (rowsL_get hw (fun i _ => hg i) i v).2 hv⟩
    · rw [if_neg hb] at hm
      rw [if_neg hb]
      exact hsub.ob m o' hm
  · simp only
    rw [Tr.get_put _ _ _ _ _ e, if_neg (by omega)]
end
end Go.Cln
