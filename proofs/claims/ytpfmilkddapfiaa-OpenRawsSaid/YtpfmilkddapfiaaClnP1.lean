/- A determinate reading of Go's code: how it stands to the model's own memory. -/
import Derived.Test.YtpfmilkddapfiaaClnB
import Derived.Deep.Draws
namespace Go.Cln
set_option linter.unusedVariables false
set_option linter.unusedSimpArgs false
set_option linter.deprecated false
theorem Tr.get_put : ∀ (k : Nat) (t : Tr) (n : Nat) (o : Option Ob) (t' : Tr), Tr.put k t n o = some t' → ∀ m, t'.get m = if m = n then o else t.get m := by
  intro k
  induction k with
  | zero => intro t n o t' h; simp [Tr.put] at h
  | succ k ih =>
    intro t n o t' h m
    have odd : ∀ a b : Nat, a % 2 = 1 → b % 2 = 1 → (a / 2 = b / 2 ↔ a = b) := fun a b h1 h2 => by omega
    have even : ∀ a b : Nat, a ≠ 0 → b ≠ 0 → ¬ a % 2 = 1 → ¬ b % 2 = 1 → (a / 2 - 1 = b / 2 - 1 ↔ a = b) := fun a b h1 h2 h3 h4 => by omega
    cases t with
    | leaf =>
      simp only [Tr.put] at h
      split at h
      · rename_i h0; subst h0; simp only [Option.some.injEq] at h; subst h
        by_cases hm : m = 0 <;> simp [Tr.get, hm]
      · rename_i h0
        split at h
        · rename_i h1
          rw [Option.bind_eq_some_iff] at h
          obtain ⟨l, hl, h⟩ := h
          simp only [Option.some.injEq] at h; subst h
          have := ih _ _ _ _ hl
          by_cases hm : m = 0
          · subst hm; simp [Tr.get]; intro e; exact absurd e.symm h0
          · by_cases hm1 : m % 2 = 1
            · simp only [Tr.get, hm, hm1, if_false, if_true, this]; simp only [odd m n hm1 h1, Tr.get]
            · simp only [Tr.get, hm, hm1, if_false]; rw [if_neg (by intro e; subst e; exact hm1 h1)]
        · rename_i h1
          rw [Option.bind_eq_some_iff] at h
          obtain ⟨l, hl, h⟩ := h
          simp only [Option.some.injEq] at h; subst h
          have := ih _ _ _ _ hl
          by_cases hm : m = 0
          · subst hm; simp [Tr.get]; intro e; exact absurd e.symm h0
          · by_cases hm1 : m % 2 = 1
            · simp only [Tr.get, hm, hm1, if_false, if_true]; rw [if_neg (by intro e; subst e; exact h1 hm1)]
            · simp only [Tr.get, hm, hm1, if_false, this]; simp only [even m n hm h0 hm1 h1, Tr.get]
    | node l v r =>
      simp only [Tr.put] at h
      split at h
      · rename_i h0; subst h0; simp only [Option.some.injEq] at h; subst h
        by_cases hm : m = 0 <;> simp [Tr.get, hm]
      · rename_i h0
        split at h
        · rename_i h1
          rw [Option.bind_eq_some_iff] at h
          obtain ⟨l, hl, h⟩ := h
          simp only [Option.some.injEq] at h; subst h
          have := ih _ _ _ _ hl
          by_cases hm : m = 0
          · subst hm; simp [Tr.get]; intro e; exact absurd e.symm h0
          · by_cases hm1 : m % 2 = 1
            · simp only [Tr.get, hm, hm1, if_false, if_true, this]; simp only [odd m n hm1 h1]
            · simp only [Tr.get, hm, hm1, if_false]; rw [if_neg (by intro e; subst e; exact hm1 h1)]
        · rename_i h1
          rw [Option.bind_eq_some_iff] at h
          obtain ⟨l, hl, h⟩ := h
          simp only [Option.some.injEq] at h; subst h
          have := ih _ _ _ _ hl
          by_cases hm : m = 0
          · subst hm; simp [Tr.get]; intro e; exact absurd e.symm h0
          · by_cases hm1 : m % 2 = 1
            · simp only [Tr.get, hm, hm1, if_false, if_true]; rw [if_neg (by intro e; subst e; exact h1 hm1)]
            · simp only [Tr.get, hm, hm1, if_false, this]; simp only [even m n hm h0 hm1 h1]
def SliceOk (p : PB) (o : Nat) (g : Option Nat) (c : Nat) (a' : Addr) (c' : Nat) : Prop :=
  (c' = 0 ∨ a' = ⟨p.blk, p.off + o, none⟩) ∧ (g = none → c' = c) ∧ (∀ z, g = some z → c ≤ c' ∧ (c' = 0 ∨ p.off + o + c' * z = p.len) ∧ z < 1000)
def AbsOk (B o n c : Nat) (w : Value) : Prop := n ≤ c ∧ (w = .slice (some ⟨blkOf B, baseOf B + o, none⟩) n c ∨ (c = 0 ∧ ∃ a c', w = .slice a 0 c'))
inductive VR (N : Nat → Prop) (ρ : Nat → PB) : Value → Value → Prop
  | same {v : Value} : flat0 v = true → VR N ρ v v
  | ptr {b o : Nat} : N b → VR N ρ (.pointer (some ⟨b, o, none⟩)) (.pointer (some ⟨(ρ b).blk, (ρ b).off + o, none⟩))
  | slice {b o n c c' : Nat} {g : Option Nat} {a' : Addr} : N b → n ≤ c → SliceOk (ρ b) o g c a' c' → VR N ρ (.slice (some ⟨b, o, g⟩) n c) (.slice (some a') n c')
  | fn {f : FuncId} {x y x' y' : Array Value} : x.toList.length = x'.toList.length → (∀ (i : Nat) (v w : Value), x.toList[i]? = some v → x'.toList[i]? = some w → VR N ρ v w) →
      y.toList.length = y'.toList.length → (∀ (i : Nat) (v w : Value), y.toList[i]? = some v → y'.toList[i]? = some w → VR N ρ v w) → VR N ρ (.func (.func f) x y) (.func (.func f) x' y')
  | yield {l : Nat} : N l → VR N ρ (.func (.yield l) #[] #[]) (.func (.yield (ρ l).blk) #[] #[])
  | mapv {b : Nat} : N b → VR N ρ (.map (some b)) (.map (some (ρ b).blk))
  | any {w : Value} : w.oneCell' = true → VR N ρ (.chan (some 0)) w
  | abs {B o n c g : Nat} {w : Value} : N 0 → isAbs (some g) = true → AbsOk B o n c w → VR N ρ (.slice (some ⟨B, o, some g⟩) n c) w
  | absP {B o g : Nat} : N 0 → isAbs (some g) = true → VR N ρ (.pointer (some ⟨B, o, some g⟩)) (.pointer (some ⟨blkOf B, baseOf B + o, none⟩))
  | agg {x x' : Array Value} : x.toList.length = x'.toList.length → (∀ (i : Nat) (v w : Value), x.toList[i]? = some v → x'.toList[i]? = some w → VR N ρ v w) → VR N ρ (.agg x) (.agg x')
  | tup {x x' : Array Value} : x.toList.length = x'.toList.length → (∀ (i : Nat) (v w : Value), x.toList[i]? = some v → x'.toList[i]? = some w → VR N ρ v w) → VR N ρ (.tuple x) (.tuple x')
def VL (N : Nat → Prop) (ρ : Nat → PB) (l l' : List Value) : Prop := l.length = l'.length ∧ ∀ (i : Nat) (v w : Value), l[i]? = some v → l'[i]? = some w → VR N ρ v w
theorem VL.nil {N : Nat → Prop} {ρ : Nat → PB} : VL N ρ [] [] := ⟨rfl, fun i v w h => by simp at h⟩
theorem VL.cons {N : Nat → Prop} {ρ : Nat → PB} {v w : Value} {l l' : List Value} (h : VR N ρ v w) (hl : VL N ρ l l') : VL N ρ (v :: l) (w :: l') := by
  refine ⟨by simp [hl.1], fun i a b ha hb => ?_⟩
  cases i with
  | zero => simp at ha hb; subst ha; subst hb; exact h
  | succ i => exact hl.2 i a b (by simpa using ha) (by simpa using hb)
theorem VL.inv_cons {N : Nat → Prop} {ρ : Nat → PB} {v : Value} {l l' : List Value} (h : VL N ρ (v :: l) l') : ∃ w r, l' = w :: r ∧ VR N ρ v w ∧ VL N ρ l r := by
  cases l' with
  | nil => simp [VL] at h
  | cons w r => exact ⟨w, r, rfl, h.2 0 v w (by simp) (by simp), by have := h.1; simp at this; exact this, fun i a b ha hb => h.2 (i + 1) a b (by simpa using ha) (by simpa using hb)⟩
theorem VL.inv_nil {N : Nat → Prop} {ρ : Nat → PB} {l' : List Value} (h : VL N ρ [] l') : l' = [] := by
  exact List.eq_nil_of_length_eq_zero (by simpa using h.1.symm)
theorem VL.get {N : Nat → Prop} {ρ : Nat → PB} {l l' : List Value} (h : VL N ρ l l') {i : Nat} {v : Value} (hv : l[i]? = some v) : ∃ w, l'[i]? = some w ∧ VR N ρ v w := by
  have hi : i < l.length := by
    rcases Nat.lt_or_ge i l.length with h | h
    · exact h
    · simp [List.getElem?_eq_none h] at hv
  have hi' : i < l'.length := h.1 ▸ hi
  exact ⟨l'[i], by simp [hi'], h.2 i v _ hv (by simp [hi'])⟩
theorem VL.append {N : Nat → Prop} {ρ : Nat → PB} {a a' b b' : List Value} (h : VL N ρ a a') (k : VL N ρ b b') : VL N ρ (a ++ b) (a' ++ b') := by
  refine ⟨by simp [h.1, k.1], fun i v w hv hw => ?_⟩
  rw [List.getElem?_append] at hv hw
  by_cases hi : i < a.length
  · rw [if_pos hi] at hv; rw [if_pos (h.1 ▸ hi)] at hw; exact h.2 i v w hv hw
  · rw [if_neg hi] at hv; rw [if_neg (h.1 ▸ hi)] at hw; rw [← h.1] at hw; exact k.2 _ v w hv hw
theorem VL.set {N : Nat → Prop} {ρ : Nat → PB} {l l' : List Value} {v w : Value} (h : VL N ρ l l') (i : Nat) (hv : VR N ρ v w) : VL N ρ (l.set i v) (l'.set i w) := by
  refine ⟨by simp [h.1], fun j a b ha hb => ?_⟩
  rw [List.getElem?_set] at ha hb
  by_cases hij : i = j
  · subst hij
    simp only [if_true] at ha hb
    split at ha <;> split at hb <;> simp_all
  · rw [if_neg hij] at ha hb; exact h.2 j a b ha hb
theorem VL.take {N : Nat → Prop} {ρ : Nat → PB} {l l' : List Value} (h : VL N ρ l l') (n : Nat) : VL N ρ (l.take n) (l'.take n) :=
  ⟨by simp [h.1], fun i v w hv hw => by
    rw [List.getElem?_take] at hv hw
    split at hv <;> simp_all
    exact h.2 i v w hv hw⟩
theorem VL.drop {N : Nat → Prop} {ρ : Nat → PB} {l l' : List Value} (h : VL N ρ l l') (n : Nat) : VL N ρ (l.drop n) (l'.drop n) :=
  ⟨by simp [h.1], fun i v w hv hw => by
    rw [List.getElem?_drop] at hv hw
    exact h.2 (n + i) v w hv hw⟩
theorem VL.replicate {N : Nat → Prop} {ρ : Nat → PB} {v w : Value} (h : VR N ρ v w) (n : Nat) : VL N ρ (List.replicate n v) (List.replicate n w) :=
  ⟨by simp, fun i a b ha hb => by
    rw [List.getElem?_replicate] at ha hb
    split at ha <;> simp_all⟩
theorem VL.of_forall {N : Nat → Prop} {ρ : Nat → PB} {l : List Value} (h : ∀ v ∈ l, VR N ρ v v) : VL N ρ l l :=
  ⟨rfl, fun i v w hv hw => by rw [hv] at hw; cases hw; exact h v (List.mem_of_getElem? hv)⟩
theorem VL.eq_of {N : Nat → Prop} {ρ : Nat → PB} {l l' : List Value} (h : VL N ρ l l') (k : ∀ v ∈ l, ∀ w, VR N ρ v w → w = v) : l' = l := by
  apply List.ext_getElem? ; intro i
  cases hv : l[i]? with
  | none => rw [List.getElem?_eq_none_iff] at hv ⊢; rw [← h.1]; exact hv
  | some v => obtain ⟨w, hw, hr⟩ := h.get hv; rw [hw, k v (List.mem_of_getElem? hv) w hr]
theorem VR.eq_flat0 {N : Nat → Prop} {ρ : Nat → PB} {v w : Value} (h : VR N ρ v w) (hf : flat0 v = true) : w = v := by
  cases h with
  | same _ => rfl
  | ptr _ => simp [flat0] at hf
  | slice _ _ _ => simp [flat0] at hf
  | fn h1 _ h2 _ =>
    rename_i f x y x' y' _ _
    simp [flat0] at hf
    obtain ⟨hx, hy⟩ := hf
    subst hx; subst hy
    obtain ⟨x'⟩ := x'; obtain ⟨y'⟩ := y'
    simp only [List.length_nil] at h1 h2
    rw [List.eq_nil_of_length_eq_zero h1.symm, List.eq_nil_of_length_eq_zero h2.symm]
  | yield _ => simp [flat0] at hf
  | mapv _ => simp [flat0] at hf
  | any _ => simp [flat0] at hf
  | abs _ _ _ => simp [flat0] at hf
  | absP _ _ => simp [flat0] at hf
  | agg _ _ => simp [flat0] at hf
  | tup _ _ => simp [flat0] at hf
theorem VR.eq_flat1 {N : Nat → Prop} {ρ : Nat → PB} {v w : Value} (h : VR N ρ v w) (hf : flat1 v = true) : w = v := by
  by_cases h0 : flat0 v = true
  · exact h.eq_flat0 h0
  · cases v with
    | agg x =>
      simp only [flat1] at hf
      cases h with
      | same h => exact absurd h h0
      | agg h1 h2 =>
        rename_i x'
        have := VL.eq_of ⟨h1, h2⟩ (fun v hv w hw => hw.eq_flat0 (List.all_eq_true.1 hf v hv))
        obtain ⟨x⟩ := x; obtain ⟨x'⟩ := x'; simp_all
    | _ => simp only [flat1] at hf; exact absurd hf h0
theorem VR.eq_flat {N : Nat → Prop} {ρ : Nat → PB} {v w : Value} (h : VR N ρ v w) (hf : flat v = true) : w = v := by
  by_cases h0 : flat1 v = true
  · exact h.eq_flat1 h0
  · cases v with
    | tuple x =>
      simp only [flat] at hf
      cases h with
      | same h => simp [flat0] at h
      | tup h1 h2 =>
        rename_i x'
        have := VL.eq_of ⟨h1, h2⟩ (fun v hv w hw => hw.eq_flat1 (List.all_eq_true.1 hf v hv))
        obtain ⟨x⟩ := x; obtain ⟨x'⟩ := x'; simp_all
    | _ => simp only [flat] at hf; exact absurd hf h0
theorem VR.of_flat1 {N : Nat → Prop} {ρ : Nat → PB} {v : Value} (hf : flat1 v = true) : VR N ρ v v := by
  cases v with
  | agg x =>
    simp only [flat1] at hf
    exact .agg rfl (VL.of_forall (fun v hv => .same (List.all_eq_true.1 hf v hv))).2
  | _ => exact .same hf
theorem VR.of_flat {N : Nat → Prop} {ρ : Nat → PB} {v : Value} (hf : flat v = true) : VR N ρ v v := by
  cases v with
  | tuple x =>
    simp only [flat] at hf
    exact .tup rfl (VL.of_forall (fun v hv => VR.of_flat1 (List.all_eq_true.1 hf v hv))).2
  | _ => exact VR.of_flat1 hf
theorem VR.undef {N : Nat → Prop} {ρ : Nat → PB} : VR N ρ undef undef := VR.of_flat rfl
def Dflat (z : Value) : Prop := ∀ (N : Nat → Prop) (ρ : Nat → PB), VR N ρ z z
theorem VR.of_dflat {N : Nat → Prop} {ρ : Nat → PB} {z : Value} (h : Dflat z) : VR N ρ z z := h N ρ
theorem VR.mono {N N' : Nat → Prop} {ρ ρ' : Nat → PB} (hN : ∀ b, N b → N' b) (hρ : ∀ b, N b → ρ' b = ρ b) {v w : Value} (h : VR N ρ v w) : VR N' ρ' v w := by
  induction h with
  | same h => exact .same h
  | ptr h => rw [← hρ _ h]; exact .ptr (hN _ h)
  | slice h k m => rw [← hρ _ h] at m; exact .slice (hN _ h) k m
  | fn h1 _ h2 _ i1 i2 => exact .fn h1 i1 h2 i2
  | yield h => rw [← hρ _ h]; exact .yield (hN _ h)
  | mapv h => rw [← hρ _ h]; exact .mapv (hN _ h)
  | any h => exact .any h
  | abs z h k => exact .abs (hN _ z) h k
  | absP z h => exact .absP (hN _ z) h
  | agg h1 _ i1 => exact .agg h1 i1
  | tup h1 _ i1 => exact .tup h1 i1
theorem VL.mono {N N' : Nat → Prop} {ρ ρ' : Nat → PB} (hN : ∀ b, N b → N' b) (hρ : ∀ b, N b → ρ' b = ρ b) {v w : List Value} (h : VL N ρ v w) : VL N' ρ' v w := ⟨h.1, fun i a b ha hb => (h.2 i a b ha hb).mono hN hρ⟩
theorem VR.one {N : Nat → Prop} {ρ : Nat → PB} {v w : Value} (h : VR N ρ v w) : w.oneCell' = v.oneCell' := by
  cases h <;> first | rfl | assumption | (rename_i _ h k; rcases k.2 with rfl | ⟨_, _, _, rfl⟩ <;> rfl)
theorem VR.cells {N : Nat → Prop} {ρ : Nat → PB} {v w : Value} (h : VR N ρ v w) : VL N ρ v.cells.toList w.cells.toList := by
  cases h with
  | agg h1 h2 => exact ⟨h1, h2⟩
  | same h => cases v <;> first | exact VL.cons (.same h) VL.nil | (simp [flat0] at h)
  | ptr h => exact VL.cons (.ptr h) VL.nil
  | slice h k m => exact VL.cons (.slice h k m) VL.nil
  | fn h1 h2 h3 h4 => exact VL.cons (.fn h1 h2 h3 h4) VL.nil
  | yield h => exact VL.cons (.yield h) VL.nil
  | mapv h => exact VL.cons (.mapv h) VL.nil
  | abs z h k =>
    have h0 := k
    obtain ⟨_, rfl | ⟨_, _, _, rfl⟩⟩ := h0
    · exact VL.cons (.abs z h k) VL.nil
    · exact VL.cons (.abs z h k) VL.nil
  | absP z h => exact VL.cons (.absP z h) VL.nil
  | any h =>
    have e : w.cells = #[w] := by cases w <;> first | rfl | (simp [Value.oneCell'] at h)
    rw [e]; exact VL.cons (.any h) VL.nil
  | tup h1 h2 => exact VL.cons (.tup h1 h2) VL.nil
end Go.Cln
