/- A determinate reading of Go's code: rows that grow in a loop; calls that look at rows. -/
import Derived.Test.YtjogcdimpglpbaaGreatClnQ4
namespace Go.Cln
set_option linter.unusedVariables false
set_option linter.unusedSimpArgs false
set_option linter.deprecated false

/-- one name stands for another block -/
def slot (k m : Nat) (b : Nat) : Nat := if b = k then m else b

/-- a view in which the block m goes by the name k -/
theorem View.slot {s1 s2 : St} {n k m : Nat} {f : Nat → Option Ob} (hh : s2.heap = Tr.rebuild f n) (hn : n ≤ 1000000) (h0 : s2.next = n) (hr : s2.roB = s1.roB) (hro : s2.ro = s1.ro) (hhd : s2.hid = s1.hid)
    (ht : maskJ s1.tmps s2.tmps = s2.tmps.map (ren (slot k m))) (hto : s2.tmps.all (okV s2) = true) (hd : s1.defers = s2.defers.map (Go.Cln.slot k m)) (hdo : s2.defers.all (fun d => decide (d < s2.next)) = true)
    (hok : ∀ b, b < n → okB s2 b = true)
    {s0 : St} (hs0 : s0.next ≤ n) (hk : s0.next ≤ k) (hm : n ≤ m) (hsame : ∀ b, b < s0.next → s0.may b = false → f b = s1.heap.get b)
    (hp : ∀ b o, b < n → f b = some o → ∃ o1, s1.heap.get (Go.Cln.slot k m b) = some o1 ∧ ObV s2 (Go.Cln.slot k m) o1 o) : View s0 s1 s2 (Go.Cln.slot k m) := by
  refine ⟨by rw [h0]; exact hs0, fun b hb => ?_, fun b hb => ?_, hr, hro, hhd, ht, hto, hd, fun d hm => of_decide_eq_true (List.all_eq_true.1 hdo d hm), fun b o hb => ?_, fun b b' o o' hb hb' e => ?_, fun b hb hm => ?_⟩
  · unfold Go.Cln.slot; rw [if_neg (by omega)]
  · unfold Go.Cln.slot; split <;> omega
  · rw [hh] at hb
    obtain ⟨k1, k2⟩ := heap_at hn hb
    exact ⟨hok b k1, hp b o k1 k2⟩
  · rw [hh] at hb hb'
    have k1 := (heap_at hn hb).1
    have k2 := (heap_at hn hb').1
    unfold Go.Cln.slot at e
    split at e <;> split at e <;> omega
  · rw [hh, Tr.get_rebuild f n b hn, if_pos (by omega)]; exact hsame b hb hm

/-- one number behind a row -/
theorem ObV.grow {s2 : St} {σ : Nat → Nat} {k : IntKind} {N : Nat} {g g' : Nat → Int} {v : Int} {t1 t : TypeId} (h : ∀ j, j < N → g' j = g j) (hv : g' N = v) :
    ObV s2 σ (.cells (.lit (famList (fun j => .int k (g j)) 0 (N * 1) ++ [.int k v])) t1) (.cells (.fam (N + 1) fun j => .int k (g' j)) t) :=
  .ints fun i x hx => by
    simp only [Cells.get] at hx ⊢
    split at hx
    · rename_i hi
      simp only [Option.some.injEq] at hx
      subst hx
      rw [Nat.mul_one, famList_eq]
      by_cases e : i < N
      · rw [List.getElem?_append_left (by simpa using e), List.getElem?_map, List.getElem?_range e, h i e]
        exact ⟨by simp, rfl⟩
      · have : i = N := by omega
        subst this
        rw [List.getElem?_append_right (by simp), hv]
        exact ⟨by simp, rfl⟩
    · cases hx
/-- a row that is written out, as a family -/
theorem ObV.litFam {s2 : St} {σ : Nat → Nat} {k : IntKind} {l : List Value} {n : Nat} {g : Nat → Int} {t1 t : TypeId} (h : ∀ j, j < n → l[j]? = some (.int k (g j))) : ObV s2 σ (.cells (.lit l) t1) (.cells (.fam n fun j => .int k (g j)) t) :=
  .ints fun i x hx => by
    simp only [Cells.get] at hx ⊢
    split at hx
    · rename_i hi
      simp only [Option.some.injEq] at hx
      subst hx
      exact ⟨h i hi, rfl⟩
    · cases hx

/-- calls whose answers are told by what stands in memory; they leave nothing -/
def Given.reads (K : Given) (F : FuncId → List Value → St → Option Value) : Given := { K with call := fun f args s => match F f args s with
  | some v => some (v, s)
  | none => K.call f args s }
theorem GivenOk.reads {P : Program} {K : Given} (hK : GivenOk P K) {F : FuncId → List Value → St → Option Value}
    (h : ∀ f args s v, F f args s = some v → flat v = true ∧ ∀ (ρ : Nat → PB) (w : World) (args' : List Value), Hs s ρ w → VL (Dm s) ρ args args' → Calls P f args'.toArray w fun e w' => e = .returned v ∧ Go.RowKit.Below w.heap.size w w') : GivenOk P (Given.reads K F) := by
  refine ⟨fun {f args s s' v} hc => ?_, fun {f args s s' v} hc => ?_, hK.loopObl, hK.loop⟩
  · simp only [Given.reads] at hc
    split at hc
    · cases hc; exact id
    · exact hK.callObl hc
  · simp only [Given.reads] at hc
    split at hc
    · rename_i v0 hF
      cases hc
      obtain ⟨h1, h2⟩ := h _ _ _ _ hF
      intro ho n ρ w args' hs hl
      refine callsIn_wide.2 ((h2 ρ w args' hs hl).mono ?_)
      rintro e w' ⟨rfl, hb⟩
      obtain ⟨g1, g2⟩ := hs.below hb
      exact ⟨_, ρ, rfl, .of_flat h1, g1, g2⟩
    · exact hK.call hc

/-- the numbers of a slice, if that is what it holds -/
noncomputable def sliceInts (k : IntKind) (s : St) : Value → Option (Nat × (Nat → Int))
  | .slice (some ⟨b, o, _⟩) n _ => match s.heap.get b with
    | some (.cells (.lit l) _) => if o + n ≤ l.length ∧ ((l.drop o).take n).all (isKind k) = true then some (n, intAt ((l.drop o).take n)) else none
    | _ => none
  | _ => none

/-- a row that is looked at alone, in a picture of its own -/
def rowHeap (k : IntKind) (n : Nat) (g : Nat → Int) (t : TypeId) : Tr := Tr.rebuild (fun i => match i with | 0 => some (.cells (.fam n fun j => .int k (g j)) t) | _ => none) 1
theorem row_hs {k : IntKind} {s : St} {ρ : Nat → PB} {w : World} {b o n c c' : Nat} {g : Nat → Int} {sp : Option Nat} {l : List Value} {t t0 : TypeId} {a' : Addr} (hs : Hs s ρ w) (hb : s.heap.get b = some (.cells (.lit l) t))
    (hl : ∀ i, i < n → l[o + i]? = some (.int k (g i))) (hsl : SliceOk (ρ b) o sp c a' c') (hnc : n ≤ c) (hn : n ≠ 0) :
    Hs (St.start 1 (rowHeap k n g t0) []) (fun _ => ⟨a'.block, a'.off, (ρ b).len⟩) w ∧ VR (Dm (St.start 1 (rowHeap k n g t0) [])) (fun _ => ⟨a'.block, a'.off, (ρ b).len⟩) (.slice (some ⟨0, 0, none⟩) n c') (.slice (some a') n c') := by
  have hat := hsl.at (by omega)
  have hle := hsl.le
  subst hat
  refine ⟨⟨⟨fun x y hx => ?_, fun x x' y y' hx hx' _ => ?_⟩, fun _ _ => rfl, ⟨Nat.le_refl _, fun x hx => by simp [St.start] at hx⟩⟩, .slice ⟨Nat.zero_lt_one, rfl⟩ (by omega) ⟨.inr (by simp), fun _ => rfl, fun z hz => by cases hz⟩⟩
  · have hx' : (rowHeap k n g t0).get x = some y := hx
    obtain ⟨h1, h2⟩ := heap_at (by omega) hx'
    have : x = 0 := by omega
    subst this
    simp only [Option.some.injEq] at h2
    subst h2
    obtain ⟨pc, ty, fr, g1, g2, _, g4⟩ := (hs.ob b _ hb).2
    refine ⟨⟨h1, rfl⟩, pc, ty, fr, g1, g2, fun m => absurd m (by simp [St.start]), fun i v hv => ?_⟩
    simp only [Cells.get] at hv
    split at hv
    · rename_i hi
      simp only [Option.some.injEq] at hv
      subst hv
      obtain ⟨v', k1, k2⟩ := g4 (o + i) _ (hl i hi)
      refine ⟨v', ?_, ?_⟩
      · show pc[(ρ b).off + o + i]? = _
        rw [Nat.add_assoc]; exact k1
      · have := k2.eq_flat0 rfl
        subst this; exact .same rfl
    · cases hv
  · obtain ⟨h1, _⟩ := heap_at (by omega) (show (rowHeap k n g t0).get x = some y from hx)
    obtain ⟨h2, _⟩ := heap_at (by omega) (show (rowHeap k n g t0).get x' = some y' from hx')
    omega

end Go.Cln
