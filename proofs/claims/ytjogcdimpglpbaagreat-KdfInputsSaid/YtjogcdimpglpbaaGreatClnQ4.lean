/- A determinate reading of Go's code: small words for loops that are proved by induction. -/
import Derived.Test.YtjogcdimpglpbaaGreatClnQ2
import Derived.Test.YtjogcdimpglpbaaGreatClnQ3
namespace Go.Cln
set_option linter.unusedVariables false
set_option linter.unusedSimpArgs false
set_option linter.deprecated false
noncomputable section

/-- the bodies of a code's loops, in the order of the text -/
def loopsOf : Code → List Code
  | .seq a b => loopsOf a ++ loopsOf b
  | .cond _ a b => loopsOf a ++ loopsOf b
  | .block _ b => loopsOf b
  | .loop b => b :: loopsOf b
  | .rangeFunc _ _ a b => loopsOf a ++ loopsOf b
  | .scope b => loopsOf b
  | _ => []
def loopB (P : Program) (f k : Nat) : Code := match P.funcs[f]? with
  | some fn => match fn.body with
    | some c => (loopsOf c).getD k .skip
    | none => .skip
  | none => .skip

/-- bits of whole numbers, as the reading has them -/
def orI (k : IntKind) (a b : Int) : Int := k.wrap ((BitVec.ofInt k.bits a ||| BitVec.ofInt k.bits b).toNat : Int)
def andI (k : IntKind) (a b : Int) : Int := k.wrap ((BitVec.ofInt k.bits a &&& BitVec.ofInt k.bits b).toNat : Int)
def xorI (k : IntKind) (a b : Int) : Int := k.wrap ((BitVec.ofInt k.bits a ^^^ BitVec.ofInt k.bits b).toNat : Int)

/-- a row of whole numbers -/
def rowV (k : IntKind) (n : Nat) (g : Nat → Int) : List Value := famList (fun j => .int k (g j)) 0 n
def J (n : Nat) : List Value := List.replicate n junk
def U (n : Nat) : List Value := List.replicate n undef
def P0 (b o : Nat) : Value := .pointer (some ⟨b, o, none⟩)

theorem heap_at {f : Nat → Option Ob} {n b : Nat} {o : Ob} (hn : n ≤ 1000000) (h : (Tr.rebuild f n).get b = some o) : b < n ∧ f b = some o := by
  rw [Tr.get_rebuild f n b hn] at h
  split at h
  · exact ⟨‹_›, h⟩
  · cases h

/-- a view that keeps all names -/
theorem View.plain {s1 s2 : St} {n : Nat} {f : Nat → Option Ob} (hh : s2.heap = Tr.rebuild f n) (hn : n ≤ 1000000) (h0 : s2.next = n) (h1 : s1.next = n) (hr : s2.roB = s1.roB) (hro : s2.ro = s1.ro) (hhd : s2.hid = s1.hid)
    (ht : maskJ s1.tmps s2.tmps = s2.tmps.map (ren id)) (hto : s2.tmps.all (okV s2) = true) (hd : s1.defers = s2.defers.map id) (hdo : s2.defers.all (fun d => decide (d < s2.next)) = true)
    (hok : ∀ b, b < n → okB s2 b = true)
    {s0 : St} (hs0 : s0.next ≤ n) (hsame : ∀ b, b < s0.next → s0.may b = false → f b = s1.heap.get b)
    (hp : ∀ b o, b < n → f b = some o → ∃ o1, s1.heap.get b = some o1 ∧ ObV s2 id o1 o) : View s0 s1 s2 id := by
  refine ⟨by rw [h0]; exact hs0, fun _ _ => rfl, fun _ h => h, hr, hro, hhd, ht, hto, hd, fun d hm => of_decide_eq_true (List.all_eq_true.1 hdo d hm), fun b o hb => ?_, fun _ _ _ _ _ _ e => e, fun b hb hm => ?_⟩
  · rw [hh] at hb
    obtain ⟨k1, k2⟩ := heap_at hn hb
    exact ⟨hok b k1, hp b o k1 k2⟩
  · rw [hh, Tr.get_rebuild f n b hn, if_pos (by omega)]; exact hsame b hb hm

/-- one number written into a family -/
theorem ObV.put {s2 : St} {σ : Nat → Nat} {k : IntKind} {N o : Nat} {g g' : Nat → Int} {v : Int} {t1 t : TypeId} (h : ∀ j, j < N → g' j = if j = o then v else g j) :
    ObV s2 σ (.cells (.fam N (famSet (fun j => .int k (g j)) o [.int k v])) t1) (.cells (.fam N fun j => .int k (g' j)) t) :=
  .ints fun i x hx => by
    simp only [Cells.get] at hx ⊢
    split at hx
    · rename_i hi
      simp only [Option.some.injEq] at hx
      subst hx
      rw [if_pos hi, h i hi]
      simp only [famSet]
      by_cases e : i = o
      · rw [if_pos e, if_pos e]; exact ⟨rfl, rfl⟩
      · rw [if_neg e, if_neg e]; exact ⟨rfl, rfl⟩
    · cases hx
theorem ObV.famEq {s2 : St} {σ : Nat → Nat} {k : IntKind} {N : Nat} {g g' : Nat → Int} {t1 t : TypeId} (h : ∀ j, j < N → g' j = g j) : ObV s2 σ (.cells (.fam N fun j => .int k (g j)) t1) (.cells (.fam N fun j => .int k (g' j)) t) :=
  .ints fun i x hx => by
    simp only [Cells.get] at hx ⊢
    split at hx
    · rename_i hi
      simp only [Option.some.injEq] at hx
      subst hx
      rw [if_pos hi, h i hi]; exact ⟨rfl, rfl⟩
    · cases hx

theorem famList_eq (f : Nat → Value) : ∀ (n o : Nat), famList f o n = (List.range n).map fun j => f (o + j)
  | 0, o => rfl
  | n + 1, o => by
    rw [famList, famList_eq f n (o + 1), List.range_succ_eq_map, List.map_cons, List.map_map]
    refine congrArg (_ :: ·) (List.map_congr_left fun j _ => ?_)
    simp only [Function.comp]
    exact congrArg f (by omega)
theorem rowV_len (k : IntKind) (n : Nat) (g : Nat → Int) : (rowV k n g).length = n := by unfold rowV; rw [famList_eq]; simp
theorem intAt_row {k : IntKind} {n : Nat} {g : Nat → Int} {j : Nat} (h : j < n) : intAt (rowV k n g) j = g j := by
  unfold intAt
  have : getL (rowV k n g) j = .int k (g j) := by
    rw [getL_eq, rowV, famList_eq, List.getD_eq_getElem?_getD, List.getElem?_map, List.getElem?_range h]
    simp
  rw [this]
theorem rowV_of {k : IntKind} {l : List Value} {n : Nat} (hn : l.length = n) (h : l.all (isKind k) = true) : rowV k n (intAt l) = l := by
  subst hn
  unfold rowV
  rw [famList_eq]
  apply List.ext_getElem
  · simp
  · intro i h1 h2
    simp only [List.getElem_map, List.getElem_range, Nat.zero_add]
    have hk := List.all_eq_true.1 h l[i] (List.getElem_mem h2)
    have e : getL l i = l[i] := by rw [getL_eq, List.getD_eq_getElem?_getD, List.getElem?_eq_getElem h2]; rfl
    unfold intAt
    rw [e]
    revert hk
    cases l[i] <;> intro hk <;> simp [isKind] at hk
    rw [hk]
theorem rowV_congr {k : IntKind} {n : Nat} {g g' : Nat → Int} (h : ∀ j, j < n → g j = g' j) : rowV k n g = rowV k n g' := by
  unfold rowV
  rw [famList_eq, famList_eq]
  exact List.map_congr_left fun j hj => by rw [Nat.zero_add, h j (List.mem_range.1 hj)]

/-- three blocks, two, one: case by case -/
theorem lt3 {b : Nat} (h : b < 3) : b = 0 ∨ b = 1 ∨ b = 2 := by omega

end
end Go.Cln
