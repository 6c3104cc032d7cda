/- Read off the code by the clean reading. -/
import Derived.Test.YtmgnpfapigenpaaClnHe
import Derived.Test.YtmgnpfapigenpaaClnHf
import Derived.Test.YtmgnpfapigenpaaClnHg
import Derived.Test.YtmgnpfapigenpaaClnHh
import Derived.Test.YtmgnpfapigenpaaClnQc
set_option linter.unusedVariables false
set_option linter.unusedSimpArgs false
set_option linter.deprecated false
set_option maxRecDepth 100000
namespace Go.Proofs.Ytmgnpfapigenpaa
open Go.ChangeShapes Go.WideShapes Go.ChangeAt Go.RowKit Go.Cln
namespace hd
open hc hx hy hz tb tc td ha
set_option linter.unusedVariables false
noncomputable section
abbrev GT := List Int → List Int → sw.N5
def wd (K : List Int) (o n : Nat) : List Int := (K.drop o).take n
/-- Tag of one part, told -/
def FG (TG : GT) (f : FuncId) (args : List Value) (s : St) : Option Inst := if f == 12 then match args with
  | [.slice (some ⟨b, o, some 1⟩) n c, .slice (some ⟨p, 0, none⟩) 1 1] => match s.heap.get b with
    | some (.cells (.ints .u8 K) _) => match s.heap.get p with
      | some (.cells (.lit [.slice (some ⟨z, q, some 1⟩) m d]) _) => match s.heap.get z with
        | some (.cells (.ints .u8 M) _) => some ⟨[(b, o), (p, 0), (z, q)], 3, [oM (wd K o n), part (v1 2 m d), oM (wd M q m)], [v1 0 n c, ps], .tuple #[outV (TG (wd K o n) (wd M q m)), .int .i64 0], h12ii (wd K o n) n c (wd M q m) m d,
            TG = tgN ∧ Byt (wd K o n) ∧ n = (wd K o n).length ∧ 0 < n ∧ n ≤ c ∧ n ≤ 1000 ∧ Byt (wd M q m) ∧ m = (wd M q m).length ∧ 0 < m ∧ m ≤ d ∧ m ≤ 1000⟩
        | _ => none
      | some (.cells (.lit [.slice (some ⟨z, q, none⟩) 0 d]) _) => some ⟨[(b, o), (p, 0), (z, q)], 3, [oM (wd K o n), part (vs 2 0 d), none], [v1 0 n c, ps], .tuple #[outV (TG (wd K o n) []), .int .i64 0], h12ie (wd K o n) n c d,
            TG = tgN ∧ Byt (wd K o n) ∧ n = (wd K o n).length ∧ 0 < n ∧ n ≤ c ∧ n ≤ 1000⟩
      | _ => none
    | _ => none
  | [.slice (some ⟨b, o, none⟩) 0 c, .slice (some ⟨p, 0, none⟩) 1 1] => match s.heap.get p with
    | some (.cells (.lit [.slice (some ⟨z, q, some 1⟩) m d]) _) => match s.heap.get z with
      | some (.cells (.ints .u8 M) _) => some ⟨[(b, o), (p, 0), (z, q)], 3, [none, part (v1 2 m d), oM (wd M q m)], [vs 0 0 c, ps], .tuple #[outV (TG [] (wd M q m)), .int .i64 0], h12ei c (wd M q m) m d,
          TG = tgN ∧ Byt (wd M q m) ∧ m = (wd M q m).length ∧ 0 < m ∧ m ≤ d ∧ m ≤ 1000⟩
      | _ => none
    | some (.cells (.lit [.slice (some ⟨z, q, none⟩) 0 d]) _) => some ⟨[(b, o), (p, 0), (z, q)], 3, [none, part (vs 2 0 d), none], [vs 0 0 c, ps], .tuple #[outV (TG [] []), .int .i64 0], h12ee c d, TG = tgN⟩
    | _ => none
  | _ => none else none
theorem fit_part {s : St} {b o p z q m d : Nat} {g : Option Nat} {i : Inst} {tp : TypeId} {k w : Option Ob} {n c : Nat} {g0 : Option Nat}
    (hp : s.heap.get p = some (.cells (.lit [.slice (some ⟨z, q, g⟩) m d]) tp)) (hw : i.win = [(b, o), (p, 0), (z, q)]) (hh : i.heap = [k, part (.slice (some ⟨2, 0, g⟩) m d), w]) (ha : i.args = [.slice (some ⟨0, 0, g0⟩) n c, ps])
    (hk : ∀ ob, k = some ob → ∃ K tb, ob = Ob.cells (.ints .u8 ((K.drop o).take n)) 5 ∧ s.heap.get b = some (.cells (.ints .u8 K) tb))
    (hz : ∀ ob, w = some ob → ∃ M tb, ob = Ob.cells (.ints .u8 ((M.drop q).take m)) 5 ∧ s.heap.get z = some (.cells (.ints .u8 M) tb)) :
    Fits s i [.slice (some ⟨b, o, g0⟩) n c, .slice (some ⟨p, 0, none⟩) 1 1] := by
  have e0 : i.nu s.next 0 = b := by unfold Inst.nu; rw [hw]; rfl
  have e1 : i.nu s.next 1 = p := by unfold Inst.nu; rw [hw]; rfl
  have e2 : i.nu s.next 2 = z := by unfold Inst.nu; rw [hw]; rfl
  have d0 : i.del 0 = o := by unfold Inst.del; rw [hw]; rfl
  have d1 : i.del 1 = 0 := by unfold Inst.del; rw [hw]; rfl
  have d2 : i.del 2 = q := by unfold Inst.del; rw [hw]; rfl
  refine ⟨?_, fun j pp ob h1 h2 => ?_⟩
  · rw [ha]
    show [Value.slice (some ⟨b, o, g0⟩) n c, .slice (some ⟨p, 0, none⟩) 1 1] = [Value.slice (some ⟨i.nu s.next 0, addO (i.del 0) 0, g0⟩) n c, .slice (some ⟨i.nu s.next 1, addO (i.del 1) 0, none⟩) 1 1]
    rw [e0, e1, d0, d1, addO_eq]; rfl
  · rw [hw] at h1
    rw [hh] at h2
    rcases j with _ | _ | _ | j
    · simp only [List.getElem?_cons_zero, Option.some.injEq] at h1 h2
      subst h1
      obtain ⟨K, tb, rfl, hb⟩ := hk ob h2
      exact ⟨_, hb, fit_ints⟩
    · simp only [Nat.zero_add, List.getElem?_cons_succ, List.getElem?_cons_zero, Option.some.injEq] at h1
      subst h1
      simp only [part, Nat.zero_add, List.getElem?_cons_succ, List.getElem?_cons_zero, Option.some.injEq] at h2
      subst h2
      refine ⟨_, hp, fit_one (V := .slice (some ⟨z, q, g⟩) m d) rfl ?_ (by rw [hw]; rfl)⟩
      show Value.slice (some ⟨z, q, g⟩) m d = Value.slice (some ⟨i.nu s.next 2, addO (i.del 2) 0, g⟩) m d
      rw [e2, d2, addO_eq]; rfl
    · simp only [Nat.zero_add, Nat.reduceAdd, List.getElem?_cons_succ, List.getElem?_cons_zero, Option.some.injEq] at h1 h2
      subst h1
      obtain ⟨M, tb, rfl, hb⟩ := hz ob h2
      exact ⟨_, hb, fit_ints⟩
    · simp at h1
theorem FG_ok (TG : GT) (f : FuncId) (args : List Value) (s : St) (i : Inst) (h : FG TG f args s = some i) : Fits s i args ∧ (i.ask → CallOk Try.prog f i.args i.s0 i.val i.s1) := by
  unfold FG at h
  split at h
  · rename_i hf
    have hf' : f = 12 := by simpa using hf
    subst hf'
    split at h
    · rename_i b o n c p
      split at h
      · rename_i K tk hb
        split at h
        · rename_i z q m d tp hp
          split at h
          · rename_i M tm hz
            cases h
            refine ⟨fit_part hp rfl rfl rfl (fun ob e => by cases e; exact ⟨_, _, rfl, hb⟩) (fun ob e => by cases e; exact ⟨_, _, rfl, hz⟩), fun ha => ?_⟩
            obtain ⟨rfl, a1, a2, a3, a4, a5, a6, a7, a8, a9, a10⟩ := ha
            exact t12ii _ n c _ m d a1 a2 a3 a4 a5 a6 a7 a8 a9 a10
          · cases h
        · rename_i z q d tp hp
          cases h
          refine ⟨fit_part hp rfl rfl rfl (fun ob e => by cases e; exact ⟨_, _, rfl, hb⟩) (fun ob e => by cases e), fun ha => ?_⟩
          obtain ⟨rfl, a1, a2, a3, a4, a5⟩ := ha
          exact t12ie _ n c d a1 a2 a3 a4 a5
        · cases h
      · cases h
    · rename_i b o c p
      split at h
      · rename_i z q m d tp hp
        split at h
        · rename_i M tm hz
          cases h
          refine ⟨fit_part hp rfl rfl rfl (fun ob e => by cases e) (fun ob e => by cases e; exact ⟨_, _, rfl, hz⟩), fun ha => ?_⟩
          obtain ⟨rfl, a6, a7, a8, a9, a10⟩ := ha
          exact t12ei c _ m d a6 a7 a8 a9 a10
        · cases h
      · rename_i z q d tp hp
        cases h
        refine ⟨fit_part hp rfl rfl rfl (fun ob e => by cases e) (fun ob e => by cases e), fun ha => ?_⟩
        cases ha
        exact t12ee c d
      · cases h
    · cases h
  · cases h
end
end hd
end Go.Proofs.Ytmgnpfapigenpaa
namespace Go.Proofs.Ytmgnpfapigenpaa
open Go.ChangeShapes Go.WideShapes Go.ChangeAt Go.RowKit Go.Cln
namespace hd
open hc hx hy hz tb tc td ha
set_option linter.unusedVariables false
noncomputable section
def qn (TG : GT) (W : List Int) (n : Nat) : Prop := n = W.length ∧ 0 < n ∧ n ≤ 1000
/-- the document's Tag, told -/
def FH14 (TG : GT) (f : FuncId) (args : List Value) (s : St) : Option Inst := if f == 14 then match args with
  | [.slice (some ⟨b, o, none⟩) n c, .slice (some ⟨z, q, none⟩) m d] => match s.heap.get b with
    | some (.cells (.ints .u8 K) _) => match s.heap.get z with
      | some (.cells (.ints .u8 M) _) => some ⟨[(b, o), (z, q)], 2, [oM (wd K o n), oM (wd M q m)], [vs 0 n c, vs 1 m d], outV (TG (wd K o n) (wd M q m)), h14ii (wd K o n) n c (wd M q m) m d, TG = tgN ∧ qn TG (wd K o n) n ∧ qn TG (wd M q m) m⟩
      | none => if m = 0 then some ⟨[(b, o), (z, q)], 2, [oM (wd K o n), none], [vs 0 n c, vs 1 0 d], outV (TG (wd K o n) []), h14iz (wd K o n) n c d, TG = tgN ∧ qn TG (wd K o n) n⟩ else none
      | _ => none
    | none => if n = 0 then match s.heap.get z with
      | some (.cells (.ints .u8 M) _) => some ⟨[(b, o), (z, q)], 2, [none, oM (wd M q m)], [vs 0 0 c, vs 1 m d], outV (TG [] (wd M q m)), h14zi c (wd M q m) m d, TG = tgN ∧ qn TG (wd M q m) m⟩
      | none => if m = 0 then some ⟨[(b, o), (z, q)], 2, [none, none], [vs 0 0 c, vs 1 0 d], outV (TG [] []), h14zz c d, TG = tgN⟩ else none
      | _ => none else none
    | _ => none
  | [.slice (some ⟨b, o, none⟩) n c, .slice none 0 0] => match s.heap.get b with
    | some (.cells (.ints .u8 K) _) => some ⟨[(b, o)], 1, [oM (wd K o n)], [vs 0 n c, .slice none 0 0], outV (TG (wd K o n) []), h14in (wd K o n) n c, TG = tgN ∧ qn TG (wd K o n) n⟩
    | none => if n = 0 then some ⟨[(b, o)], 1, [none], [vs 0 0 c, .slice none 0 0], outV (TG [] []), h14zn c, TG = tgN⟩ else none
    | _ => none
  | [.slice none 0 0, .slice (some ⟨z, q, none⟩) m d] => match s.heap.get z with
    | some (.cells (.ints .u8 M) _) => some ⟨[(z, q)], 1, [oM (wd M q m)], [.slice none 0 0, vs 0 m d], outV (TG [] (wd M q m)), h14ni (wd M q m) m d, TG = tgN ∧ qn TG (wd M q m) m⟩
    | none => if m = 0 then some ⟨[(z, q)], 1, [none], [.slice none 0 0, vs 0 0 d], outV (TG [] []), h14nz d, TG = tgN⟩ else none
    | _ => none
  | [.slice none 0 0, .slice none 0 0] => some ⟨[], 0, [], [.slice none 0 0, .slice none 0 0], outV (TG [] []), h14nn, TG = tgN⟩
  | _ => none else none
/-- a window of rows, or nothing -/
def okW (s : St) (b o n : Nat) (k : Option Ob) : Prop := ∀ ob, k = some ob → ∃ K tb, ob = Ob.cells (.ints .u8 ((K.drop o).take n)) 5 ∧ s.heap.get b = some (.cells (.ints .u8 K) tb)
theorem fit2 {s : St} {b o z q n c m d : Nat} {i : Inst} {k w : Option Ob} (hw : i.win = [(b, o), (z, q)]) (hh : i.heap = [k, w]) (ha : i.args = [vs 0 n c, vs 1 m d]) (hk : okW s b o n k) (hz : okW s z q m w) :
    Fits s i [.slice (some ⟨b, o, none⟩) n c, .slice (some ⟨z, q, none⟩) m d] := by
  have e0 : i.nu s.next 0 = b := by unfold Inst.nu; rw [hw]; rfl
  have e2 : i.nu s.next 1 = z := by unfold Inst.nu; rw [hw]; rfl
  have d0 : i.del 0 = o := by unfold Inst.del; rw [hw]; rfl
  have d2 : i.del 1 = q := by unfold Inst.del; rw [hw]; rfl
  refine ⟨?_, fun j pp ob h1 h2 => ?_⟩
  · rw [ha]
    show [Value.slice (some ⟨b, o, none⟩) n c, .slice (some ⟨z, q, none⟩) m d] = [Value.slice (some ⟨i.nu s.next 0, addO (i.del 0) 0, none⟩) n c, .slice (some ⟨i.nu s.next 1, addO (i.del 1) 0, none⟩) m d]
    rw [e0, e2, d0, d2, addO_eq, addO_eq]; rfl
  · rw [hw] at h1
    rw [hh] at h2
    rcases j with _ | _ | j
    · simp only [List.getElem?_cons_zero, Option.some.injEq] at h1 h2
      subst h1
      obtain ⟨K, tb, rfl, hb⟩ := hk ob h2
      exact ⟨_, hb, fit_ints⟩
    · simp only [Nat.zero_add, List.getElem?_cons_succ, List.getElem?_cons_zero, Option.some.injEq] at h1 h2
      subst h1
      obtain ⟨M, tb, rfl, hb⟩ := hz ob h2
      exact ⟨_, hb, fit_ints⟩
    · simp at h1
theorem fit1a {s : St} {b o n c : Nat} {i : Inst} {k : Option Ob} (hw : i.win = [(b, o)]) (hh : i.heap = [k]) (ha : i.args = [vs 0 n c, .slice none 0 0]) (hk : okW s b o n k) : Fits s i [.slice (some ⟨b, o, none⟩) n c, .slice none 0 0] := by
  have e0 : i.nu s.next 0 = b := by unfold Inst.nu; rw [hw]; rfl
  have d0 : i.del 0 = o := by unfold Inst.del; rw [hw]; rfl
  refine ⟨?_, fun j pp ob h1 h2 => ?_⟩
  · rw [ha]
    show [Value.slice (some ⟨b, o, none⟩) n c, .slice none 0 0] = [Value.slice (some ⟨i.nu s.next 0, addO (i.del 0) 0, none⟩) n c, .slice none 0 0]
    rw [e0, d0, addO_eq]; rfl
  · rw [hw] at h1
    rw [hh] at h2
    rcases j with _ | j
    · simp only [List.getElem?_cons_zero, Option.some.injEq] at h1 h2
      subst h1
      obtain ⟨K, tb, rfl, hb⟩ := hk ob h2
      exact ⟨_, hb, fit_ints⟩
    · simp at h1
theorem fit1b {s : St} {b o n c : Nat} {i : Inst} {k : Option Ob} (hw : i.win = [(b, o)]) (hh : i.heap = [k]) (ha : i.args = [.slice none 0 0, vs 0 n c]) (hk : okW s b o n k) : Fits s i [.slice none 0 0, .slice (some ⟨b, o, none⟩) n c] := by
  have e0 : i.nu s.next 0 = b := by unfold Inst.nu; rw [hw]; rfl
  have d0 : i.del 0 = o := by unfold Inst.del; rw [hw]; rfl
  refine ⟨?_, fun j pp ob h1 h2 => ?_⟩
  · rw [ha]
    show [Value.slice none 0 0, .slice (some ⟨b, o, none⟩) n c] = [Value.slice none 0 0, Value.slice (some ⟨i.nu s.next 0, addO (i.del 0) 0, none⟩) n c]
    rw [e0, d0, addO_eq]; rfl
  · rw [hw] at h1
    rw [hh] at h2
    rcases j with _ | j
    · simp only [List.getElem?_cons_zero, Option.some.injEq] at h1 h2
      subst h1
      obtain ⟨K, tb, rfl, hb⟩ := hk ob h2
      exact ⟨_, hb, fit_ints⟩
    · simp at h1
theorem okW.ints {s : St} {b o n : Nat} {K : List Int} {tb : TypeId} (h : s.heap.get b = some (.cells (.ints .u8 K) tb)) : okW s b o n (oM (wd K o n)) := fun ob e => by cases e; exact ⟨_, _, rfl, h⟩
theorem okW.none {s : St} {b o n : Nat} : okW s b o n none := fun ob e => by cases e
theorem FH14_ok (TG : GT) (f : FuncId) (args : List Value) (s : St) (i : Inst) (h : FH14 TG f args s = some i) : Fits s i args ∧ (i.ask → CallOk Try.prog f i.args i.s0 i.val i.s1) := by
  unfold FH14 at h
  split at h
  · rename_i hf
    have hf' : f = 14 := by simpa using hf
    subst hf'
    split at h
    · rename_i b o n c z q m d
      split at h
      · rename_i K tk hb
        split at h
        · rename_i M tm hz
          cases h
          refine ⟨fit2 rfl rfl rfl (okW.ints hb) (okW.ints hz), fun ha => ?_⟩
          obtain ⟨rfl, ⟨a1, a2, a3⟩, b1, b2, b3⟩ := ha
          exact t14ii _ n c _ m d a1 a2 a3 b1 b2 b3
        · split at h
          · rename_i hm; subst hm
            cases h
            refine ⟨fit2 rfl rfl rfl (okW.ints hb) okW.none, fun ha => ?_⟩
            obtain ⟨rfl, a1, a2, a3⟩ := ha
            exact t14iz _ n c d a1 a2 a3
          · cases h
        · cases h
      · split at h
        · rename_i hn; subst hn
          split at h
          · rename_i M tm hz
            cases h
            refine ⟨fit2 rfl rfl rfl okW.none (okW.ints hz), fun ha => ?_⟩
            obtain ⟨rfl, b1, b2, b3⟩ := ha
            exact t14zi c _ m d b1 b2 b3
          · split at h
            · rename_i hm; subst hm
              cases h
              refine ⟨fit2 rfl rfl rfl okW.none okW.none, fun ha => ?_⟩
              cases ha
              exact t14zz c d
            · cases h
          · cases h
        · cases h
      · cases h
    · rename_i b o n c
      split at h
      · rename_i K tk hb
        cases h
        refine ⟨fit1a rfl rfl rfl (okW.ints hb), fun ha => ?_⟩
        obtain ⟨rfl, a1, a2, a3⟩ := ha
        exact t14in _ n c a1 a2 a3
      · split at h
        · rename_i hn; subst hn
          cases h
          refine ⟨fit1a rfl rfl rfl okW.none, fun ha => ?_⟩
          cases ha
          exact t14zn c
        · cases h
      · cases h
    · rename_i z q m d
      split at h
      · rename_i M tm hz
        cases h
        refine ⟨fit1b rfl rfl rfl (okW.ints hz), fun ha => ?_⟩
        obtain ⟨rfl, b1, b2, b3⟩ := ha
        exact t14ni _ m d b1 b2 b3
      · split at h
        · rename_i hm; subst hm
          cases h
          refine ⟨fit1b rfl rfl rfl okW.none, fun ha => ?_⟩
          cases ha
          exact t14nz d
        · cases h
      · cases h
    · cases h
      refine ⟨⟨rfl, fun j p ob hp ho => by simp at hp⟩, fun ha => ?_⟩
      cases ha
      exact t14nn
    · cases h
  · cases h
end
end hd
end Go.Proofs.Ytmgnpfapigenpaa
namespace Go.Proofs.Ytmgnpfapigenpaa
open Go.ChangeShapes Go.WideShapes Go.ChangeAt Go.RowKit Go.Cln
namespace hd
open hc hx hy hz tb tc td ha
set_option linter.unusedVariables false
noncomputable section
def F4 (TG : GT) (f : FuncId) (args : List Value) (s : St) : Option Inst := match FG TG f args s with
  | some i => some i
  | none => match FH14 TG f args s with
    | some i => some i
    | none => FE kb f args s
theorem F4_ok (TG : GT) (f : FuncId) (args : List Value) (s : St) (i : Inst) (h : F4 TG f args s = some i) : Fits s i args ∧ (i.ask → CallOk Try.prog f i.args i.s0 i.val i.s1) := by
  unfold F4 at h
  split at h
  · rename_i j h1
    cases h; exact FG_ok TG f args s _ h1
  · split at h
    · rename_i j h1
      cases h; exact FH14_ok TG f args s _ h1
    · exact FE_ok kb f args s _ h
def K4 (TG : GT) : Given := { Given.frames Given.nothing (F4 TG) with fits := true }
theorem K4_ok (TG : GT) : GivenOk Try.prog (K4 TG) := frames_fits ((GivenOk.nothing _).frames (F4_ok TG)) true
def rL (TG : GT) (x y : Value) (h : List (Option Ob)) (o : List (Option Bool)) : Option (Value × St) := (mk Try.prog (K4 TG) 300).call 4 [x, y] (smSt h.length h o)
end
end hd
end Go.Proofs.Ytmgnpfapigenpaa
namespace Go.Proofs.Ytmgnpfapigenpaa
open Go.ChangeShapes Go.WideShapes Go.ChangeAt Go.RowKit Go.Cln
namespace hd
open hc hx hy hz tb tc td ha
set_option linter.unusedVariables false
noncomputable section
noncomputable def oLii : List (Option Bool) := [none, none, some false, none, none, none, some false, none, none, none, some false, some false, none, none, none, none, none, none, none, none, none, some true, some true, some true, some true, some true, some true, some true, some true, some true, some true, some true, some true, some true, some true, some true, some true, some true, some true, some true, some true, none, none, none, none, none, none, none, none, none, none, none, none, none, none, none, none, none, none, none, none, none, none, none, none, none, none, none, none, none, none, none, none, none, none, none, none, none, none, none, none, none, none, none, none, none, none, none, none, none, none, none, none, none, none, none, some true, some true, some true, some true, some true, some true, some true, some true, some true, some true, some true, some true, none, none, none, none, none, none, none, some true, some true, some true, some true, some true, some true, some true, some true]
noncomputable def pLii (TG : GT) (K : List Int) (n : Nat) (c : Nat) (M : List Int) (m : Nat) (d : Nat) : Prop := (((((((((((((((((((((((((((((((((((((((((((((((((((((((True ∧ ((decide (500 < (nI n))) = false)) ∧ ((decide (500 < (nI m))) = false)) ∧ ((decide ((0 + n) ≤ 0)) = false)) ∧ (((0 + n) ≤ K.length) ∧ ((0 ≤ 0) ∧ ((((0 + n) * 1) ≤ mostBytes) ∧ ((0 + n) ≤ mostBytes))))) ∧ ((decide ((0 + m) ≤ 0)) = false)) ∧ (((0 + m) ≤ M.length) ∧ ((0 ≤ 0) ∧ ((((0 + m) * 1) ≤ mostBytes) ∧ ((0 + m) ≤ mostBytes))))) ∧ ((TG = tgN) ∧ ((Byt (wd (List.take n K) 0 (0 + n))) ∧ (((0 + n) = (wd (List.take n K) 0 (0 + n)).length) ∧ ((0 < (0 + n)) ∧ (((0 + n) ≤ (0 + n)) ∧ (((0 + n) ≤ 1000) ∧ ((Byt (wd (List.take m M) 0 (0 + m))) ∧ (((0 + m) = (wd (List.take m M) 0 (0 + m)).length) ∧ ((0 < (0 + m)) ∧ (((0 + m) ≤ (0 + m)) ∧ ((0 + m) ≤ 1000)))))))))))) ∧ ((TG = tgN) ∧ ((Byt (wd (List.take n K) 0 (0 + n))) ∧ (((0 + n) = (wd (List.take n K) 0 (0 + n)).length) ∧ ((0 < (0 + n)) ∧ (((0 + n) ≤ (0 + n)) ∧ (((0 + n) ≤ 1000) ∧ ((Byt (wd (List.take m M) 0 (0 + m))) ∧ (((0 + m) = (wd (List.take m M) 0 (0 + m)).length) ∧ ((0 < (0 + m)) ∧ (((0 + m) ≤ (0 + m)) ∧ ((0 + m) ≤ 1000)))))))))))) ∧ ((TG = tgN) ∧ ((qn TG (wd K 0 n) n) ∧ (qn TG (wd M 0 m) m)))) ∧ ((decide ((by8 (TG (wd (List.take n K) 0 (0 + n)) (wd (List.take m M) 0 (0 + m))).a 3) = (by8 (TG (wd K 0 n) (wd M 0 m)).a 3))) = true)) ∧ ((decide ((by8 (TG (wd (List.take n K) 0 (0 + n)) (wd (List.take m M) 0 (0 + m))).a 2) = (by8 (TG (wd K 0 n) (wd M 0 m)).a 2))) = true)) ∧ ((decide ((by8 (TG (wd (List.take n K) 0 (0 + n)) (wd (List.take m M) 0 (0 + m))).a 1) = (by8 (TG (wd K 0 n) (wd M 0 m)).a 1))) = true)) ∧ ((decide ((by8 (TG (wd (List.take n K) 0 (0 + n)) (wd (List.take m M) 0 (0 + m))).a 0) = (by8 (TG (wd K 0 n) (wd M 0 m)).a 0))) = true)) ∧ ((decide ((by8 (TG (wd (List.take n K) 0 (0 + n)) (wd (List.take m M) 0 (0 + m))).b 3) = (by8 (TG (wd K 0 n) (wd M 0 m)).b 3))) = true)) ∧ ((decide ((by8 (TG (wd (List.take n K) 0 (0 + n)) (wd (List.take m M) 0 (0 + m))).b 2) = (by8 (TG (wd K 0 n) (wd M 0 m)).b 2))) = true)) ∧ ((decide ((by8 (TG (wd (List.take n K) 0 (0 + n)) (wd (List.take m M) 0 (0 + m))).b 1) = (by8 (TG (wd K 0 n) (wd M 0 m)).b 1))) = true)) ∧ ((decide ((by8 (TG (wd (List.take n K) 0 (0 + n)) (wd (List.take m M) 0 (0 + m))).b 0) = (by8 (TG (wd K 0 n) (wd M 0 m)).b 0))) = true)) ∧ ((decide ((by8 (TG (wd (List.take n K) 0 (0 + n)) (wd (List.take m M) 0 (0 + m))).c 3) = (by8 (TG (wd K 0 n) (wd M 0 m)).c 3))) = true)) ∧ ((decide ((by8 (TG (wd (List.take n K) 0 (0 + n)) (wd (List.take m M) 0 (0 + m))).c 2) = (by8 (TG (wd K 0 n) (wd M 0 m)).c 2))) = true)) ∧ ((decide ((by8 (TG (wd (List.take n K) 0 (0 + n)) (wd (List.take m M) 0 (0 + m))).c 1) = (by8 (TG (wd K 0 n) (wd M 0 m)).c 1))) = true)) ∧ ((decide ((by8 (TG (wd (List.take n K) 0 (0 + n)) (wd (List.take m M) 0 (0 + m))).c 0) = (by8 (TG (wd K 0 n) (wd M 0 m)).c 0))) = true)) ∧ ((decide ((by8 (TG (wd (List.take n K) 0 (0 + n)) (wd (List.take m M) 0 (0 + m))).d 3) = (by8 (TG (wd K 0 n) (wd M 0 m)).d 3))) = true)) ∧ ((decide ((by8 (TG (wd (List.take n K) 0 (0 + n)) (wd (List.take m M) 0 (0 + m))).d 2) = (by8 (TG (wd K 0 n) (wd M 0 m)).d 2))) = true)) ∧ ((decide ((by8 (TG (wd (List.take n K) 0 (0 + n)) (wd (List.take m M) 0 (0 + m))).d 1) = (by8 (TG (wd K 0 n) (wd M 0 m)).d 1))) = true)) ∧ ((decide ((by8 (TG (wd (List.take n K) 0 (0 + n)) (wd (List.take m M) 0 (0 + m))).d 0) = (by8 (TG (wd K 0 n) (wd M 0 m)).d 0))) = true)) ∧ ((decide ((by8 (TG (wd (List.take n K) 0 (0 + n)) (wd (List.take m M) 0 (0 + m))).e 3) = (by8 (TG (wd K 0 n) (wd M 0 m)).e 3))) = true)) ∧ ((decide ((by8 (TG (wd (List.take n K) 0 (0 + n)) (wd (List.take m M) 0 (0 + m))).e 2) = (by8 (TG (wd K 0 n) (wd M 0 m)).e 2))) = true)) ∧ ((decide ((by8 (TG (wd (List.take n K) 0 (0 + n)) (wd (List.take m M) 0 (0 + m))).e 1) = (by8 (TG (wd K 0 n) (wd M 0 m)).e 1))) = true)) ∧ ((decide ((by8 (TG (wd (List.take n K) 0 (0 + n)) (wd (List.take m M) 0 (0 + m))).e 0) = (by8 (TG (wd K 0 n) (wd M 0 m)).e 0))) = true)) ∧ ((TG = tgN) ∧ ((qn TG (wd K 0 n) n) ∧ (qn TG (wd M 0 m) m)))) ∧ ((decide ((by8 (TG (wd (List.take n K) 0 (0 + n)) (wd (List.take m M) 0 (0 + m))).a 3) = (by8 (TG (wd K 0 n) (wd M 0 m)).a 3))) = true)) ∧ ((decide ((by8 (TG (wd (List.take n K) 0 (0 + n)) (wd (List.take m M) 0 (0 + m))).a 2) = (by8 (TG (wd K 0 n) (wd M 0 m)).a 2))) = true)) ∧ ((decide ((by8 (TG (wd (List.take n K) 0 (0 + n)) (wd (List.take m M) 0 (0 + m))).a 1) = (by8 (TG (wd K 0 n) (wd M 0 m)).a 1))) = true)) ∧ ((decide ((by8 (TG (wd (List.take n K) 0 (0 + n)) (wd (List.take m M) 0 (0 + m))).a 0) = (by8 (TG (wd K 0 n) (wd M 0 m)).a 0))) = true)) ∧ ((decide ((by8 (TG (wd (List.take n K) 0 (0 + n)) (wd (List.take m M) 0 (0 + m))).b 3) = (by8 (TG (wd K 0 n) (wd M 0 m)).b 3))) = true)) ∧ ((decide ((by8 (TG (wd (List.take n K) 0 (0 + n)) (wd (List.take m M) 0 (0 + m))).b 2) = (by8 (TG (wd K 0 n) (wd M 0 m)).b 2))) = true)) ∧ ((decide ((by8 (TG (wd (List.take n K) 0 (0 + n)) (wd (List.take m M) 0 (0 + m))).b 1) = (by8 (TG (wd K 0 n) (wd M 0 m)).b 1))) = true)) ∧ ((decide ((by8 (TG (wd (List.take n K) 0 (0 + n)) (wd (List.take m M) 0 (0 + m))).b 0) = (by8 (TG (wd K 0 n) (wd M 0 m)).b 0))) = true)) ∧ ((decide ((by8 (TG (wd (List.take n K) 0 (0 + n)) (wd (List.take m M) 0 (0 + m))).c 3) = (by8 (TG (wd K 0 n) (wd M 0 m)).c 3))) = true)) ∧ ((decide ((by8 (TG (wd (List.take n K) 0 (0 + n)) (wd (List.take m M) 0 (0 + m))).c 2) = (by8 (TG (wd K 0 n) (wd M 0 m)).c 2))) = true)) ∧ ((decide ((by8 (TG (wd (List.take n K) 0 (0 + n)) (wd (List.take m M) 0 (0 + m))).c 1) = (by8 (TG (wd K 0 n) (wd M 0 m)).c 1))) = true)) ∧ ((decide ((by8 (TG (wd (List.take n K) 0 (0 + n)) (wd (List.take m M) 0 (0 + m))).c 0) = (by8 (TG (wd K 0 n) (wd M 0 m)).c 0))) = true)) ∧ ((0 + (0 + n)) ≤ (List.take n K).length)) ∧ ((0 + n) ≤ K.length)) ∧ ((beqB (bytesI (List.take (0 + n) (List.take n K))).toList (bytesI (List.take n K)).toList) = true)) ∧ ((beqB (bytesI (List.take (0 + n) (List.take n K))).toList (bytesI (List.take n K)).toList) = true)) ∧ ((0 + (0 + m)) ≤ (List.take m M).length)) ∧ ((beqB (bytesI (List.take (0 + n) (List.take n K))).toList (bytesI (List.take n K)).toList) = true)) ∧ ((beqB (bytesI (List.take (0 + n) (List.take n K))).toList (bytesI (List.take n K)).toList) = true)) ∧ ((0 + m) ≤ M.length)) ∧ ((beqB (bytesI (List.take (0 + n) (List.take n K))).toList (bytesI (List.take n K)).toList) = true)) ∧ ((beqB (bytesI (List.take (0 + n) (List.take n K))).toList (bytesI (List.take n K)).toList) = true)) ∧ ((beqB (bytesI (List.take (0 + m) (List.take m M))).toList (bytesI (List.take m M)).toList) = true)) ∧ True) ∧ ((beqB (bytesI (List.take (0 + m) (List.take m M))).toList (bytesI (List.take m M)).toList) = true))
theorem runLii (TG : GT) (K : List Int) (n : Nat) (c : Nat) (M : List Int) (m : Nat) (d : Nat) : (rL TG (vs 0 n c) (vs 1 m d) [oM K, oM M] oLii).map (fun r => (r.1, r.2.obl)) = some (.bool true, pLii TG K n c M m d) := by kernel_rfl
noncomputable def oLin : List (Option Bool) := [none, none, some false, none, none, none, none, none, none, none, some false, none, none, none, none, none, none, none, none, none, some true, some true, some true, some true, some true, some true, some true, some true, some true, some true, some true, some true, some true, some true, some true, some true, some true, some true, some true, some true, none, none, none, none, none, none, none, none, none, none, none, none, none, none, none, none, none, none, none, none, none, none, none, none, none, none, none, none, none, none, none, none, none, none, none, none, none, none, none, none, none, none, none, none, none, none, none, none, none, none, none, none, none, none, none, some true, some true, some true, some true, some true, some true, some true, some true, some true, some true, some true, some true, none, none, none, none, none, none, none, some true, some true, some true, some true, some true, some true]
noncomputable def pLin (TG : GT) (K : List Int) (n : Nat) (c : Nat) : Prop := ((((((((((((((((((((((((((((((((((((((((((((((((True ∧ ((decide (500 < (nI n))) = false)) ∧ ((decide ((0 + n) ≤ 0)) = false)) ∧ (((0 + n) ≤ K.length) ∧ ((0 ≤ 0) ∧ ((((0 + n) * 1) ≤ mostBytes) ∧ ((0 + n) ≤ mostBytes))))) ∧ ((TG = tgN) ∧ ((Byt (wd (List.take n K) 0 (0 + n))) ∧ (((0 + n) = (wd (List.take n K) 0 (0 + n)).length) ∧ ((0 < (0 + n)) ∧ (((0 + n) ≤ (0 + n)) ∧ ((0 + n) ≤ 1000))))))) ∧ ((TG = tgN) ∧ ((Byt (wd (List.take n K) 0 (0 + n))) ∧ (((0 + n) = (wd (List.take n K) 0 (0 + n)).length) ∧ ((0 < (0 + n)) ∧ (((0 + n) ≤ (0 + n)) ∧ ((0 + n) ≤ 1000))))))) ∧ ((TG = tgN) ∧ (qn TG (wd K 0 n) n))) ∧ ((decide ((by8 (TG (wd (List.take n K) 0 (0 + n)) []).a 3) = (by8 (TG (wd K 0 n) []).a 3))) = true)) ∧ ((decide ((by8 (TG (wd (List.take n K) 0 (0 + n)) []).a 2) = (by8 (TG (wd K 0 n) []).a 2))) = true)) ∧ ((decide ((by8 (TG (wd (List.take n K) 0 (0 + n)) []).a 1) = (by8 (TG (wd K 0 n) []).a 1))) = true)) ∧ ((decide ((by8 (TG (wd (List.take n K) 0 (0 + n)) []).a 0) = (by8 (TG (wd K 0 n) []).a 0))) = true)) ∧ ((decide ((by8 (TG (wd (List.take n K) 0 (0 + n)) []).b 3) = (by8 (TG (wd K 0 n) []).b 3))) = true)) ∧ ((decide ((by8 (TG (wd (List.take n K) 0 (0 + n)) []).b 2) = (by8 (TG (wd K 0 n) []).b 2))) = true)) ∧ ((decide ((by8 (TG (wd (List.take n K) 0 (0 + n)) []).b 1) = (by8 (TG (wd K 0 n) []).b 1))) = true)) ∧ ((decide ((by8 (TG (wd (List.take n K) 0 (0 + n)) []).b 0) = (by8 (TG (wd K 0 n) []).b 0))) = true)) ∧ ((decide ((by8 (TG (wd (List.take n K) 0 (0 + n)) []).c 3) = (by8 (TG (wd K 0 n) []).c 3))) = true)) ∧ ((decide ((by8 (TG (wd (List.take n K) 0 (0 + n)) []).c 2) = (by8 (TG (wd K 0 n) []).c 2))) = true)) ∧ ((decide ((by8 (TG (wd (List.take n K) 0 (0 + n)) []).c 1) = (by8 (TG (wd K 0 n) []).c 1))) = true)) ∧ ((decide ((by8 (TG (wd (List.take n K) 0 (0 + n)) []).c 0) = (by8 (TG (wd K 0 n) []).c 0))) = true)) ∧ ((decide ((by8 (TG (wd (List.take n K) 0 (0 + n)) []).d 3) = (by8 (TG (wd K 0 n) []).d 3))) = true)) ∧ ((decide ((by8 (TG (wd (List.take n K) 0 (0 + n)) []).d 2) = (by8 (TG (wd K 0 n) []).d 2))) = true)) ∧ ((decide ((by8 (TG (wd (List.take n K) 0 (0 + n)) []).d 1) = (by8 (TG (wd K 0 n) []).d 1))) = true)) ∧ ((decide ((by8 (TG (wd (List.take n K) 0 (0 + n)) []).d 0) = (by8 (TG (wd K 0 n) []).d 0))) = true)) ∧ ((decide ((by8 (TG (wd (List.take n K) 0 (0 + n)) []).e 3) = (by8 (TG (wd K 0 n) []).e 3))) = true)) ∧ ((decide ((by8 (TG (wd (List.take n K) 0 (0 + n)) []).e 2) = (by8 (TG (wd K 0 n) []).e 2))) = true)) ∧ ((decide ((by8 (TG (wd (List.take n K) 0 (0 + n)) []).e 1) = (by8 (TG (wd K 0 n) []).e 1))) = true)) ∧ ((decide ((by8 (TG (wd (List.take n K) 0 (0 + n)) []).e 0) = (by8 (TG (wd K 0 n) []).e 0))) = true)) ∧ ((TG = tgN) ∧ (qn TG (wd K 0 n) n))) ∧ ((decide ((by8 (TG (wd (List.take n K) 0 (0 + n)) []).a 3) = (by8 (TG (wd K 0 n) []).a 3))) = true)) ∧ ((decide ((by8 (TG (wd (List.take n K) 0 (0 + n)) []).a 2) = (by8 (TG (wd K 0 n) []).a 2))) = true)) ∧ ((decide ((by8 (TG (wd (List.take n K) 0 (0 + n)) []).a 1) = (by8 (TG (wd K 0 n) []).a 1))) = true)) ∧ ((decide ((by8 (TG (wd (List.take n K) 0 (0 + n)) []).a 0) = (by8 (TG (wd K 0 n) []).a 0))) = true)) ∧ ((decide ((by8 (TG (wd (List.take n K) 0 (0 + n)) []).b 3) = (by8 (TG (wd K 0 n) []).b 3))) = true)) ∧ ((decide ((by8 (TG (wd (List.take n K) 0 (0 + n)) []).b 2) = (by8 (TG (wd K 0 n) []).b 2))) = true)) ∧ ((decide ((by8 (TG (wd (List.take n K) 0 (0 + n)) []).b 1) = (by8 (TG (wd K 0 n) []).b 1))) = true)) ∧ ((decide ((by8 (TG (wd (List.take n K) 0 (0 + n)) []).b 0) = (by8 (TG (wd K 0 n) []).b 0))) = true)) ∧ ((decide ((by8 (TG (wd (List.take n K) 0 (0 + n)) []).c 3) = (by8 (TG (wd K 0 n) []).c 3))) = true)) ∧ ((decide ((by8 (TG (wd (List.take n K) 0 (0 + n)) []).c 2) = (by8 (TG (wd K 0 n) []).c 2))) = true)) ∧ ((decide ((by8 (TG (wd (List.take n K) 0 (0 + n)) []).c 1) = (by8 (TG (wd K 0 n) []).c 1))) = true)) ∧ ((decide ((by8 (TG (wd (List.take n K) 0 (0 + n)) []).c 0) = (by8 (TG (wd K 0 n) []).c 0))) = true)) ∧ ((0 + (0 + n)) ≤ (List.take n K).length)) ∧ ((0 + n) ≤ K.length)) ∧ ((beqB (bytesI (List.take (0 + n) (List.take n K))).toList (bytesI (List.take n K)).toList) = true)) ∧ ((beqB (bytesI (List.take (0 + n) (List.take n K))).toList (bytesI (List.take n K)).toList) = true)) ∧ ((beqB (bytesI (List.take (0 + n) (List.take n K))).toList (bytesI (List.take n K)).toList) = true)) ∧ ((beqB (bytesI (List.take (0 + n) (List.take n K))).toList (bytesI (List.take n K)).toList) = true)) ∧ ((beqB (bytesI (List.take (0 + n) (List.take n K))).toList (bytesI (List.take n K)).toList) = true)) ∧ ((beqB (bytesI (List.take (0 + n) (List.take n K))).toList (bytesI (List.take n K)).toList) = true)) ∧ True)
theorem runLin (TG : GT) (K : List Int) (n : Nat) (c : Nat) : (rL TG (vs 0 n c) (.slice none 0 0) [oM K] oLin).map (fun r => (r.1, r.2.obl)) = some (.bool true, pLin TG K n c) := by kernel_rfl
noncomputable def oLiz : List (Option Bool) := [none, none, some false, none, none, none, none, none, none, none, some false, none, none, none, none, none, none, none, none, none, some true, some true, some true, some true, some true, some true, some true, some true, some true, some true, some true, some true, some true, some true, some true, some true, some true, some true, some true, some true, none, none, none, none, none, none, none, none, none, none, none, none, none, none, none, none, none, none, none, none, none, none, none, none, none, none, none, none, none, none, none, none, none, none, none, none, none, none, none, none, none, none, none, none, none, none, none, none, none, none, none, none, none, none, none, some true, some true, some true, some true, some true, some true, some true, some true, some true, some true, some true, some true, none, none, none, none, none, none, none, some true, some true, some true, some true, some true, some true]
noncomputable def pLiz (TG : GT) (K : List Int) (n : Nat) (c : Nat) (d : Nat) : Prop := ((((((((((((((((((((((((((((((((((((((((((((((((True ∧ ((decide (500 < (nI n))) = false)) ∧ ((decide ((0 + n) ≤ 0)) = false)) ∧ (((0 + n) ≤ K.length) ∧ ((0 ≤ 0) ∧ ((((0 + n) * 1) ≤ mostBytes) ∧ ((0 + n) ≤ mostBytes))))) ∧ ((TG = tgN) ∧ ((Byt (wd (List.take n K) 0 (0 + n))) ∧ (((0 + n) = (wd (List.take n K) 0 (0 + n)).length) ∧ ((0 < (0 + n)) ∧ (((0 + n) ≤ (0 + n)) ∧ ((0 + n) ≤ 1000))))))) ∧ ((TG = tgN) ∧ ((Byt (wd (List.take n K) 0 (0 + n))) ∧ (((0 + n) = (wd (List.take n K) 0 (0 + n)).length) ∧ ((0 < (0 + n)) ∧ (((0 + n) ≤ (0 + n)) ∧ ((0 + n) ≤ 1000))))))) ∧ ((TG = tgN) ∧ (qn TG (wd K 0 n) n))) ∧ ((decide ((by8 (TG (wd (List.take n K) 0 (0 + n)) []).a 3) = (by8 (TG (wd K 0 n) []).a 3))) = true)) ∧ ((decide ((by8 (TG (wd (List.take n K) 0 (0 + n)) []).a 2) = (by8 (TG (wd K 0 n) []).a 2))) = true)) ∧ ((decide ((by8 (TG (wd (List.take n K) 0 (0 + n)) []).a 1) = (by8 (TG (wd K 0 n) []).a 1))) = true)) ∧ ((decide ((by8 (TG (wd (List.take n K) 0 (0 + n)) []).a 0) = (by8 (TG (wd K 0 n) []).a 0))) = true)) ∧ ((decide ((by8 (TG (wd (List.take n K) 0 (0 + n)) []).b 3) = (by8 (TG (wd K 0 n) []).b 3))) = true)) ∧ ((decide ((by8 (TG (wd (List.take n K) 0 (0 + n)) []).b 2) = (by8 (TG (wd K 0 n) []).b 2))) = true)) ∧ ((decide ((by8 (TG (wd (List.take n K) 0 (0 + n)) []).b 1) = (by8 (TG (wd K 0 n) []).b 1))) = true)) ∧ ((decide ((by8 (TG (wd (List.take n K) 0 (0 + n)) []).b 0) = (by8 (TG (wd K 0 n) []).b 0))) = true)) ∧ ((decide ((by8 (TG (wd (List.take n K) 0 (0 + n)) []).c 3) = (by8 (TG (wd K 0 n) []).c 3))) = true)) ∧ ((decide ((by8 (TG (wd (List.take n K) 0 (0 + n)) []).c 2) = (by8 (TG (wd K 0 n) []).c 2))) = true)) ∧ ((decide ((by8 (TG (wd (List.take n K) 0 (0 + n)) []).c 1) = (by8 (TG (wd K 0 n) []).c 1))) = true)) ∧ ((decide ((by8 (TG (wd (List.take n K) 0 (0 + n)) []).c 0) = (by8 (TG (wd K 0 n) []).c 0))) = true)) ∧ ((decide ((by8 (TG (wd (List.take n K) 0 (0 + n)) []).d 3) = (by8 (TG (wd K 0 n) []).d 3))) = true)) ∧ ((decide ((by8 (TG (wd (List.take n K) 0 (0 + n)) []).d 2) = (by8 (TG (wd K 0 n) []).d 2))) = true)) ∧ ((decide ((by8 (TG (wd (List.take n K) 0 (0 + n)) []).d 1) = (by8 (TG (wd K 0 n) []).d 1))) = true)) ∧ ((decide ((by8 (TG (wd (List.take n K) 0 (0 + n)) []).d 0) = (by8 (TG (wd K 0 n) []).d 0))) = true)) ∧ ((decide ((by8 (TG (wd (List.take n K) 0 (0 + n)) []).e 3) = (by8 (TG (wd K 0 n) []).e 3))) = true)) ∧ ((decide ((by8 (TG (wd (List.take n K) 0 (0 + n)) []).e 2) = (by8 (TG (wd K 0 n) []).e 2))) = true)) ∧ ((decide ((by8 (TG (wd (List.take n K) 0 (0 + n)) []).e 1) = (by8 (TG (wd K 0 n) []).e 1))) = true)) ∧ ((decide ((by8 (TG (wd (List.take n K) 0 (0 + n)) []).e 0) = (by8 (TG (wd K 0 n) []).e 0))) = true)) ∧ ((TG = tgN) ∧ (qn TG (wd K 0 n) n))) ∧ ((decide ((by8 (TG (wd (List.take n K) 0 (0 + n)) []).a 3) = (by8 (TG (wd K 0 n) []).a 3))) = true)) ∧ ((decide ((by8 (TG (wd (List.take n K) 0 (0 + n)) []).a 2) = (by8 (TG (wd K 0 n) []).a 2))) = true)) ∧ ((decide ((by8 (TG (wd (List.take n K) 0 (0 + n)) []).a 1) = (by8 (TG (wd K 0 n) []).a 1))) = true)) ∧ ((decide ((by8 (TG (wd (List.take n K) 0 (0 + n)) []).a 0) = (by8 (TG (wd K 0 n) []).a 0))) = true)) ∧ ((decide ((by8 (TG (wd (List.take n K) 0 (0 + n)) []).b 3) = (by8 (TG (wd K 0 n) []).b 3))) = true)) ∧ ((decide ((by8 (TG (wd (List.take n K) 0 (0 + n)) []).b 2) = (by8 (TG (wd K 0 n) []).b 2))) = true)) ∧ ((decide ((by8 (TG (wd (List.take n K) 0 (0 + n)) []).b 1) = (by8 (TG (wd K 0 n) []).b 1))) = true)) ∧ ((decide ((by8 (TG (wd (List.take n K) 0 (0 + n)) []).b 0) = (by8 (TG (wd K 0 n) []).b 0))) = true)) ∧ ((decide ((by8 (TG (wd (List.take n K) 0 (0 + n)) []).c 3) = (by8 (TG (wd K 0 n) []).c 3))) = true)) ∧ ((decide ((by8 (TG (wd (List.take n K) 0 (0 + n)) []).c 2) = (by8 (TG (wd K 0 n) []).c 2))) = true)) ∧ ((decide ((by8 (TG (wd (List.take n K) 0 (0 + n)) []).c 1) = (by8 (TG (wd K 0 n) []).c 1))) = true)) ∧ ((decide ((by8 (TG (wd (List.take n K) 0 (0 + n)) []).c 0) = (by8 (TG (wd K 0 n) []).c 0))) = true)) ∧ ((0 + (0 + n)) ≤ (List.take n K).length)) ∧ ((0 + n) ≤ K.length)) ∧ ((beqB (bytesI (List.take (0 + n) (List.take n K))).toList (bytesI (List.take n K)).toList) = true)) ∧ ((beqB (bytesI (List.take (0 + n) (List.take n K))).toList (bytesI (List.take n K)).toList) = true)) ∧ ((beqB (bytesI (List.take (0 + n) (List.take n K))).toList (bytesI (List.take n K)).toList) = true)) ∧ ((beqB (bytesI (List.take (0 + n) (List.take n K))).toList (bytesI (List.take n K)).toList) = true)) ∧ ((beqB (bytesI (List.take (0 + n) (List.take n K))).toList (bytesI (List.take n K)).toList) = true)) ∧ ((beqB (bytesI (List.take (0 + n) (List.take n K))).toList (bytesI (List.take n K)).toList) = true)) ∧ True)
theorem runLiz (TG : GT) (K : List Int) (n : Nat) (c : Nat) (d : Nat) : (rL TG (vs 0 n c) (vs 1 0 d) [oM K, none] oLiz).map (fun r => (r.1, r.2.obl)) = some (.bool true, pLiz TG K n c d) := by kernel_rfl
noncomputable def oLni : List (Option Bool) := [none, none, none, none, none, none, some false, none, none, none, some false, none, none, none, none, none, none, none, none, none, some true, some true, some true, some true, some true, some true, some true, some true, some true, some true, some true, some true, some true, some true, some true, some true, some true, some true, some true, some true, none, none, none, none, none, none, none, none, none, none, none, none, none, none, none, none, none, none, none, none, none, none, none, none, none, none, none, none, none, none, none, none, none, none, none, none, none, none, none, none, none, none, none, none, none, none, none, none, none, none, none, none, none, none, none, some true, some true, some true, some true, some true, some true, some true, some true, some true, some true, some true, some true, none, none, none, none, none, none, none, none, none, none, none, none, none, some true, some true]
noncomputable def pLni (TG : GT) (M : List Int) (m : Nat) (d : Nat) : Prop := ((((((((((((((((((((((((((((((((((((((((((((True ∧ ((decide (500 < (nI m))) = false)) ∧ ((decide ((0 + m) ≤ 0)) = false)) ∧ (((0 + m) ≤ M.length) ∧ ((0 ≤ 0) ∧ ((((0 + m) * 1) ≤ mostBytes) ∧ ((0 + m) ≤ mostBytes))))) ∧ ((TG = tgN) ∧ ((Byt (wd (List.take m M) 0 (0 + m))) ∧ (((0 + m) = (wd (List.take m M) 0 (0 + m)).length) ∧ ((0 < (0 + m)) ∧ (((0 + m) ≤ (0 + m)) ∧ ((0 + m) ≤ 1000))))))) ∧ ((TG = tgN) ∧ ((Byt (wd (List.take m M) 0 (0 + m))) ∧ (((0 + m) = (wd (List.take m M) 0 (0 + m)).length) ∧ ((0 < (0 + m)) ∧ (((0 + m) ≤ (0 + m)) ∧ ((0 + m) ≤ 1000))))))) ∧ ((TG = tgN) ∧ (qn TG (wd M 0 m) m))) ∧ ((decide ((by8 (TG [] (wd (List.take m M) 0 (0 + m))).a 3) = (by8 (TG [] (wd M 0 m)).a 3))) = true)) ∧ ((decide ((by8 (TG [] (wd (List.take m M) 0 (0 + m))).a 2) = (by8 (TG [] (wd M 0 m)).a 2))) = true)) ∧ ((decide ((by8 (TG [] (wd (List.take m M) 0 (0 + m))).a 1) = (by8 (TG [] (wd M 0 m)).a 1))) = true)) ∧ ((decide ((by8 (TG [] (wd (List.take m M) 0 (0 + m))).a 0) = (by8 (TG [] (wd M 0 m)).a 0))) = true)) ∧ ((decide ((by8 (TG [] (wd (List.take m M) 0 (0 + m))).b 3) = (by8 (TG [] (wd M 0 m)).b 3))) = true)) ∧ ((decide ((by8 (TG [] (wd (List.take m M) 0 (0 + m))).b 2) = (by8 (TG [] (wd M 0 m)).b 2))) = true)) ∧ ((decide ((by8 (TG [] (wd (List.take m M) 0 (0 + m))).b 1) = (by8 (TG [] (wd M 0 m)).b 1))) = true)) ∧ ((decide ((by8 (TG [] (wd (List.take m M) 0 (0 + m))).b 0) = (by8 (TG [] (wd M 0 m)).b 0))) = true)) ∧ ((decide ((by8 (TG [] (wd (List.take m M) 0 (0 + m))).c 3) = (by8 (TG [] (wd M 0 m)).c 3))) = true)) ∧ ((decide ((by8 (TG [] (wd (List.take m M) 0 (0 + m))).c 2) = (by8 (TG [] (wd M 0 m)).c 2))) = true)) ∧ ((decide ((by8 (TG [] (wd (List.take m M) 0 (0 + m))).c 1) = (by8 (TG [] (wd M 0 m)).c 1))) = true)) ∧ ((decide ((by8 (TG [] (wd (List.take m M) 0 (0 + m))).c 0) = (by8 (TG [] (wd M 0 m)).c 0))) = true)) ∧ ((decide ((by8 (TG [] (wd (List.take m M) 0 (0 + m))).d 3) = (by8 (TG [] (wd M 0 m)).d 3))) = true)) ∧ ((decide ((by8 (TG [] (wd (List.take m M) 0 (0 + m))).d 2) = (by8 (TG [] (wd M 0 m)).d 2))) = true)) ∧ ((decide ((by8 (TG [] (wd (List.take m M) 0 (0 + m))).d 1) = (by8 (TG [] (wd M 0 m)).d 1))) = true)) ∧ ((decide ((by8 (TG [] (wd (List.take m M) 0 (0 + m))).d 0) = (by8 (TG [] (wd M 0 m)).d 0))) = true)) ∧ ((decide ((by8 (TG [] (wd (List.take m M) 0 (0 + m))).e 3) = (by8 (TG [] (wd M 0 m)).e 3))) = true)) ∧ ((decide ((by8 (TG [] (wd (List.take m M) 0 (0 + m))).e 2) = (by8 (TG [] (wd M 0 m)).e 2))) = true)) ∧ ((decide ((by8 (TG [] (wd (List.take m M) 0 (0 + m))).e 1) = (by8 (TG [] (wd M 0 m)).e 1))) = true)) ∧ ((decide ((by8 (TG [] (wd (List.take m M) 0 (0 + m))).e 0) = (by8 (TG [] (wd M 0 m)).e 0))) = true)) ∧ ((TG = tgN) ∧ (qn TG (wd M 0 m) m))) ∧ ((decide ((by8 (TG [] (wd (List.take m M) 0 (0 + m))).a 3) = (by8 (TG [] (wd M 0 m)).a 3))) = true)) ∧ ((decide ((by8 (TG [] (wd (List.take m M) 0 (0 + m))).a 2) = (by8 (TG [] (wd M 0 m)).a 2))) = true)) ∧ ((decide ((by8 (TG [] (wd (List.take m M) 0 (0 + m))).a 1) = (by8 (TG [] (wd M 0 m)).a 1))) = true)) ∧ ((decide ((by8 (TG [] (wd (List.take m M) 0 (0 + m))).a 0) = (by8 (TG [] (wd M 0 m)).a 0))) = true)) ∧ ((decide ((by8 (TG [] (wd (List.take m M) 0 (0 + m))).b 3) = (by8 (TG [] (wd M 0 m)).b 3))) = true)) ∧ ((decide ((by8 (TG [] (wd (List.take m M) 0 (0 + m))).b 2) = (by8 (TG [] (wd M 0 m)).b 2))) = true)) ∧ ((decide ((by8 (TG [] (wd (List.take m M) 0 (0 + m))).b 1) = (by8 (TG [] (wd M 0 m)).b 1))) = true)) ∧ ((decide ((by8 (TG [] (wd (List.take m M) 0 (0 + m))).b 0) = (by8 (TG [] (wd M 0 m)).b 0))) = true)) ∧ ((decide ((by8 (TG [] (wd (List.take m M) 0 (0 + m))).c 3) = (by8 (TG [] (wd M 0 m)).c 3))) = true)) ∧ ((decide ((by8 (TG [] (wd (List.take m M) 0 (0 + m))).c 2) = (by8 (TG [] (wd M 0 m)).c 2))) = true)) ∧ ((decide ((by8 (TG [] (wd (List.take m M) 0 (0 + m))).c 1) = (by8 (TG [] (wd M 0 m)).c 1))) = true)) ∧ ((decide ((by8 (TG [] (wd (List.take m M) 0 (0 + m))).c 0) = (by8 (TG [] (wd M 0 m)).c 0))) = true)) ∧ ((0 + (0 + m)) ≤ (List.take m M).length)) ∧ ((0 + m) ≤ M.length)) ∧ ((beqB (bytesI (List.take (0 + m) (List.take m M))).toList (bytesI (List.take m M)).toList) = true)) ∧ True) ∧ ((beqB (bytesI (List.take (0 + m) (List.take m M))).toList (bytesI (List.take m M)).toList) = true))
theorem runLni (TG : GT) (M : List Int) (m : Nat) (d : Nat) : (rL TG (.slice none 0 0) (vs 0 m d) [oM M] oLni).map (fun r => (r.1, r.2.obl)) = some (.bool true, pLni TG M m d) := by kernel_rfl
noncomputable def oLnn : List (Option Bool) := [none, none, none, none, none, none, none, none, none, none, none, none, none, none, none, none, none, none, none, some true, some true, some true, some true, some true, some true, some true, some true, some true, some true, some true, some true, some true, some true, some true, some true, some true, some true, some true, some true, none, none, none, none, none, none, none, none, none, none, none, none, none, none, none, none, none, none, none, none, none, none, none, none, none, none, none, none, none, none, none, none, none, none, none, none, none, none, none, none, none, none, none, none, none, none, none, none, none, none, none, none, none, none, none, some true, some true, some true, some true, some true, some true, some true, some true, some true, some true, some true, some true]
noncomputable def pLnn (TG : GT) : Prop := (((((((((((((((((((((((((((((((((((((True ∧ (TG = tgN)) ∧ (TG = tgN)) ∧ (TG = tgN)) ∧ ((decide ((by8 (TG [] []).a 3) = (by8 (TG [] []).a 3))) = true)) ∧ ((decide ((by8 (TG [] []).a 2) = (by8 (TG [] []).a 2))) = true)) ∧ ((decide ((by8 (TG [] []).a 1) = (by8 (TG [] []).a 1))) = true)) ∧ ((decide ((by8 (TG [] []).a 0) = (by8 (TG [] []).a 0))) = true)) ∧ ((decide ((by8 (TG [] []).b 3) = (by8 (TG [] []).b 3))) = true)) ∧ ((decide ((by8 (TG [] []).b 2) = (by8 (TG [] []).b 2))) = true)) ∧ ((decide ((by8 (TG [] []).b 1) = (by8 (TG [] []).b 1))) = true)) ∧ ((decide ((by8 (TG [] []).b 0) = (by8 (TG [] []).b 0))) = true)) ∧ ((decide ((by8 (TG [] []).c 3) = (by8 (TG [] []).c 3))) = true)) ∧ ((decide ((by8 (TG [] []).c 2) = (by8 (TG [] []).c 2))) = true)) ∧ ((decide ((by8 (TG [] []).c 1) = (by8 (TG [] []).c 1))) = true)) ∧ ((decide ((by8 (TG [] []).c 0) = (by8 (TG [] []).c 0))) = true)) ∧ ((decide ((by8 (TG [] []).d 3) = (by8 (TG [] []).d 3))) = true)) ∧ ((decide ((by8 (TG [] []).d 2) = (by8 (TG [] []).d 2))) = true)) ∧ ((decide ((by8 (TG [] []).d 1) = (by8 (TG [] []).d 1))) = true)) ∧ ((decide ((by8 (TG [] []).d 0) = (by8 (TG [] []).d 0))) = true)) ∧ ((decide ((by8 (TG [] []).e 3) = (by8 (TG [] []).e 3))) = true)) ∧ ((decide ((by8 (TG [] []).e 2) = (by8 (TG [] []).e 2))) = true)) ∧ ((decide ((by8 (TG [] []).e 1) = (by8 (TG [] []).e 1))) = true)) ∧ ((decide ((by8 (TG [] []).e 0) = (by8 (TG [] []).e 0))) = true)) ∧ (TG = tgN)) ∧ ((decide ((by8 (TG [] []).a 3) = (by8 (TG [] []).a 3))) = true)) ∧ ((decide ((by8 (TG [] []).a 2) = (by8 (TG [] []).a 2))) = true)) ∧ ((decide ((by8 (TG [] []).a 1) = (by8 (TG [] []).a 1))) = true)) ∧ ((decide ((by8 (TG [] []).a 0) = (by8 (TG [] []).a 0))) = true)) ∧ ((decide ((by8 (TG [] []).b 3) = (by8 (TG [] []).b 3))) = true)) ∧ ((decide ((by8 (TG [] []).b 2) = (by8 (TG [] []).b 2))) = true)) ∧ ((decide ((by8 (TG [] []).b 1) = (by8 (TG [] []).b 1))) = true)) ∧ ((decide ((by8 (TG [] []).b 0) = (by8 (TG [] []).b 0))) = true)) ∧ ((decide ((by8 (TG [] []).c 3) = (by8 (TG [] []).c 3))) = true)) ∧ ((decide ((by8 (TG [] []).c 2) = (by8 (TG [] []).c 2))) = true)) ∧ ((decide ((by8 (TG [] []).c 1) = (by8 (TG [] []).c 1))) = true)) ∧ ((decide ((by8 (TG [] []).c 0) = (by8 (TG [] []).c 0))) = true)) ∧ True)
theorem runLnn (TG : GT) : (rL TG (.slice none 0 0) (.slice none 0 0) [] oLnn).map (fun r => (r.1, r.2.obl)) = some (.bool true, pLnn TG) := by kernel_rfl
noncomputable def oLnz : List (Option Bool) := [none, none, none, none, none, none, none, none, none, none, none, none, none, none, none, none, none, none, none, some true, some true, some true, some true, some true, some true, some true, some true, some true, some true, some true, some true, some true, some true, some true, some true, some true, some true, some true, some true, none, none, none, none, none, none, none, none, none, none, none, none, none, none, none, none, none, none, none, none, none, none, none, none, none, none, none, none, none, none, none, none, none, none, none, none, none, none, none, none, none, none, none, none, none, none, none, none, none, none, none, none, none, none, none, some true, some true, some true, some true, some true, some true, some true, some true, some true, some true, some true, some true]
noncomputable def pLnz (TG : GT) (d : Nat) : Prop := (((((((((((((((((((((((((((((((((((((True ∧ (TG = tgN)) ∧ (TG = tgN)) ∧ (TG = tgN)) ∧ ((decide ((by8 (TG [] []).a 3) = (by8 (TG [] []).a 3))) = true)) ∧ ((decide ((by8 (TG [] []).a 2) = (by8 (TG [] []).a 2))) = true)) ∧ ((decide ((by8 (TG [] []).a 1) = (by8 (TG [] []).a 1))) = true)) ∧ ((decide ((by8 (TG [] []).a 0) = (by8 (TG [] []).a 0))) = true)) ∧ ((decide ((by8 (TG [] []).b 3) = (by8 (TG [] []).b 3))) = true)) ∧ ((decide ((by8 (TG [] []).b 2) = (by8 (TG [] []).b 2))) = true)) ∧ ((decide ((by8 (TG [] []).b 1) = (by8 (TG [] []).b 1))) = true)) ∧ ((decide ((by8 (TG [] []).b 0) = (by8 (TG [] []).b 0))) = true)) ∧ ((decide ((by8 (TG [] []).c 3) = (by8 (TG [] []).c 3))) = true)) ∧ ((decide ((by8 (TG [] []).c 2) = (by8 (TG [] []).c 2))) = true)) ∧ ((decide ((by8 (TG [] []).c 1) = (by8 (TG [] []).c 1))) = true)) ∧ ((decide ((by8 (TG [] []).c 0) = (by8 (TG [] []).c 0))) = true)) ∧ ((decide ((by8 (TG [] []).d 3) = (by8 (TG [] []).d 3))) = true)) ∧ ((decide ((by8 (TG [] []).d 2) = (by8 (TG [] []).d 2))) = true)) ∧ ((decide ((by8 (TG [] []).d 1) = (by8 (TG [] []).d 1))) = true)) ∧ ((decide ((by8 (TG [] []).d 0) = (by8 (TG [] []).d 0))) = true)) ∧ ((decide ((by8 (TG [] []).e 3) = (by8 (TG [] []).e 3))) = true)) ∧ ((decide ((by8 (TG [] []).e 2) = (by8 (TG [] []).e 2))) = true)) ∧ ((decide ((by8 (TG [] []).e 1) = (by8 (TG [] []).e 1))) = true)) ∧ ((decide ((by8 (TG [] []).e 0) = (by8 (TG [] []).e 0))) = true)) ∧ (TG = tgN)) ∧ ((decide ((by8 (TG [] []).a 3) = (by8 (TG [] []).a 3))) = true)) ∧ ((decide ((by8 (TG [] []).a 2) = (by8 (TG [] []).a 2))) = true)) ∧ ((decide ((by8 (TG [] []).a 1) = (by8 (TG [] []).a 1))) = true)) ∧ ((decide ((by8 (TG [] []).a 0) = (by8 (TG [] []).a 0))) = true)) ∧ ((decide ((by8 (TG [] []).b 3) = (by8 (TG [] []).b 3))) = true)) ∧ ((decide ((by8 (TG [] []).b 2) = (by8 (TG [] []).b 2))) = true)) ∧ ((decide ((by8 (TG [] []).b 1) = (by8 (TG [] []).b 1))) = true)) ∧ ((decide ((by8 (TG [] []).b 0) = (by8 (TG [] []).b 0))) = true)) ∧ ((decide ((by8 (TG [] []).c 3) = (by8 (TG [] []).c 3))) = true)) ∧ ((decide ((by8 (TG [] []).c 2) = (by8 (TG [] []).c 2))) = true)) ∧ ((decide ((by8 (TG [] []).c 1) = (by8 (TG [] []).c 1))) = true)) ∧ ((decide ((by8 (TG [] []).c 0) = (by8 (TG [] []).c 0))) = true)) ∧ True)
theorem runLnz (TG : GT) (d : Nat) : (rL TG (.slice none 0 0) (vs 0 0 d) [none] oLnz).map (fun r => (r.1, r.2.obl)) = some (.bool true, pLnz TG d) := by kernel_rfl
noncomputable def oLzi : List (Option Bool) := [none, none, none, none, none, none, some false, none, none, none, some false, none, none, none, none, none, none, none, none, none, some true, some true, some true, some true, some true, some true, some true, some true, some true, some true, some true, some true, some true, some true, some true, some true, some true, some true, some true, some true, none, none, none, none, none, none, none, none, none, none, none, none, none, none, none, none, none, none, none, none, none, none, none, none, none, none, none, none, none, none, none, none, none, none, none, none, none, none, none, none, none, none, none, none, none, none, none, none, none, none, none, none, none, none, none, some true, some true, some true, some true, some true, some true, some true, some true, some true, some true, some true, some true, none, none, none, none, none, none, none, none, none, none, none, none, none, some true, some true]
noncomputable def pLzi (TG : GT) (c : Nat) (M : List Int) (m : Nat) (d : Nat) : Prop := ((((((((((((((((((((((((((((((((((((((((((((True ∧ ((decide (500 < (nI m))) = false)) ∧ ((decide ((0 + m) ≤ 0)) = false)) ∧ (((0 + m) ≤ M.length) ∧ ((0 ≤ 0) ∧ ((((0 + m) * 1) ≤ mostBytes) ∧ ((0 + m) ≤ mostBytes))))) ∧ ((TG = tgN) ∧ ((Byt (wd (List.take m M) 0 (0 + m))) ∧ (((0 + m) = (wd (List.take m M) 0 (0 + m)).length) ∧ ((0 < (0 + m)) ∧ (((0 + m) ≤ (0 + m)) ∧ ((0 + m) ≤ 1000))))))) ∧ ((TG = tgN) ∧ ((Byt (wd (List.take m M) 0 (0 + m))) ∧ (((0 + m) = (wd (List.take m M) 0 (0 + m)).length) ∧ ((0 < (0 + m)) ∧ (((0 + m) ≤ (0 + m)) ∧ ((0 + m) ≤ 1000))))))) ∧ ((TG = tgN) ∧ (qn TG (wd M 0 m) m))) ∧ ((decide ((by8 (TG [] (wd (List.take m M) 0 (0 + m))).a 3) = (by8 (TG [] (wd M 0 m)).a 3))) = true)) ∧ ((decide ((by8 (TG [] (wd (List.take m M) 0 (0 + m))).a 2) = (by8 (TG [] (wd M 0 m)).a 2))) = true)) ∧ ((decide ((by8 (TG [] (wd (List.take m M) 0 (0 + m))).a 1) = (by8 (TG [] (wd M 0 m)).a 1))) = true)) ∧ ((decide ((by8 (TG [] (wd (List.take m M) 0 (0 + m))).a 0) = (by8 (TG [] (wd M 0 m)).a 0))) = true)) ∧ ((decide ((by8 (TG [] (wd (List.take m M) 0 (0 + m))).b 3) = (by8 (TG [] (wd M 0 m)).b 3))) = true)) ∧ ((decide ((by8 (TG [] (wd (List.take m M) 0 (0 + m))).b 2) = (by8 (TG [] (wd M 0 m)).b 2))) = true)) ∧ ((decide ((by8 (TG [] (wd (List.take m M) 0 (0 + m))).b 1) = (by8 (TG [] (wd M 0 m)).b 1))) = true)) ∧ ((decide ((by8 (TG [] (wd (List.take m M) 0 (0 + m))).b 0) = (by8 (TG [] (wd M 0 m)).b 0))) = true)) ∧ ((decide ((by8 (TG [] (wd (List.take m M) 0 (0 + m))).c 3) = (by8 (TG [] (wd M 0 m)).c 3))) = true)) ∧ ((decide ((by8 (TG [] (wd (List.take m M) 0 (0 + m))).c 2) = (by8 (TG [] (wd M 0 m)).c 2))) = true)) ∧ ((decide ((by8 (TG [] (wd (List.take m M) 0 (0 + m))).c 1) = (by8 (TG [] (wd M 0 m)).c 1))) = true)) ∧ ((decide ((by8 (TG [] (wd (List.take m M) 0 (0 + m))).c 0) = (by8 (TG [] (wd M 0 m)).c 0))) = true)) ∧ ((decide ((by8 (TG [] (wd (List.take m M) 0 (0 + m))).d 3) = (by8 (TG [] (wd M 0 m)).d 3))) = true)) ∧ ((decide ((by8 (TG [] (wd (List.take m M) 0 (0 + m))).d 2) = (by8 (TG [] (wd M 0 m)).d 2))) = true)) ∧ ((decide ((by8 (TG [] (wd (List.take m M) 0 (0 + m))).d 1) = (by8 (TG [] (wd M 0 m)).d 1))) = true)) ∧ ((decide ((by8 (TG [] (wd (List.take m M) 0 (0 + m))).d 0) = (by8 (TG [] (wd M 0 m)).d 0))) = true)) ∧ ((decide ((by8 (TG [] (wd (List.take m M) 0 (0 + m))).e 3) = (by8 (TG [] (wd M 0 m)).e 3))) = true)) ∧ ((decide ((by8 (TG [] (wd (List.take m M) 0 (0 + m))).e 2) = (by8 (TG [] (wd M 0 m)).e 2))) = true)) ∧ ((decide ((by8 (TG [] (wd (List.take m M) 0 (0 + m))).e 1) = (by8 (TG [] (wd M 0 m)).e 1))) = true)) ∧ ((decide ((by8 (TG [] (wd (List.take m M) 0 (0 + m))).e 0) = (by8 (TG [] (wd M 0 m)).e 0))) = true)) ∧ ((TG = tgN) ∧ (qn TG (wd M 0 m) m))) ∧ ((decide ((by8 (TG [] (wd (List.take m M) 0 (0 + m))).a 3) = (by8 (TG [] (wd M 0 m)).a 3))) = true)) ∧ ((decide ((by8 (TG [] (wd (List.take m M) 0 (0 + m))).a 2) = (by8 (TG [] (wd M 0 m)).a 2))) = true)) ∧ ((decide ((by8 (TG [] (wd (List.take m M) 0 (0 + m))).a 1) = (by8 (TG [] (wd M 0 m)).a 1))) = true)) ∧ ((decide ((by8 (TG [] (wd (List.take m M) 0 (0 + m))).a 0) = (by8 (TG [] (wd M 0 m)).a 0))) = true)) ∧ ((decide ((by8 (TG [] (wd (List.take m M) 0 (0 + m))).b 3) = (by8 (TG [] (wd M 0 m)).b 3))) = true)) ∧ ((decide ((by8 (TG [] (wd (List.take m M) 0 (0 + m))).b 2) = (by8 (TG [] (wd M 0 m)).b 2))) = true)) ∧ ((decide ((by8 (TG [] (wd (List.take m M) 0 (0 + m))).b 1) = (by8 (TG [] (wd M 0 m)).b 1))) = true)) ∧ ((decide ((by8 (TG [] (wd (List.take m M) 0 (0 + m))).b 0) = (by8 (TG [] (wd M 0 m)).b 0))) = true)) ∧ ((decide ((by8 (TG [] (wd (List.take m M) 0 (0 + m))).c 3) = (by8 (TG [] (wd M 0 m)).c 3))) = true)) ∧ ((decide ((by8 (TG [] (wd (List.take m M) 0 (0 + m))).c 2) = (by8 (TG [] (wd M 0 m)).c 2))) = true)) ∧ ((decide ((by8 (TG [] (wd (List.take m M) 0 (0 + m))).c 1) = (by8 (TG [] (wd M 0 m)).c 1))) = true)) ∧ ((decide ((by8 (TG [] (wd (List.take m M) 0 (0 + m))).c 0) = (by8 (TG [] (wd M 0 m)).c 0))) = true)) ∧ ((0 + (0 + m)) ≤ (List.take m M).length)) ∧ ((0 + m) ≤ M.length)) ∧ ((beqB (bytesI (List.take (0 + m) (List.take m M))).toList (bytesI (List.take m M)).toList) = true)) ∧ True) ∧ ((beqB (bytesI (List.take (0 + m) (List.take m M))).toList (bytesI (List.take m M)).toList) = true))
theorem runLzi (TG : GT) (c : Nat) (M : List Int) (m : Nat) (d : Nat) : (rL TG (vs 0 0 c) (vs 1 m d) [none, oM M] oLzi).map (fun r => (r.1, r.2.obl)) = some (.bool true, pLzi TG c M m d) := by kernel_rfl
noncomputable def oLzn : List (Option Bool) := [none, none, none, none, none, none, none, none, none, none, none, none, none, none, none, none, none, none, none, some true, some true, some true, some true, some true, some true, some true, some true, some true, some true, some true, some true, some true, some true, some true, some true, some true, some true, some true, some true, none, none, none, none, none, none, none, none, none, none, none, none, none, none, none, none, none, none, none, none, none, none, none, none, none, none, none, none, none, none, none, none, none, none, none, none, none, none, none, none, none, none, none, none, none, none, none, none, none, none, none, none, none, none, none, some true, some true, some true, some true, some true, some true, some true, some true, some true, some true, some true, some true]
noncomputable def pLzn (TG : GT) (c : Nat) : Prop := (((((((((((((((((((((((((((((((((((((True ∧ (TG = tgN)) ∧ (TG = tgN)) ∧ (TG = tgN)) ∧ ((decide ((by8 (TG [] []).a 3) = (by8 (TG [] []).a 3))) = true)) ∧ ((decide ((by8 (TG [] []).a 2) = (by8 (TG [] []).a 2))) = true)) ∧ ((decide ((by8 (TG [] []).a 1) = (by8 (TG [] []).a 1))) = true)) ∧ ((decide ((by8 (TG [] []).a 0) = (by8 (TG [] []).a 0))) = true)) ∧ ((decide ((by8 (TG [] []).b 3) = (by8 (TG [] []).b 3))) = true)) ∧ ((decide ((by8 (TG [] []).b 2) = (by8 (TG [] []).b 2))) = true)) ∧ ((decide ((by8 (TG [] []).b 1) = (by8 (TG [] []).b 1))) = true)) ∧ ((decide ((by8 (TG [] []).b 0) = (by8 (TG [] []).b 0))) = true)) ∧ ((decide ((by8 (TG [] []).c 3) = (by8 (TG [] []).c 3))) = true)) ∧ ((decide ((by8 (TG [] []).c 2) = (by8 (TG [] []).c 2))) = true)) ∧ ((decide ((by8 (TG [] []).c 1) = (by8 (TG [] []).c 1))) = true)) ∧ ((decide ((by8 (TG [] []).c 0) = (by8 (TG [] []).c 0))) = true)) ∧ ((decide ((by8 (TG [] []).d 3) = (by8 (TG [] []).d 3))) = true)) ∧ ((decide ((by8 (TG [] []).d 2) = (by8 (TG [] []).d 2))) = true)) ∧ ((decide ((by8 (TG [] []).d 1) = (by8 (TG [] []).d 1))) = true)) ∧ ((decide ((by8 (TG [] []).d 0) = (by8 (TG [] []).d 0))) = true)) ∧ ((decide ((by8 (TG [] []).e 3) = (by8 (TG [] []).e 3))) = true)) ∧ ((decide ((by8 (TG [] []).e 2) = (by8 (TG [] []).e 2))) = true)) ∧ ((decide ((by8 (TG [] []).e 1) = (by8 (TG [] []).e 1))) = true)) ∧ ((decide ((by8 (TG [] []).e 0) = (by8 (TG [] []).e 0))) = true)) ∧ (TG = tgN)) ∧ ((decide ((by8 (TG [] []).a 3) = (by8 (TG [] []).a 3))) = true)) ∧ ((decide ((by8 (TG [] []).a 2) = (by8 (TG [] []).a 2))) = true)) ∧ ((decide ((by8 (TG [] []).a 1) = (by8 (TG [] []).a 1))) = true)) ∧ ((decide ((by8 (TG [] []).a 0) = (by8 (TG [] []).a 0))) = true)) ∧ ((decide ((by8 (TG [] []).b 3) = (by8 (TG [] []).b 3))) = true)) ∧ ((decide ((by8 (TG [] []).b 2) = (by8 (TG [] []).b 2))) = true)) ∧ ((decide ((by8 (TG [] []).b 1) = (by8 (TG [] []).b 1))) = true)) ∧ ((decide ((by8 (TG [] []).b 0) = (by8 (TG [] []).b 0))) = true)) ∧ ((decide ((by8 (TG [] []).c 3) = (by8 (TG [] []).c 3))) = true)) ∧ ((decide ((by8 (TG [] []).c 2) = (by8 (TG [] []).c 2))) = true)) ∧ ((decide ((by8 (TG [] []).c 1) = (by8 (TG [] []).c 1))) = true)) ∧ ((decide ((by8 (TG [] []).c 0) = (by8 (TG [] []).c 0))) = true)) ∧ True)
theorem runLzn (TG : GT) (c : Nat) : (rL TG (vs 0 0 c) (.slice none 0 0) [none] oLzn).map (fun r => (r.1, r.2.obl)) = some (.bool true, pLzn TG c) := by kernel_rfl
noncomputable def oLzz : List (Option Bool) := [none, none, none, none, none, none, none, none, none, none, none, none, none, none, none, none, none, none, none, some true, some true, some true, some true, some true, some true, some true, some true, some true, some true, some true, some true, some true, some true, some true, some true, some true, some true, some true, some true, none, none, none, none, none, none, none, none, none, none, none, none, none, none, none, none, none, none, none, none, none, none, none, none, none, none, none, none, none, none, none, none, none, none, none, none, none, none, none, none, none, none, none, none, none, none, none, none, none, none, none, none, none, none, none, some true, some true, some true, some true, some true, some true, some true, some true, some true, some true, some true, some true]
noncomputable def pLzz (TG : GT) (c : Nat) (d : Nat) : Prop := (((((((((((((((((((((((((((((((((((((True ∧ (TG = tgN)) ∧ (TG = tgN)) ∧ (TG = tgN)) ∧ ((decide ((by8 (TG [] []).a 3) = (by8 (TG [] []).a 3))) = true)) ∧ ((decide ((by8 (TG [] []).a 2) = (by8 (TG [] []).a 2))) = true)) ∧ ((decide ((by8 (TG [] []).a 1) = (by8 (TG [] []).a 1))) = true)) ∧ ((decide ((by8 (TG [] []).a 0) = (by8 (TG [] []).a 0))) = true)) ∧ ((decide ((by8 (TG [] []).b 3) = (by8 (TG [] []).b 3))) = true)) ∧ ((decide ((by8 (TG [] []).b 2) = (by8 (TG [] []).b 2))) = true)) ∧ ((decide ((by8 (TG [] []).b 1) = (by8 (TG [] []).b 1))) = true)) ∧ ((decide ((by8 (TG [] []).b 0) = (by8 (TG [] []).b 0))) = true)) ∧ ((decide ((by8 (TG [] []).c 3) = (by8 (TG [] []).c 3))) = true)) ∧ ((decide ((by8 (TG [] []).c 2) = (by8 (TG [] []).c 2))) = true)) ∧ ((decide ((by8 (TG [] []).c 1) = (by8 (TG [] []).c 1))) = true)) ∧ ((decide ((by8 (TG [] []).c 0) = (by8 (TG [] []).c 0))) = true)) ∧ ((decide ((by8 (TG [] []).d 3) = (by8 (TG [] []).d 3))) = true)) ∧ ((decide ((by8 (TG [] []).d 2) = (by8 (TG [] []).d 2))) = true)) ∧ ((decide ((by8 (TG [] []).d 1) = (by8 (TG [] []).d 1))) = true)) ∧ ((decide ((by8 (TG [] []).d 0) = (by8 (TG [] []).d 0))) = true)) ∧ ((decide ((by8 (TG [] []).e 3) = (by8 (TG [] []).e 3))) = true)) ∧ ((decide ((by8 (TG [] []).e 2) = (by8 (TG [] []).e 2))) = true)) ∧ ((decide ((by8 (TG [] []).e 1) = (by8 (TG [] []).e 1))) = true)) ∧ ((decide ((by8 (TG [] []).e 0) = (by8 (TG [] []).e 0))) = true)) ∧ (TG = tgN)) ∧ ((decide ((by8 (TG [] []).a 3) = (by8 (TG [] []).a 3))) = true)) ∧ ((decide ((by8 (TG [] []).a 2) = (by8 (TG [] []).a 2))) = true)) ∧ ((decide ((by8 (TG [] []).a 1) = (by8 (TG [] []).a 1))) = true)) ∧ ((decide ((by8 (TG [] []).a 0) = (by8 (TG [] []).a 0))) = true)) ∧ ((decide ((by8 (TG [] []).b 3) = (by8 (TG [] []).b 3))) = true)) ∧ ((decide ((by8 (TG [] []).b 2) = (by8 (TG [] []).b 2))) = true)) ∧ ((decide ((by8 (TG [] []).b 1) = (by8 (TG [] []).b 1))) = true)) ∧ ((decide ((by8 (TG [] []).b 0) = (by8 (TG [] []).b 0))) = true)) ∧ ((decide ((by8 (TG [] []).c 3) = (by8 (TG [] []).c 3))) = true)) ∧ ((decide ((by8 (TG [] []).c 2) = (by8 (TG [] []).c 2))) = true)) ∧ ((decide ((by8 (TG [] []).c 1) = (by8 (TG [] []).c 1))) = true)) ∧ ((decide ((by8 (TG [] []).c 0) = (by8 (TG [] []).c 0))) = true)) ∧ True)
theorem runLzz (TG : GT) (c : Nat) (d : Nat) : (rL TG (vs 0 0 c) (vs 1 0 d) [none, none] oLzz).map (fun r => (r.1, r.2.obl)) = some (.bool true, pLzz TG c d) := by kernel_rfl
noncomputable def oLb1 : List (Option Bool) := [none, none, some true]
noncomputable def pLb1 (TG : GT) (K : List Int) (n : Nat) (c : Nat) (M : List Int) (m : Nat) (d : Nat) : Prop := ((True ∧ ((decide (500 < (nI n))) = true)) ∧ True)
theorem runLb1 (TG : GT) (K : List Int) (n : Nat) (c : Nat) (M : List Int) (m : Nat) (d : Nat) : (rL TG (vs 0 n c) (vs 1 m d) [oM K, oM M] oLb1).map (fun r => (r.1, r.2.obl)) = some (.bool true, pLb1 TG K n c M m d) := by kernel_rfl
noncomputable def oLb2 : List (Option Bool) := [none, none, some false, none, none, none, some true]
noncomputable def pLb2 (TG : GT) (K : List Int) (n : Nat) (c : Nat) (M : List Int) (m : Nat) (d : Nat) : Prop := (((True ∧ ((decide (500 < (nI n))) = false)) ∧ ((decide (500 < (nI m))) = true)) ∧ True)
theorem runLb2 (TG : GT) (K : List Int) (n : Nat) (c : Nat) (M : List Int) (m : Nat) (d : Nat) : (rL TG (vs 0 n c) (vs 1 m d) [oM K, oM M] oLb2).map (fun r => (r.1, r.2.obl)) = some (.bool true, pLb2 TG K n c M m d) := by kernel_rfl
end
end hd
end Go.Proofs.Ytmgnpfapigenpaa
namespace Go.Proofs.Ytmgnpfapigenpaa
open Go.ChangeShapes Go.WideShapes Go.ChangeAt Go.RowKit Go.Cln
namespace hd
open hc hx hy hz tb tc td ha
set_option linter.unusedVariables false
noncomputable section
theorem w0 {K : List Int} {n : Nat} (h : n = K.length) : wd K 0 n = K := Kw_eq h
theorem wt {K : List Int} {n : Nat} (h : n = K.length) : List.take n K = K := by rw [h, List.take_length]
theorem pLii_ok {K : List Int} {n c : Nat} {M : List Int} {m d : Nat} (bK : Byt K) (hK : n = K.length) (pK : 0 < n) (qK : n ≤ 500) (bM : Byt M) (hM : m = M.length) (pM : 0 < m) (qM : m ≤ 500) : pLii tgN K n c M m d := by
  unfold pLii
  simp only [Nat.zero_add, wt hK, wt hM, w0 hK, w0 hM, qn, nI, decide_true, and_true, true_and]
  repeat' apply And.intro
  all_goals first | assumption | (unfold mostBytes; omega) | (simp only [decide_eq_true_eq, decide_eq_false_iff_not]; omega) | exact beqB_of rfl | omega
theorem pLin_ok {K : List Int} {n c : Nat} (bK : Byt K) (hK : n = K.length) (pK : 0 < n) (qK : n ≤ 500) : pLin tgN K n c := by
  unfold pLin
  simp only [Nat.zero_add, wt hK, w0 hK, qn, nI, decide_true, and_true, true_and]
  repeat' apply And.intro
  all_goals first | assumption | (unfold mostBytes; omega) | (simp only [decide_eq_true_eq, decide_eq_false_iff_not]; omega) | exact beqB_of rfl | omega
theorem pLiz_ok {K : List Int} {n c : Nat} {d : Nat} (bK : Byt K) (hK : n = K.length) (pK : 0 < n) (qK : n ≤ 500) : pLiz tgN K n c d := by
  unfold pLiz
  simp only [Nat.zero_add, wt hK, w0 hK, qn, nI, decide_true, and_true, true_and]
  repeat' apply And.intro
  all_goals first | assumption | (unfold mostBytes; omega) | (simp only [decide_eq_true_eq, decide_eq_false_iff_not]; omega) | exact beqB_of rfl | omega
theorem pLni_ok {M : List Int} {m d : Nat} (bM : Byt M) (hM : m = M.length) (pM : 0 < m) (qM : m ≤ 500) : pLni tgN M m d := by
  unfold pLni
  simp only [Nat.zero_add, wt hM, w0 hM, qn, nI, decide_true, and_true, true_and]
  repeat' apply And.intro
  all_goals first | assumption | (unfold mostBytes; omega) | (simp only [decide_eq_true_eq, decide_eq_false_iff_not]; omega) | exact beqB_of rfl | omega
theorem pLnn_ok : pLnn tgN := by
  unfold pLnn
  simp only [decide_true, and_true, true_and, and_self]
theorem pLnz_ok {d : Nat} : pLnz tgN d := by
  unfold pLnz
  simp only [decide_true, and_true, true_and, and_self]
theorem pLzi_ok {c : Nat} {M : List Int} {m d : Nat} (bM : Byt M) (hM : m = M.length) (pM : 0 < m) (qM : m ≤ 500) : pLzi tgN c M m d := by
  unfold pLzi
  simp only [Nat.zero_add, wt hM, w0 hM, qn, nI, decide_true, and_true, true_and]
  repeat' apply And.intro
  all_goals first | assumption | (unfold mostBytes; omega) | (simp only [decide_eq_true_eq, decide_eq_false_iff_not]; omega) | exact beqB_of rfl | omega
theorem pLzn_ok {c : Nat} : pLzn tgN c := by
  unfold pLzn
  simp only [decide_true, and_true, true_and, and_self]
theorem pLzz_ok {c : Nat} {d : Nat} : pLzz tgN c d := by
  unfold pLzz
  simp only [decide_true, and_true, true_and, and_self]
noncomputable def oBN : List (Option Bool) := [none, none, some true]
noncomputable def oNB : List (Option Bool) := [none, none, none, none, none, none, some true]
noncomputable def oSB : List (Option Bool) := [none, none, some false, none, none, none, some true]
theorem runBN (TG : GT) (n c : Nat) : (rL TG (vs 0 n c) (.slice none 0 0) [none] oBN).map (fun r => (r.1, r.2.obl)) = some (.bool true, (True ∧ decide (500 < (n : Int)) = true) ∧ True) := by kernel_rfl
theorem runBS (TG : GT) (n c m d : Nat) : (rL TG (vs 0 n c) (vs 1 m d) [none, none] oBN).map (fun r => (r.1, r.2.obl)) = some (.bool true, (True ∧ decide (500 < (n : Int)) = true) ∧ True) := by kernel_rfl
theorem runNB (TG : GT) (m d : Nat) : (rL TG (.slice none 0 0) (vs 0 m d) [none] oNB).map (fun r => (r.1, r.2.obl)) = some (.bool true, (True ∧ decide (500 < (m : Int)) = true) ∧ True) := by kernel_rfl
theorem runSB (TG : GT) (n c m d : Nat) : (rL TG (vs 0 n c) (vs 1 m d) [none, none] oSB).map (fun r => (r.1, r.2.obl)) = some (.bool true, ((True ∧ decide (500 < (n : Int)) = false) ∧ decide (500 < (m : Int)) = true) ∧ True) := by kernel_rfl
end
end hd
end Go.Proofs.Ytmgnpfapigenpaa
namespace Go.Proofs.Ytmgnpfapigenpaa
open Go.ChangeShapes Go.WideShapes Go.ChangeAt Go.RowKit Go.Cln
namespace hd
open hc hx hy hz tb tc td ha
set_option linter.unusedVariables false
noncomputable section
theorem hmacTags (W : World) (a0 : Option Addr) (n0 c0 : Nat) (s0 : (a0 = none ∧ n0 = 0 ∧ c0 = 0) ∨ ∃ b o, a0 = some ⟨b, o, none⟩ ∧ n0 ≤ c0 ∧ (c0 : Int) ≤ 9223372036854775807)
    (z0 : n0 = 0 ∨ ∃ (b o : Nat) (L : List Int), a0 = some ⟨b, o, none⟩ ∧ L.length = n0 ∧ (∀ x ∈ L, (Lit.int .u8 x).wf = true) ∧ HasCells W b o (L.map (Value.int .u8)))
    (a1 : Option Addr) (n1 c1 : Nat) (s1 : (a1 = none ∧ n1 = 0 ∧ c1 = 0) ∨ ∃ b o, a1 = some ⟨b, o, none⟩ ∧ n1 ≤ c1 ∧ (c1 : Int) ≤ 9223372036854775807)
    (z1 : n1 = 0 ∨ ∃ (b o : Nat) (L : List Int), a1 = some ⟨b, o, none⟩ ∧ L.length = n1 ∧ (∀ x ∈ L, (Lit.int .u8 x).wf = true) ∧ HasCells W b o (L.map (Value.int .u8))) :
    Calls Try.prog 4 #[.slice a0 n0 c0, .slice a1 n1 c1] W fun e w' => e = .returned (.bool true) ∧ Below W.heap.size W w' := by
  rcases cameIn 500 s0 z0 with ⟨rfl, rfl, rfl⟩ | ⟨b0, o0, rfl, hc, _, rfl | ⟨p0, q0, K, l0, hK, bK, kK⟩ | g0⟩
  · rcases cameIn 500 s1 z1 with ⟨rfl, rfl, rfl⟩ | ⟨b1, o1, rfl, hd, _, rfl | ⟨p1, q1, M, l1, hM, bM, kM⟩ | g1⟩
    · exact ranG sw.pg (K4_ok tgN) (ρ := pl ⟨0, 0, 0⟩ ⟨0, 0, 0⟩) (runLnn tgN) (pLnn_ok) rfl (start_hs (l := []) (orc := oLnn) (by simp) ok0) (VL.cons (.same rfl) (VL.cons (.same rfl) VL.nil))
    · exact ranG sw.pg (K4_ok tgN) (ρ := pl ⟨b1, o1, 0⟩ ⟨0, 0, 0⟩) (runLnz tgN c1) (pLnz_ok) rfl (start_hs (l := [none]) (orc := oLnz) (by simp) (ok1 trivial)) (VL.cons (.same rfl) (VL.cons (vr_at (by simp) (len := 0) rfl hd) VL.nil))
    · exact ranG sw.pg (K4_ok tgN) (ρ := pl ⟨b1, o1, l1⟩ ⟨0, 0, 0⟩) (runLni tgN M n1 c1) (pLni_ok bM hM.symm p1 q1) rfl (start_hs (l := [oM M]) (orc := oLni) (by simp) (ok1 kM)) (VL.cons (.same rfl) (VL.cons (vr_at (by simp) (len := l1) rfl hd) VL.nil))
    · exact ranG sw.pg (K4_ok tgN) (ρ := pl ⟨b1, o1, 0⟩ ⟨0, 0, 0⟩) (runNB tgN n1 c1) ⟨⟨trivial, decide_eq_true (show 500 < (n1 : Int) by omega)⟩, trivial⟩ rfl (start_hs (l := [none]) (orc := oNB) (by simp) (ok1 trivial)) (VL.cons (.same rfl) (VL.cons (vr_at (by simp) (len := 0) rfl hd) VL.nil))
  · rcases cameIn 500 s1 z1 with ⟨rfl, rfl, rfl⟩ | ⟨b1, o1, rfl, hd, _, rfl | ⟨p1, q1, M, l1, hM, bM, kM⟩ | g1⟩
    · exact ranG sw.pg (K4_ok tgN) (ρ := pl ⟨b0, o0, 0⟩ ⟨0, 0, 0⟩) (runLzn tgN c0) (pLzn_ok) rfl (start_hs (l := [none]) (orc := oLzn) (by simp) (ok1 trivial)) (VL.cons (vr_at (by simp) (len := 0) rfl hc) (VL.cons (.same rfl) VL.nil))
    · exact ranG sw.pg (K4_ok tgN) (ρ := pl ⟨b0, o0, 0⟩ ⟨b1, o1, 0⟩) (runLzz tgN c0 c1) (pLzz_ok) rfl (start_hs (l := [none, none]) (orc := oLzz) (by simp) (ok2 trivial trivial)) (VL.cons (vr_at (by simp) (len := 0) rfl hc) (VL.cons (vr_at (by simp) (len := 0) rfl hd) VL.nil))
    · exact ranG sw.pg (K4_ok tgN) (ρ := pl ⟨b0, o0, 0⟩ ⟨b1, o1, l1⟩) (runLzi tgN c0 M n1 c1) (pLzi_ok bM hM.symm p1 q1) rfl (start_hs (l := [none, oM M]) (orc := oLzi) (by simp) (ok2 trivial kM)) (VL.cons (vr_at (by simp) (len := 0) rfl hc) (VL.cons (vr_at (by simp) (len := l1) rfl hd) VL.nil))
    · exact ranG sw.pg (K4_ok tgN) (ρ := pl ⟨b0, o0, 0⟩ ⟨b1, o1, 0⟩) (runSB tgN 0 c0 n1 c1) ⟨⟨⟨trivial, decide_eq_false (show ¬ 500 < ((0 : Nat) : Int) by omega)⟩, decide_eq_true (show 500 < (n1 : Int) by omega)⟩, trivial⟩ rfl (start_hs (l := [none, none]) (orc := oSB) (by simp) (ok2 trivial trivial)) (VL.cons (vr_at (by simp) (len := 0) rfl hc) (VL.cons (vr_at (by simp) (len := 0) rfl hd) VL.nil))
  · rcases cameIn 500 s1 z1 with ⟨rfl, rfl, rfl⟩ | ⟨b1, o1, rfl, hd, _, rfl | ⟨p1, q1, M, l1, hM, bM, kM⟩ | g1⟩
    · exact ranG sw.pg (K4_ok tgN) (ρ := pl ⟨b0, o0, l0⟩ ⟨0, 0, 0⟩) (runLin tgN K n0 c0) (pLin_ok bK hK.symm p0 q0) rfl (start_hs (l := [oM K]) (orc := oLin) (by simp) (ok1 kK)) (VL.cons (vr_at (by simp) (len := l0) rfl hc) (VL.cons (.same rfl) VL.nil))
    · exact ranG sw.pg (K4_ok tgN) (ρ := pl ⟨b0, o0, l0⟩ ⟨b1, o1, 0⟩) (runLiz tgN K n0 c0 c1) (pLiz_ok bK hK.symm p0 q0) rfl (start_hs (l := [oM K, none]) (orc := oLiz) (by simp) (ok2 kK trivial)) (VL.cons (vr_at (by simp) (len := l0) rfl hc) (VL.cons (vr_at (by simp) (len := 0) rfl hd) VL.nil))
    · exact ranG sw.pg (K4_ok tgN) (ρ := pl ⟨b0, o0, l0⟩ ⟨b1, o1, l1⟩) (runLii tgN K n0 c0 M n1 c1) (pLii_ok bK hK.symm p0 q0 bM hM.symm p1 q1) rfl (start_hs (l := [oM K, oM M]) (orc := oLii) (by simp) (ok2 kK kM)) (VL.cons (vr_at (by simp) (len := l0) rfl hc) (VL.cons (vr_at (by simp) (len := l1) rfl hd) VL.nil))
    · exact ranG sw.pg (K4_ok tgN) (ρ := pl ⟨b0, o0, 0⟩ ⟨b1, o1, 0⟩) (runSB tgN n0 c0 n1 c1) ⟨⟨⟨trivial, decide_eq_false (show ¬ 500 < (n0 : Int) by omega)⟩, decide_eq_true (show 500 < (n1 : Int) by omega)⟩, trivial⟩ rfl (start_hs (l := [none, none]) (orc := oSB) (by simp) (ok2 trivial trivial)) (VL.cons (vr_at (by simp) (len := 0) rfl hc) (VL.cons (vr_at (by simp) (len := 0) rfl hd) VL.nil))
  · rcases cameIn 500 s1 z1 with ⟨rfl, rfl, rfl⟩ | ⟨b1, o1, rfl, hd, _, _⟩
    · exact ranG sw.pg (K4_ok tgN) (ρ := pl ⟨b0, o0, 0⟩ ⟨0, 0, 0⟩) (runBN tgN n0 c0) ⟨⟨trivial, decide_eq_true (show 500 < (n0 : Int) by omega)⟩, trivial⟩ rfl (start_hs (l := [none]) (orc := oBN) (by simp) (ok1 trivial)) (VL.cons (vr_at (by simp) (len := 0) rfl hc) (VL.cons (.same rfl) VL.nil))
    · exact ranG sw.pg (K4_ok tgN) (ρ := pl ⟨b0, o0, 0⟩ ⟨b1, o1, 0⟩) (runBS tgN n0 c0 n1 c1) ⟨⟨trivial, decide_eq_true (show 500 < (n0 : Int) by omega)⟩, trivial⟩ rfl (start_hs (l := [none, none]) (orc := oBN) (by simp) (ok2 trivial trivial)) (VL.cons (vr_at (by simp) (len := 0) rfl hc) (VL.cons (vr_at (by simp) (len := 0) rfl hd) VL.nil))
end
end hd
end Go.Proofs.Ytmgnpfapigenpaa
