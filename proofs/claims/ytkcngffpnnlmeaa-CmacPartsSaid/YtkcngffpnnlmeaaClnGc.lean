/- Read off the code by the clean reading. -/
import Derived.Test.YtkcngffpnnlmeaaClnGb
import Derived.Test.YtkcngffpnnlmeaaClnEq
import Derived.Test.YtkcngffpnnlmeaaClnQc
set_option linter.unusedVariables false
set_option linter.unusedSimpArgs false
set_option linter.deprecated false
set_option maxRecDepth 100000
namespace Go.Proofs.Ytkcngffpnnlmeaa
open Go.ChangeShapes Go.WideShapes Go.ChangeAt Go.RowKit Go.Cln
namespace gc
open ae ga gb
set_option linter.unusedVariables false
noncomputable section
theorem run14 (G : gb.GT) (x : Nest) (key : Nat → Int) (P m d : Nat) : (call14 G x key P m d []).map (fun r => (r.1, r.2.obl, r.2.next, keepL (ks13 193) r.2.heap.get 0)) = some (.tuple #[r12 (G (keyL (intAt (R16 key))) (x.cat P m)), .int .i64 0], True ∧ a13 G x key P m, (h13 x key 193).length, h13 x key 193) := by kernel_rfl
theorem keyL_at (key : Nat → Int) : keyL (intAt (R16 key)) = keyL key := rfl
theorem intAt_R16 {key : Nat → Int} {j : Nat} (h : j < 16) : intAt (R16 key) j = key j := at16 h
theorem tag14 {x : Nest} {key : Nat → Int} {P m d : Nat} (h : x.Ok P) (hk : OkKy key) (hm : m ≤ x.N P) (h30 : m ≤ 30) (hb : ∀ k, k < m → x.m P k ≤ 1000) :
    CallOk Try.prog 14 [sl 1 0 none 16 16, S P m d] (smSt 2 [some (.fam x.F), oKy key] []) (.tuple #[r12 (tagF (keyL key) (x.cat P m)), .int .i64 0]) (smSt 2 (h13 x key 193) []) := by
  have hk' : OkKy (intAt (R16 key)) := fun j hj => by rw [intAt_R16 hj]; exact hk j hj
  have := frame_by pg (KS_ok tagF x) _ (run14 tagF x key P m d) ⟨trivial, rfl, rfl, h, hk', hm, h30, hb⟩ (by rfl) rfl
  rw [keyL_at] at this
  exact this
def FS2 (F0 : FuncId) (V : (Nat → Int) → Value) (kk : Nat) (G : gb.GT) (x : Nest) (f : FuncId) (args : List Value) (s : St) : Option Inst := if f == F0 then match args with
  | [.slice (some ⟨b, 0, none⟩) 16 16, .slice (some ⟨P, 0, some 1001⟩) m d] => match s.heap.get 0 with
    | some (.fam F) => match s.heap.get b with
      | some (.cells (.lit l) _) => if isN 16 l.toArray then some ⟨[(0, 0), (b, 0)], 2, [some (.fam F), some (.cells (.lit l) 25)], [sl 1 0 none 16 16, S P m d], .tuple #[V (G (keyL (intAt l)) (x.cat P m)), .int .i64 0], [some (.fam F), some (.cells (.lit l) 25)] ++ List.replicate kk none,
          G = tagF ∧ F = x.F ∧ x.Ok P ∧ OkKy (intAt l) ∧ m ≤ x.N P ∧ m ≤ 30 ∧ ∀ k, k < m → x.m P k ≤ 1000⟩ else none
      | _ => none
    | _ => none
  | _ => none else none
theorem FS2_ok {F0 : FuncId} {V : (Nat → Int) → Value} {kk : Nat} {G : gb.GT} {x : Nest}
    (hT : ∀ {key : Nat → Int} {P m d : Nat}, x.Ok P → OkKy key → m ≤ x.N P → m ≤ 30 → (∀ k, k < m → x.m P k ≤ 1000) → CallOk Try.prog F0 [sl 1 0 none 16 16, S P m d] (smSt 2 [some (.fam x.F), oKy key] []) (.tuple #[V (tagF (keyL key) (x.cat P m)), .int .i64 0]) (smSt 2 (h13 x key kk) []))
    (f : FuncId) (args : List Value) (s : St) (i : Inst) (h : FS2 F0 V kk G x f args s = some i) : Fits s i args ∧ (i.ask → CallOk Try.prog f i.args i.s0 i.val i.s1) := by
  unfold FS2 at h
  split at h
  · rename_i hf
    have hf' : f = F0 := by simpa using hf
    subst hf'
    split at h
    · rename_i b P m d
      split at h
      · rename_i F hF
        split at h
        · rename_i l tb hb
          split at h
          · rename_i hn
            have el : l = rowV .u8 16 (intAt l) := by
              have := congrArg Array.toList (isN_row hn); simpa using this
            have fl : l.all flat0 = true := by rw [el]; exact row_flat0
            cases h
            refine ⟨⟨?_, fun j pp ob h1 hh => ?_⟩, fun ha => ?_⟩
            · show [Value.slice (some ⟨b, 0, none⟩) 16 16, .slice (some ⟨P, 0, some 1001⟩) m d] = [Value.slice (some ⟨b, addO 0 0, none⟩) 16 16, .slice (some ⟨P, 0, some 1001⟩) m d]
              rw [addO_eq]
            · rcases j with _ | _ | j
              · simp only [List.getElem?_cons_zero, Option.some.injEq] at h1
                subst h1
                simp only [List.getElem?_cons_zero, Option.some.injEq] at hh
                subst hh
                exact ⟨_, hF, fun _ _ _ _ hx => hx⟩
              · simp only [Nat.zero_add, List.getElem?_cons_succ, List.getElem?_cons_zero, Option.some.injEq] at h1
                subst h1
                simp only [Nat.zero_add, List.getElem?_cons_succ, List.getElem?_cons_zero, Option.some.injEq] at hh
                subst hh
                exact ⟨_, hb, fit_same fl⟩
              · simp at h1
            · obtain ⟨rfl, rfl, q1, q2, q3, q4, q5⟩ := ha
              have := hT (key := intAt l) (d := d) q1 q2 q3 q4 q5
              unfold h13 oKy at this
              rw [← el] at this
              exact this
          · cases h
        · cases h
      · cases h
    · cases h
  · cases h
def FD2 (F0 : FuncId) (V : (Nat → Int) → Value) (kk : Nat) (G : gb.GT) (f : FuncId) (args : List Value) (s : St) : Option Inst := if f == F0 then match args with
  | [.slice (some ⟨b, 0, none⟩) 16 16, .slice (some ⟨z, 0, some 1⟩) n d] => match s.heap.get b with
    | some (.cells (.lit l) _) => match s.heap.get z with
      | some (.cells (.ints .u8 M) _) => if isN 16 l.toArray then some ⟨[(b, 0), (z, 0)], 2, h2 (keyL (intAt l)) (wd M 0 n), [sl 0 0 none 16 16, sl 1 0 (some 1) n d], V (G (keyL (intAt l)) (wd M 0 n)), pd kk (h2 (keyL (intAt l)) (wd M 0 n)), G = tagF ∧ OkKy (intAt l) ∧ (wd M 0 n).length = n ∧ n ≤ 1000⟩ else none
      | _ => none
    | _ => none
  | [.slice (some ⟨b, 0, none⟩) 16 16, .slice none 0 0] => match s.heap.get b with
    | some (.cells (.lit l) _) => if isN 16 l.toArray then some ⟨[(b, 0)], 1, h2n (keyL (intAt l)), [sl 0 0 none 16 16, .slice none 0 0], V (G (keyL (intAt l)) []), pd kk (h2n (keyL (intAt l))), G = tagF ∧ OkKy (intAt l)⟩ else none
    | _ => none
  | _ => none else none
theorem fit_key {l : LV} {m : Nat} {ν δ : Nat → Nat} (el : l = rowV .u8 16 (intAt l)) : ∀ (x : Nat) (v : Value), (Cells.ints .u8 (keyL (intAt l))).get x = some v → ∃ V, (Cells.lit l).get (0 + x) = some V ∧ V = mv ν δ v ∧ okN m v = true :=
  fit_intsL fun x a ha => by
    rw [Nat.zero_add, el]
    have hx : x < 16 := by
      have := (List.getElem?_eq_some_iff.1 ha).1
      exact this
    have hc : x = 0 ∨ x = 1 ∨ x = 2 ∨ x = 3 ∨ x = 4 ∨ x = 5 ∨ x = 6 ∨ x = 7 ∨ x = 8 ∨ x = 9 ∨ x = 10 ∨ x = 11 ∨ x = 12 ∨ x = 13 ∨ x = 14 ∨ x = 15 := by omega
    rcases hc with rfl | rfl | rfl | rfl | rfl | rfl | rfl | rfl | rfl | rfl | rfl | rfl | rfl | rfl | rfl | rfl <;> (cases ha; rfl)
theorem FD2_ok {F0 : FuncId} {V : (Nat → Int) → Value} {kk : Nat} {G : gb.GT}
    (hI : ∀ (K M : List Int) (c n d : Nat), okA K M n → CallOk Try.prog F0 [sl 0 0 none 16 c, sl 1 0 none n d] (smSt 2 (h2 K M) []) (V (tagF K M)) (smSt 2 (pd kk (h2 K M)) []))
    (hN : ∀ (K : List Int) (c : Nat), OkK K → CallOk Try.prog F0 [sl 0 0 none 16 c, .slice none 0 0] (smSt 1 (h2n K) []) (V (tagF K [])) (smSt 1 (pd kk (h2n K)) []))
    (f : FuncId) (args : List Value) (s : St) (i : Inst) (h : FD2 F0 V kk G f args s = some i) : Fits s i args ∧ (i.ask → CallOk Try.prog f i.args i.s0 i.val i.s1) := by
  unfold FD2 at h
  split at h
  · rename_i hf
    have hf' : f = F0 := by simpa using hf
    subst hf'
    split at h
    · rename_i b z n d
      split at h
      · rename_i l tb hb
        split at h
        · rename_i M tz hz
          split at h
          · rename_i hn
            have el : l = rowV .u8 16 (intAt l) := by
              have := congrArg Array.toList (isN_row hn); simpa using this
            cases h
            refine ⟨⟨?_, fun j pp ob h1 hh => ?_⟩, fun ha => ?_⟩
            · show [Value.slice (some ⟨b, 0, none⟩) 16 16, .slice (some ⟨z, 0, some 1⟩) n d] = [Value.slice (some ⟨b, addO 0 0, none⟩) 16 16, .slice (some ⟨z, addO 0 0, some 1⟩) n d]
              rw [addO_eq]
            · rcases j with _ | _ | j
              · simp only [List.getElem?_cons_zero, Option.some.injEq] at h1
                subst h1
                simp only [ae.h2, oI, List.getElem?_cons_zero, Option.some.injEq] at hh
                subst hh
                exact ⟨_, hb, fit_key el⟩
              · simp only [Nat.zero_add, List.getElem?_cons_succ, List.getElem?_cons_zero, Option.some.injEq] at h1
                subst h1
                simp only [ae.h2, oI, Nat.zero_add, List.getElem?_cons_succ, List.getElem?_cons_zero, Option.some.injEq] at hh
                subst hh
                exact ⟨_, hz, fit_ints⟩
              · simp at h1
            · obtain ⟨rfl, q1, q2, q3⟩ := ha
              exact CallOk.grow [sl 0 0 none 16 16] [] (fun c _ => hI _ _ 16 n c ⟨keyL_ok q1, q2, q3⟩) d
          · cases h
        · cases h
      · cases h
    · rename_i b
      split at h
      · rename_i l tb hb
        split at h
        · rename_i hn
          have el : l = rowV .u8 16 (intAt l) := by
            have := congrArg Array.toList (isN_row hn); simpa using this
          cases h
          refine ⟨⟨?_, fun j pp ob h1 hh => ?_⟩, fun ha => ?_⟩
          · show [Value.slice (some ⟨b, 0, none⟩) 16 16, .slice none 0 0] = [Value.slice (some ⟨b, addO 0 0, none⟩) 16 16, .slice none 0 0]
            rw [addO_eq]
          · rcases j with _ | j
            · simp only [List.getElem?_cons_zero, Option.some.injEq] at h1
              subst h1
              simp only [h2n, oI, List.getElem?_cons_zero, Option.some.injEq] at hh
              subst hh
              exact ⟨_, hb, fit_key el⟩
            · simp at h1
          · obtain ⟨rfl, q1⟩ := ha
            exact hN _ 16 (keyL_ok q1)
        · cases h
      · cases h
    · cases h
  · cases h
theorem d15 (G : gb.GT) : ∀ (f : FuncId) (args : List Value) (s : St) (i : Inst), FD2 15 row16 148 G f args s = some i → Fits s i args ∧ (i.ask → CallOk Try.prog f i.args i.s0 i.val i.s1) := FD2_ok (fun K M c n d h => rtag_ok K M c n d h.1 h.2.1 (by have := h.2.2; omega)) (fun K c h => rtagn_ok K c h)
theorem d16 (G : gb.GT) : ∀ (f : FuncId) (args : List Value) (s : St) (i : Inst), FD2 16 r12 151 G f args s = some i → Fits s i args ∧ (i.ask → CallOk Try.prog f i.args i.s0 i.val i.s1) := FD2_ok
  (fun K M c n d h => by
    have := frame_by pg (K15_ok tagF) _ (run16i tagF K c M n d) (by rw [wdK h.1.1, wdM h.2.1]; exact ⟨trivial, rfl, h⟩) (by rfl) rfl
    rw [wdK h.1.1, wdM h.2.1] at this; exact this)
  (fun K c h => by
    have := frame_by pg (K15_ok tagF) _ (run16n tagF K c) (by rw [wdK h.1]; exact ⟨trivial, rfl, h⟩) (by rfl) rfl
    rw [wdK h.1] at this; exact this)
theorem s13 (G : gb.GT) (x : Nest) : ∀ (f : FuncId) (args : List Value) (s : St) (i : Inst), FS2 13 row16 191 G x f args s = some i → Fits s i args ∧ (i.ask → CallOk Try.prog f i.args i.s0 i.val i.s1) := FS2_ok fun h1 h2 h3 h4 h5 => tag13 h1 h2 h3 h4 h5
theorem s14 (G : gb.GT) (x : Nest) : ∀ (f : FuncId) (args : List Value) (s : St) (i : Inst), FS2 14 r12 193 G x f args s = some i → Fits s i args ∧ (i.ask → CallOk Try.prog f i.args i.s0 i.val i.s1) := FS2_ok fun h1 h2 h3 h4 h5 => tag14 h1 h2 h3 h4 h5
end
end gc
end Go.Proofs.Ytkcngffpnnlmeaa
namespace Go.Proofs.Ytkcngffpnnlmeaa
open Go.ChangeShapes Go.WideShapes Go.ChangeAt Go.RowKit Go.Cln
namespace gd
set_option linter.unusedVariables false
noncomputable section
open ae ga
open gb (S ix ix_eq oKy nul)
def lb : Code := loopB Try.prog 5 0
def hd0 (y : Nat → Int) (r : Bool) (P n c : Nat) (all : Value) (k : Int) : List Value := [row16 y, S P n c, P0 1 0, undef, .bool r, all, .int .i64 k, undef, undef, undef, undef, S P n c, .int .i64 (nI n), .bool false, undef]
def hd (y : Nat → Int) (P n c : Nat) (all : Value) (k : Int) : List Value := hd0 y false P n c all k
def HN (x : Nest) (y : Nat → Int) : Nat → Option Ob := fun i => match i with
  | 0 => some (.fam x.F)
  | 1 => oKy y
  | _ => none
def HA (x : Nest) (y : Nat → Int) (L : List Int) : Nat → Option Ob := fun i => match i with
  | 0 => some (.fam x.F)
  | 1 => oKy y
  | 2 => some (.cells (.ints .u8 L) 5)
  | _ => none
def lE (x : Nest) (y : Nat → Int) (P n c : Nat) : St := ⟨hd y P n c nul 0 ++ U 54, [], Tr.rebuild (HN x y) 2, 2, 1, [], fun _ => false, True, []⟩
def lN (x : Nest) (y : Nat → Int) (P n c k : Nat) : St := ⟨hd y P n c nul (nI k) ++ (J 12 ++ (U 1 ++ (J 6 ++ U 35))), [], Tr.rebuild (HN x y) 2, 2, 1, [], fun _ => false, True, []⟩
def lR (x : Nest) (y : Nat → Int) (P n c k : Nat) (L : List Int) (a q : Nat) : St := ⟨hd y P n c (.slice (some ⟨2, 0, some 1⟩) a q) (nI k) ++ (J 12 ++ (U 1 ++ (J 6 ++ U 35))), [], Tr.rebuild (HA x y L) 3, 3, 1, [], fun _ => false, True, []⟩
def row0 (x : Nest) (P k : Nat) : List Int := x.row P (ix k)
def len0 (x : Nest) (P k : Nat) : Nat := x.m P (ix k)
def pA (x : Nest) (P n k : Nat) : Prop := (((((True ∧ decide (nI k < nI n) = true) ∧ (0 ≤ nI k ∧ nI k < nI n)) ∧ ix k < x.N P) ∧ decide (nI (len0 x P k) > 40) = false) ∧ (0 ≤ nI k ∧ nI k < nI n)) ∧ ix k < x.N P
def q1 (x : Nest) (P k : Nat) : Prop := len0 x P k = 0 ∨ 0 + len0 x P k ≤ (x.D (x.Q P (ix k))).length
def fk (k : Nat) : Prop := IntKind.i64.wrap (nI k + 1) = nI k + 1
def pN0 (x : Nest) (P n k : Nat) : Prop := ((pA x P n k ∧ decide (len0 x P k = 0) = true) ∧ ((0 : Nat) = 0 ∧ (0 : Nat) = 0 ∧ q1 x P k)) ∧ fk k
def pN1 (x : Nest) (P n k : Nat) : Prop := ((pA x P n k ∧ decide (len0 x P k = 0) = false) ∧ ((0 : Nat) = 0 ∧ (0 : Nat) = 0 ∧ q1 x P k ∧ len0 x P k * 1 ≤ mostBytes ∧ len0 x P k ≤ mostBytes)) ∧ fk k
def pR0 (x : Nest) (P n k : Nat) (L : List Int) (a q : Nat) : Prop := ((pA x P n k ∧ decide (a + len0 x P k ≤ q) = true) ∧ (q1 x P k ∧ 0 + a + len0 x P k ≤ L.length)) ∧ fk k
def pR1 (x : Nest) (P n k : Nat) (L : List Int) (a q : Nat) : Prop := ((pA x P n k ∧ decide (a + len0 x P k ≤ q) = false) ∧ (q1 x P k ∧ 0 + a ≤ L.length ∧ (a + len0 x P k) * 1 ≤ mostBytes ∧ a + len0 x P k ≤ mostBytes)) ∧ fk k
def oA (b : Bool) : List (Option Bool) := [some true, some true, some true, some false, some true, some true, some b, some true]
def go (x : Nest) (s : St) (rd : Option Nat) (o : List (Option Bool)) (t : St) (σ : List Nat) : Option (Exit × Prop × Seen) := ((mk Try.prog KL0 200).code 5 rd lb { s with obl := True, orc := o }).map (fun r => (r.1, r.2.obl, seenIn r.2 t σ))
def g0 (L : List Int) (a : Nat) (r : List Int) : List Int := layI L (0 + a) r
def g1 (L : List Int) (a : Nat) (r : List Int) : List Int := (L.drop 0).take a ++ r
theorem kEN (x : Nest) (y : Nat → Int) (P n c : Nat) (rd : Option Nat) : go x (lE x y P n c) rd (oA true) (lN x y P n c (0 + 1)) [] = some (.normal, pN0 x P n 0, seenAs (lN x y P n c (0 + 1)) [] 2) := by kernel_rfl
theorem kER (x : Nest) (y : Nat → Int) (P n c : Nat) (rd : Option Nat) : go x (lE x y P n c) rd (oA false) (lR x y P n c (0 + 1) (row0 x P 0) (len0 x P 0) (len0 x P 0)) [] = some (.normal, pN1 x P n 0, seenAs (lR x y P n c (0 + 1) (row0 x P 0) (len0 x P 0) (len0 x P 0)) [] 3) := by kernel_rfl
theorem kNN (x : Nest) (y : Nat → Int) (P n c k : Nat) (rd : Option Nat) : go x (lN x y P n c k) rd (oA true) (lN x y P n c (k + 1)) [] = some (.normal, pN0 x P n k, seenAs (lN x y P n c (k + 1)) [] 2) := by kernel_rfl
theorem kNR (x : Nest) (y : Nat → Int) (P n c k : Nat) (rd : Option Nat) : go x (lN x y P n c k) rd (oA false) (lR x y P n c (k + 1) (row0 x P k) (len0 x P k) (len0 x P k)) [] = some (.normal, pN1 x P n k, seenAs (lR x y P n c (k + 1) (row0 x P k) (len0 x P k) (len0 x P k)) [] 3) := by kernel_rfl
theorem kR0 (x : Nest) (y : Nat → Int) (P n c k : Nat) (L : List Int) (a q : Nat) (rd : Option Nat) : go x (lR x y P n c k L a q) rd (oA true) (lR x y P n c (k + 1) (g0 L a (row0 x P k)) (a + len0 x P k) q) [] = some (.normal, pR0 x P n k L a q, seenAs (lR x y P n c (k + 1) (g0 L a (row0 x P k)) (a + len0 x P k) q) [] 3) := by kernel_rfl
theorem kR1 (x : Nest) (y : Nat → Int) (P n c k : Nat) (L : List Int) (a q : Nat) (rd : Option Nat) : go x (lR x y P n c k L a q) rd (oA false) (lR x y P n c (k + 1) (g1 L a (row0 x P k)) (a + len0 x P k) (a + len0 x P k)) [0, 1, 3] = some (.normal, pR1 x P n k L a q, seenAs (lR x y P n c (k + 1) (g1 L a (row0 x P k)) (a + len0 x P k) (a + len0 x P k)) [0, 1, 3] 4) := by kernel_rfl
theorem kNX (x : Nest) (y : Nat → Int) (P n c k : Nat) (rd : Option Nat) : go x (lN x y P n c k) rd [some false] (lN x y P n c k) [] = some (.exit 0, True ∧ decide (nI k < nI n) = false, seenAs (lN x y P n c k) [] 2) := by kernel_rfl
theorem kRX (x : Nest) (y : Nat → Int) (P n c k : Nat) (L : List Int) (a q : Nat) (rd : Option Nat) : go x (lR x y P n c k L a q) rd [some false] (lR x y P n c k L a q) [] = some (.exit 0, True ∧ decide (nI k < nI n) = false, seenAs (lR x y P n c k L a q) [] 3) := by kernel_rfl
def hdY (y : Nat → Int) (P n c : Nat) (all : Value) (k : Int) : List Value := hd0 y true P n c all k
def eY (x : Nest) (y : Nat → Int) (P n c : Nat) : St := ⟨hdY y P n c nul 0 ++ (J 4 ++ (U 2 ++ (J 6 ++ (J 1 ++ U 41)))), [], Tr.rebuild (HN x y) 2, 2, 1, [], fun _ => false, True, []⟩
def nY (x : Nest) (y : Nat → Int) (P n c k : Nat) : St := ⟨hdY y P n c nul (nI k) ++ (J 12 ++ (J 1 ++ (J 6 ++ U 35))), [], Tr.rebuild (HN x y) 2, 2, 1, [], fun _ => false, True, []⟩
def rY (x : Nest) (y : Nat → Int) (P n c k : Nat) (L : List Int) (a q : Nat) : St := ⟨hdY y P n c (.slice (some ⟨2, 0, some 1⟩) a q) (nI k) ++ (J 12 ++ (J 1 ++ (J 6 ++ U 35))), [], Tr.rebuild (HA x y L) 3, 3, 1, [], fun _ => false, True, []⟩
def oY : List (Option Bool) := [some true, some true, some true, some true]
def pY (x : Nest) (P n k : Nat) : Prop := ((((True ∧ decide (nI k < nI n) = true) ∧ (0 ≤ nI k ∧ nI k < nI n)) ∧ ix k < x.N P) ∧ decide (nI (len0 x P k) > 40) = true) ∧ True
theorem kEY (x : Nest) (y : Nat → Int) (P n c : Nat) (rd : Option Nat) : go x (lE x y P n c) rd oY (eY x y P n c) [] = some (.ret, pY x P n 0, seenAs (eY x y P n c) [] 2) := by kernel_rfl
theorem kNY (x : Nest) (y : Nat → Int) (P n c k : Nat) (rd : Option Nat) : go x (lN x y P n c k) rd oY (nY x y P n c k) [] = some (.ret, pY x P n k, seenAs (nY x y P n c k) [] 2) := by kernel_rfl
theorem kRY (x : Nest) (y : Nat → Int) (P n c k : Nat) (L : List Int) (a q : Nat) (rd : Option Nat) : go x (lR x y P n c k L a q) rd oY (rY x y P n c k L a q) [] = some (.ret, pY x P n k, seenAs (rY x y P n c k L a q) [] 3) := by kernel_rfl
theorem st {x : Nest} {y : Nat → Int} {P n c n1 : Nat} {rd : Option Nat} {s t : St} {o : List (Option Bool)} {σ : List Nat} {e : Exit} {p : Prop} {g : Nat → Option Ob} (hr : go x s rd o t σ = some (e, p, seenAs t σ n1)) (hp : p) (hs : 2 ≤ s.next)
    (hh : t.heap = Tr.rebuild g t.next) (hk : picOk (lE x y P n c) t σ n1 = true) : Step Try.prog rd (lE x y P n c) lb s (fun e' t' => e' = e ∧ t' = t) :=
  Step.std pg (KL0_ok) hr hp hs hh hk
theorem sEN {x : Nest} {y : Nat → Int} {P n c : Nat} (rd : Option Nat) (hp : pN0 x P n 0) : Step Try.prog rd (lE x y P n c) lb (lE x y P n c) (fun e t => e = .normal ∧ t = lN x y P n c (0 + 1)) := st (kEN x y P n c rd) hp (show 2 ≤ 2 by decide) (g := HN x y) rfl (by kernel_rfl)
theorem sER {x : Nest} {y : Nat → Int} {P n c : Nat} (rd : Option Nat) (hp : pN1 x P n 0) : Step Try.prog rd (lE x y P n c) lb (lE x y P n c) (fun e t => e = .normal ∧ t = lR x y P n c (0 + 1) (row0 x P 0) (len0 x P 0) (len0 x P 0)) := st (kER x y P n c rd) hp (show 2 ≤ 2 by decide) (g := HA x y (row0 x P 0)) rfl (by kernel_rfl)
theorem sNN {x : Nest} {y : Nat → Int} {P n c k : Nat} (rd : Option Nat) (hp : pN0 x P n k) : Step Try.prog rd (lE x y P n c) lb (lN x y P n c k) (fun e t => e = .normal ∧ t = lN x y P n c (k + 1)) := st (kNN x y P n c k rd) hp (show 2 ≤ 2 by decide) (g := HN x y) rfl (by kernel_rfl)
theorem sNR {x : Nest} {y : Nat → Int} {P n c k : Nat} (rd : Option Nat) (hp : pN1 x P n k) : Step Try.prog rd (lE x y P n c) lb (lN x y P n c k) (fun e t => e = .normal ∧ t = lR x y P n c (k + 1) (row0 x P k) (len0 x P k) (len0 x P k)) := st (kNR x y P n c k rd) hp (show 2 ≤ 2 by decide) (g := HA x y (row0 x P k)) rfl (by kernel_rfl)
theorem sR0 {x : Nest} {y : Nat → Int} {P n c k : Nat} {L : List Int} {a q : Nat} (rd : Option Nat) (hp : pR0 x P n k L a q) : Step Try.prog rd (lE x y P n c) lb (lR x y P n c k L a q) (fun e t => e = .normal ∧ t = lR x y P n c (k + 1) (g0 L a (row0 x P k)) (a + len0 x P k) q) := st (kR0 x y P n c k L a q rd) hp (show 2 ≤ 3 by decide) (g := HA x y (g0 L a (row0 x P k))) rfl (by kernel_rfl)
theorem sR1 {x : Nest} {y : Nat → Int} {P n c k : Nat} {L : List Int} {a q : Nat} (rd : Option Nat) (hp : pR1 x P n k L a q) : Step Try.prog rd (lE x y P n c) lb (lR x y P n c k L a q) (fun e t => e = .normal ∧ t = lR x y P n c (k + 1) (g1 L a (row0 x P k)) (a + len0 x P k) (a + len0 x P k)) := st (kR1 x y P n c k L a q rd) hp (show 2 ≤ 3 by decide) (g := HA x y (g1 L a (row0 x P k))) rfl (by kernel_rfl)
theorem sNX {x : Nest} {y : Nat → Int} {P n c k : Nat} (rd : Option Nat) (hp : True ∧ decide (nI k < nI n) = false) : Step Try.prog rd (lE x y P n c) lb (lN x y P n c k) (fun e t => e = .exit 0 ∧ t = lN x y P n c k) := st (kNX x y P n c k rd) hp (show 2 ≤ 2 by decide) (g := HN x y) rfl (by kernel_rfl)
theorem sRX {x : Nest} {y : Nat → Int} {P n c k : Nat} {L : List Int} {a q : Nat} (rd : Option Nat) (hp : True ∧ decide (nI k < nI n) = false) : Step Try.prog rd (lE x y P n c) lb (lR x y P n c k L a q) (fun e t => e = .exit 0 ∧ t = lR x y P n c k L a q) := st (kRX x y P n c k L a q rd) hp (show 2 ≤ 3 by decide) (g := HA x y L) rfl (by kernel_rfl)
theorem sEY {x : Nest} {y : Nat → Int} {P n c : Nat} (rd : Option Nat) (hp : pY x P n 0) : Step Try.prog rd (lE x y P n c) lb (lE x y P n c) (fun e t => e = .ret ∧ t = eY x y P n c) := st (kEY x y P n c rd) hp (show 2 ≤ 2 by decide) (g := HN x y) rfl (by kernel_rfl)
theorem sNY {x : Nest} {y : Nat → Int} {P n c k : Nat} (rd : Option Nat) (hp : pY x P n k) : Step Try.prog rd (lE x y P n c) lb (lN x y P n c k) (fun e t => e = .ret ∧ t = nY x y P n c k) := st (kNY x y P n c k rd) hp (show 2 ≤ 2 by decide) (g := HN x y) rfl (by kernel_rfl)
theorem sRY {x : Nest} {y : Nat → Int} {P n c k : Nat} {L : List Int} {a q : Nat} (rd : Option Nat) (hp : pY x P n k) : Step Try.prog rd (lE x y P n c) lb (lR x y P n c k L a q) (fun e t => e = .ret ∧ t = rY x y P n c k L a q) := st (kRY x y P n c k L a q rd) hp (show 2 ≤ 3 by decide) (g := HA x y L) rfl (by kernel_rfl)
def stA (x : Nest) (P : Nat) : Nat → Option (List Int × Nat × Nat)
  | 0 => none
  | k + 1 => match stA x P k with
    | none => if len0 x P k = 0 then none else some (row0 x P k, len0 x P k, len0 x P k)
    | some (L, a, q) => if a + len0 x P k ≤ q then some (g0 L a (row0 x P k), a + len0 x P k, q) else some (g1 L a (row0 x P k), a + len0 x P k, a + len0 x P k)
def AOk (x : Nest) (P k : Nat) : Option (List Int × Nat × Nat) → Prop
  | none => x.cat P k = []
  | some (L, a, q) => a = (x.cat P k).length ∧ L.take a = x.cat P k ∧ a ≤ q ∧ q ≤ L.length ∧ 0 < a
theorem len0_eq (x : Nest) (P k : Nat) : len0 x P k = x.m P k := by unfold len0; rw [ix_eq]
theorem row0_eq (x : Nest) (P k : Nat) : row0 x P k = x.row P k := by unfold row0; rw [ix_eq]
theorem stA_ok {x : Nest} {P : Nat} (h : x.Ok P) : ∀ k, k ≤ x.N P → AOk x P k (stA x P k)
  | 0, _ => rfl
  | k + 1, hk => by
    have ih := stA_ok h k (by omega)
    have hr : (x.row P k).length = x.m P k := h.len k (by omega)
    simp only [stA]
    rw [len0_eq, row0_eq]
    cases hs : stA x P k with
    | none =>
      rw [hs] at ih
      have ih : x.cat P k = [] := ih
      simp only
      split
      · rename_i h0
        have : x.row P k = [] := List.eq_nil_of_length_eq_zero (by omega)
        show x.cat P k ++ x.row P k = []
        rw [ih, this]; rfl
      · rename_i h0
        show x.m P k = (x.cat P k ++ x.row P k).length ∧ (x.row P k).take (x.m P k) = x.cat P k ++ x.row P k ∧ _
        rw [ih, List.nil_append]
        exact ⟨hr.symm, List.take_of_length_le (by omega), Nat.le_refl _, by omega, by omega⟩
    | some t =>
      obtain ⟨L, a, q⟩ := t
      rw [hs] at ih
      obtain ⟨i1, i2, i3, i4, i5⟩ := ih
      have hl : (x.cat P k ++ x.row P k).length = a + x.m P k := by rw [List.length_append, ← i1, hr]
      have ht : (L.take a).length = a := by rw [List.length_take]; omega
      simp only
      split
      · rename_i hq
        refine ⟨hl.symm, ?_, hq, ?_, by omega⟩
        · show (g0 L a (x.row P k)).take (a + x.m P k) = x.cat P k ++ x.row P k
          unfold g0 layI
          rw [Nat.zero_add, i2, ← List.append_assoc]
          exact List.take_left' hl
        · unfold g0 layI
          rw [Nat.zero_add]
          simp only [List.length_append, List.length_take, List.length_drop]
          omega
      · have e : g1 L a (x.row P k) = x.cat P k ++ x.row P k := by unfold g1; rw [List.drop_zero, i2]
        rw [e]
        exact ⟨hl.symm, List.take_of_length_le (by omega), Nat.le_refl _, by omega, by omega⟩
def noS (x : Nest) (y : Nat → Int) (P n c : Nat) : Nat → St
  | 0 => lE x y P n c
  | k + 1 => lN x y P n c (k + 1)
def noY (x : Nest) (y : Nat → Int) (P n c : Nat) : Nat → St
  | 0 => eY x y P n c
  | k + 1 => nY x y P n c (k + 1)
def stS (x : Nest) (y : Nat → Int) (P n c k : Nat) : St := match stA x P k with
  | none => noS x y P n c k
  | some (L, a, q) => lR x y P n c k L a q
def stY (x : Nest) (y : Nat → Int) (P n c k : Nat) : St := match stA x P k with
  | none => noY x y P n c k
  | some (L, a, q) => rY x y P n c k L a q
theorem q1_of {x : Nest} {P k : Nat} (h : x.Ok P) (hk : k < x.N P) : q1 x P k := by
  have hr : (x.row P k).length = x.m P k := h.len k hk
  unfold q1
  rw [len0_eq, ix_eq]
  unfold Nest.row at hr
  rw [List.drop_zero, List.length_take] at hr
  omega
theorem pA_of {x : Nest} {P n k : Nat} (h : x.Ok P) (hn : n ≤ x.N P) (hk : k < n) (hm : x.m P k ≤ 40) : pA x P n k := by
  unfold pA
  rw [len0_eq, ix_eq]
  simp only [nI, decide_eq_true_eq, decide_eq_false_iff_not]
  refine ⟨⟨⟨⟨⟨⟨trivial, by omega⟩, by omega⟩, by omega⟩, by omega⟩, by omega⟩, by omega⟩
theorem fk_of {k : Nat} (h : k < 1000) : fk k := by unfold fk; simp only [nI]; rw [IntKind.wrap_i64]; omega
theorem step {x : Nest} {y : Nat → Int} {P n c k : Nat} (h : x.Ok P) (hn : n ≤ x.N P) (h30 : n ≤ 30) (hk : k < n) (hm : ∀ i, i ≤ k → x.m P i ≤ 40) (rd : Option Nat) :
    Step Try.prog rd (lE x y P n c) lb (stS x y P n c k) (fun e t => e = .normal ∧ t = stS x y P n c (k + 1)) := by
  have hA := pA_of h hn hk (hm k (Nat.le_refl _))
  have hq := q1_of (k := k) h (by omega)
  have hf := fk_of (k := k) (by omega)
  have hmk := hm k (Nat.le_refl _)
  have hok := stA_ok h k (by omega)
  have hlen := Nest.cat_len (B := 40) h k (by omega) fun i hi => hm i (by omega)
  have e1 : stS x y P n c (k + 1) = match stA x P k with
    | none => if len0 x P k = 0 then lN x y P n c (k + 1) else lR x y P n c (k + 1) (row0 x P k) (len0 x P k) (len0 x P k)
    | some (L, a, q) => if a + len0 x P k ≤ q then lR x y P n c (k + 1) (g0 L a (row0 x P k)) (a + len0 x P k) q else lR x y P n c (k + 1) (g1 L a (row0 x P k)) (a + len0 x P k) (a + len0 x P k) := by
    unfold stS
    simp only [stA]
    cases stA x P k with
    | none => by_cases h0 : len0 x P k = 0 <;> simp only [h0, if_true, if_false, noS]
    | some t => obtain ⟨L, a, q⟩ := t; by_cases h0 : a + len0 x P k ≤ q <;> simp only [h0, if_true, if_false]
  rw [e1]
  cases hs : stA x P k with
  | none =>
    have e0 : stS x y P n c k = noS x y P n c k := by unfold stS; rw [hs]
    rw [e0]
    simp only
    by_cases h0 : len0 x P k = 0
    · rw [if_pos h0]
      have hp : pN0 x P n k := ⟨⟨⟨hA, by rw [decide_eq_true_eq]; exact h0⟩, rfl, rfl, hq⟩, hf⟩
      cases k with
      | zero => exact sEN rd hp
      | succ k => exact sNN rd hp
    · rw [if_neg h0]
      have hp : pN1 x P n k := ⟨⟨⟨hA, by rw [decide_eq_false_iff_not]; exact h0⟩, rfl, rfl, hq, by rw [len0_eq]; unfold mostBytes; omega, by rw [len0_eq]; unfold mostBytes; omega⟩, hf⟩
      cases k with
      | zero => exact sER rd hp
      | succ k => exact sNR rd hp
  | some t =>
    obtain ⟨L, a, q⟩ := t
    have e0 : stS x y P n c k = lR x y P n c k L a q := by unfold stS; rw [hs]
    rw [e0]
    rw [hs] at hok
    obtain ⟨i1, i2, i3, i4, i5⟩ := hok
    have hr : (x.row P k).length = x.m P k := h.len k (by omega)
    simp only
    by_cases h0 : a + len0 x P k ≤ q
    · rw [if_pos h0]
      exact sR0 rd ⟨⟨⟨hA, by rw [decide_eq_true_eq]; exact h0⟩, hq, by omega⟩, hf⟩
    · rw [if_neg h0]
      exact sR1 rd ⟨⟨⟨hA, by rw [decide_eq_false_iff_not]; exact h0⟩, hq, by omega, by rw [len0_eq]; unfold mostBytes; omega, by rw [len0_eq]; unfold mostBytes; omega⟩, hf⟩
theorem loopX {x : Nest} {y : Nat → Int} {P n c : Nat} (h : x.Ok P) (hn : n ≤ x.N P) (h30 : n ≤ 30) (h0 : 0 < n) (hm : ∀ i, i < n → x.m P i ≤ 40) (rd : Option Nat) :
    CodeOk Try.prog rd (.loop lb) (lE x y P n c) (.exit 0) (stS x y P n c n) := by
  refine CodeOk.of_step (Step.loop (fun g t => ∃ j, j ≤ n ∧ g = n - j ∧ t = stS x y P n c j) ?_ n _ ⟨0, by omega, by omega, rfl⟩)
  rintro g t ⟨j, g2, rfl, rfl⟩
  by_cases hj : j = n
  · subst hj
    have hp : True ∧ decide (nI j < nI j) = false := ⟨trivial, by simp only [nI, decide_eq_false_iff_not]; omega⟩
    have key : Step Try.prog rd (lE x y P j c) lb (stS x y P j c j) (fun e t => e = .exit 0 ∧ t = stS x y P j c j) := by
      unfold stS
      cases stA x P j with
      | none =>
        cases j with
        | zero => omega
        | succ j => exact sNX rd hp
      | some t => obtain ⟨L, a, q⟩ := t; exact sRX rd hp
    refine key.mono ?_
    rintro e' t ⟨rfl, rfl⟩
    exact .inr ⟨(by intro x; cases x), rfl, rfl⟩
  · refine (step h hn h30 (by omega) (fun i hi => hm i (by omega)) rd).mono ?_
    rintro e' t ⟨rfl, rfl⟩
    exact .inl ⟨rfl, n - (j + 1), by omega, j + 1, by omega, rfl, rfl⟩
theorem loopY {x : Nest} {y : Nat → Int} {P n c k : Nat} (h : x.Ok P) (hn : n ≤ x.N P) (h30 : n ≤ 30) (hk : k < n) (hm : ∀ i, i < k → x.m P i ≤ 40) (hbig : 40 < x.m P k) (rd : Option Nat) :
    CodeOk Try.prog rd (.loop lb) (lE x y P n c) .ret (stY x y P n c k) := by
  refine CodeOk.of_step (Step.loop (fun g t => ∃ j, j ≤ k ∧ g = k - j ∧ t = stS x y P n c j) ?_ k _ ⟨0, by omega, by omega, rfl⟩)
  rintro g t ⟨j, g2, rfl, rfl⟩
  by_cases hj : j = k
  · subst hj
    have hp : pY x P n j := by
      unfold pY
      rw [len0_eq, ix_eq]
      simp only [nI, decide_eq_true_eq]
      exact ⟨⟨⟨⟨⟨trivial, by omega⟩, by omega⟩, by omega⟩, by omega⟩, trivial⟩
    have key : Step Try.prog rd (lE x y P n c) lb (stS x y P n c j) (fun e t => e = .ret ∧ t = stY x y P n c j) := by
      unfold stS stY
      cases stA x P j with
      | none =>
        cases j with
        | zero => exact sEY rd hp
        | succ j => exact sNY rd hp
      | some t => obtain ⟨L, a, q⟩ := t; exact sRY rd hp
    refine key.mono ?_
    rintro e' t ⟨rfl, rfl⟩
    exact .inr ⟨(by intro x; cases x), rfl, rfl⟩
  · refine (step h hn h30 (by omega) (fun i hi => hm i (by omega)) rd).mono ?_
    rintro e' t ⟨rfl, rfl⟩
    exact .inl ⟨rfl, k - (j + 1), by omega, j + 1, by omega, rfl, rfl⟩
theorem first {p : Nat → Prop} [DecidablePred p] : ∀ n, (∀ i, i < n → p i) ∨ ∃ k, k < n ∧ ¬ p k ∧ ∀ i, i < k → p i
  | 0 => .inl fun i hi => by omega
  | n + 1 => by
    rcases first (p := p) n with h | ⟨k, h1, h2, h3⟩
    · by_cases hp : p n
      · exact .inl fun i hi => by
          rcases Nat.lt_or_ge i n with h4 | h4
          · exact h i h4
          · have : i = n := by omega
            rw [this]; exact hp
      · exact .inr ⟨n, by omega, hp, h⟩
    · exact .inr ⟨k, by omega, h2, h3⟩
end
end gd
end Go.Proofs.Ytkcngffpnnlmeaa
namespace Go.Proofs.Ytkcngffpnnlmeaa
open Go.ChangeShapes Go.WideShapes Go.ChangeAt Go.RowKit Go.Cln
namespace ge
open ae ga gc
open gb (S ix ix_eq oKy nul OkKy keyL)
open gd (lE lN lR eY nY rY lb)
set_option linter.unusedVariables false
noncomputable section
def KL (G : gb.GT) (x : Nest) : Given := { Given.frames (Given.frames (Given.frames (Given.frames (Given.frames Given.nothing F9w) (FS2 13 row16 191 G x)) (FS2 14 r12 193 G x)) (FD2 15 row16 148 G)) (FD2 16 r12 151 G) with fits := true }
theorem KL_ok (G : gb.GT) (x : Nest) : GivenOk Try.prog (KL G x) := frames_fits ((((((GivenOk.nothing _).frames F9w_ok).frames (s13 G x)).frames (s14 G x)).frames (d15 G)).frames (d16 G)) true
def askL (e : Exit) (X : St) (f : FuncId) (c : Code) (s : St) : Option Ask2 := if f == 5 then some ⟨⟨[], [], [], []⟩, e, fun _ => X⟩ else none
def KX (G : gb.GT) (x : Nest) (e : Exit) (X : St) : Given := Given.asking2 (KL G x) Try.prog (askL e X)
theorem KX_ok (G : gb.GT) (x : Nest) (e : Exit) (X : St) : GivenOk Try.prog (KX G x e X) := (KL_ok G x).asking2 _
def call5 (x : Nest) (y : Nat → Int) (K : Given) (P n c : Nat) (o : List (Option Bool)) : Option (Value × St) := ((mk Try.prog K 300).call 5 [row16 y, S P n c] (smSt 1 [some (.fam x.F)] o))
end
end ge
end Go.Proofs.Ytkcngffpnnlmeaa
namespace Go.Proofs.Ytkcngffpnnlmeaa
open Go.ChangeShapes Go.WideShapes Go.ChangeAt Go.RowKit Go.Cln
namespace ge
open ae ga gc
open gb (S ix ix_eq oKy nul OkKy keyL)
open gd (lE lN lR eY nY rY lb)
set_option linter.unusedVariables false
noncomputable section
def T1 : Option Bool := some true
def F1 : Option Bool := some false
def nn' (k : Nat) : List (Option Bool) := List.replicate k none
def e16 (p : Prop) (f g : Nat → Int) : Prop := ((((((((((((((((p ∧ (f 0 == g 0) = true) ∧ (f 1 == g 1) = true) ∧ (f 2 == g 2) = true) ∧ (f 3 == g 3) = true) ∧ (f 4 == g 4) = true) ∧ (f 5 == g 5) = true) ∧ (f 6 == g 6) = true) ∧ (f 7 == g 7) = true) ∧ (f 8 == g 8) = true) ∧ (f 9 == g 9) = true) ∧ (f 10 == g 10) = true) ∧ (f 11 == g 11) = true) ∧ (f 12 == g 12) = true) ∧ (f 13 == g 13) = true) ∧ (f 14 == g 14) = true) ∧ (f 15 == g 15) = true)
def e12 (p : Prop) (f g : Nat → Int) : Prop := ((((((((((((p ∧ (f 0 == g 0) = true) ∧ (f 1 == g 1) = true) ∧ (f 2 == g 2) = true) ∧ (f 3 == g 3) = true) ∧ (f 4 == g 4) = true) ∧ (f 5 == g 5) = true) ∧ (f 6 == g 6) = true) ∧ (f 7 == g 7) = true) ∧ (f 8 == g 8) = true) ∧ (f 9 == g 9) = true) ∧ (f 10 == g 10) = true) ∧ (f 11 == g 11) = true)
theorem e16_of {p : Prop} {f g : Nat → Int} (e : ∀ j, j < 16 → f j = g j) (h : p) : e16 p f g := ⟨⟨⟨⟨⟨⟨⟨⟨⟨⟨⟨⟨⟨⟨⟨⟨h, by rw [e 0 (by decide)]; exact beq_self_eq_true _⟩, by rw [e 1 (by decide)]; exact beq_self_eq_true _⟩, by rw [e 2 (by decide)]; exact beq_self_eq_true _⟩, by rw [e 3 (by decide)]; exact beq_self_eq_true _⟩, by rw [e 4 (by decide)]; exact beq_self_eq_true _⟩, by rw [e 5 (by decide)]; exact beq_self_eq_true _⟩, by rw [e 6 (by decide)]; exact beq_self_eq_true _⟩, by rw [e 7 (by decide)]; exact beq_self_eq_true _⟩, by rw [e 8 (by decide)]; exact beq_self_eq_true _⟩, by rw [e 9 (by decide)]; exact beq_self_eq_true _⟩, by rw [e 10 (by decide)]; exact beq_self_eq_true _⟩, by rw [e 11 (by decide)]; exact beq_self_eq_true _⟩, by rw [e 12 (by decide)]; exact beq_self_eq_true _⟩, by rw [e 13 (by decide)]; exact beq_self_eq_true _⟩, by rw [e 14 (by decide)]; exact beq_self_eq_true _⟩, by rw [e 15 (by decide)]; exact beq_self_eq_true _⟩
theorem e12_of {p : Prop} {f g : Nat → Int} (e : ∀ j, j < 12 → f j = g j) (h : p) : e12 p f g := ⟨⟨⟨⟨⟨⟨⟨⟨⟨⟨⟨⟨h, by rw [e 0 (by decide)]; exact beq_self_eq_true _⟩, by rw [e 1 (by decide)]; exact beq_self_eq_true _⟩, by rw [e 2 (by decide)]; exact beq_self_eq_true _⟩, by rw [e 3 (by decide)]; exact beq_self_eq_true _⟩, by rw [e 4 (by decide)]; exact beq_self_eq_true _⟩, by rw [e 5 (by decide)]; exact beq_self_eq_true _⟩, by rw [e 6 (by decide)]; exact beq_self_eq_true _⟩, by rw [e 7 (by decide)]; exact beq_self_eq_true _⟩, by rw [e 8 (by decide)]; exact beq_self_eq_true _⟩, by rw [e 9 (by decide)]; exact beq_self_eq_true _⟩, by rw [e 10 (by decide)]; exact beq_self_eq_true _⟩, by rw [e 11 (by decide)]; exact beq_self_eq_true _⟩
def oA : List (Option Bool) := F1 :: (nn' 9 ++ (List.replicate 16 T1 ++ (nn' 7 ++ List.replicate 12 T1)))
def kk (y : Nat → Int) : List Int := keyL (intAt (R16 y))
def qS (G : gb.GT) (x : Nest) (y : Nat → Int) (P n : Nat) : Prop := G = tagF ∧ x.F = x.F ∧ x.Ok P ∧ OkKy (intAt (R16 y)) ∧ n ≤ x.N P ∧ n ≤ 30 ∧ ∀ k, k < n → x.m P k ≤ 1000
def qD (G : gb.GT) (y : Nat → Int) (L : List Int) (a : Nat) : Prop := G = tagF ∧ OkKy (intAt (R16 y)) ∧ (wd L 0 a).length = a ∧ a ≤ 1000
def qN (G : gb.GT) (y : Nat → Int) : Prop := G = tagF ∧ OkKy (intAt (R16 y))
def pHd (x : Nest) (y : Nat → Int) (P n c : Nat) (e : Exit) (X : St) : Prop := (True ∧ decide (nI n > 12) = false) ∧ (∀ rd, CodeOk Try.prog rd (.loop lb) (lE x y P n c) e X)
def pT (G : gb.GT) (x : Nest) (y : Nat → Int) (P n : Nat) (p q : Prop) (M : List Int) : Prop := e12 (e16 (((p ∧ qS G x y P n) ∧ qS G x y P n) ∧ q) (G (kk y) (x.cat P n)) (G (kk y) M) ∧ q) (G (kk y) (x.cat P n)) (G (kk y) M) ∧ True
def c5 (x : Nest) (y : Nat → Int) (K : Given) (P n c : Nat) (o : List (Option Bool)) : Option (Value × Prop) := (call5 x y K P n c o).map (fun r => (r.1, r.2.obl))
theorem runB (G : gb.GT) (x : Nest) (y : Nat → Int) (P n c : Nat) : c5 x y (KL G x) P n c [T1] = some (.bool true, (True ∧ decide (nI n > 12) = true) ∧ True) := by kernel_rfl
theorem runA (G : gb.GT) (x : Nest) (y : Nat → Int) (P n c k : Nat) (L : List Int) (a q : Nat) : c5 x y (KX G x (.exit 0) (lR x y P n c k L a q)) P n c oA = some (.bool true, pT G x y P n (pHd x y P n c (.exit 0) (lR x y P n c k L a q)) (qD G y L a) (wd L 0 a)) := by kernel_rfl
theorem runN (G : gb.GT) (x : Nest) (y : Nat → Int) (P n c k : Nat) : c5 x y (KX G x (.exit 0) (lN x y P n c k)) P n c oA = some (.bool true, pT G x y P n (pHd x y P n c (.exit 0) (lN x y P n c k)) (qN G y) []) := by kernel_rfl
theorem runYE (G : gb.GT) (x : Nest) (y : Nat → Int) (P n c : Nat) : c5 x y (KX G x .ret (eY x y P n c)) P n c [F1] = some (.bool true, pHd x y P n c .ret (eY x y P n c)) := by kernel_rfl
theorem runYN (G : gb.GT) (x : Nest) (y : Nat → Int) (P n c k : Nat) : c5 x y (KX G x .ret (nY x y P n c k)) P n c [F1] = some (.bool true, pHd x y P n c .ret (nY x y P n c k)) := by kernel_rfl
theorem runYR (G : gb.GT) (x : Nest) (y : Nat → Int) (P n c k : Nat) (L : List Int) (a q : Nat) : c5 x y (KX G x .ret (rY x y P n c k L a q)) P n c [F1] = some (.bool true, pHd x y P n c .ret (rY x y P n c k L a q)) := by kernel_rfl
end
end ge
end Go.Proofs.Ytkcngffpnnlmeaa
namespace Go.Proofs.Ytkcngffpnnlmeaa
open Go.ChangeShapes Go.WideShapes Go.ChangeAt Go.RowKit Go.Cln
namespace ge
open ae ga gc
open gb (S ix ix_eq oKy nul OkKy keyL)
open gd (lE lN lR eY nY rY lb)
set_option linter.unusedVariables false
noncomputable section
open gb (KT KT_ok tgN zM zM_ok kW_key keyL_ok)
def zs (b c : Nat) : Value := .slice (some ⟨b, 0, none⟩) 0 c
def cN (K : Given) (fn : FuncId) (key : Nat → Int) (v : Value) (l : List (Option Ob)) : Option (Value × St) := (mk Try.prog K 300).call fn [sl 0 0 none 16 16, v] (smSt (l.length + 1) (oKy key :: l) [])
def hN (key : Nat → Int) (n : Nat) : List (Option Ob) := oKy key :: List.replicate n none
def ksN (n : Nat) : List Bool := true :: List.replicate n false
def pN (T : VT) (key : Nat → Int) : Prop := (True ∧ (T = VT0 ∧ T.ok (kW (keyL key)))) ∧ T = VT0
theorem rn13n (T : VT) (key : Nat → Int) : (cN (KT T) 13 key (.slice none 0 0) []).map (fun r => (r.1, r.2.obl, r.2.next, keepL (ksN 190) r.2.heap.get 0)) = some (.tuple #[row16 (tgN T (zM T (kW (keyL key)))), .int .i64 0], pN T key, (hN key 190).length, hN key 190) := by kernel_rfl
theorem rn13z (T : VT) (key : Nat → Int) (c : Nat) : (cN (KT T) 13 key (zs 1 c) [none]).map (fun r => (r.1, r.2.obl, r.2.next, keepL (ksN 191) r.2.heap.get 0)) = some (.tuple #[row16 (tgN T (zM T (kW (keyL key)))), .int .i64 0], pN T key, (hN key 191).length, hN key 191) := by kernel_rfl
theorem pN_ok {key : Nat → Int} (h : OkKy key) : pN VT0 key := ⟨⟨trivial, rfl, by rw [kW_key]; exact keyL_ok h⟩, rfl⟩
theorem t13n {key : Nat → Int} (h : OkKy key) : CallOk Try.prog 13 [sl 0 0 none 16 16, .slice none 0 0] (smSt 1 (hN key 0) []) (.tuple #[row16 (tagF (keyL key) []), .int .i64 0]) (smSt 1 (hN key 190) []) := by
  have := frame_by pg (KT_ok VT0) _ (rn13n VT0 key) (pN_ok h) (by rfl) rfl
  rw [(zM_ok _).tagN, kW_key] at this
  exact this
theorem t13z {key : Nat → Int} (c : Nat) (h : OkKy key) : CallOk Try.prog 13 [sl 0 0 none 16 16, zs 1 c] (smSt 2 (hN key 1) []) (.tuple #[row16 (tagF (keyL key) []), .int .i64 0]) (smSt 2 (hN key 191) []) := by
  have := frame_by pg (KT_ok VT0) _ (rn13z VT0 key c) (pN_ok h) (by rfl) rfl
  rw [(zM_ok _).tagN, kW_key] at this
  exact this
def FN2 (F0 : FuncId) (V : (Nat → Int) → Value) (kk kz : Nat) (G : gb.GT) (f : FuncId) (args : List Value) (s : St) : Option Inst := if f == F0 then match args with
  | [.slice (some ⟨b, 0, none⟩) 16 16, .slice none 0 0] => match s.heap.get b with
    | some (.cells (.lit l) _) => if isN 16 l.toArray then some ⟨[(b, 0)], 1, [some (.cells (.lit l) 25)], [sl 0 0 none 16 16, .slice none 0 0], .tuple #[V (G (keyL (intAt l)) []), .int .i64 0], some (.cells (.lit l) 25) :: List.replicate kk none, G = tagF ∧ OkKy (intAt l)⟩ else none
    | _ => none
  | [.slice (some ⟨b, 0, none⟩) 16 16, .slice (some ⟨z, 0, none⟩) 0 c] => match s.heap.get b with
    | some (.cells (.lit l) _) => if isN 16 l.toArray then some ⟨[(b, 0), (z, 0)], 2, [some (.cells (.lit l) 25), none], [sl 0 0 none 16 16, zs 1 c], .tuple #[V (G (keyL (intAt l)) []), .int .i64 0], some (.cells (.lit l) 25) :: List.replicate kz none, G = tagF ∧ OkKy (intAt l)⟩ else none
    | _ => none
  | _ => none else none
theorem FN2_ok {F0 : FuncId} {V : (Nat → Int) → Value} {kk kz : Nat} {G : gb.GT}
    (hT : ∀ {key : Nat → Int}, OkKy key → CallOk Try.prog F0 [sl 0 0 none 16 16, .slice none 0 0] (smSt 1 (hN key 0) []) (.tuple #[V (tagF (keyL key) []), .int .i64 0]) (smSt 1 (hN key kk) []))
    (hZ : ∀ {key : Nat → Int} (c : Nat), OkKy key → CallOk Try.prog F0 [sl 0 0 none 16 16, zs 1 c] (smSt 2 (hN key 1) []) (.tuple #[V (tagF (keyL key) []), .int .i64 0]) (smSt 2 (hN key kz) []))
    (f : FuncId) (args : List Value) (s : St) (i : Inst) (h : FN2 F0 V kk kz G f args s = some i) : Fits s i args ∧ (i.ask → CallOk Try.prog f i.args i.s0 i.val i.s1) := by
  unfold FN2 at h
  split at h
  · rename_i hf
    have hf' : f = F0 := by simpa using hf
    subst hf'
    split at h
    · rename_i b
      split at h
      · rename_i l tb hb
        split at h
        · rename_i hn
          have el : l = rowV .u8 16 (intAt l) := by
            have := congrArg Array.toList (isN_row hn); simpa using this
          have fl : l.all flat0 = true := by rw [el]; exact row_flat0
          cases h
          refine ⟨⟨?_, fun j pp ob h1 hh => ?_⟩, fun ha => ?_⟩
          · show [Value.slice (some ⟨b, 0, none⟩) 16 16, .slice none 0 0] = [Value.slice (some ⟨b, addO 0 0, none⟩) 16 16, .slice none 0 0]
            rw [addO_eq]
          · rcases j with _ | j
            · simp only [List.getElem?_cons_zero, Option.some.injEq] at h1
              subst h1
              simp only [List.getElem?_cons_zero, Option.some.injEq] at hh
              subst hh
              exact ⟨_, hb, fit_same fl⟩
            · simp at h1
          · obtain ⟨rfl, q1⟩ := ha
            have := hT (key := intAt l) q1
            unfold hN oKy at this
            rw [← el] at this
            exact this
        · cases h
      · cases h
    · rename_i b z c
      split at h
      · rename_i l tb hb
        split at h
        · rename_i hn
          have el : l = rowV .u8 16 (intAt l) := by
            have := congrArg Array.toList (isN_row hn); simpa using this
          have fl : l.all flat0 = true := by rw [el]; exact row_flat0
          cases h
          refine ⟨⟨?_, fun j pp ob h1 hh => ?_⟩, fun ha => ?_⟩
          · show [Value.slice (some ⟨b, 0, none⟩) 16 16, .slice (some ⟨z, 0, none⟩) 0 c] = [Value.slice (some ⟨b, addO 0 0, none⟩) 16 16, .slice (some ⟨z, addO 0 0, none⟩) 0 c]
            rw [addO_eq]
          · rcases j with _ | _ | j
            · simp only [List.getElem?_cons_zero, Option.some.injEq] at h1
              subst h1
              simp only [List.getElem?_cons_zero, Option.some.injEq] at hh
              subst hh
              exact ⟨_, hb, fit_same fl⟩
            · simp at hh
            · simp at h1
          · obtain ⟨rfl, q1⟩ := ha
            have := hZ (key := intAt l) c q1
            unfold hN oKy at this
            rw [← el] at this
            exact this
        · cases h
      · cases h
    · cases h
  · cases h
theorem n13 (G : gb.GT) : ∀ (f : FuncId) (args : List Value) (s : St) (i : Inst), FN2 13 row16 190 191 G f args s = some i → Fits s i args ∧ (i.ask → CallOk Try.prog f i.args i.s0 i.val i.s1) := FN2_ok (fun h => t13n h) (fun c h => t13z c h)
def K14n (G : gb.GT) : Given := Given.frames Given.nothing (FN2 13 row16 190 191 G)
theorem K14n_ok (G : gb.GT) : GivenOk Try.prog (K14n G) := (GivenOk.nothing _).frames (n13 G)
def qG (G : gb.GT) (key : Nat → Int) : Prop := G = tagF ∧ OkKy (intAt (R16 key))
theorem rn14n (G : gb.GT) (key : Nat → Int) : (cN (K14n G) 14 key (.slice none 0 0) []).map (fun r => (r.1, r.2.obl, r.2.next, keepL (ksN 192) r.2.heap.get 0)) = some (.tuple #[r12 (G (keyL (intAt (R16 key))) []), .int .i64 0], True ∧ qG G key, (hN key 192).length, hN key 192) := by kernel_rfl
theorem rn14z (G : gb.GT) (key : Nat → Int) (c : Nat) : (cN (K14n G) 14 key (zs 1 c) [none]).map (fun r => (r.1, r.2.obl, r.2.next, keepL (ksN 193) r.2.heap.get 0)) = some (.tuple #[r12 (G (keyL (intAt (R16 key))) []), .int .i64 0], True ∧ qG G key, (hN key 193).length, hN key 193) := by kernel_rfl
theorem okR {key : Nat → Int} (h : OkKy key) : OkKy (intAt (R16 key)) := fun j hj => by rw [intAt_R16 hj]; exact h j hj
theorem t14n {key : Nat → Int} (h : OkKy key) : CallOk Try.prog 14 [sl 0 0 none 16 16, .slice none 0 0] (smSt 1 (hN key 0) []) (.tuple #[r12 (tagF (keyL key) []), .int .i64 0]) (smSt 1 (hN key 192) []) :=
  frame_by pg (K14n_ok tagF) _ (rn14n tagF key) ⟨trivial, rfl, okR h⟩ (by rfl) rfl
theorem t14z {key : Nat → Int} (c : Nat) (h : OkKy key) : CallOk Try.prog 14 [sl 0 0 none 16 16, zs 1 c] (smSt 2 (hN key 1) []) (.tuple #[r12 (tagF (keyL key) []), .int .i64 0]) (smSt 2 (hN key 193) []) :=
  frame_by pg (K14n_ok tagF) _ (rn14z tagF key c) ⟨trivial, rfl, okR h⟩ (by rfl) rfl
theorem n14 (G : gb.GT) : ∀ (f : FuncId) (args : List Value) (s : St) (i : Inst), FN2 14 r12 192 193 G f args s = some i → Fits s i args ∧ (i.ask → CallOk Try.prog f i.args i.s0 i.val i.s1) := FN2_ok (fun h => t14n h) (fun c h => t14z c h)
def KE (G : gb.GT) : Given := { Given.frames (Given.frames (Given.frames (Given.frames (Given.frames Given.nothing F9w) (FN2 13 row16 190 191 G)) (FN2 14 r12 192 193 G)) (FD2 15 row16 148 G)) (FD2 16 r12 151 G) with fits := true }
theorem KE_ok (G : gb.GT) : GivenOk Try.prog (KE G) := frames_fits ((((((GivenOk.nothing _).frames F9w_ok).frames (n13 G)).frames (n14 G)).frames (d15 G)).frames (d16 G)) true
def oE : List (Option Bool) := nn' 2 ++ (nn' 9 ++ (List.replicate 16 T1 ++ (nn' 7 ++ List.replicate 12 T1)))
def cE5 (G : gb.GT) (y : Nat → Int) (v : Value) (k : Nat) : Option (Value × Prop) := ((mk Try.prog (KE G) 300).call 5 [row16 y, v] (St.start k .leaf oE)).map (fun r => (r.1, r.2.obl))
def pE (G : gb.GT) (y : Nat → Int) : Prop := e12 (e16 (((True ∧ qG G y) ∧ qG G y) ∧ qG G y) (G (kk y) []) (G (kk y) []) ∧ qG G y) (G (kk y) []) (G (kk y) []) ∧ True
theorem rE5n (G : gb.GT) (y : Nat → Int) : cE5 G y (.slice none 0 0) 0 = some (.bool true, pE G y) := by kernel_rfl
theorem rE5z (G : gb.GT) (y : Nat → Int) (c : Nat) : cE5 G y (zs 0 c) 1 = some (.bool true, pE G y) := by kernel_rfl
theorem pE_ok {y : Nat → Int} (h : OkKy y) : pE tagF y := ⟨e12_of (fun _ _ => rfl) ⟨e16_of (fun _ _ => rfl) ⟨⟨⟨trivial, rfl, okR h⟩, rfl, okR h⟩, rfl, okR h⟩, rfl, okR h⟩, trivial⟩
end
end ge
end Go.Proofs.Ytkcngffpnnlmeaa
namespace Go.Proofs.Ytkcngffpnnlmeaa
open Go.ChangeShapes Go.WideShapes Go.ChangeAt Go.RowKit Go.Cln
namespace ge
open ae ga gc
open gd (stA_ok AOk stS stY noS noY loopX loopY first)
open gb (S ix ix_eq oKy nul OkKy keyL)
open gd (lE lN lR eY nY rY lb)
set_option linter.unusedVariables false
noncomputable section
theorem parts {x : Nest} {y : Nat → Int} {W : World} {P n c : Nat} {v : Value} (hat : x.At W) (hW : 0 < W.heap.size) (h : x.Ok P) (hn : n ≤ x.N P) (hv : AbsOk P 0 n c v) (hk : OkKy y) (h0 : 0 < n) :
    Calls Try.prog 5 #[row16 y, v] W fun e w' => e = .returned (.bool true) ∧ Below W.heap.size W w' := by
  have fin : ∀ (K : Given) (hK : GivenOk Try.prog K) (orc : List (Option Bool)) (p : Prop), c5 x y K P n c orc = some (.bool true, p) → p →
      Calls Try.prog 5 #[row16 y, v] W fun e w' => e = .returned (.bool true) ∧ Below W.heap.size W w' := fun K hK orc p hr hp => by
    obtain ⟨ρ, g1, g2⟩ := Nest.start hat hW orc
    exact ranG pg hK (ρ := ρ) hr hp rfl g1 (VL.cons (.of_flat rfl) (VL.cons (g2 P n c v hv) VL.nil))
  by_cases hb : 12 < n
  · exact fin _ (KL_ok tagF x) _ _ (runB tagF x y P n c) ⟨⟨trivial, by simp only [nI, decide_eq_true_eq]; omega⟩, trivial⟩
  have h12 : True ∧ decide (nI n > 12) = false := ⟨trivial, by simp only [nI, decide_eq_false_iff_not]; omega⟩
  rcases first (p := fun i => x.m P i ≤ 40) n with hm | ⟨k, j1, j2, j3⟩
  · have hl := Nest.cat_len (B := 40) h n (by omega) hm
    have hq : qS tagF x y P n := ⟨rfl, rfl, h, okR hk, hn, by omega, fun i hi => by have := hm i hi; omega⟩
    have hloop := fun rd => loopX (y := y) (c := c) h hn (by omega) (by omega) hm rd
    have hok := stA_ok h n (by omega)
    unfold stS at hloop
    cases hs : gd.stA x P n with
    | none =>
      rw [hs] at hloop hok
      have hok : x.cat P n = [] := hok
      obtain ⟨j, rfl⟩ : ∃ j, n = j + 1 := ⟨n - 1, by omega⟩
      have hqn : qN tagF y := ⟨rfl, okR hk⟩
      refine fin _ (KX_ok _ _ _ _) _ _ (runN tagF x y _ (j + 1) c (j + 1)) ?_
      unfold pT
      rw [hok]
      exact ⟨e12_of (fun _ _ => rfl) ⟨e16_of (fun _ _ => rfl) ⟨⟨⟨⟨h12, hloop⟩, hq⟩, hq⟩, hqn⟩, hqn⟩, trivial⟩
    | some t =>
      obtain ⟨L, a, q⟩ := t
      rw [hs] at hloop hok
      obtain ⟨i1, i2, i3, i4, i5⟩ := hok
      have et : wd L 0 a = x.cat P n := by unfold wd; rw [List.drop_zero, i2]
      have hq3 : qD tagF y L a := by
        unfold qD
        rw [et]
        exact ⟨rfl, okR hk, i1.symm, by omega⟩
      refine fin _ (KX_ok _ _ _ _) _ _ (runA tagF x y _ n c n L a q) ?_
      unfold pT
      rw [et]
      exact ⟨e12_of (fun _ _ => rfl) ⟨e16_of (fun _ _ => rfl) ⟨⟨⟨⟨h12, hloop⟩, hq⟩, hq⟩, hq3⟩, hq3⟩, trivial⟩
  · have hloop := fun rd => loopY (y := y) (c := c) h hn (by omega) j1 j3 (by omega) rd
    unfold stY at hloop
    cases hs : gd.stA x P k with
    | none =>
      rw [hs] at hloop
      cases k with
      | zero => exact fin _ (KX_ok _ _ _ _) _ _ (runYE tagF x y _ n c) ⟨h12, hloop⟩
      | succ k => exact fin _ (KX_ok _ _ _ _) _ _ (runYN tagF x y _ n c (k + 1)) ⟨h12, hloop⟩
    | some t =>
      obtain ⟨L, a, q⟩ := t
      rw [hs] at hloop
      exact fin _ (KX_ok _ _ _ _) _ _ (runYR tagF x y _ n c k L a q) ⟨h12, hloop⟩
theorem nest_of {W : World} {b o n : Nat} (h : ∀ i, i < n → ∃ v, W.cell? ⟨b, o + i, none⟩ = some v ∧ InRow W v) : ∃ x : Nest, x.At W ∧ x.Ok (plc b o) ∧ x.N (plc b o) = n ∧ x.D = worldB W := by
  let v : Nat → Value := fun i => (W.cell? ⟨b, o + i, none⟩).getD undef
  have hv : ∀ i, i < n → W.cell? ⟨b, o + i, none⟩ = some (v i) ∧ InRow W (v i) := fun i hi => by
    obtain ⟨u, h1, h2⟩ := h i hi
    have : v i = u := by show (W.cell? ⟨b, o + i, none⟩).getD undef = u; rw [h1]; rfl
    rw [this]; exact ⟨h1, h2⟩
  have row : ∀ i, i < n → ((worldB W (rowQ (v i))).drop 0).take (rowM (v i)) = (worldB W (rowQ (v i))).take (rowM (v i)) := fun i _ => by rw [List.drop_zero]
  have good : ∀ i, i < n → (((worldB W (rowQ (v i))).take (rowM (v i))).length = rowM (v i) ∧ ∀ y ∈ (worldB W (rowQ (v i))).take (rowM (v i)), 0 ≤ y ∧ y < 256) ∧ rowM (v i) ≤ rowC (v i) ∧ AbsOk (rowQ (v i)) 0 (rowM (v i)) (rowC (v i)) (v i) := fun i hi => by
    obtain ⟨_, a, m, c, e, hle, hm⟩ := hv i hi
    rw [e]
    cases m with
    | zero => exact ⟨⟨by simp [rowM], fun y hy => by simp [rowM] at hy⟩, Nat.zero_le _, Nat.zero_le _, .inr ⟨rfl, a, c, rfl⟩⟩
    | succ m =>
      rcases hm with h0 | ⟨b', o', f, rfl, hf⟩
      · exact absurd h0 (by omega)
      · exact ⟨worldB_row (m := m + 1) hf (Nat.succ_ne_zero m), hle, AbsOk.of hle⟩
  refine ⟨⟨fun P => if P = plc b o then n else 0, fun _ i => rowQ (v i), fun _ i => rowM (v i), fun _ i => rowC (v i), worldB W⟩, ⟨fun P j y hy => worldB_get hy, fun P i hi => ?_⟩, ⟨fun i hi => ?_, fun i hi => ?_, fun i hi => ?_⟩, if_pos rfl, rfl⟩
  · by_cases hP : P = plc b o
    · subst hP
      simp only [if_true] at hi
      obtain ⟨pc, t, fr, q1, q2⟩ := cell_in (hv i hi).1
      exact ⟨pc, t, fr, v i, by rw [blkOf_plc]; exact q1, by rw [baseOf_plc]; exact q2, (good i hi).2.2⟩
    · simp only [if_neg hP] at hi; omega
  · simp only [if_true] at hi
    unfold Nest.row; rw [List.drop_zero]; exact (good i hi).1.1
  · simp only [if_true] at hi; exact (good i hi).2.1
  · simp only [if_true] at hi
    unfold Nest.row; rw [List.drop_zero]; exact (good i hi).1.2
theorem cmacParts (W : World) (y : Nat → Int) (w0 : ∀ j, j < 16 → (Lit.int .u8 (y j)).wf = true)
    (a1 : Option Addr) (n1 c1 : Nat) (s1 : (a1 = none ∧ n1 = 0 ∧ c1 = 0) ∨ ∃ b o, a1 = some ⟨b, o, none⟩ ∧ n1 ≤ c1 ∧ (c1 : Int) ≤ 9223372036854775807)
    (z1 : n1 = 0 ∨ ∃ b o, a1 = some ⟨b, o, none⟩ ∧ b < W.heap.size ∧ ∀ i, i < n1 → ∃ x, W.cell? ⟨b, o + i, none⟩ = some x ∧ InRow W x) :
    Calls Try.prog 5 #[.agg (rowV .u8 16 y).toArray, .slice a1 n1 c1] W fun e w' => e = .returned (.bool true) ∧ Below W.heap.size W w' := by
  have hk : OkKy y := fun j hj => by
    have h : IntKind.u8.min ≤ y j ∧ y j ≤ IntKind.u8.max := by simpa [Lit.wf] using w0 j hj
    have e1 : IntKind.u8.min = 0 := by decide
    have e2 : IntKind.u8.max = 255 := by decide
    rw [e1, e2] at h; omega
  show Calls Try.prog 5 #[row16 y, .slice a1 n1 c1] W _
  by_cases h0 : n1 = 0
  · subst h0
    rcases s1 with ⟨rfl, _, rfl⟩ | ⟨b', o', rfl, hc', _⟩
    · exact ranG pg (KE_ok tagF) (ρ := fun _ => ⟨0, 0, 0⟩) (rE5n tagF y) (pE_ok hk) rfl (named_hs 0 _ _ W) (VL.cons (.of_flat rfl) (VL.cons (VR.same rfl) VL.nil))
    · exact ranG pg (KE_ok tagF) (ρ := fun _ => ⟨b', o', 0⟩) (rE5z tagF y c1) (pE_ok hk) rfl (named_hs 1 _ _ W) (VL.cons (.of_flat rfl) (VL.cons (VR.unread (a := ⟨b', o', none⟩) (by decide) rfl rfl hc') VL.nil))
  · rcases z1 with h | ⟨b, o, rfl, hb, hr⟩
    · exact absurd h h0
    · obtain ⟨x, g1, g2, g3, g4⟩ := nest_of hr
      have hc : n1 ≤ c1 := by
        rcases s1 with ⟨h, _⟩ | ⟨_, _, _, hc, _⟩
        · cases h
        · exact hc
      exact parts g1 (by omega) g2 (Nat.le_of_eq g3.symm) (AbsOk.of hc) hk (by omega)
end
end ge
end Go.Proofs.Ytkcngffpnnlmeaa
