/- Read off the code by the clean reading. -/
import Derived.Test.YtkcngffpnnlmeaaClnGb
import Derived.Test.YtkcngffpnnlmeaaClnEq
import Derived.Test.YtkcngffpnnlmeaaClnQc
set_option linter.unusedVariables false
set_option linter.unusedSimpArgs false
set_option linter.deprecated false
set_option maxRecDepth 100000
namespace Go.Proofs.Ytkcngffpnnlmeaa
open Go.ChangeShapes Go.WideShapes Go.ChangeAt Go.RowKit Go.Cln
namespace gc
open ae ga gb
set_option linter.unusedVariables false
noncomputable section
theorem intAt_R16 {key : Nat → Int} {j : Nat} (h : j < 16) : intAt (R16 key) j = key j := at16 h
theorem fit_key {l : LV} {m : Nat} {ν δ : Nat → Nat} (el : l = rowV .u8 16 (intAt l)) : ∀ (x : Nat) (v : Value), (Cells.ints .u8 (keyL (intAt l))).get x = some v → ∃ V, (Cells.lit l).get (0 + x) = some V ∧ V = mv ν δ v ∧ okN m v = true :=
  fit_intsL fun x a ha => by
    rw [Nat.zero_add, el]
    have hx : x < 16 := by
      have := (List.getElem?_eq_some_iff.1 ha).1
      exact this
    have hc : x = 0 ∨ x = 1 ∨ x = 2 ∨ x = 3 ∨ x = 4 ∨ x = 5 ∨ x = 6 ∨ x = 7 ∨ x = 8 ∨ x = 9 ∨ x = 10 ∨ x = 11 ∨ x = 12 ∨ x = 13 ∨ x = 14 ∨ x = 15 := by omega
    rcases hc with rfl | rfl | rfl | rfl | rfl | rfl | rfl | rfl | rfl | rfl | rfl | rfl | rfl | rfl | rfl | rfl <;> (cases ha; rfl)
end
end gc
end Go.Proofs.Ytkcngffpnnlmeaa
namespace Go.Proofs.Ytkcngffpnnlmeaa
open Go.ChangeShapes Go.WideShapes Go.ChangeAt Go.RowKit Go.Cln
namespace ho
open ae ga gc
open gb (KT KT_ok tgN tgG zM zM_ok kW_key keyL_ok oKy nul OkKy keyL Mk putE putR asE asR asT OkM lft oCm oMm VF)
set_option linter.unusedVariables false
noncomputable section
structure KY where
  Q : Nat
  n : Nat
  c : Nat
abbrev kv (y : KY) : Value := .slice (some ⟨y.Q, 0, some 1000⟩) y.n y.c
def cv (y : KY) : Value := .slice (some ⟨y.Q, 0, some 1001⟩) y.n y.c
structure HX where
  D : Nat → List Int
  C : Nat → List Int
def HX.F (x : HX) (g P : Nat) : Cells := match Nat.beq g 1001 with
  | true => .ints .i64 (x.C P)
  | false => .ints .u8 (x.D P)
def wk (x : HX) (y : KY) : List Int := wa (x.D y.Q) 0 y.n
structure By (x : HX) (y : KY) : Prop where
  len : y.n = (wk x y).length
  room : y.n ≤ y.c
def c13 (T : VT) (x : HX) (key : Nat → Int) (z : KY) (o : List (Option Bool)) : Option (Value × St) := (mk Try.prog (KT T) 300).call 13 [sl 1 0 none 16 16, sl 2 0 none 1 1] (smSt 3 [some (.fam x.F), oKy key, some (.cells (.lit [kv z]) 22)] o)
end
end ho
end Go.Proofs.Ytkcngffpnnlmeaa
namespace Go.Proofs.Ytkcngffpnnlmeaa
open Go.ChangeShapes Go.WideShapes Go.ChangeAt Go.RowKit Go.Cln
namespace ho
open ae ga gc
open gb (KT KT_ok tgN tgG zM zM_ok kW_key keyL_ok oKy nul OkKy keyL Mk putE putR asE asR asT OkM lft oCm oMm VF)
set_option linter.unusedVariables false
noncomputable section
def hP (x : HX) (key : Nat → Int) (z : KY) (n : Nat) : List (Option Ob) := [some (.fam x.F), oKy key, some (.cells (.lit [kv z]) 22)] ++ List.replicate n none
def hQ (key : Nat → Int) (v : Value) (n : Nat) : List (Option Ob) := [oKy key, some (.cells (.lit [v]) 22)] ++ List.replicate n none
def zs (b c : Nat) : Value := .slice (some ⟨b, 0, none⟩) 0 c
def mZ (T : VT) (key : Nat → Int) : Mk := zM T (kW (keyL key))
def m1 (T : VT) (key : Nat → Int) (w : List Int) (n : Nat) : Mk := putE T (mZ T key) w n
def q0 (T : VT) (key : Nat → Int) : Prop := True ∧ (T = VT0 ∧ T.ok (kW (keyL key)))
def o3 (b : Bool) : List (Option Bool) := [none, none, none, some b]
def ks3 (n : Nat) : List Bool := [true, true, true] ++ List.replicate n false
def ks2' (n : Nat) : List Bool := [true, true] ++ List.replicate n false
theorem run13t (T : VT) (x : HX) (key : Nat → Int) (z : KY) : (c13 T x key z (o3 true)).map (fun r => (r.1, r.2.obl, r.2.next, keepL (ks3 198) r.2.heap.get 0)) = some (.tuple #[row16 (tgG T (m1 T key (wk x z) z.n)), .int .i64 0], (q0 T key ∧ asE T (wk x z) z.n) ∧ asT T (m1 T key (wk x z) z.n), (hP x key z 198).length, hP x key z 198) := by kernel_rfl
theorem run13f (T : VT) (x : HX) (key : Nat → Int) (z : KY) : (c13 T x key z (o3 false)).map (fun r => (r.1, r.2.obl, r.2.next, keepL (ks3 195) r.2.heap.get 0)) = some (.tuple #[row16 (tgN T (mZ T key)), .int .i64 0], (q0 T key ∧ z.n = 0) ∧ T = VT0, (hP x key z 195).length, hP x key z 195) := by kernel_rfl
theorem q0_ok {key : Nat → Int} (h : OkKy key) : q0 VT0 key := ⟨trivial, rfl, by rw [kW_key]; exact keyL_ok h⟩
theorem tag13p {x : HX} {key : Nat → Int} {z : KY} (hk : OkKy key) (hz : By x z) (hn : z.n ≤ 1000000) : CallOk Try.prog 13 [sl 1 0 none 16 16, sl 2 0 none 1 1] (smSt 3 (hP x key z 0) []) (.tuple #[row16 (tagF (keyL key) (wk x z)), .int .i64 0]) (smSt 3 (hP x key z 198) []) := by
  by_cases h0 : z.n = 0
  · have e : wk x z = [] := List.eq_nil_of_length_eq_zero (by rw [← hz.len]; exact h0)
    have := frame_by pg (KT_ok VT0) _ (run13f VT0 x key z) ⟨⟨q0_ok hk, h0⟩, rfl⟩ (by rfl) rfl
    unfold mZ at this
    rw [(zM_ok _).tagN, kW_key] at this
    have e2 : hP x key z 198 = hP x key z 195 ++ List.replicate 3 none := by unfold hP; rw [List.append_assoc, List.replicate_append_replicate]
    rw [e, e2]
    exact this.pad 3 (by simp [hP]) (by simp [hP]) (by simp [hP])
  · have hm : OkM (kW (keyL key)) (m1 VT0 key (wk x z) z.n) (wk x z) := (zM_ok _).putE hz.len.symm (by omega)
    have := frame_by pg (KT_ok VT0) _ (run13t VT0 x key z) ⟨⟨q0_ok hk, OkM.asE (K := kW (keyL key)) (g := mZ VT0 key) hz.len.symm (by omega) hn⟩, hm.asT (by rw [← hz.len]; omega)⟩ (by rfl) rfl
    rw [hm.tag, kW_key] at this
    exact this
def cQ (K : Given) (fn : FuncId) (key : Nat → Int) (v : Value) (l : List (Option Ob)) : Option (Value × St) := (mk Try.prog K 300).call fn [sl 0 0 none 16 16, sl 1 0 none 1 1] (smSt (l.length + 2) (oKy key :: some (.cells (.lit [v]) 22) :: l) [])
theorem run13n (T : VT) (key : Nat → Int) : (cQ (KT T) 13 key (.slice none 0 0) []).map (fun r => (r.1, r.2.obl, r.2.next, keepL (ks2' 195) r.2.heap.get 0)) = some (.tuple #[row16 (tgN T (mZ T key)), .int .i64 0], q0 T key ∧ T = VT0, (hQ key (.slice none 0 0) 195).length, hQ key (.slice none 0 0) 195) := by kernel_rfl
theorem run13z (T : VT) (key : Nat → Int) (c : Nat) : (cQ (KT T) 13 key (zs 2 c) [none]).map (fun r => (r.1, r.2.obl, r.2.next, keepL (ks2' 196) r.2.heap.get 0)) = some (.tuple #[row16 (tgN T (mZ T key)), .int .i64 0], q0 T key ∧ T = VT0, (hQ key (zs 2 c) 196).length, hQ key (zs 2 c) 196) := by kernel_rfl
theorem tag13n {key : Nat → Int} (hk : OkKy key) : CallOk Try.prog 13 [sl 0 0 none 16 16, sl 1 0 none 1 1] (smSt 2 (hQ key (.slice none 0 0) 0) []) (.tuple #[row16 (tagF (keyL key) []), .int .i64 0]) (smSt 2 (hQ key (.slice none 0 0) 195) []) := by
  have := frame_by pg (KT_ok VT0) _ (run13n VT0 key) ⟨q0_ok hk, rfl⟩ (by rfl) rfl
  unfold mZ at this
  rw [(zM_ok _).tagN, kW_key] at this
  exact this
theorem tag13z {key : Nat → Int} (c : Nat) (hk : OkKy key) : CallOk Try.prog 13 [sl 0 0 none 16 16, sl 1 0 none 1 1] (smSt 3 (hQ key (zs 2 c) 1) []) (.tuple #[row16 (tagF (keyL key) []), .int .i64 0]) (smSt 3 (hQ key (zs 2 c) 196) []) := by
  have := frame_by pg (KT_ok VT0) _ (run13z VT0 key c) ⟨q0_ok hk, rfl⟩ (by rfl) rfl
  unfold mZ at this
  rw [(zM_ok _).tagN, kW_key] at this
  exact this
theorem run13x (T : VT) (K M : List Int) : ((mk Try.prog (KVT T) 200).call 13 [sl 0 0 none 16 16, sl 1 0 none 1 1] (smSt 3 (hT K none 16 16 M) [])).map (fun r => (r.1, r.2.obl, r.2.next, keepL (ksT 198 true) r.2.heap.get 0)) = some (.tuple #[row16 (tgI T K M 16), .int .i64 0], pI T K M 16 16, (hT K none 16 16 M ++ List.replicate 198 none).length, hT K none 16 16 M ++ List.replicate 198 none) := by kernel_rfl
theorem tag13x {K M : List Int} (hK : OkK K) (hM : M.length = 16) : CallOk Try.prog 13 [sl 0 0 none 16 16, sl 1 0 none 1 1] (smSt 3 (hT K none 16 16 M) []) (.tuple #[row16 (tagF K M), .int .i64 0]) (smSt 3 (hT K none 16 16 M ++ List.replicate 198 none) []) := by
  rw [← row16_congr (fun j hj => tgI_eq hK.1 hM hj)]
  exact frame_by pg (KVT_ok VT0) _ (run13x VT0 K M) (pI_ok hK hM (by omega) (by omega) (by omega)) (by rfl) rfl
def F13h (G : gb.GT) (x : HX) (f : FuncId) (args : List Value) (s : St) : Option Inst := if f == 13 then match args with
  | [.slice (some ⟨b, 0, none⟩) 16 16, .slice (some ⟨p, 0, none⟩) 1 1] => match s.heap.get b with
    | some (.cells (.lit l) _) => if isN 16 l.toArray then (match s.heap.get p with
      | some (.cells (.lit [v]) _) => (match v with
        | .slice (some ⟨Q, 0, some 1000⟩) n c => (match s.heap.get 0 with
          | some (.fam F) => some ⟨[(0, 0), (b, 0), (p, 0)], 3, [some (.fam F), some (.cells (.lit l) 25), some (.cells (.lit [.slice (some ⟨Q, 0, some 1000⟩) n c]) 22)], [sl 1 0 none 16 16, sl 2 0 none 1 1], .tuple #[row16 (G (keyL (intAt l)) (wk x ⟨Q, n, c⟩)), .int .i64 0], [some (.fam F), some (.cells (.lit l) 25), some (.cells (.lit [.slice (some ⟨Q, 0, some 1000⟩) n c]) 22)] ++ List.replicate 198 none, G = tagF ∧ F = x.F ∧ OkKy (intAt l) ∧ By x ⟨Q, n, c⟩ ∧ n ≤ 1000000⟩
          | _ => none)
        | .slice none 0 0 => some ⟨[(b, 0), (p, 0)], 2, [some (.cells (.lit l) 25), some (.cells (.lit [.slice none 0 0]) 22)], [sl 0 0 none 16 16, sl 1 0 none 1 1], .tuple #[row16 (G (keyL (intAt l)) []), .int .i64 0], [some (.cells (.lit l) 25), some (.cells (.lit [.slice none 0 0]) 22)] ++ List.replicate 195 none, G = tagF ∧ OkKy (intAt l)⟩
        | .slice (some ⟨z, 0, none⟩) 0 c => some ⟨[(b, 0), (p, 0), (z, 0)], 3, [some (.cells (.lit l) 25), some (.cells (.lit [zs 2 c]) 22), none], [sl 0 0 none 16 16, sl 1 0 none 1 1], .tuple #[row16 (G (keyL (intAt l)) []), .int .i64 0], [some (.cells (.lit l) 25), some (.cells (.lit [zs 2 c]) 22)] ++ List.replicate 196 none, G = tagF ∧ OkKy (intAt l)⟩
        | _ => none)
      | _ => none) else none
    | _ => none
  | _ => none else none
theorem F13h_ok (G : gb.GT) (x : HX) (f : FuncId) (args : List Value) (s : St) (i : Inst) (h : F13h G x f args s = some i) : Fits s i args ∧ (i.ask → CallOk Try.prog f i.args i.s0 i.val i.s1) := by
  unfold F13h at h
  split at h
  · rename_i hf
    have hf' : f = 13 := by simpa using hf
    subst hf'
    split at h
    · rename_i b p
      split at h
      · rename_i l tb hb
        split at h
        · rename_i hn
          have el : l = rowV .u8 16 (intAt l) := by
            have := congrArg Array.toList (isN_row hn); simpa using this
          have fl : l.all flat0 = true := by rw [el]; exact row_flat0
          split at h
          · rename_i v tp hp
            split at h
            · rename_i Q n c
              split at h
              · rename_i F hF
                cases h
                refine ⟨⟨?_, fun j pp ob h1 hh => ?_⟩, fun ha => ?_⟩
                · show [Value.slice (some ⟨b, 0, none⟩) 16 16, .slice (some ⟨p, 0, none⟩) 1 1] = [Value.slice (some ⟨b, addO 0 0, none⟩) 16 16, .slice (some ⟨p, addO 0 0, none⟩) 1 1]
                  rw [addO_eq]
                · rcases j with _ | _ | _ | j
                  · simp only [List.getElem?_cons_zero, Option.some.injEq] at h1
                    simp only [List.getElem?_cons_zero, Option.some.injEq] at hh
                    subst h1; subst hh
                    exact ⟨_, hF, fun _ _ _ _ hx => hx⟩
                  · simp only [Nat.zero_add, List.getElem?_cons_succ, List.getElem?_cons_zero, Option.some.injEq] at h1
                    simp only [Nat.zero_add, List.getElem?_cons_succ, List.getElem?_cons_zero, Option.some.injEq] at hh
                    subst h1; subst hh
                    exact ⟨_, hb, fit_same fl⟩
                  · simp only [Nat.zero_add, Nat.reduceAdd, List.getElem?_cons_succ, List.getElem?_cons_zero, Option.some.injEq] at h1
                    simp only [Nat.zero_add, Nat.reduceAdd, List.getElem?_cons_succ, List.getElem?_cons_zero, Option.some.injEq] at hh
                    subst h1; subst hh
                    exact ⟨_, hp, fit_one rfl rfl rfl⟩
                  · simp at h1
                · obtain ⟨rfl, rfl, q1, q2, q3⟩ := ha
                  have := tag13p (key := intAt l) (z := ⟨Q, n, c⟩) q1 q2 q3
                  unfold hP oKy at this
                  rw [← el] at this
                  exact this
              · cases h
            · cases h
              refine ⟨⟨?_, fun j pp ob h1 hh => ?_⟩, fun ha => ?_⟩
              · show [Value.slice (some ⟨b, 0, none⟩) 16 16, .slice (some ⟨p, 0, none⟩) 1 1] = [Value.slice (some ⟨b, addO 0 0, none⟩) 16 16, .slice (some ⟨p, addO 0 0, none⟩) 1 1]
                rw [addO_eq]
              · rcases j with _ | _ | j
                · simp only [List.getElem?_cons_zero, Option.some.injEq] at h1
                  simp only [List.getElem?_cons_zero, Option.some.injEq] at hh
                  subst h1; subst hh
                  exact ⟨_, hb, fit_same fl⟩
                · simp only [Nat.zero_add, List.getElem?_cons_succ, List.getElem?_cons_zero, Option.some.injEq] at h1
                  simp only [Nat.zero_add, List.getElem?_cons_succ, List.getElem?_cons_zero, Option.some.injEq] at hh
                  subst h1; subst hh
                  exact ⟨_, hp, fit_one rfl rfl rfl⟩
                · simp at h1
              · obtain ⟨rfl, q1⟩ := ha
                have := tag13n (key := intAt l) q1
                unfold hQ oKy at this
                rw [← el] at this
                exact this
            · rename_i z c
              cases h
              refine ⟨⟨?_, fun j pp ob h1 hh => ?_⟩, fun ha => ?_⟩
              · show [Value.slice (some ⟨b, 0, none⟩) 16 16, .slice (some ⟨p, 0, none⟩) 1 1] = [Value.slice (some ⟨b, addO 0 0, none⟩) 16 16, .slice (some ⟨p, addO 0 0, none⟩) 1 1]
                rw [addO_eq]
              · rcases j with _ | _ | _ | j
                · simp only [List.getElem?_cons_zero, Option.some.injEq] at h1
                  simp only [List.getElem?_cons_zero, Option.some.injEq] at hh
                  subst h1; subst hh
                  exact ⟨_, hb, fit_same fl⟩
                · simp only [Nat.zero_add, List.getElem?_cons_succ, List.getElem?_cons_zero, Option.some.injEq] at h1
                  simp only [Nat.zero_add, List.getElem?_cons_succ, List.getElem?_cons_zero, Option.some.injEq] at hh
                  subst h1; subst hh
                  refine ⟨_, hp, fit_one (V := .slice (some ⟨z, 0, none⟩) 0 c) rfl ?_ rfl⟩
                  show Value.slice (some ⟨z, 0, none⟩) 0 c = Value.slice (some ⟨z, addO 0 0, none⟩) 0 c
                  rw [addO_eq]
                · simp at hh
                · simp at h1
              · obtain ⟨rfl, q1⟩ := ha
                have := tag13z (key := intAt l) c q1
                unfold hQ oKy at this
                rw [← el] at this
                exact this
            · cases h
          · cases h
        · cases h
      · cases h
    · cases h
  · cases h
def K14h (G : gb.GT) (x : HX) : Given := { Given.frames Given.nothing (F13h G x) with fits := true }
theorem K14h_ok (G : gb.GT) (x : HX) : GivenOk Try.prog (K14h G x) := frames_fits ((GivenOk.nothing _).frames (F13h_ok G x)) true
def qA (G : gb.GT) (x : HX) (key : Nat → Int) (z : KY) : Prop := G = tagF ∧ x.F = x.F ∧ OkKy (intAt (R16 key)) ∧ By x z ∧ z.n ≤ 1000000
def qB (G : gb.GT) (key : Nat → Int) : Prop := G = tagF ∧ OkKy (intAt (R16 key))
def kk (y : Nat → Int) : List Int := keyL (intAt (R16 y))
theorem run14p (G : gb.GT) (x : HX) (key : Nat → Int) (z : KY) : ((mk Try.prog (K14h G x) 300).call 14 [sl 1 0 none 16 16, sl 2 0 none 1 1] (smSt 3 (hP x key z 0) [])).map (fun r => (r.1, r.2.obl, r.2.next, keepL (ks3 200) r.2.heap.get 0)) = some (.tuple #[r12 (G (kk key) (wk x z)), .int .i64 0], True ∧ qA G x key z, (hP x key z 200).length, hP x key z 200) := by kernel_rfl
theorem run14n (G : gb.GT) (x : HX) (key : Nat → Int) : (cQ (K14h G x) 14 key (.slice none 0 0) []).map (fun r => (r.1, r.2.obl, r.2.next, keepL (ks2' 197) r.2.heap.get 0)) = some (.tuple #[r12 (G (kk key) []), .int .i64 0], True ∧ qB G key, (hQ key (.slice none 0 0) 197).length, hQ key (.slice none 0 0) 197) := by kernel_rfl
theorem run14z (G : gb.GT) (x : HX) (key : Nat → Int) (c : Nat) : (cQ (K14h G x) 14 key (zs 2 c) [none]).map (fun r => (r.1, r.2.obl, r.2.next, keepL (ks2' 198) r.2.heap.get 0)) = some (.tuple #[r12 (G (kk key) []), .int .i64 0], True ∧ qB G key, (hQ key (zs 2 c) 198).length, hQ key (zs 2 c) 198) := by kernel_rfl
theorem okR {key : Nat → Int} (h : OkKy key) : OkKy (intAt (R16 key)) := fun j hj => by rw [intAt_R16 hj]; exact h j hj
theorem tag14p {x : HX} {key : Nat → Int} {z : KY} (hk : OkKy key) (hz : By x z) (hn : z.n ≤ 1000000) : CallOk Try.prog 14 [sl 1 0 none 16 16, sl 2 0 none 1 1] (smSt 3 (hP x key z 0) []) (.tuple #[r12 (tagF (keyL key) (wk x z)), .int .i64 0]) (smSt 3 (hP x key z 200) []) :=
  frame_by pg (K14h_ok tagF x) _ (run14p tagF x key z) ⟨trivial, rfl, rfl, okR hk, hz, hn⟩ (by rfl) rfl
theorem tag14n {key : Nat → Int} (hk : OkKy key) : CallOk Try.prog 14 [sl 0 0 none 16 16, sl 1 0 none 1 1] (smSt 2 (hQ key (.slice none 0 0) 0) []) (.tuple #[r12 (tagF (keyL key) []), .int .i64 0]) (smSt 2 (hQ key (.slice none 0 0) 197) []) :=
  frame_by pg (K14h_ok tagF ⟨fun _ => [], fun _ => []⟩) _ (run14n tagF _ key) ⟨trivial, rfl, okR hk⟩ (by rfl) rfl
theorem tag14z {key : Nat → Int} (c : Nat) (hk : OkKy key) : CallOk Try.prog 14 [sl 0 0 none 16 16, sl 1 0 none 1 1] (smSt 3 (hQ key (zs 2 c) 1) []) (.tuple #[r12 (tagF (keyL key) []), .int .i64 0]) (smSt 3 (hQ key (zs 2 c) 198) []) :=
  frame_by pg (K14h_ok tagF ⟨fun _ => [], fun _ => []⟩) _ (run14z tagF _ key c) ⟨trivial, rfl, okR hk⟩ (by rfl) rfl
def F14h (G : gb.GT) (x : HX) (f : FuncId) (args : List Value) (s : St) : Option Inst := if f == 14 then match args with
  | [.slice (some ⟨b, 0, none⟩) 16 16, .slice (some ⟨p, 0, none⟩) 1 1] => match s.heap.get b with
    | some (.cells (.lit l) _) => if isN 16 l.toArray then (match s.heap.get p with
      | some (.cells (.lit [v]) _) => (match v with
        | .slice (some ⟨Q, 0, some 1000⟩) n c => (match s.heap.get 0 with
          | some (.fam F) => some ⟨[(0, 0), (b, 0), (p, 0)], 3, [some (.fam F), some (.cells (.lit l) 25), some (.cells (.lit [.slice (some ⟨Q, 0, some 1000⟩) n c]) 22)], [sl 1 0 none 16 16, sl 2 0 none 1 1], .tuple #[r12 (G (keyL (intAt l)) (wk x ⟨Q, n, c⟩)), .int .i64 0], [some (.fam F), some (.cells (.lit l) 25), some (.cells (.lit [.slice (some ⟨Q, 0, some 1000⟩) n c]) 22)] ++ List.replicate 200 none, G = tagF ∧ F = x.F ∧ OkKy (intAt l) ∧ By x ⟨Q, n, c⟩ ∧ n ≤ 1000000⟩
          | _ => none)
        | .slice none 0 0 => some ⟨[(b, 0), (p, 0)], 2, [some (.cells (.lit l) 25), some (.cells (.lit [.slice none 0 0]) 22)], [sl 0 0 none 16 16, sl 1 0 none 1 1], .tuple #[r12 (G (keyL (intAt l)) []), .int .i64 0], [some (.cells (.lit l) 25), some (.cells (.lit [.slice none 0 0]) 22)] ++ List.replicate 197 none, G = tagF ∧ OkKy (intAt l)⟩
        | .slice (some ⟨z, 0, none⟩) 0 c => some ⟨[(b, 0), (p, 0), (z, 0)], 3, [some (.cells (.lit l) 25), some (.cells (.lit [zs 2 c]) 22), none], [sl 0 0 none 16 16, sl 1 0 none 1 1], .tuple #[r12 (G (keyL (intAt l)) []), .int .i64 0], [some (.cells (.lit l) 25), some (.cells (.lit [zs 2 c]) 22)] ++ List.replicate 198 none, G = tagF ∧ OkKy (intAt l)⟩
        | _ => none)
      | _ => none) else none
    | _ => none
  | _ => none else none
theorem F14h_ok (G : gb.GT) (x : HX) (f : FuncId) (args : List Value) (s : St) (i : Inst) (h : F14h G x f args s = some i) : Fits s i args ∧ (i.ask → CallOk Try.prog f i.args i.s0 i.val i.s1) := by
  unfold F14h at h
  split at h
  · rename_i hf
    have hf' : f = 14 := by simpa using hf
    subst hf'
    split at h
    · rename_i b p
      split at h
      · rename_i l tb hb
        split at h
        · rename_i hn
          have el : l = rowV .u8 16 (intAt l) := by
            have := congrArg Array.toList (isN_row hn); simpa using this
          have fl : l.all flat0 = true := by rw [el]; exact row_flat0
          split at h
          · rename_i v tp hp
            split at h
            · rename_i Q n c
              split at h
              · rename_i F hF
                cases h
                refine ⟨⟨?_, fun j pp ob h1 hh => ?_⟩, fun ha => ?_⟩
                · show [Value.slice (some ⟨b, 0, none⟩) 16 16, .slice (some ⟨p, 0, none⟩) 1 1] = [Value.slice (some ⟨b, addO 0 0, none⟩) 16 16, .slice (some ⟨p, addO 0 0, none⟩) 1 1]
                  rw [addO_eq]
                · rcases j with _ | _ | _ | j
                  · simp only [List.getElem?_cons_zero, Option.some.injEq] at h1
                    simp only [List.getElem?_cons_zero, Option.some.injEq] at hh
                    subst h1; subst hh
                    exact ⟨_, hF, fun _ _ _ _ hx => hx⟩
                  · simp only [Nat.zero_add, List.getElem?_cons_succ, List.getElem?_cons_zero, Option.some.injEq] at h1
                    simp only [Nat.zero_add, List.getElem?_cons_succ, List.getElem?_cons_zero, Option.some.injEq] at hh
                    subst h1; subst hh
                    exact ⟨_, hb, fit_same fl⟩
                  · simp only [Nat.zero_add, Nat.reduceAdd, List.getElem?_cons_succ, List.getElem?_cons_zero, Option.some.injEq] at h1
                    simp only [Nat.zero_add, Nat.reduceAdd, List.getElem?_cons_succ, List.getElem?_cons_zero, Option.some.injEq] at hh
                    subst h1; subst hh
                    exact ⟨_, hp, fit_one rfl rfl rfl⟩
                  · simp at h1
                · obtain ⟨rfl, rfl, q1, q2, q3⟩ := ha
                  have := tag14p (key := intAt l) (z := ⟨Q, n, c⟩) q1 q2 q3
                  unfold hP oKy at this
                  rw [← el] at this
                  exact this
              · cases h
            · cases h
              refine ⟨⟨?_, fun j pp ob h1 hh => ?_⟩, fun ha => ?_⟩
              · show [Value.slice (some ⟨b, 0, none⟩) 16 16, .slice (some ⟨p, 0, none⟩) 1 1] = [Value.slice (some ⟨b, addO 0 0, none⟩) 16 16, .slice (some ⟨p, addO 0 0, none⟩) 1 1]
                rw [addO_eq]
              · rcases j with _ | _ | j
                · simp only [List.getElem?_cons_zero, Option.some.injEq] at h1
                  simp only [List.getElem?_cons_zero, Option.some.injEq] at hh
                  subst h1; subst hh
                  exact ⟨_, hb, fit_same fl⟩
                · simp only [Nat.zero_add, List.getElem?_cons_succ, List.getElem?_cons_zero, Option.some.injEq] at h1
                  simp only [Nat.zero_add, List.getElem?_cons_succ, List.getElem?_cons_zero, Option.some.injEq] at hh
                  subst h1; subst hh
                  exact ⟨_, hp, fit_one rfl rfl rfl⟩
                · simp at h1
              · obtain ⟨rfl, q1⟩ := ha
                have := tag14n (key := intAt l) q1
                unfold hQ oKy at this
                rw [← el] at this
                exact this
            · rename_i z c
              cases h
              refine ⟨⟨?_, fun j pp ob h1 hh => ?_⟩, fun ha => ?_⟩
              · show [Value.slice (some ⟨b, 0, none⟩) 16 16, .slice (some ⟨p, 0, none⟩) 1 1] = [Value.slice (some ⟨b, addO 0 0, none⟩) 16 16, .slice (some ⟨p, addO 0 0, none⟩) 1 1]
                rw [addO_eq]
              · rcases j with _ | _ | _ | j
                · simp only [List.getElem?_cons_zero, Option.some.injEq] at h1
                  simp only [List.getElem?_cons_zero, Option.some.injEq] at hh
                  subst h1; subst hh
                  exact ⟨_, hb, fit_same fl⟩
                · simp only [Nat.zero_add, List.getElem?_cons_succ, List.getElem?_cons_zero, Option.some.injEq] at h1
                  simp only [Nat.zero_add, List.getElem?_cons_succ, List.getElem?_cons_zero, Option.some.injEq] at hh
                  subst h1; subst hh
                  refine ⟨_, hp, fit_one (V := .slice (some ⟨z, 0, none⟩) 0 c) rfl ?_ rfl⟩
                  show Value.slice (some ⟨z, 0, none⟩) 0 c = Value.slice (some ⟨z, addO 0 0, none⟩) 0 c
                  rw [addO_eq]
                · simp at hh
                · simp at h1
              · obtain ⟨rfl, q1⟩ := ha
                have := tag14z (key := intAt l) c q1
                unfold hQ oKy at this
                rw [← el] at this
                exact this
            · cases h
          · cases h
        · cases h
      · cases h
    · cases h
  · cases h
end
end ho
end Go.Proofs.Ytkcngffpnnlmeaa
namespace Go.Proofs.Ytkcngffpnnlmeaa
open Go.ChangeShapes Go.WideShapes Go.ChangeAt Go.RowKit Go.Cln
namespace ho
open ae ga gc
open gb (KT KT_ok tgN tgG zM zM_ok kW_key keyL_ok oKy nul OkKy keyL Mk putE putR asE asR asT OkM lft oCm oMm VF)
set_option linter.unusedVariables false
noncomputable section
def F13x (G : gb.GT) (f : FuncId) (args : List Value) (s : St) : Option Inst := if f == 13 then match args with
  | [.slice (some ⟨b, 0, none⟩) 16 16, .slice (some ⟨p, 0, none⟩) 1 1] => match s.heap.get b with
    | some (.cells (.lit l) _) => (match s.heap.get p with
      | some (.cells (.lit [.slice (some ⟨z, 0, none⟩) 16 16]) _) => (match s.heap.get z with
        | some (.cells (.lit lx) _) => if isN 16 l.toArray && isN 16 lx.toArray then some ⟨[(b, 0), (p, 0), (z, 0)], 3, hT (keyL (intAt l)) none 16 16 (keyL (intAt lx)), [sl 0 0 none 16 16, sl 1 0 none 1 1], .tuple #[row16 (G (keyL (intAt l)) (keyL (intAt lx))), .int .i64 0], hT (keyL (intAt l)) none 16 16 (keyL (intAt lx)) ++ List.replicate 198 none, G = tagF ∧ OkKy (intAt l)⟩ else none
        | _ => none)
      | _ => none)
    | _ => none
  | _ => none else none
theorem F13x_ok (G : gb.GT) (f : FuncId) (args : List Value) (s : St) (i : Inst) (h : F13x G f args s = some i) : Fits s i args ∧ (i.ask → CallOk Try.prog f i.args i.s0 i.val i.s1) := by
  unfold F13x at h
  split at h
  · rename_i hf
    have hf' : f = 13 := by simpa using hf
    subst hf'
    split at h
    · rename_i b p
      split at h
      · rename_i l tb hb
        split at h
        · rename_i z tp hp
          split at h
          · rename_i lx tx hx
            split at h
            · rename_i hn
              rw [Bool.and_eq_true] at hn
              have el : l = rowV .u8 16 (intAt l) := by
                have := congrArg Array.toList (isN_row hn.1); simpa using this
              have ex : lx = rowV .u8 16 (intAt lx) := by
                have := congrArg Array.toList (isN_row hn.2); simpa using this
              cases h
              refine ⟨⟨?_, fun j pp ob h1 hh => ?_⟩, fun ha => ?_⟩
              · show [Value.slice (some ⟨b, 0, none⟩) 16 16, .slice (some ⟨p, 0, none⟩) 1 1] = [Value.slice (some ⟨b, addO 0 0, none⟩) 16 16, .slice (some ⟨p, addO 0 0, none⟩) 1 1]
                rw [addO_eq]
              · rcases j with _ | _ | _ | j
                · simp only [List.getElem?_cons_zero, Option.some.injEq] at h1
                  simp only [hT, oI, List.getElem?_cons_zero, Option.some.injEq] at hh
                  subst h1; subst hh
                  exact ⟨_, hb, fit_key el⟩
                · simp only [Nat.zero_add, List.getElem?_cons_succ, List.getElem?_cons_zero, Option.some.injEq] at h1
                  simp only [hT, pt, Nat.zero_add, List.getElem?_cons_succ, List.getElem?_cons_zero, Option.some.injEq] at hh
                  subst h1; subst hh
                  refine ⟨_, hp, fit_one (V := .slice (some ⟨z, 0, none⟩) 16 16) rfl ?_ rfl⟩
                  show Value.slice (some ⟨z, 0, none⟩) 16 16 = Value.slice (some ⟨z, addO 0 0, none⟩) 16 16
                  rw [addO_eq]
                · simp only [Nat.zero_add, Nat.reduceAdd, List.getElem?_cons_succ, List.getElem?_cons_zero, Option.some.injEq] at h1
                  simp only [hT, oI, Nat.zero_add, Nat.reduceAdd, List.getElem?_cons_succ, List.getElem?_cons_zero, Option.some.injEq] at hh
                  subst h1; subst hh
                  exact ⟨_, hx, fit_key ex⟩
                · simp at h1
              · obtain ⟨rfl, q1⟩ := ha
                exact tag13x (keyL_ok q1) rfl
            · cases h
          · cases h
        · cases h
      · cases h
    · cases h
  · cases h
def F23 (X : LV → LV → Nat → Int) (f : FuncId) (args : List Value) (s : St) : Option Inst := if f == 23 then (match args with
  | [.agg x, .agg y] => if is16 x && is16 y then some (flI [.agg x, .agg y] (row16 (X x.toList y.toList)) (X = fun x y => keyF (intAt x) (intAt y))) else none
  | _ => none) else none
theorem F23_ok (X : LV → LV → Nat → Int) (f : FuncId) (args : List Value) (s : St) (i : Inst) (h : F23 X f args s = some i) : Fits s i args ∧ (i.ask → CallOk Try.prog f i.args i.s0 i.val i.s1) := by
  unfold F23 at h
  split at h
  · rename_i hf
    have hf' : f = 23 := by simpa using hf
    subst hf'
    split at h
    · rename_i x y
      split at h
      · rename_i hc
        rw [Bool.and_eq_true] at hc
        have ex := is16_row hc.1
        have ey := is16_row hc.2
        cases h
        refine flI_ok (by rw [ex, ey]; rfl) rfl fun hT W => ?_
        subst hT
        have := ranF pg (GivenOk.nothing _) (run23 (intAt x.toList) (intAt y.toList)) trivial rfl rfl W
        unfold row16 at this
        rw [← ex, ← ey] at this; exact this
      · cases h
    · cases h
  · cases h
def KH (G : gb.GT) (V : VT) (T : CT) (X : LV → LV → Nat → Int) (x : HX) : Given := { Given.framesO (Given.frames (Given.frames (Given.frames (Given.frames (Given.frames (Given.frames (Given.frames Given.nothing F9w) (FC T)) (F23 X)) (gb.FT V)) (F13x G)) (F13h G x)) (F14h G x)) (F18a V) with fits := true }
theorem KH_ok (G : gb.GT) (V : VT) (T : CT) (X : LV → LV → Nat → Int) (x : HX) : GivenOk Try.prog (KH G V T X x) := frames_fits (((((((((GivenOk.nothing _).frames F9w_ok).frames (FC_ok T)).frames (F23_ok X)).frames (gb.FT_ok V)).frames (F13x_ok G)).frames (F13h_ok G x)).frames (F14h_ok G x)).framesO (F18a_ok V)) true
def call7 (K : Given) (x : HX) (key : Nat → Int) (z u : KY) (bx bY : Nat → Int) (o : List (Option Bool)) : Option (Value × St) := (mk Try.prog K 300).call 7 [row16 key, kv z, cv u, row16 bx, row16 bY] (smSt 1 [some (.fam x.F)] o)
def shw (s : St) : Prop := (s.tmps, s.next, (List.range 500).map (fun i => (i, (s.heap.get i).isSome))) = ([], 0, [])
def KQ (G : gb.GT) (V : VT) (T : CT) (X : LV → LV → Nat → Int) (x : HX) : Given := { KH G V T X x with loop := fun f c s => if f == 7 then some (.ret, { s with obl := shw s }) else none }
end
end ho
end Go.Proofs.Ytkcngffpnnlmeaa
namespace Go.Proofs.Ytkcngffpnnlmeaa
open Go.ChangeShapes Go.WideShapes Go.ChangeAt Go.RowKit Go.Cln
namespace ho
open ae ga gc
open gb (KT KT_ok tgN tgG zM zM_ok kW_key keyL_ok oKy nul OkKy keyL Mk putE putR asE asR asT OkM lft oCm oMm VF)
set_option linter.unusedVariables false
noncomputable section
open gb (rp vs deadT_vs allB)
def tmH (v : VF) (key : Nat → Int) (z u : KY) (bx bY : Nat → Int) (a : Int) (k : Nat) : List Value := (row16 key :: kv z :: cv u :: row16 bx :: row16 bY :: P0 1 0 :: v 6 :: v 7 :: P0 2 0 :: P0 3 0 :: .bool false :: P0 204 0 :: .int .i64 0 :: P0 296 0 :: .int .i64 0 :: .int .i64 a :: .int .i64 (nI k) :: vs v 17 161 [])
theorem tmH_dead {v : VF} {key : Nat → Int} {z u : KY} {bx bY : Nat → Int} {a : Int} {k : Nat} {B : Nat → Bool} (h : ∀ i, DeadV (v i)) (hB : ∀ i, ((Nat.ble 0 i && Nat.ble i 5) || (Nat.ble 8 i && Nat.ble i 16)) = true → B i = true) : deadT B 0 (tmH v key z u bx bY a k) :=
  ⟨fun e => absurd e (by rw [hB 0 rfl]; decide), ⟨fun e => absurd e (by rw [hB 1 rfl]; decide), ⟨fun e => absurd e (by rw [hB 2 rfl]; decide), ⟨fun e => absurd e (by rw [hB 3 rfl]; decide), ⟨fun e => absurd e (by rw [hB 4 rfl]; decide), ⟨fun e => absurd e (by rw [hB 5 rfl]; decide), ⟨fun _ => h 6, ⟨fun _ => h 7, ⟨fun e => absurd e (by rw [hB 8 rfl]; decide), ⟨fun e => absurd e (by rw [hB 9 rfl]; decide), ⟨fun e => absurd e (by rw [hB 10 rfl]; decide), ⟨fun e => absurd e (by rw [hB 11 rfl]; decide), ⟨fun e => absurd e (by rw [hB 12 rfl]; decide), ⟨fun e => absurd e (by rw [hB 13 rfl]; decide), ⟨fun e => absurd e (by rw [hB 14 rfl]; decide), ⟨fun e => absurd e (by rw [hB 15 rfl]; decide), ⟨fun e => absurd e (by rw [hB 16 rfl]; decide), deadT_vs h 161 (trivial)⟩⟩⟩⟩⟩⟩⟩⟩⟩⟩⟩⟩⟩⟩⟩⟩⟩
def hpE (x : HX) (X : Nat → Int) (g : Mk) (key bx bY : Nat → Int) : Nat → Option Ob := fun i => match i with
  | 0 => some (.fam x.F)
  | 1 => oKy key
  | 2 => oKy bx
  | 3 => oKy bY
  | 204 => oKy X
  | 206 => oCm g
  | 296 => oMm 206 g nul
  | _ => none
def hpR (x : HX) (X : Nat → Int) (g : Mk) (key bx bY : Nat → Int) : Nat → Option Ob := fun i => match i with
  | 0 => some (.fam x.F)
  | 1 => oKy key
  | 2 => oKy bx
  | 3 => oKy bY
  | 204 => oKy X
  | 206 => oCm g
  | 296 => oMm 206 g (lft 297 g)
  | 297 => oBy g.L
  | _ => none
theorem hpE_ok (x : HX) (X : Nat → Int) (g : Mk) (key bx bY : Nat → Int) : Go.Cln.RowsIn (hpE x X g key bx bY) := by
  intro b n' w' g' t h
  unfold hpE at h
  split at h <;> first | (cases h; done) | cases h
theorem hpR_ok (x : HX) (X : Nat → Int) (g : Mk) (key bx bY : Nat → Int) : Go.Cln.RowsIn (hpR x X g key bx bY) := by
  intro b n' w' g' t h
  unfold hpR at h
  split at h <;> first | (cases h; done) | cases h
def sHE (x : HX) (X : Nat → Int) (g : Mk) (key : Nat → Int) (z u : KY) (bx bY : Nat → Int) (a : Int) (k : Nat) (v : VF) : St := ⟨tmH v key z u bx bY a k, [], Tr.rebuild (hpE x X g key bx bY) 297, 297, 1, [], fun _ => false, True, []⟩
def sHR (x : HX) (X : Nat → Int) (g : Mk) (key : Nat → Int) (z u : KY) (bx bY : Nat → Int) (a : Int) (k : Nat) (v : VF) : St := ⟨tmH v key z u bx bY a k, [], Tr.rebuild (hpR x X g key bx bY) 298, 298, 1, [], fun _ => false, True, []⟩
def lH : Code := loopB Try.prog 7 0
def goH (G : gb.GT) (V : VT) (T : CT) (XF : LV → LV → Nat → Int) (x : HX) (s : St) (rd : Option Nat) (o : List (Option Bool)) : Option (Exit × St) := (mk Try.prog (KH G V T XF x) 200).code 7 rd lH { s with obl := True, orc := o }
end
end ho
end Go.Proofs.Ytkcngffpnnlmeaa
