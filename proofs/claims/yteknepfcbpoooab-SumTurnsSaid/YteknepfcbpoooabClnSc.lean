/- Read off the code by the clean reading. -/
import Derived.Test.YteknepfcbpoooabClnSb
set_option linter.unusedVariables false
set_option linter.unusedSimpArgs false
set_option linter.deprecated false
set_option maxRecDepth 100000
namespace Go.Proofs.Yteknepfcbpoooab
open Go.ChangeShapes Go.WideShapes Go.ChangeAt Go.RowKit Go.Cln
namespace sf
open sd se se.rr
set_option linter.unusedVariables false
noncomputable section
def big : Nat := 1099511627776
def win1 (b o : Nat) (l : List Int) (n : Nat) : List Int := (l.drop o).take n
/-- sum.Raw of one part -/
def F12 (f : FuncId) (args : List Value) (s : St) : Option Inst := if f == 12 then match args with
  | [.slice (some ⟨p, q, none⟩) 1 1] => match s.heap.get p with
    | some (.cells (.lit lp) _) => match lp[q]? with
      | some (.slice (some ⟨b, o, g⟩) n c) => match s.heap.get b with
        | some (.cells (.ints .u8 l) _) => some ⟨[(b, o), (p, q)], 2, hR ((l.drop o).take n) n c g, [.slice (some ⟨1, 0, none⟩) 1 1], .int .u16 (sc.car (wsum ((l.drop o).take n))), hR ((l.drop o).take n) n c g ++ nones 12, Byt ((l.drop o).take n) ∧ 0 < n ∧ n = ((l.drop o).take n).length ∧ n ≤ 1099511627776⟩
        | _ => none
      | _ => none
    | _ => none
  | _ => none else none
theorem F12_ok (f : FuncId) (args : List Value) (s : St) (i : Inst) (h : F12 f args s = some i) : Fits s i args ∧ (i.ask → CallOk Try.prog f i.args i.s0 i.val i.s1) := by
  unfold F12 at h
  split at h
  · rename_i hf
    have hf' : f = 12 := by simpa using hf
    subst hf'
    split at h
    · rename_i p q
      split at h
      · rename_i lp tp hp
        split at h
        · rename_i b o g n c hq
          split at h
          · rename_i l tb hb
            cases h
            refine ⟨⟨?_, fun j pp ob h1 h2 => ?_⟩, fun ha => raw1 _ n c g ha.1 ha.2.1 ha.2.2.1 ha.2.2.2⟩
            · show [Value.slice (some ⟨p, q, none⟩) 1 1] = [Value.slice (some ⟨p, addO q 0, none⟩) 1 1]
              rw [addO_eq]; rfl
            · rcases j with _ | _ | j
              · simp only [List.getElem?_cons_zero, Option.some.injEq] at h1
                subst h1
                simp only [hR, List.getElem?_cons_zero, Option.some.injEq] at h2
                subst h2
                exact ⟨_, hb, fit_ints⟩
              · simp only [Nat.zero_add, List.getElem?_cons_succ, List.getElem?_cons_zero, Option.some.injEq] at h1
                subst h1
                simp only [hR, Nat.zero_add, List.getElem?_cons_succ, List.getElem?_cons_zero, Option.some.injEq] at h2
                subst h2
                refine ⟨_, hp, fit_one hq ?_ rfl⟩
                show Value.slice (some ⟨b, o, g⟩) n c = .slice (some ⟨b, addO o 0, g⟩) n c
                rw [addO_eq]; rfl
              · simp at h1
          · cases h
        · cases h
      · cases h
    · cases h
  · cases h
/-- the document's Raw -/
def F13 (f : FuncId) (args : List Value) (s : St) : Option Inst := if f == 13 then match args with
  | [.slice (some ⟨b, o, g⟩) n c] => match s.heap.get b with
    | some (.cells (.ints .u8 l) _) => some ⟨[(b, o)], 1, hB1 ((l.drop o).take n), [.slice (some ⟨0, 0, g⟩) n c], .int .u16 (sc.car (wsum ((l.drop o).take n))), hB1 ((l.drop o).take n), Byt ((l.drop o).take n) ∧ n = ((l.drop o).take n).length ∧ 2 ≤ n ∧ n ≤ 1099511627776⟩
    | _ => none
  | _ => none else none
theorem F13_ok (f : FuncId) (args : List Value) (s : St) (i : Inst) (h : F13 f args s = some i) : Fits s i args ∧ (i.ask → CallOk Try.prog f i.args i.s0 i.val i.s1) := by
  unfold F13 at h
  split at h
  · rename_i hf
    have hf' : f = 13 := by simpa using hf
    subst hf'
    split at h
    · rename_i b o g n c
      split at h
      · rename_i l tb hb
        cases h
        refine ⟨⟨?_, fun j pp ob h1 h2 => ?_⟩, fun ha => rawR _ n c g ha.1 ha.2.1 ha.2.2.1 ha.2.2.2⟩
        · show [Value.slice (some ⟨b, o, g⟩) n c] = [Value.slice (some ⟨b, addO o 0, g⟩) n c]
          rw [addO_eq]; rfl
        · rcases j with _ | j
          · simp only [List.getElem?_cons_zero, Option.some.injEq] at h1
            subst h1
            simp only [hB1, List.getElem?_cons_zero, Option.some.injEq] at h2
            subst h2
            exact ⟨_, hb, fit_ints⟩
          · simp at h1
      · cases h
    · cases h
  · cases h
/-- a call without arguments, known -/
def F11 (f : FuncId) (args : List Value) (s : St) : Option Inst := if f == 11 then match args with
  | [] => some ⟨[], 0, [], [], .bool true, [], True⟩
  | _ => none else none
def FSq (f : FuncId) (args : List Value) (s : St) : Option Inst := match F12 f args s with
  | some i => some i
  | none => match F13 f args s with
    | some i => some i
    | none => F11 f args s
def KS : Given := { Given.frames Given.nothing FSq with fits := true }
def hI (L : List Int) : List (Option Ob) := [some (.cells (.ints .u8 L) 5)]
def runI (L : List Int) (n c : Nat) (a : Int) (o : List (Option Bool)) : Option (Value × St) := (mk Try.prog KS 300).call 6 [.slice (some ⟨0, 0, none⟩) n c, .int .i64 a] (smSt 1 (hI L) o)
end
end sf
end Go.Proofs.Yteknepfcbpoooab
namespace Go.Proofs.Yteknepfcbpoooab
open Go.ChangeShapes Go.WideShapes Go.ChangeAt Go.RowKit Go.Cln
namespace sg
open sd se se.rr sf
set_option linter.unusedVariables false
noncomputable section
theorem FS_ok (hw : CallOk Try.prog 11 [] (smSt 0 [] []) (.bool true) (smSt 0 [] [])) (f : FuncId) (args : List Value) (s : St) (i : Inst) (h : FSq f args s = some i) : Fits s i args ∧ (i.ask → CallOk Try.prog f i.args i.s0 i.val i.s1) := by
  unfold FSq at h
  split at h
  · rename_i j h1
    cases h; exact F12_ok f args s _ h1
  · split at h
    · rename_i j h1
      cases h; exact F13_ok f args s _ h1
    · unfold F11 at h
      split at h
      · rename_i hf
        have hf' : f = 11 := by simpa using hf
        subst hf'
        split at h
        · cases h
          exact ⟨⟨rfl, fun j p ob hp ho => by simp at hp⟩, fun _ => hw⟩
        · cases h
      · cases h
def FT (f : FuncId) (args : List Value) (s : St) : Option Inst := match F12 f args s with
  | some i => some i
  | none => F13 f args s
theorem FT_ok (f : FuncId) (args : List Value) (s : St) (i : Inst) (h : FT f args s = some i) : Fits s i args ∧ (i.ask → CallOk Try.prog f i.args i.s0 i.val i.s1) := by
  unfold FT at h
  split at h
  · rename_i j h1
    cases h; exact F12_ok f args s _ h1
  · exact F13_ok f args s _ h
def KT : Given := { Given.frames Given.nothing FT with fits := true }
theorem KT_ok : GivenOk Try.prog KT := frames_fits ((GivenOk.nothing _).frames FT_ok) true
def T0 (L : List Int) (n : Nat) : List Int := List.take n (List.drop 0 L)
def C1 (L : List Int) (n : Nat) (a : Int) : List Int := layI (T0 L n) (0 + a.toNat * 1) (List.replicate ((a + 2).toNat - a.toNat) 0)
def C2 (L : List Int) (n : Nat) (a : Int) : List Int := List.take (0 + n) (List.drop 0 (C1 L n a))
def sc1 (L : List Int) (n : Nat) (a : Int) : Int := 65535 - sc.car (wsum (C2 L n a))
def C3 (L : List Int) (n : Nat) (a : Int) : List Int := layI (C1 L n a) (0 + a.toNat * 1) (List.take (Nat.min (1 + 1) (((0 + n : Nat) : Int).toNat - a.toNat)) (List.drop 0 [IntKind.u8.wrap ((sc1 L n a).fdiv (2 ^ 8)), IntKind.u8.wrap (sc1 L n a)]))
def pA (n : Nat) (a : Int) : Prop := ((True ∧ decide (a < 0) = false) ∧ IntKind.i64.wrap ((n : Int) - 2) = (n : Int) - 2)
def pL1 (n : Nat) (a : Int) : Prop := (pA n a ∧ decide ((n : Int) - 2 < a) = false) ∧ (!(a.tmod 2 == 0)) = false
def pG (L : List Int) (n : Nat) : Prop := (0 + n ≤ L.length ∧ 0 + 0 ≤ 0 ∧ (0 + n) * 1 ≤ mostBytes ∧ 0 + n ≤ mostBytes)
def mn (n : Nat) (a : Int) : Nat := Nat.min (1 + 1) (((0 + n : Nat) : Int).toNat - a.toNat)
def pL2 (L : List Int) (n : Nat) (a : Int) : Prop := (((((((((pL1 n a ∧ decide (0 + n ≤ 0) = false) ∧ pG L n) ∧ IntKind.i64.wrap (a + 2) = a + 2) ∧
  (0 ≤ a + 2 ∧ a + 2 ≤ ((0 + n : Nat) : Int) ∧ 0 ≤ a ∧ a ≤ a + 2)) ∧ (0 + a.toNat * 1 + ((a + 2).toNat - a.toNat) ≤ (T0 L n).length)) ∧ (0 ≤ ((0 + n : Nat) : Int) ∧ ((0 + n : Nat) : Int) ≤ ((0 + n : Nat) : Int) ∧ 0 ≤ a ∧ a ≤ ((0 + n : Nat) : Int))) ∧
  (Byt (C2 L n a) ∧ 0 < 0 + n ∧ 0 + n = (C2 L n a).length ∧ 0 + n ≤ 1099511627776)) ∧ IntKind.u16.wrap (sc1 L n a) = sc1 L n a) ∧ (0 + mn n a ≤ 2 ∧ 0 + a.toNat * 1 + mn n a ≤ (C1 L n a).length))
def ksL : List Bool := true :: false :: true :: List.replicate 17 false
def outL (L W : List Int) : List (Option Ob) := some (.cells (.ints .u8 L) 5) :: none :: some (.cells (.ints .u8 W) 5) :: List.replicate 17 none
def oL : List (Option Bool) := [some false, none, none, none, some true, none, none, some false, none, none, none, some false, none, some false, some true, some true, some true, some true]
theorem runL (L : List Int) (n c : Nat) (g : Option Nat) (a : Int) : ((mk Try.prog KT 300).call 24 [.slice (some ⟨0, 0, g⟩) n c, .int .i64 a] (smSt 1 (hI L) oL)).map (fun r => (r.1, r.2.obl, r.2.next, keepL ksL r.2.heap.get 0)) =
    some (.tuple #[.slice (some ⟨2, 0, some 1⟩) (0 + n) (0 + n), .int .i64 0], pL2 L n a, (outL L (C3 L n a)).length, outL L (C3 L n a)) := by kernel_rfl
def errV : Value := .tuple #[.slice none 0 0, .int .i64 4]
theorem runL0 (L : List Int) (n c : Nat) (g : Option Nat) (a : Int) : ((mk Try.prog KT 300).call 24 [.slice (some ⟨0, 0, g⟩) n c, .int .i64 a] (smSt 1 (hI L) [some true])).map (fun r => (r.1, r.2.obl, r.2.next, keepL [true] r.2.heap.get 0)) =
    some (errV, True ∧ decide (a < 0) = true, (hI L).length, hI L) := by kernel_rfl
theorem runL1 (L : List Int) (n c : Nat) (g : Option Nat) (a : Int) : ((mk Try.prog KT 300).call 24 [.slice (some ⟨0, 0, g⟩) n c, .int .i64 a] (smSt 1 (hI L) [some false, none, none, none, some true, none, none, some true])).map (fun r => (r.1, r.2.obl, r.2.next, keepL [true] r.2.heap.get 0)) =
    some (errV, pA n a ∧ decide ((n : Int) - 2 < a) = true, (hI L).length, hI L) := by kernel_rfl
theorem runL3 (L : List Int) (n c : Nat) (g : Option Nat) (a : Int) : ((mk Try.prog KT 300).call 24 [.slice (some ⟨0, 0, g⟩) n c, .int .i64 a] (smSt 1 (hI L) [some false, none, none, none, some true, none, none, some false, none, none, none, some true])).map (fun r => (r.1, r.2.obl, r.2.next, keepL [true] r.2.heap.get 0)) =
    some (errV, (pA n a ∧ decide ((n : Int) - 2 < a) = false) ∧ (!(a.tmod 2 == 0)) = true, (hI L).length, hI L) := by kernel_rfl
/-- the document's -/
def D2 (L : List Int) (n : Nat) (a : Int) : List Int := ((T0 L n).set (0 + a.toNat * 1) 0).set (0 + (a + 1).toNat * 1) 0
def ds (L : List Int) (n : Nat) (a : Int) : Int := 65535 - sc.car (wsum (List.take (0 + n) (List.drop 0 (D2 L n a))))
def D3 (L : List Int) (n : Nat) (a : Int) : List Int := (D2 L n a).set (0 + a.toNat * 1) (IntKind.u8.wrap (IntKind.u16.wrap ((ds L n a).tdiv 256)))
def D4 (L : List Int) (n : Nat) (a : Int) : List Int := (D3 L n a).set (0 + (a + 1).toNat * 1) (IntKind.u8.wrap ((ds L n a).tmod 256))
def inA (n : Nat) (a : Int) : Prop := 0 ≤ a ∧ a < ((0 + n : Nat) : Int)
def pR2 (L : List Int) (n : Nat) (a : Int) : Prop := (((((((((((((((pA n a ∧ decide ((n : Int) - 2 < a) = false) ∧ (a.tmod 2 == 1) = false) ∧ decide (0 + n ≤ 0) = false) ∧ pG L n) ∧ IntKind.i64.wrap (a + 1) = a + 1) ∧ inA n a) ∧ (0 + a.toNat * 1 + 1 ≤ (T0 L n).length)) ∧ inA n (a + 1)) ∧ (0 + (a + 1).toNat * 1 + 1 ≤ ((T0 L n).set (0 + a.toNat * 1) 0).length)) ∧
  (Byt (List.take (0 + n) (List.drop 0 (D2 L n a))) ∧ 0 + n = (List.take (0 + n) (List.drop 0 (D2 L n a))).length ∧ 2 ≤ 0 + n ∧ 0 + n ≤ 1099511627776)) ∧ IntKind.u16.wrap (ds L n a) = ds L n a) ∧ IntKind.i64.wrap (a + 1) = a + 1) ∧ inA n a) ∧ (0 + a.toNat * 1 + 1 ≤ (D2 L n a).length)) ∧ inA n (a + 1)) ∧ (0 + (a + 1).toNat * 1 + 1 ≤ (D3 L n a).length)
def outR (L W : List Int) : List (Option Ob) := [some (.cells (.ints .u8 L) 5), none, some (.cells (.ints .u8 W) 5)]
def oR : List (Option Bool) := [some false, none, none, none, some true, none, none, some false, none, none, none, some false, some false, some true, some true, some true, some true, some true, some true, some true, none, none, some true, some true, some true, some true]
theorem runR2 (L : List Int) (n c : Nat) (g : Option Nat) (a : Int) : ((mk Try.prog KT 300).call 25 [.slice (some ⟨0, 0, g⟩) n c, .int .i64 a] (smSt 1 (hI L) oR)).map (fun r => (r.1, r.2.obl, r.2.next, keepL [true, false, true] r.2.heap.get 0)) =
    some (.tuple #[.slice (some ⟨2, 0, some 1⟩) (0 + n) (0 + n), .int .i64 0], pR2 L n a, (outR L (D4 L n a)).length, outR L (D4 L n a)) := by kernel_rfl
theorem runR0 (L : List Int) (n c : Nat) (g : Option Nat) (a : Int) : ((mk Try.prog KT 300).call 25 [.slice (some ⟨0, 0, g⟩) n c, .int .i64 a] (smSt 1 (hI L) [some true])).map (fun r => (r.1, r.2.obl, r.2.next, keepL [true] r.2.heap.get 0)) =
    some (errV, True ∧ decide (a < 0) = true, (hI L).length, hI L) := by kernel_rfl
theorem runR1 (L : List Int) (n c : Nat) (g : Option Nat) (a : Int) : ((mk Try.prog KT 300).call 25 [.slice (some ⟨0, 0, g⟩) n c, .int .i64 a] (smSt 1 (hI L) [some false, none, none, none, some true, none, none, some true])).map (fun r => (r.1, r.2.obl, r.2.next, keepL [true] r.2.heap.get 0)) =
    some (errV, pA n a ∧ decide ((n : Int) - 2 < a) = true, (hI L).length, hI L) := by kernel_rfl
theorem runR3 (L : List Int) (n c : Nat) (g : Option Nat) (a : Int) : ((mk Try.prog KT 300).call 25 [.slice (some ⟨0, 0, g⟩) n c, .int .i64 a] (smSt 1 (hI L) [some false, none, none, none, some true, none, none, some false, none, none, none, some true])).map (fun r => (r.1, r.2.obl, r.2.next, keepL [true] r.2.heap.get 0)) =
    some (errV, (pA n a ∧ decide ((n : Int) - 2 < a) = false) ∧ (a.tmod 2 == 1) = true, (hI L).length, hI L) := by kernel_rfl
end
end sg
end Go.Proofs.Yteknepfcbpoooab
namespace Go.Proofs.Yteknepfcbpoooab
open Go.ChangeShapes Go.WideShapes Go.ChangeAt Go.RowKit Go.Cln
namespace sg
open sd se se.rr sf
set_option linter.unusedVariables false
noncomputable section
def okA (n : Nat) (a : Int) : Prop := 0 ≤ a ∧ a ≤ (n : Int) - 2 ∧ a % 2 = 0
def zed (L : List Int) (j : Nat) : List Int := (L.set j 0).set (j + 1) 0
def sm (L : List Int) (j : Nat) : Int := 65535 - sc.car (wsum (zed L j))
def lay (L : List Int) (j : Nat) : List Int := ((zed L j).set j (sm L j / 256)).set (j + 1) (sm L j % 256)
theorem byt_set {L : List Int} (h : Byt L) (j : Nat) {x : Int} (hx : 0 ≤ x ∧ x < 256) : Byt (L.set j x) := fun y hy => by
  rcases List.mem_or_eq_of_mem_set hy with h1 | h1
  · exact h y h1
  · rw [h1]; exact hx
theorem byt_zed {L : List Int} (h : Byt L) (j : Nat) : Byt (zed L j) := byt_set (byt_set h _ (by omega)) _ (by omega)
theorem sm_b (L : List Int) (j : Nat) : 0 ≤ sm L j ∧ sm L j ≤ 65535 := by have := car_b (wsum (zed L j)); unfold sm; omega
theorem zed_len (L : List Int) (j : Nat) : (zed L j).length = L.length := by simp [zed]
theorem lay_len (L : List Int) (j : Nat) : (lay L j).length = L.length := by simp [lay, zed]
theorem byt_lay {L : List Int} (h : Byt L) (j : Nat) : Byt (lay L j) := by
  have := sm_b L j
  exact byt_set (byt_set (byt_zed h j) _ (by omega)) _ (by omega)
theorem wr8 {x : Int} : IntKind.u8.wrap x = x % 256 := by rw [IntKind.wrap_u8]
theorem types5 : Try.prog.types[5].bytes = 1 := rfl
theorem c_eq {L : List Int} {n : Nat} {a : Int} (hn : n = L.length) (h : okA n a) : T0 L n = L ∧ C1 L n a = zed L a.toNat ∧ C2 L n a = zed L a.toNat ∧ sc1 L n a = sm L a.toNat ∧ mn n a = 2 ∧ C3 L n a = lay L a.toNat := by
  obtain ⟨h0, h1, h2⟩ := h
  have e0 : T0 L n = L := by unfold T0; rw [List.drop_zero, hn, List.take_length]
  have e1 : C1 L n a = zed L a.toNat := by
    unfold C1
    rw [e0, show (a + 2).toNat - a.toNat = 2 by omega, show 0 + a.toNat * 1 = a.toNat by omega]
    exact set2_get L a.toNat 0 0 (by omega)
  have e2 : C2 L n a = zed L a.toNat := by unfold C2; rw [e1, List.drop_zero, List.take_of_length_le (by rw [zed_len]; omega)]
  have e3 : sc1 L n a = sm L a.toNat := by unfold sc1 sm; rw [e2]
  have e4 : mn n a = 2 := by
    unfold mn
    show Nat.min 2 _ = 2
    exact Nat.min_eq_left (by omega)
  refine ⟨e0, e1, e2, e3, e4, ?_⟩
  have hm : Nat.min (1 + 1) (((0 + n : Nat) : Int).toNat - a.toNat) = 2 := e4
  unfold C3
  rw [e1, e3, hm, show 0 + a.toNat * 1 = a.toNat by omega]
  have hb := sm_b L a.toNat
  show layI (zed L a.toNat) a.toNat [IntKind.u8.wrap ((sm L a.toNat).fdiv (2 ^ 8)), IntKind.u8.wrap (sm L a.toNat)] = _
  rw [set2_get _ _ _ _ (by rw [zed_len]; omega), wr8, wr8, Int.fdiv_eq_ediv_of_nonneg _ (by decide)]
  unfold lay
  have : sm L a.toNat / 2 ^ 8 % 256 = sm L a.toNat / 256 := by omega
  rw [this]
theorem d_eq {L : List Int} {n : Nat} {a : Int} (hn : n = L.length) (h : okA n a) : D2 L n a = zed L a.toNat ∧ ds L n a = sm L a.toNat ∧ D3 L n a = (zed L a.toNat).set a.toNat (sm L a.toNat / 256) ∧ D4 L n a = lay L a.toNat := by
  obtain ⟨e0, _⟩ := c_eq hn h
  obtain ⟨h0, h1, h2⟩ := h
  have hb := sm_b L a.toNat
  have e1 : D2 L n a = zed L a.toNat := by
    unfold D2 zed
    rw [e0, show 0 + a.toNat * 1 = a.toNat by omega, show 0 + (a + 1).toNat * 1 = a.toNat + 1 by omega]
  have e2 : ds L n a = sm L a.toNat := by unfold ds sm; rw [e1, List.drop_zero, List.take_of_length_le (by rw [zed_len]; omega)]
  have e3 : D3 L n a = (zed L a.toNat).set a.toNat (sm L a.toNat / 256) := by
    unfold D3
    rw [e1, e2, show 0 + a.toNat * 1 = a.toNat by omega, wr8, IntKind.wrap_u16, Int.tdiv_eq_ediv_of_nonneg hb.1]
    congr 1; omega
  refine ⟨e1, e2, e3, ?_⟩
  unfold D4 lay
  rw [e3, e2, show 0 + (a + 1).toNat * 1 = a.toNat + 1 by omega, wr8, Int.tmod_eq_emod_of_nonneg hb.1]
  congr 1; omega
theorem tm2 {a : Int} (h0 : 0 ≤ a) : a.tmod 2 = a % 2 := Int.tmod_eq_emod_of_nonneg h0
theorem pA_ok {n : Nat} {a : Int} (h0 : 0 ≤ a) (hs : n ≤ 1099511627776) : pA n a := by
  refine ⟨⟨trivial, ?_⟩, ?_⟩
  · rw [decide_eq_false_iff_not]; omega
  · rw [IntKind.wrap_i64]; omega
theorem lay_ok (L : List Int) (n c : Nat) (g : Option Nat) (a : Int) (hB : Byt L) (hn : n = L.length) (hs : n ≤ 1099511627776) (h : okA n a) :
    CallOk Try.prog 24 [.slice (some ⟨0, 0, g⟩) n c, .int .i64 a] (smSt 1 (hI L) []) (.tuple #[.slice (some ⟨2, 0, some 1⟩) n n, .int .i64 0]) (smSt 1 (outL L (lay L a.toNat)) []) := by
  obtain ⟨e0, e1, e2, e3, e4, e5⟩ := c_eq hn h
  have hb := sm_b L a.toNat
  obtain ⟨h0, h1, h2⟩ := h
  have := frame_by sr.pg KT_ok ksL (runL L n c g a) ?_ rfl rfl
  · rw [e5, Nat.zero_add] at this; exact this
  · unfold pL2 pL1 pG
    rw [e0, e1, e2, e3, e4]
    simp only [Nat.zero_add, zed_len]
    refine ⟨⟨⟨⟨⟨⟨⟨⟨⟨⟨⟨pA_ok h0 hs, ?_⟩, ?_⟩, ?_⟩, ?_⟩, ?_⟩, ?_⟩, ?_⟩, ?_⟩, ?_⟩, ?_⟩, ?_⟩
    · rw [decide_eq_false_iff_not]; omega
    · rw [tm2 h0, h2]; rfl
    · rw [decide_eq_false_iff_not]; omega
    · unfold mostBytes; omega
    · rw [IntKind.wrap_i64]; omega
    · omega
    · omega
    · omega
    · exact ⟨byt_zed hB _, by omega, hn, hs⟩
    · rw [IntKind.wrap_u16]; omega
    · omega
theorem layR_ok (L : List Int) (n c : Nat) (g : Option Nat) (a : Int) (hB : Byt L) (hn : n = L.length) (hs : n ≤ 1099511627776) (h : okA n a) :
    CallOk Try.prog 25 [.slice (some ⟨0, 0, g⟩) n c, .int .i64 a] (smSt 1 (hI L) []) (.tuple #[.slice (some ⟨2, 0, some 1⟩) n n, .int .i64 0]) (smSt 1 (outR L (lay L a.toNat)) []) := by
  obtain ⟨e0, _⟩ := c_eq hn h
  obtain ⟨e1, e2, e3, e4⟩ := d_eq hn h
  have hb := sm_b L a.toNat
  obtain ⟨h0, h1, h2⟩ := h
  have := frame_by sr.pg KT_ok [true, false, true] (runR2 L n c g a) ?_ rfl rfl
  · rw [e4, Nat.zero_add] at this; exact this
  · unfold pR2 pG inA
    rw [e0, e1, e2, e3]
    simp only [Nat.zero_add, zed_len, List.drop_zero, List.length_set]
    rw [List.take_of_length_le (by rw [zed_len]; omega)]
    simp only [zed_len]
    refine ⟨⟨⟨⟨⟨⟨⟨⟨⟨⟨⟨⟨⟨⟨⟨⟨pA_ok h0 hs, ?_⟩, ?_⟩, ?_⟩, ?_⟩, ?_⟩, ?_⟩, ?_⟩, ?_⟩, ?_⟩, ?_⟩, ?_⟩, ?_⟩, ?_⟩, ?_⟩, ?_⟩, ?_⟩
    · rw [decide_eq_false_iff_not]; omega
    · rw [tm2 h0, h2]; rfl
    · rw [decide_eq_false_iff_not]; omega
    · unfold mostBytes; omega
    · rw [IntKind.wrap_i64]; omega
    · omega
    · omega
    · omega
    · omega
    · exact ⟨byt_zed hB _, hn, by omega, hs⟩
    · rw [IntKind.wrap_u16]; omega
    · rw [IntKind.wrap_i64]; omega
    · omega
    · omega
    · omega
    · omega
theorem tmod_odd {a : Int} (h0 : 0 ≤ a) (h : ¬ a % 2 = 0) : a % 2 = 1 := by omega
theorem layE_ok (f : FuncId) (hf : f = 24 ∨ f = 25) (L : List Int) (n c : Nat) (g : Option Nat) (a : Int) (hs : n ≤ 1099511627776) (h : ¬ okA n a) :
    CallOk Try.prog f [.slice (some ⟨0, 0, g⟩) n c, .int .i64 a] (smSt 1 (hI L) []) errV (smSt 1 (hI L) []) := by
  by_cases h0 : a < 0
  · rcases hf with rfl | rfl
    · exact frame_by sr.pg KT_ok [true] (runL0 L n c g a) ⟨trivial, by rw [decide_eq_true_eq]; exact h0⟩ rfl rfl
    · exact frame_by sr.pg KT_ok [true] (runR0 L n c g a) ⟨trivial, by rw [decide_eq_true_eq]; exact h0⟩ rfl rfl
  · by_cases h1 : (n : Int) - 2 < a
    · rcases hf with rfl | rfl
      · exact frame_by sr.pg KT_ok [true] (runL1 L n c g a) ⟨pA_ok (by omega) hs, by rw [decide_eq_true_eq]; exact h1⟩ rfl rfl
      · exact frame_by sr.pg KT_ok [true] (runR1 L n c g a) ⟨pA_ok (by omega) hs, by rw [decide_eq_true_eq]; exact h1⟩ rfl rfl
    · have h2 : a % 2 = 1 := tmod_odd (by omega) fun h2 => h ⟨by omega, by omega, h2⟩
      rcases hf with rfl | rfl
      · exact frame_by sr.pg KT_ok [true] (runL3 L n c g a) ⟨⟨pA_ok (by omega) hs, by rw [decide_eq_false_iff_not]; exact h1⟩, by rw [tm2 (by omega), h2]; rfl⟩ rfl rfl
      · exact frame_by sr.pg KT_ok [true] (runR3 L n c g a) ⟨⟨pA_ok (by omega) hs, by rw [decide_eq_false_iff_not]; exact h1⟩, by rw [tm2 (by omega), h2]; rfl⟩ rfl rfl
/-- Lay, the document's Lay: which way it goes is taken on trust -/
def FL (f : FuncId) (args : List Value) (s : St) : Option (Inst × Nat) := if f == 24 || f == 25 then match args with
  | [.slice (some ⟨b, o, g⟩) n c, .int .i64 a] => match s.heap.get b with
    | some (.cells (.ints .u8 l) _) => match s.orc with
      | some true :: _ => some (⟨[(b, o)], 1, hI ((l.drop o).take n), [.slice (some ⟨0, 0, g⟩) n c, .int .i64 a], .tuple #[.slice (some ⟨2, 0, some 1⟩) n n, .int .i64 0],
          if f == 24 then outL ((l.drop o).take n) (lay ((l.drop o).take n) a.toNat) else outR ((l.drop o).take n) (lay ((l.drop o).take n) a.toNat), Byt ((l.drop o).take n) ∧ n = ((l.drop o).take n).length ∧ n ≤ 1099511627776 ∧ okA n a⟩, 1)
      | some false :: _ => some (⟨[(b, o)], 1, hI ((l.drop o).take n), [.slice (some ⟨0, 0, g⟩) n c, .int .i64 a], errV, hI ((l.drop o).take n), n ≤ 1099511627776 ∧ ¬ okA n a⟩, 1)
      | _ => none
    | _ => none
  | _ => none else none
theorem fitI {s : St} {b o : Nat} {l : List Int} {tb : TypeId} {g : Option Nat} {n c : Nat} {a : Int} {i : Inst} (hb : s.heap.get b = some (.cells (.ints .u8 l) tb)) (hw : i.win = [(b, o)]) (hh : i.heap = hI ((l.drop o).take n)) (ha : i.args = [.slice (some ⟨0, 0, g⟩) n c, .int .i64 a]) :
    Fits s i [.slice (some ⟨b, o, g⟩) n c, .int .i64 a] := by
  refine ⟨?_, fun j pp ob h1 h2 => ?_⟩
  · rw [ha]
    have e1 : i.nu s.next 0 = b := by unfold Inst.nu; rw [hw]; rfl
    have e2 : i.del 0 = o := by unfold Inst.del; rw [hw]; rfl
    show [Value.slice (some ⟨b, o, g⟩) n c, .int .i64 a] = [Value.slice (some ⟨i.nu s.next 0, addO (i.del 0) 0, g⟩) n c, .int .i64 a]
    rw [e1, e2, addO_eq]; rfl
  · rw [hw] at h1
    rw [hh] at h2
    rcases j with _ | j
    · simp only [List.getElem?_cons_zero, Option.some.injEq] at h1
      subst h1
      simp only [hI, List.getElem?_cons_zero, Option.some.injEq] at h2
      subst h2
      exact ⟨_, hb, fit_ints⟩
    · simp at h1
theorem FL_ok (f : FuncId) (args : List Value) (s : St) (i : Inst) (k : Nat) (h : FL f args s = some (i, k)) : Fits s i args ∧ (i.ask → CallOk Try.prog f i.args i.s0 i.val i.s1) := by
  unfold FL at h
  split at h
  · rename_i hf
    have hf' : f = 24 ∨ f = 25 := by
      rw [Bool.or_eq_true] at hf
      exact hf.imp (fun h => by simpa using h) fun h => by simpa using h
    split at h
    · rename_i b o g n c a
      split at h
      · rename_i l tb hb
        split at h
        · cases h
          refine ⟨fitI hb rfl rfl rfl, fun ha => ?_⟩
          obtain ⟨q1, q2, q3, q4⟩ := ha
          rcases hf' with rfl | rfl
          · exact lay_ok _ n c g a q1 q2 q3 q4
          · exact layR_ok _ n c g a q1 q2 q3 q4
        · cases h
          exact ⟨fitI hb rfl rfl rfl, fun ha => layE_ok f hf' _ n c g a ha.1 ha.2⟩
        · cases h
      · cases h
    · cases h
  · cases h
end
end sg
end Go.Proofs.Yteknepfcbpoooab
