/- Read off the code by the clean reading. -/
import Derived.Test.YteknepfcbpoooaaClnTc
set_option linter.unusedVariables false
set_option linter.unusedSimpArgs false
set_option linter.deprecated false
set_option maxRecDepth 100000
namespace Go.Proofs.Yteknepfcbpoooaa
open Go.ChangeShapes Go.WideShapes Go.ChangeAt Go.RowKit Go.Cln
namespace td
open hc hx hy hz tb tc
set_option linter.unusedVariables false
noncomputable section
noncomputable def r22n (h : HS) (sz : Int) : Option (Value × St) := (mk Try.prog Given.nothing 300).call 22 [.pointer (some ⟨0, 0, none⟩), .slice none 0 0] (smSt 0 [some (objH h sz)] [])
noncomputable def r22z (h : HS) (sz : Int) (g : Option Nat) (c : Nat) : Option (Value × St) := (mk Try.prog Given.nothing 300).call 22 [.pointer (some ⟨1, 0, none⟩), .slice (some ⟨0, 0, g⟩) 0 c] (smSt 1 [none, some (objH h sz)] [])
noncomputable def w0 (sz : Int) : Int := IntKind.i64.wrap (sz + ((0 : Nat) : Int))
theorem run22n (h : HS) (sz : Int) : (r22n h sz).map (fun r => (r.1, r.2.obl, r.2.next, keepL (true :: List.replicate 6 false) r.2.heap.get 0)) =
    some (.int .i64 0, True, (some (objH h (w0 sz)) :: nn 6).length, some (objH h (w0 sz)) :: nn 6) := by kernel_rfl
theorem run22z (h : HS) (sz : Int) (g : Option Nat) (c : Nat) : (r22z h sz g c).map (fun r => (r.1, r.2.obl, r.2.next, keepL (false :: true :: List.replicate 6 false) r.2.heap.get 0)) =
    some (.int .i64 0, True, (none :: some (objH h (w0 sz)) :: nn 6).length, none :: some (objH h (w0 sz)) :: nn 6) := by kernel_rfl
/-- a Write of nothing, told -/
def FW (f : FuncId) (args : List Value) (s : St) : Option Inst := if f == 22 then match args with
  | [.pointer (some ⟨p, 0, none⟩), .slice none 0 0] => match s.heap.get p with
    | some (.cells (.lit l) _) => if okH l = true then
        some ⟨[(p, 0)], 0, [some (.cells (.lit l) 73)], [.pointer (some ⟨0, 0, none⟩), .slice none 0 0], .int .i64 0, some (objH (hOf l) (w0 (intAt l 70))) :: nn 6, True⟩
      else none
    | _ => none
  | [.pointer (some ⟨p, 0, none⟩), .slice (some ⟨b, o, g⟩) 0 c] => match s.heap.get p with
    | some (.cells (.lit l) _) => if okH l = true then
        some ⟨[(b, o), (p, 0)], 1, [none, some (.cells (.lit l) 73)], [.pointer (some ⟨1, 0, none⟩), .slice (some ⟨0, 0, g⟩) 0 c], .int .i64 0, none :: some (objH (hOf l) (w0 (intAt l 70))) :: nn 6, True⟩
      else none
    | _ => none
  | _ => none else none
theorem FW_ok (f : FuncId) (args : List Value) (s : St) (i : Inst) (h : FW f args s = some i) : Fits s i args ∧ (i.ask → CallOk Try.prog f i.args i.s0 i.val i.s1) := by
  unfold FW at h
  split at h
  · rename_i hf
    have hf' : f = 22 := by simpa using hf
    subst hf'
    split at h
    · rename_i p
      split at h
      · rename_i l tp hp
        split at h
        · rename_i hok
          cases h
          have hl := okH_eq hok
          refine ⟨⟨rfl, fun j pp ob h1 h2 => ?_⟩, fun _ => ?_⟩
          · rcases j with _ | j
            · simp only [List.getElem?_cons_zero, Option.some.injEq] at h1
              subst h1
              simp only [List.getElem?_cons_zero, Option.some.injEq] at h2
              subst h2
              exact ⟨_, hp, fit_flat (fun x v hx => by rw [Nat.zero_add]; exact hx) (by rw [hl]; exact cH_flat _ _)⟩
            · simp at h1
          · have := frame_by sw.pg (GivenOk.nothing _) _ (run22n (hOf l) (intAt l 70)) trivial (by rfl) rfl
            have e : objH (hOf l) (intAt l 70) = .cells (.lit l) 73 := by unfold objH; rw [← hl]
            rw [e] at this
            exact this
        · cases h
      · cases h
    · rename_i p b o g c
      split at h
      · rename_i l tp hp
        split at h
        · rename_i hok
          cases h
          have hl := okH_eq hok
          refine ⟨⟨?_, fun j pp ob h1 h2 => ?_⟩, fun _ => ?_⟩
          · show [Value.pointer (some ⟨p, 0, none⟩), .slice (some ⟨b, o, g⟩) 0 c] = [.pointer (some ⟨p, 0, none⟩), .slice (some ⟨b, addO o 0, g⟩) 0 c]
            rw [addO_eq]; rfl
          · rcases j with _ | _ | j
            · simp at h2
            · simp only [Nat.zero_add, List.getElem?_cons_succ, List.getElem?_cons_zero, Option.some.injEq] at h1
              subst h1
              simp only [Nat.zero_add, List.getElem?_cons_succ, List.getElem?_cons_zero, Option.some.injEq] at h2
              subst h2
              exact ⟨_, hp, fit_flat (fun x v hx => by rw [Nat.zero_add]; exact hx) (by rw [hl]; exact cH_flat _ _)⟩
            · simp at h1
          · have := frame_by sw.pg (GivenOk.nothing _) _ (run22z (hOf l) (intAt l 70) g c) trivial (by rfl) rfl
            have e : objH (hOf l) (intAt l 70) = .cells (.lit l) 73 := by unfold objH; rw [← hl]
            rw [e] at this
            exact this
        · cases h
      · cases h
    · cases h
  · cases h
/-- all that is told -/
def FA (D : DT) (A : List Int → HS → HS) (E : HS → Nat → sw.N5) (f : FuncId) (args : List Value) (s : St) : Option Inst := match FD D f args s with
  | some i => some i
  | none => match FH A E f args s with
    | some i => some i
    | none => FW f args s
theorem FA_ok (D : DT) (A : List Int → HS → HS) (E : HS → Nat → sw.N5) (f : FuncId) (args : List Value) (s : St) (i : Inst) (h : FA D A E f args s = some i) : Fits s i args ∧ (i.ask → CallOk Try.prog f i.args i.s0 i.val i.s1) := by
  unfold FA at h
  split at h
  · rename_i j h1
    cases h; exact FD_ok D f args s _ h1
  · split at h
    · rename_i j h1
      cases h; exact FH_ok A E f args s _ h1
    · exact FW_ok f args s _ h
def KA (D : DT) (A : List Int → HS → HS) (E : HS → Nat → sw.N5) : Given := { Given.frames Given.nothing (FA D A E) with fits := true }
theorem KA_ok (D : DT) (A : List Int → HS → HS) (E : HS → Nat → sw.N5) : GivenOk Try.prog (KA D A E) := frames_fits ((GivenOk.nothing _).frames (FA_ok D A E)) true
abbrev AT := List Int → HS → HS
abbrev ET := HS → Nat → sw.N5
noncomputable def r7 (D : DT) (A : AT) (E : ET) (k : Int) (L : List Int) (n c : Nat) (o : List (Option Bool)) : Option (Value × St) := (mk Try.prog (KA D A E) 300).call 7 [.int .i64 k, .slice (some ⟨0, 0, none⟩) n c] (smSt 1 (hB L) o)
noncomputable def r7v (D : DT) (A : AT) (E : ET) (k : Int) (v : Value) (b : Nat) (o : List (Option Bool)) : Option (Value × St) := (mk Try.prog (KA D A E) 300).call 7 [.int .i64 k, v] (St.start b .leaf o)
end
end td
end Go.Proofs.Yteknepfcbpoooaa
namespace Go.Proofs.Yteknepfcbpoooaa
open Go.ChangeShapes Go.WideShapes Go.ChangeAt Go.RowKit Go.Cln
namespace td
open hc hx hy hz tb tc
set_option linter.unusedVariables false
noncomputable section
def e4 (p : Prop) (x y : Int) : Prop := (((p ∧ (by8 x 3 == by8 y 3) = true) ∧ (by8 x 2 == by8 y 2) = true) ∧ (by8 x 1 == by8 y 1) = true) ∧ (by8 x 0 == by8 y 0) = true
def e20 (p : Prop) (X Y : sw.N5) : Prop := e4 (e4 (e4 (e4 (e4 p X.a Y.a) X.b Y.b) X.c Y.c) X.d Y.d) X.e Y.e
theorem e4_ok {p : Prop} (hp : p) (x : Int) : e4 p x x := ⟨⟨⟨⟨hp, by simp⟩, by simp⟩, by simp⟩, by simp⟩
theorem e20_ok {p : Prop} (hp : p) {X Y : sw.N5} (h : X = Y) : e20 p X Y := by subst h; exact e4_ok (e4_ok (e4_ok (e4_ok (e4_ok hp _) _) _) _) _
def Z (k : Int) : List Int := List.replicate k.toNat 0
def W1 (k : Int) : List Int := List.take k.toNat (List.drop 0 (Z k))
def W2 (L : List Int) (n : Nat) : List Int := List.take n (List.drop 0 L)
def ML (k : Int) (L : List Int) (n : Nat) : List Int := W1 k ++ W2 L n
def MT (M : List Int) (m : Nat) : List Int := List.take m (List.drop 0 M)
def mk0 (k : Int) (p : Prop) : Prop := p ∧ (0 ≤ k ∧ k ≤ k ∧ ((1 : Nat) : Int) * k ≤ 35184372088832 ∧ k ≤ 35184372088832)
def pre (k : Int) (n : Nat) : Prop := mk0 k (((True ∧ decide (k < 0) = false) ∧ decide (k > 200) = false) ∧ decide ((n : Int) > 130) = false)
def ap1 (k : Int) (L : List Int) (n : Nat) (p : Prop) : Prop := (p ∧ decide (k.toNat + n ≤ k.toNat) = false) ∧ (0 + n ≤ L.length ∧ 0 + k.toNat ≤ (Z k).length ∧ (k.toNat + n) * 1 ≤ mostBytes ∧ k.toNat + n ≤ mostBytes)
def a11 (D : DT) (M : List Int) (m c : Nat) (p : Prop) : Prop := p ∧ (D = shaN ∧ Byt (MT M m) ∧ m = (MT M m).length ∧ m ≤ c ∧ m ≤ 1000000000)
def a12 (D : DT) (M : List Int) (m : Nat) (p : Prop) : Prop := p ∧ (D = shaN ∧ m = (MT M m).length ∧ 0 < m ∧ m ≤ 1000000000)
def hA (A : AT) (k : Int) : HS := A (W1 k) (hOf l0)
def wA (k : Int) : Int := IntKind.i64.wrap (intAt l0 70 + ((k.toNat : Nat) : Int))
def lA (A : AT) (k : Int) : List Value := cH (hA A k) (wA k)
def hB2 (A : AT) (k : Int) (L : List Int) (n : Nat) : HS := A (W2 L n) (hOf (lA A k))
def wB (k : Int) (n : Nat) : Int := IntKind.i64.wrap (wA k + (n : Int))
def lB (A : AT) (k : Int) (L : List Int) (n : Nat) : List Value := cH (hB2 A k L n) (wB k n)
def a22 (A : AT) (l : List Value) (W : List Int) (m c : Nat) (p : Prop) : Prop := p ∧ (A = AB ∧ 0 ≤ intAt l 64 ∧ intAt l 64 < 64 ∧ m = W.length ∧ m ≤ c)
def a23 (E : ET) (l : List Value) (p : Prop) : Prop := p ∧ (E = DS ∧ 0 ≤ intAt l 70 ∧ intAt l 70 ≤ 1152921504606846976 ∧ intAt l 64 = (((intAt l 70).toNat % 64 : Nat) : Int))
def vE (E : ET) (l : List Value) : sw.N5 := E (hOf l) (intAt l 70).toNat
def eqs : List (Option Bool) := List.replicate 20 (some true)
def mid (m : Option Bool) : List (Option Bool) := [none, none, m] ++ List.replicate 13 none
def oOk : List (Option Bool) := [some false, none, none, some false, none, none, none, some false, some true, some false] ++ (eqs ++ (mid (some true) ++ eqs))
def pOk (D : DT) (A : AT) (E : ET) (k : Int) (L : List Int) (n c : Nat) : Prop :=
  e20 (a12 D (ML k L n) (k.toNat + n) (a23 E (lB A k L n) (a22 A (lA A k) (W2 L n) n c (a22 A l0 (W1 k) k.toNat k.toNat (mk0 k (e20 (a12 D (ML k L n) (k.toNat + n) (a11 D (ML k L n) (k.toNat + n) (k.toNat + n) (ap1 k L n (pre k n)))) (D (MT (ML k L n) (k.toNat + n))) (D (MT (ML k L n) (k.toNat + n)))))))))
    (vE E (lB A k L n)) (D (MT (ML k L n) (k.toNat + n))) ∧ True
theorem runOk (D : DT) (A : AT) (E : ET) (k : Int) (L : List Int) (n c : Nat) : (r7 D A E k L n c oOk).map (fun r => (r.1, r.2.obl)) = some (.bool true, pOk D A E k L n c) := by kernel_rfl
def oN : List (Option Bool) := [some false, none, none, some false, none, none, none, none, some true, some true] ++ (eqs ++ (mid (some true) ++ eqs))
def NL (k : Int) : List Int := layI (Z k) (0 + k.toNat) []
def preN (k : Int) : Prop := mk0 k ((True ∧ decide (k < 0) = false) ∧ decide (k > 200) = false)
def lN (A : AT) (k : Int) : List Value := cH (hOf (lA A k)) (w0 (wA k))
def pN (c0 : Prop) (D : DT) (A : AT) (E : ET) (k : Int) : Prop :=
  e20 (a12 D (NL k) (k.toNat + 0) (a23 E (lN A k) ((a22 A l0 (W1 k) k.toNat k.toNat (mk0 k (e20 (a12 D (NL k) (k.toNat + 0) (a11 D (NL k) (k.toNat + 0) k.toNat ((preN k ∧ decide (k.toNat + 0 ≤ k.toNat) = true) ∧ (c0 ∧ 0 + k.toNat + 0 ≤ (Z k).length)))) (D (MT (NL k) (k.toNat + 0))) (D (MT (NL k) (k.toNat + 0)))))) ∧ True)))
    (vE E (lN A k)) (D (MT (NL k) (k.toNat + 0))) ∧ True
theorem runN (D : DT) (A : AT) (E : ET) (k : Int) : (r7v D A E k (.slice none 0 0) 0 oN).map (fun r => (r.1, r.2.obl)) = some (.bool true, pN (0 = 0) D A E k) := by kernel_rfl
theorem runZ (D : DT) (A : AT) (E : ET) (k : Int) (c : Nat) : (r7v D A E k (.slice (some ⟨0, 0, none⟩) 0 c) 1 oN).map (fun r => (r.1, r.2.obl)) = some (.bool true, pN True D A E k) := by kernel_rfl
def oO : List (Option Bool) := List.replicate 9 none ++ (eqs ++ (mid none ++ eqs))
def l1 : List Value := cH (hOf l0) (w0 (intAt l0 70))
def l2 : List Value := cH (hOf l1) (w0 (intAt l1 70))
def pO (D : DT) (E : ET) : Prop := e20 (a23 E l2 (((e20 ((True ∧ D = shaN) ∧ D = shaN) (D []) (D [])) ∧ True) ∧ True) ∧ D = shaN) (vE E l2) (D []) ∧ True
theorem runON (D : DT) (A : AT) (E : ET) : (r7v D A E 0 (.slice none 0 0) 0 oO).map (fun r => (r.1, r.2.obl)) = some (.bool true, pO D E) := by kernel_rfl
theorem runOZ (D : DT) (A : AT) (E : ET) (c : Nat) : (r7v D A E 0 (.slice (some ⟨0, 0, none⟩) 0 c) 1 oO).map (fun r => (r.1, r.2.obl)) = some (.bool true, pO D E) := by kernel_rfl
theorem runLo (D : DT) (A : AT) (E : ET) (k : Int) (L : List Int) (n c : Nat) : (r7 D A E k L n c [some true]).map (fun r => (r.1, r.2.obl)) = some (.bool true, (True ∧ decide (k < 0) = true) ∧ True) := by kernel_rfl
theorem runHi (D : DT) (A : AT) (E : ET) (k : Int) (L : List Int) (n c : Nat) : (r7 D A E k L n c [some false, none, none, some true]).map (fun r => (r.1, r.2.obl)) = some (.bool true, ((True ∧ decide (k < 0) = false) ∧ decide (k > 200) = true) ∧ True) := by kernel_rfl
theorem runLong (D : DT) (A : AT) (E : ET) (k : Int) (L : List Int) (n c : Nat) : (r7 D A E k L n c [some false, none, none, some false, none, none, none, some true]).map (fun r => (r.1, r.2.obl)) = some (.bool true, (((True ∧ decide (k < 0) = false) ∧ decide (k > 200) = false) ∧ decide ((n : Int) > 130) = true) ∧ True) := by kernel_rfl
theorem runNLo (D : DT) (A : AT) (E : ET) (k : Int) (v : Value) (b : Nat) (h : (v = .slice none 0 0 ∧ b = 0) ∨ ∃ c, v = .slice (some ⟨0, 0, none⟩) 0 c ∧ b = 1) : (r7v D A E k v b [some true]).map (fun r => (r.1, r.2.obl)) = some (.bool true, (True ∧ decide (k < 0) = true) ∧ True) := by
  rcases h with ⟨rfl, rfl⟩ | ⟨c, rfl, rfl⟩ <;> kernel_rfl
theorem runNHi (D : DT) (A : AT) (E : ET) (k : Int) (v : Value) (b : Nat) (h : (v = .slice none 0 0 ∧ b = 0) ∨ ∃ c, v = .slice (some ⟨0, 0, none⟩) 0 c ∧ b = 1) : (r7v D A E k v b [some false, none, none, some true]).map (fun r => (r.1, r.2.obl)) = some (.bool true, ((True ∧ decide (k < 0) = false) ∧ decide (k > 200) = true) ∧ True) := by
  rcases h with ⟨rfl, rfl⟩ | ⟨c, rfl, rfl⟩ <;> kernel_rfl
end
end td
end Go.Proofs.Yteknepfcbpoooaa
namespace Go.Proofs.Yteknepfcbpoooaa
open Go.ChangeShapes Go.WideShapes Go.ChangeAt Go.RowKit Go.Cln
namespace td
open hc hx hy hz tb tc
set_option linter.unusedVariables false
noncomputable section
theorem Z_len (k : Int) : (Z k).length = k.toNat := by simp [Z]
theorem Z_byt (k : Int) : Byt (Z k) := fun x hx => by rw [(List.mem_replicate.1 hx).2]; decide
theorem W1_eq (k : Int) : W1 k = Z k := by unfold W1; rw [List.drop_zero, List.take_of_length_le (by rw [Z_len]; exact Nat.le_refl _)]
theorem W2_eq {L : List Int} {n : Nat} (hn : L.length = n) : W2 L n = L := by unfold W2; rw [List.drop_zero, take_all hn]
theorem MT_eq {M : List Int} {m : Nat} (h : M.length = m) : MT M m = M := by unfold MT; rw [List.drop_zero, take_all h]
theorem ML_eq {k : Int} {L : List Int} {n : Nat} (hn : L.length = n) : ML k L n = Z k ++ L := by unfold ML; rw [W1_eq, W2_eq hn]
theorem semA (k : Int) : SemH (hA AB k) (Z k) := by
  unfold hA
  rw [W1_eq]
  exact SemH.zero.AB (fun x hx => by cases hx) (Z_byt k)
theorem wA_eq {k : Int} (h : k ≤ 200) : wA k = ((k.toNat : Nat) : Int) := by
  have e : intAt l0 70 = 0 := rfl
  unfold wA
  rw [e, IntKind.wrap_i64]; omega
theorem wB_eq {k : Int} {n : Nat} (h : k ≤ 200) (hn : n ≤ 1000) : wB k n = ((k.toNat + n : Nat) : Int) := by
  unfold wB
  rw [wA_eq h, IntKind.wrap_i64]; omega
theorem cH64 (h : HS) (sz : Int) : intAt (cH h sz) 64 = h.rn := rfl
theorem cH70 (h : HS) (sz : Int) : intAt (cH h sz) 70 = sz := rfl
theorem semB {k : Int} {L : List Int} {n : Nat} (hn : L.length = n) (hL : Byt L) : SemH (hB2 AB k L n) (Z k ++ L) := by
  unfold hB2 lA
  rw [W2_eq hn]
  exact ((semA k).cells _).AB (Z_byt k) hL
theorem semE {k : Int} {L : List Int} {n : Nat} (hn : L.length = n) (hL : Byt L) (h : k ≤ 200) (hn1 : n ≤ 1000) : vE DS (lB AB k L n) = shaN (Z k ++ L) := by
  unfold vE lB
  rw [cH70, wB_eq h hn1, Int.toNat_natCast]
  have := ((semB (k := k) hn hL).cells (wB k n)).DS (byt_app (Z_byt k) hL)
  rw [List.length_append, Z_len, hn] at this
  rw [wB_eq h hn1] at this
  exact this
theorem a23_of {l : List Value} {M : List Int} {h : HS} {p : Prop} {sz : Int} (hl : l = cH h sz) (hs : SemH h M) (hsz : sz = ((M.length : Nat) : Int)) (hM : M.length ≤ 1000000) (hp : p) : a23 DS l p := by
  subst hl
  refine ⟨hp, rfl, ?_, ?_, ?_⟩
  · rw [cH70, hsz]; omega
  · rw [cH70, hsz]; omega
  · rw [cH64, cH70, hsz, hs.rn, Int.toNat_natCast]
theorem a22_of {l : List Value} {M W : List Int} {h : HS} {p : Prop} {sz : Int} {m c : Nat} (hl : l = cH h sz) (hs : SemH h M) (hm : m = W.length) (hc : m ≤ c) (hp : p) : a22 AB l W m c p := by
  subst hl
  refine ⟨hp, rfl, ?_, ?_, hm, hc⟩
  · rw [cH64, hs.rn]; omega
  · rw [cH64, hs.rn]; omega
theorem l0_eq : l0 = cH (hOf l0) 0 := rfl
theorem mk0_of {k : Int} {p : Prop} (h0 : 0 ≤ k) (h1 : k ≤ 200) (hp : p) : mk0 k p := ⟨hp, by omega⟩
theorem pOk_ok {k : Int} {L : List Int} {n c : Nat} (hB : Byt L) (hn : L.length = n) (h0 : 0 < n) (h1 : n ≤ 130) (k0 : 0 ≤ k) (k1 : k ≤ 200) (hc : n ≤ c) : pOk shaN AB DS k L n c := by
  have hM : (ML k L n).length = k.toNat + n := by rw [ML_eq hn, List.length_append, Z_len, hn]
  have eM : MT (ML k L n) (k.toNat + n) = Z k ++ L := by rw [MT_eq hM, ML_eq hn]
  have bM : Byt (MT (ML k L n) (k.toNat + n)) := by rw [eM]; exact byt_app (Z_byt k) hB
  have lM : k.toNat + n = (MT (ML k L n) (k.toNat + n)).length := by rw [MT_eq hM, hM]
  have q12 : ∀ {p : Prop}, p → a12 shaN (ML k L n) (k.toNat + n) p := fun hp => ⟨hp, rfl, lM, by omega, by omega⟩
  refine ⟨e20_ok (q12 (a23_of rfl (semB hn hB) (by rw [wB_eq k1 (by omega), List.length_append, Z_len, hn]) (by rw [List.length_append, Z_len, hn]; omega) (a22_of rfl (semA k) (by rw [W2_eq hn]; exact hn.symm) hc (a22_of l0_eq SemH.zero (by rw [W1_eq, Z_len]) (Nat.le_refl _) (mk0_of k0 k1 (e20_ok (q12 ⟨?_, rfl, bM, lM, Nat.le_refl _, by omega⟩) rfl)))))) ?_, trivial⟩
  · rw [semE hn hB k1 (by omega), eM]
  · refine ⟨⟨mk0_of k0 k1 ⟨⟨⟨trivial, ?_⟩, ?_⟩, ?_⟩, ?_⟩, ?_⟩
    · rw [decide_eq_false_iff_not]; omega
    · rw [decide_eq_false_iff_not]; omega
    · rw [decide_eq_false_iff_not]; omega
    · rw [decide_eq_false_iff_not]; omega
    · rw [Z_len]; unfold mostBytes; omega
theorem NL_eq (k : Int) : NL k = Z k := by
  unfold NL layI
  rw [List.take_of_length_le (by rw [Z_len]; omega), List.drop_of_length_le (by rw [Z_len]; simp)]; simp
theorem pN_ok {c0 : Prop} (hc0 : c0) {k : Int} (k0 : 0 < k) (k1 : k ≤ 200) : pN c0 shaN AB DS k := by
  have hM : (NL k).length = k.toNat + 0 := by rw [NL_eq, Z_len]; rfl
  have eM : MT (NL k) (k.toNat + 0) = Z k := by rw [MT_eq hM, NL_eq]
  have lM : k.toNat + 0 = (MT (NL k) (k.toNat + 0)).length := by rw [MT_eq hM, hM]
  have q12 : ∀ {p : Prop}, p → a12 shaN (NL k) (k.toNat + 0) p := fun hp => ⟨hp, rfl, lM, by omega, by omega⟩
  have w0e : w0 (wA k) = ((Z k).length : Int) := by unfold w0; rw [wA_eq k1, IntKind.wrap_i64, Z_len]; omega
  have s2 := (semA k).cells (wA k)
  refine ⟨e20_ok (q12 (a23_of rfl s2 w0e (by rw [Z_len]; omega) ⟨a22_of l0_eq SemH.zero (by rw [W1_eq, Z_len]) (Nat.le_refl _) (mk0_of (by omega) k1 (e20_ok (q12 ⟨?_, rfl, by rw [eM]; exact Z_byt k, lM, by omega, by omega⟩) rfl)), trivial⟩)) ?_, trivial⟩
  · rw [eM]
    unfold vE lN
    rw [cH70, w0e, Int.toNat_natCast]
    have := (s2.cells (w0 (wA k))).DS (Z_byt k)
    rw [w0e] at this
    exact this
  · refine ⟨⟨mk0_of (by omega) k1 ⟨⟨trivial, ?_⟩, ?_⟩, ?_⟩, hc0, ?_⟩
    · rw [decide_eq_false_iff_not]; omega
    · rw [decide_eq_false_iff_not]; omega
    · rw [decide_eq_true_eq]; omega
    · rw [Z_len]; omega
theorem pO_ok : pO shaN DS := by
  have s1 : SemH (hOf l1) [] := SemH.zero.cells _
  have s2 : SemH (hOf l2) [] := s1.cells _
  have e2 : l2 = cH (hOf l1) 0 := rfl
  refine ⟨e20_ok ⟨a23_of e2 s1 rfl (by decide) ⟨⟨e20_ok ⟨⟨trivial, rfl⟩, rfl⟩ rfl, trivial⟩, trivial⟩, rfl⟩ ?_, trivial⟩
  exact s2.DS (fun x hx => by cases hx)
theorem sha1Lasts (W : World) (k : Int) (a0 : Option Addr) (n0 c0 : Nat) (s0 : (a0 = none ∧ n0 = 0 ∧ c0 = 0) ∨ ∃ b o, a0 = some ⟨b, o, none⟩ ∧ n0 ≤ c0 ∧ (c0 : Int) ≤ 9223372036854775807)
    (z0 : n0 = 0 ∨ ∃ (b o : Nat) (L : List Int), a0 = some ⟨b, o, none⟩ ∧ L.length = n0 ∧ (∀ x ∈ L, (Lit.int .u8 x).wf = true) ∧ HasCells W b o (L.map (Value.int .u8))) :
    Calls Try.prog 7 #[.int .i64 k, .slice a0 n0 c0] W fun e w' => e = .returned (.bool true) ∧ Below W.heap.size W w' := by
  have lo : k < 0 → (True ∧ decide (k < 0) = true) ∧ True := fun h => ⟨⟨trivial, by rw [decide_eq_true_eq]; exact h⟩, trivial⟩
  have hi : 200 < k → ((True ∧ decide (k < 0) = false) ∧ decide (k > 200) = true) ∧ True := fun h => ⟨⟨⟨trivial, by rw [decide_eq_false_iff_not]; omega⟩, by rw [decide_eq_true_eq]; exact h⟩, trivial⟩
  have K := KA_ok shaN AB DS
  rcases s0 with ⟨rfl, rfl, rfl⟩ | ⟨b, o, rfl, hle, hmax⟩
  · by_cases h1 : k < 0
    · exact ran sw.pg K (runNLo shaN AB DS k _ 0 (.inl ⟨rfl, rfl⟩)) (lo h1) rfl rfl W
    · by_cases h2 : 200 < k
      · exact ran sw.pg K (runNHi shaN AB DS k _ 0 (.inl ⟨rfl, rfl⟩)) (hi h2) rfl rfl W
      · by_cases h3 : k = 0
        · subst h3; exact ran sw.pg K (runON shaN AB DS) pO_ok rfl rfl W
        · exact ran sw.pg K (runN shaN AB DS k) (pN_ok rfl (by omega) (by omega)) rfl rfl W
  · have zero : n0 = 0 → Calls Try.prog 7 #[.int .i64 k, .slice (some ⟨b, o, none⟩) n0 c0] W fun e w' => e = .returned (.bool true) ∧ Below W.heap.size W w' := fun h0 => by
      subst h0
      have vl : ∀ orc, VL (Dm (St.start 1 .leaf orc)) (fun _ => (⟨b, o, 0⟩ : PB)) [.int .i64 k, .slice (some ⟨0, 0, none⟩) 0 c0] [.int .i64 k, .slice (some ⟨b, o, none⟩) 0 c0] := fun orc =>
        VL.cons (.same rfl) (VL.cons (VR.unread (a := ⟨b, o, none⟩) (by decide) rfl rfl hle) VL.nil)
      by_cases h1 : k < 0
      · exact ranG sw.pg K (ρ := fun _ => ⟨b, o, 0⟩) (runNLo shaN AB DS k _ 1 (.inr ⟨c0, rfl, rfl⟩)) (lo h1) rfl (named_hs 1 _ _ W) (vl _)
      · by_cases h2 : 200 < k
        · exact ranG sw.pg K (ρ := fun _ => ⟨b, o, 0⟩) (runNHi shaN AB DS k _ 1 (.inr ⟨c0, rfl, rfl⟩)) (hi h2) rfl (named_hs 1 _ _ W) (vl _)
        · by_cases h3 : k = 0
          · subst h3; exact ranG sw.pg K (ρ := fun _ => ⟨b, o, 0⟩) (runOZ shaN AB DS c0) pO_ok rfl (named_hs 1 _ _ W) (vl _)
          · exact ranG sw.pg K (ρ := fun _ => ⟨b, o, 0⟩) (runZ shaN AB DS k c0) (pN_ok trivial (by omega) (by omega)) rfl (named_hs 1 _ _ W) (vl _)
    rcases z0 with h0 | ⟨b', o', L, e, hl, hw, hc⟩
    · exact zero h0
    · cases e
      by_cases h0 : n0 = 0
      · exact zero h0
      · have hB : Byt L := fun x hx => byte_in (hw x hx)
        have go : ∀ {orc : List (Option Bool)} {p : Prop}, (r7 shaN AB DS k L n0 c0 orc).map (fun r => (r.1, r.2.obl)) = some (.bool true, p) → p → Calls Try.prog 7 #[.int .i64 k, .slice (some ⟨b, o, none⟩) n0 c0] W fun e w' => e = .returned (.bool true) ∧ Below W.heap.size W w' := fun {orc p} hr hp => by
          obtain ⟨ρ, g1, g2⟩ := ints_start (t := 5) orc hc
          exact ranG sw.pg K (ρ := ρ) hr hp rfl g1 (VL.cons (.same rfl) (VL.cons (g2 n0 c0 hle) VL.nil))
        by_cases h1 : k < 0
        · exact go (runLo shaN AB DS k L n0 c0) (lo h1)
        · by_cases h2 : 200 < k
          · exact go (runHi shaN AB DS k L n0 c0) (hi h2)
          · by_cases h3 : 130 < n0
            · exact go (runLong shaN AB DS k L n0 c0) ⟨⟨⟨⟨trivial, by rw [decide_eq_false_iff_not]; omega⟩, by rw [decide_eq_false_iff_not]; omega⟩, by rw [decide_eq_true_eq]; omega⟩, trivial⟩
            · exact go (runOk shaN AB DS k L n0 c0) (pOk_ok hB hl (by omega) (by omega) (by omega) (by omega) hle)
end
end td
end Go.Proofs.Yteknepfcbpoooaa
