/- Read off the code by the clean reading. -/
import Derived.Test.YtphiebmgeiekaaaClnHa
import Derived.Test.YtphiebmgeiekaaaClnQc
set_option linter.unusedVariables false
set_option linter.unusedSimpArgs false
set_option linter.deprecated false
set_option maxRecDepth 100000
namespace Go.Proofs.Ytphiebmgeiekaaa
open Go.ChangeShapes Go.WideShapes Go.ChangeAt Go.RowKit Go.Cln
namespace ly
open hc hx hy hz tb tc td ha hd
set_option linter.unusedVariables false
noncomputable section
def F7 (f : FuncId) (args : List Value) (s : St) : Option Inst := if f == 7 then match args with
  | [] => some ⟨[], 0, [], [], .bool true, [], True⟩
  | _ => none else none
theorem F7_ok (f : FuncId) (args : List Value) (s : St) (i : Inst) (h : F7 f args s = some i) : Fits s i args ∧ (i.ask → CallOk Try.prog f i.args i.s0 i.val i.s1) := by
  unfold F7 at h
  split at h
  · rename_i hf
    have hf' : f = 7 := by simpa using hf
    subst hf'
    split at h
    · cases h
      exact ⟨⟨rfl, fun j p ob hp ho => by simp at hp⟩, fun _ => CallOk.of_below ha.known rfl rfl _⟩
    · cases h
  · cases h
def aB (KF : KT') (W : List Int) (n c : Nat) : Prop := KF = kb ∧ Byt W ∧ n = W.length ∧ 0 < n ∧ n ≤ c ∧ n ≤ 1048576
def F13b (KF : KT') (f : FuncId) (args : List Value) (s : St) : Option Inst := if f == 13 then match args with
  | [.slice (some ⟨b, o, none⟩) n c] => match blockI s .u8 b with
    | some (l, _) => some ⟨[(b, o)], 1, hB ((l.drop o).take n), [.slice (some ⟨0, 0, none⟩) n c], .tuple #[bV (KF ((l.drop o).take n)), .int .i64 0], o9 ((l.drop o).take n) 33, aB KF ((l.drop o).take n) n c⟩
    | _ => none
  | _ => none else none
theorem fit_b {s : St} {b o n c : Nat} {l : List Int} {tb : TypeId} {i : Inst} {vs : List Value} (hb : blockI s .u8 b = some (l, tb)) (hw : i.win = [(b, o)]) (hh : i.heap = hB ((l.drop o).take n)) (ha : i.args = .slice (some ⟨0, 0, none⟩) n c :: vs) (hf : vs = [] ∨ vs = [.slice none 0 0]) :
    Fits s i (.slice (some ⟨b, o, none⟩) n c :: vs) := by
  have e1 : i.nu s.next 0 = b := by unfold Inst.nu; rw [hw]; rfl
  have e2 : i.del 0 = o := by unfold Inst.del; rw [hw]; rfl
  refine ⟨?_, fun j pp ob h1 h2 => ?_⟩
  · rw [ha]
    have : vs.map (mv (i.nu s.next) i.del) = vs := by rcases hf with rfl | rfl <;> rfl
    show Value.slice (some ⟨b, o, none⟩) n c :: vs = Value.slice (some ⟨i.nu s.next 0, addO (i.del 0) 0, none⟩) n c :: vs.map (mv (i.nu s.next) i.del)
    rw [e1, e2, addO_eq, this]; rfl
  · rw [hw] at h1
    rw [hh] at h2
    rcases j with _ | j
    · simp only [List.getElem?_cons_zero, Option.some.injEq] at h1
      simp only [hB, List.getElem?_cons_zero, Option.some.injEq] at h2
      subst h1; subst h2
      obtain ⟨C, T, hb', hg⟩ := blockI_get hb
      refine ⟨_, hb', fun x v hv => ?_⟩
      obtain ⟨V, e1, e2⟩ := fit_ints (k := .u8) (l := l) (d := o) (n := n) (m := i.win.length) (ν := i.nu s.next) (δ := i.del) x v hv
      exact ⟨V, by rw [← hg]; exact e1, e2⟩
    · simp at h1
theorem F13b_ok (KF : KT') (f : FuncId) (args : List Value) (s : St) (i : Inst) (h : F13b KF f args s = some i) : Fits s i args ∧ (i.ask → CallOk Try.prog f i.args i.s0 i.val i.s1) := by
  unfold F13b at h
  split at h
  · rename_i hf
    have hf' : f = 13 := by simpa using hf
    subst hf'
    split at h
    · rename_i b o n c
      split at h
      · rename_i l ty hb
        cases h
        refine ⟨fit_b hb rfl rfl rfl (.inl rfl), fun ha' => ?_⟩
        obtain ⟨rfl, q1, q2, q0, q3, q4⟩ := ha'
        exact block9 _ n c q1 q2 q0 q3 q4
      · cases h
    · cases h
  · cases h
def FTy (KF : KT') (D : DT) (A : AT) (E : ET) (f : FuncId) (args : List Value) (s : St) : Option Inst := match F13b KF f args s with
  | some i => some i
  | none => match hz.FH A E f args s with
    | some i => some i
    | none => FL A D f args s
theorem FTy_ok (KF : KT') (D : DT) (A : AT) (E : ET) (f : FuncId) (args : List Value) (s : St) (i : Inst) (h : FTy KF D A E f args s = some i) : Fits s i args ∧ (i.ask → CallOk Try.prog f i.args i.s0 i.val i.s1) := by
  unfold FTy at h
  split at h
  · rename_i j h1
    cases h; exact F13b_ok KF f args s _ h1
  · split at h
    · rename_i j h1
      cases h; exact hz.FH_ok A E f args s _ h1
    · exact FL_ok A D f args s _ h
def KTy (KF : KT') (XF : XT) (D : DT) (A : AT) (E : ET) : Given := { Given.frames (Given.calls (FP XF)) (FTy KF D A E) with fits := true }
theorem KTy_ok (KF : KT') (D : DT) (A : AT) (E : ET) : GivenOk Try.prog (KTy KF (xorI .u8) D A E) := frames_fits (FP_ok.frames (FTy_ok KF D A E)) true
def call8r (KF : KT') (D : DT) (A : AT) (E : ET) (L : List Int) (n c : Nat) : Option (Value × St) := (mk Try.prog (KTy KF (xorI .u8) D A E) 300).call 8 [.slice (some ⟨0, 0, none⟩) n c, .slice none 0 0] (smSt 1 (hB L) [])
end
end ly
end Go.Proofs.Ytphiebmgeiekaaa
namespace Go.Proofs.Ytphiebmgeiekaaa
open Go.ChangeShapes Go.WideShapes Go.ChangeAt Go.RowKit Go.Cln
namespace ly
open hc hx hy hz tb tc td ha hd
set_option linter.unusedVariables false
noncomputable section
def P8 (KF : KT') (A : AT) (E : ET) (W : List Int) (n c : Nat) : Prop := (((((True ∧ aB KF W n c) ∧ w36 A l0 (xl (KF W) 54) 64 64) ∧ s28 E (q1 KF A W)) ∧ w36 A l0 (xl (KF W) 92) 64 64) ∧ w36 A (q3 KF A W) (ot1 (v28 E (q1 KF A W))) 20 20) ∧ s28 E (q4 KF A W (ot1 (v28 E (q1 KF A W))))
theorem run8r (KF : KT') (D : DT) (A : AT) (E : ET) (L : List Int) (n c : Nat) : (call8r KF D A E L n c).map (fun r => (r.1, r.2.obl, r.2.next, keepL (true :: List.replicate 108 false) r.2.heap.get 0)) = some (y12 A E KF (wn L n) (q1 KF A (wn L n)), P8 KF A E (wn L n) n c, (o9 L 108).length, o9 L 108) := by kernel_rfl
theorem tag8r {L : List Int} {n c : Nat} (hL : Byt L) (hn : n = L.length) (h0 : 0 < n) (hc : n ≤ c) (h1 : n ≤ 1048576) : CallOk Try.prog 8 [.slice (some ⟨0, 0, none⟩) n c, .slice none 0 0] (smSt 1 (hB L) []) (tgV L []) (smSt 1 (o9 L 108) []) := by
  have e := wn_eq hn
  have hh : Hs (q1 kb AB L) (xl (kb L) 54 ++ []) := by rw [List.append_nil]; exact hs1 L
  have hp : P8 kb AB DS L n c := rest_ok hh ⟨⟨trivial, rfl, hL, hn, h0, hc, h1⟩, Hs.zero.w (xl_len _ _).symm (Nat.le_refl _)⟩
  have := frame_by sw.pg (KTy_ok kb shaN AB DS) _ (run8r kb shaN AB DS L n c) (by rw [e]; exact hp) (by rfl) rfl
  rw [e, tag_eq hh] at this
  exact this
abbrev TF := List Int → sw.N5
def aT (T : TF) (W : List Int) (n c : Nat) : Prop := T = (fun K => tgN K []) ∧ Byt W ∧ n = W.length ∧ 0 < n ∧ n ≤ c ∧ n ≤ 1048576
def F8b (T : TF) (f : FuncId) (args : List Value) (s : St) : Option Inst := if f == 8 then match args with
  | [.slice (some ⟨b, o, none⟩) n c, .slice none 0 0] => (match Nat.ble n 1048576 with
    | true => match blockI s .u8 b with
      | some (l, _) => some ⟨[(b, o)], 1, hB ((l.drop o).take n), [.slice (some ⟨0, 0, none⟩) n c, .slice none 0 0], .tuple #[outV (T ((l.drop o).take n)), .int .i64 0], o9 ((l.drop o).take n) 108, aT T ((l.drop o).take n) n c⟩
      | _ => none
    | false => none)
  | _ => none else none
theorem F8b_ok (T : TF) (f : FuncId) (args : List Value) (s : St) (i : Inst) (h : F8b T f args s = some i) : Fits s i args ∧ (i.ask → CallOk Try.prog f i.args i.s0 i.val i.s1) := by
  unfold F8b at h
  split at h
  · rename_i hf
    have hf' : f = 8 := by simpa using hf
    subst hf'
    split at h
    · rename_i b o n c
      split at h
      · split at h
        · rename_i l ty hb
          cases h
          refine ⟨fit_b hb rfl rfl rfl (.inr rfl), fun ha' => ?_⟩
          obtain ⟨rfl, q1, q2, q0, q3, q4⟩ := ha'
          exact tag8r q1 q2 q0 q3 q4
        · cases h
      · cases h
    · cases h
  · cases h
def KLy (T : TF) (D : DT) : Given := { Given.frames (Given.frames (Given.frames Given.nothing F7) (F8b T)) (tc.FD D) with fits := true }
theorem KLy_ok (T : TF) (D : DT) : GivenOk Try.prog (KLy T D) := frames_fits ((((GivenOk.nothing _).frames F7_ok).frames (F8b_ok T)).frames (tc.FD_ok D)) true
def call4 (T : TF) (D : DT) (o : List (Option Bool)) : Option (Value × St) := (mk Try.prog (KLy T D) 300).call 4 [] (St.start 0 .leaf o)
end
end ly
end Go.Proofs.Ytphiebmgeiekaaa
namespace Go.Proofs.Ytphiebmgeiekaaa
open Go.ChangeShapes Go.WideShapes Go.ChangeAt Go.RowKit Go.Cln
namespace ly
open hc hx hy hz tb tc td ha hd
set_option linter.unusedVariables false
noncomputable section
def T1 : Option Bool := some true
def oL : List (Option Bool) := T1 :: (List.replicate 17 none ++ List.replicate 20 T1)
def Wr : List Int := List.take 1048576 (List.drop 0 (List.replicate 1048577 0))
def Vr (D : DT) : List Int := List.take 20 (List.drop 0 (ot1 (D Wr)))
def e1 (p : Prop) (u v : Int) : Prop := p ∧ (u == v) = true
def e4 (p : Prop) (u v : Int) : Prop := e1 (e1 (e1 (e1 p (by8 u 3) (by8 v 3)) (by8 u 2) (by8 v 2)) (by8 u 1) (by8 v 1)) (by8 u 0) (by8 v 0)
def e20 (p : Prop) (X Y : sw.N5) : Prop := e4 (e4 (e4 (e4 (e4 p X.a Y.a) X.b Y.b) X.c Y.c) X.d Y.d) X.e Y.e
theorem e4_of {p : Prop} (u : Int) (hp : p) : e4 p u u := ⟨⟨⟨⟨hp, beq_self_eq_true _⟩, beq_self_eq_true _⟩, beq_self_eq_true _⟩, beq_self_eq_true _⟩
theorem e20_of {p : Prop} {X Y : sw.N5} (e : X = Y) (hp : p) : e20 p X Y := by
  subst e
  exact e4_of _ (e4_of _ (e4_of _ (e4_of _ (e4_of _ hp))))
def sD (D : DT) (W : List Int) (n c : Nat) : Prop := D = shaN ∧ Byt W ∧ n = W.length ∧ n ≤ c ∧ n ≤ 1000000000
def pLy (T : TF) (D : DT) : Prop := e20 ((((True ∧ ((0 : Int) ≤ 1048577 ∧ (1048577 : Int) ≤ 1048577 ∧ (1 : Int) * 1048577 ≤ 35184372088832 ∧ (1048577 : Int) ≤ 35184372088832)) ∧ aT T Wr 1048576 1048577) ∧ sD D Wr 1048576 1048577) ∧ aT T (Vr D) 20 20) (T Wr) (T (Vr D)) ∧ True
theorem runLy (T : TF) (D : DT) : (call4 T D oL).map (fun r => (r.1, r.2.obl)) = some (.bool true, pLy T D) := by kernel_rfl
theorem Wr_eq : Wr = List.replicate 1048576 0 := by
  unfold Wr
  rw [List.drop_zero, List.take_replicate]
  congr 1
theorem Wr_len : 1048576 = Wr.length := by rw [Wr_eq, List.length_replicate]
theorem Wr_byt : Byt Wr := fun x hx => by
  rw [Wr_eq] at hx
  have := List.eq_of_mem_replicate hx
  subst this; decide
theorem Vr_eq : Vr shaN = ot1 (shaN Wr) := by
  unfold Vr
  rw [List.drop_zero, List.take_of_length_le (by rw [ot_len]; exact Nat.le_refl _)]
theorem kb_V : kb (Vr shaN) = kb Wr := by
  rw [Vr_eq]
  have e : (ot1 (shaN Wr)).length = 20 := ot_len _
  have h := Wr_len
  unfold kb
  rw [if_pos (by omega), if_neg (by omega), e]
theorem tg_V : tgN Wr [] = tgN (Vr shaN) [] := by
  unfold tgN tgD
  rw [kb_V]
attribute [local irreducible] Wr in
theorem pLy_ok : pLy (fun K => tgN K []) shaN := by
  have hW : aT (fun K => tgN K []) Wr 1048576 1048577 := ⟨rfl, Wr_byt, Wr_len, by omega, by omega, by omega⟩
  have hS : sD shaN Wr 1048576 1048577 := ⟨rfl, Wr_byt, Wr_len, by omega, by omega⟩
  have hV : aT (fun K => tgN K []) (Vr shaN) 20 20 := ⟨rfl, by rw [Vr_eq]; exact ot_byt _, by rw [Vr_eq]; exact (ot_len _).symm, by omega, by omega, by omega⟩
  exact ⟨e20_of tg_V ⟨⟨⟨⟨trivial, by omega⟩, hW⟩, hS⟩, hV⟩, trivial⟩
theorem hmacLong (W : World) : Calls Try.prog 4 #[] W fun e w' => e = .returned (.bool true) ∧ Below W.heap.size W w' :=
  ranF sw.pg (KLy_ok (fun K => tgN K []) shaN) (runLy _ _) pLy_ok rfl rfl W
end
end ly
end Go.Proofs.Ytphiebmgeiekaaa
