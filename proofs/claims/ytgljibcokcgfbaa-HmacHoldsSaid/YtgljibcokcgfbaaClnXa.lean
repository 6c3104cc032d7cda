/- Read off the code by the clean reading. -/
import Derived.Test.YtgljibcokcgfbaaClnHd
import Derived.Test.YtgljibcokcgfbaaClnQc
set_option linter.unusedVariables false
set_option linter.unusedSimpArgs false
set_option linter.deprecated false
set_option maxRecDepth 100000
namespace Go.Proofs.Ytgljibcokcgfbaa
open Go.ChangeShapes Go.WideShapes Go.ChangeAt Go.RowKit Go.Cln
namespace hw
set_option linter.unusedVariables false
noncomputable section
open hq (KY kv)
/-- what came in, by places: bytes, whole numbers -/
structure HX where
  D : Nat → List Int
  C : Nat → List Int
def HX.F (x : HX) (g P : Nat) : Cells := match Nat.beq g 1001 with
  | true => .ints .i64 (x.C P)
  | false => .ints .u8 (x.D P)
def wk (x : HX) (y : KY) : List Int := ka.wa (x.D y.Q) 0 y.n
def xd : Acts := ⟨fun _ => 0, fun _ => false, fun _ => 0, fun _ => 0, fun _ => 0, fun _ => []⟩
def FW (KF : hd.KT') (A : hd.AT) (TT : hq.TTf) (TG : hq.TGf) (f : FuncId) (args : List Value) (s : Go.Cln.St) : Option Inst := match na.F22a A f args s with
  | some i => some i
  | none => match ka.FKa KF f args s with
    | some i => some i
    | none => hq.FT xd KF A TT TG f args s
theorem FW_ok (KF : hd.KT') (A : hd.AT) (TT : hq.TTf) (TG : hq.TGf) (f : FuncId) (args : List Value) (s : Go.Cln.St) (i : Inst) (h : FW KF A TT TG f args s = some i) : Fits s i args ∧ (i.ask → CallOk Try.prog f i.args i.s0 i.val i.s1) := by
  unfold FW at h
  split at h
  · rename_i j h1
    cases h; exact na.F22a_ok A f args s _ h1
  · split at h
    · rename_i j h1
      cases h; exact ka.FKa_ok KF f args s _ h1
    · exact hq.FT_ok xd KF A TT TG f args s _ h
def KW (KF : hd.KT') (XF : hd.XT) (A : hd.AT) (TT : hq.TTf) (TG : hq.TGf) : Given := { Given.frames (Given.calls (hd.FP XF)) (FW KF A TT TG) with fits := true }
theorem KW_ok (KF : hd.KT') (A : hd.AT) (TT : hq.TTf) (TG : hq.TGf) : GivenOk Try.prog (KW KF (xorI .u8) A TT TG) := frames_fits (hd.FP_ok.frames (FW_ok KF A TT TG)) true
def call13 (KF : hd.KT') (A : hd.AT) (TT : hq.TTf) (TG : hq.TGf) (x : HX) (y z : KY) (o : List (Option Bool)) : Option (Value × Go.Cln.St) := (mk Try.prog (KW KF (xorI .u8) A TT TG) 300).call 13 [kv y, .slice (some ⟨1, 0, none⟩) 1 1] (smSt 2 [some (.fam x.F), some (.cells (.lit [kv z]) 22)] o)
end
end hw
end Go.Proofs.Ytgljibcokcgfbaa
namespace Go.Proofs.Ytgljibcokcgfbaa
open Go.ChangeShapes Go.WideShapes Go.ChangeAt Go.RowKit Go.Cln
namespace hw
set_option linter.unusedVariables false
noncomputable section
open hq (KY kv)
/-- a tag under way: the hash, its size, the key's block -/
structure Mk where
  h : hz.HS
  z : Int
  w : List Int
def Mk.l (m : Mk) : List Value := hz.cH m.h m.z
theorem at70 (h : hz.HS) (z : Int) : intAt (hz.cH h z) 70 = z := by kernel_rfl
theorem at64 (h : hz.HS) (z : Int) : intAt (hz.cH h z) 64 = h.rn := by kernel_rfl
structure Ok (K : List Int) (m : Mk) (M : List Int) : Prop where
  sem : hz.SemH m.h (hd.xl m.w 54 ++ M)
  size : m.z = ((hd.xl m.w 54 ++ M).length : Int)
  byt : hx.Byt M
  len : M.length ≤ 100000
  key : m.w = ha.kb K
theorem Ok.full {K : List Int} {m : Mk} {M : List Int} (h : Ok K m M) : (hd.xl m.w 54 ++ M).length = 64 + M.length := by
  rw [List.length_append, hd.xl_len]
theorem byt_app {M L : List Int} (h : hx.Byt M) (g : hx.Byt L) : hx.Byt (M ++ L) := fun y hy => by
  rcases List.mem_append.1 hy with hy | hy
  · exact h y hy
  · exact g y hy
theorem Ok.hs {K : List Int} {m : Mk} {M : List Int} (h : Ok K m M) : hd.Hs m.l (hd.xl m.w 54 ++ M) := by
  have h1 := h.len
  have h2 := h.full
  exact ⟨h.sem.cells m.z, by unfold Mk.l; rw [at70]; exact h.size, by unfold Mk.l; rw [at64]; exact h.sem.rn, by omega, byt_app (hd.xl_byt _ _) h.byt⟩
/-- the first state -/
def zM (KF : hd.KT') (A : hd.AT) (K : List Int) : Mk := ⟨A (hd.xl (KF K) 54) (hz.hOf hz.l0), IntKind.i64.wrap (intAt hz.l0 70 + ((64 : Nat) : Int)), KF K⟩
theorem zM_ok (K : List Int) : Ok K (zM ha.kb hz.AB K) [] := by
  refine ⟨?_, ?_, (fun _ hx => by cases hx), by decide, rfl⟩
  · have := hz.SemH.zero.AB (fun _ hx => by cases hx) (hd.xl_byt (ha.kb K) 54)
    show hz.SemH _ (hd.xl (ha.kb K) 54 ++ [])
    rw [List.append_nil]
    exact this
  · show IntKind.i64.wrap (intAt hz.l0 70 + ((64 : Nat) : Int)) = ((hd.xl (ha.kb K) 54 ++ []).length : Int)
    rw [List.append_nil, hd.xl_len]
    rfl
/-- behind a Write -/
def put (A : hd.AT) (m : Mk) (w : List Int) (n : Nat) : Mk := ⟨A w (hz.hOf m.l), IntKind.i64.wrap (intAt m.l 70 + (n : Int)), m.w⟩
theorem Ok.put {K : List Int} {m : Mk} {M w : List Int} {n : Nat} (h : Ok K m M) (hw : hx.Byt w) (hn : n = w.length) (hb : M.length + n ≤ 100000) : Ok K (put hz.AB m w n) (M ++ w) := by
  have hf := h.full
  refine ⟨?_, ?_, byt_app h.byt hw, by rw [List.length_append]; omega, h.key⟩
  · show hz.SemH _ (hd.xl m.w 54 ++ (M ++ w))
    rw [← List.append_assoc]
    exact (h.sem.cells m.z).AB (byt_app (hd.xl_byt _ _) h.byt) hw
  · show IntKind.i64.wrap (intAt m.l 70 + (n : Int)) = ((hd.xl m.w 54 ++ (M ++ w)).length : Int)
    have e : (hd.xl m.w 54 ++ (M ++ w)).length = 64 + M.length + n := by rw [← List.append_assoc, List.length_append, ← hn, hf]
    unfold Mk.l
    rw [at70, h.size, e, hf, IntKind.wrap_i64]; omega
/-- may bytes be written? -/
def asW (A : hd.AT) (m : Mk) (w : List Int) (n c : Nat) : Prop := A = hz.AB ∧ 0 ≤ intAt m.l 64 ∧ intAt m.l 64 < 64 ∧ n = w.length ∧ n ≤ c
theorem Ok.w {K : List Int} {m : Mk} {M w : List Int} {n c : Nat} (h : Ok K m M) (hn : n = w.length) (hc : n ≤ c) : asW hz.AB m w n c := by
  have hr := h.sem.rn
  unfold asW Mk.l
  rw [at64, hr]
  exact ⟨rfl, by omega, by omega, hn, hc⟩
def asT (TT : hq.TTf) (m : Mk) : Prop := TT = hq.TT0 ∧ ∃ M, hd.Hs m.l M
theorem Ok.t {K : List Int} {m : Mk} {M : List Int} (h : Ok K m M) : asT hq.TT0 m := ⟨rfl, _, h.hs⟩
def tg (TT : hq.TTf) (m : Mk) : sw.N5 := TT (rowV .u8 64 (hx.ch m.w)) m.l
theorem ch_iL (w : List Int) {j : Nat} (hj : j < 64) : hx.ch (hd.iL (rowV .u8 64 (hx.ch w))) j = hx.ch w j := by
  have h1 : (rowV .u8 64 (hx.ch w)).all (isKind .u8) = true := by
    rw [List.all_eq_true]
    intro v hv
    unfold rowV at hv
    rw [famList_eq] at hv
    obtain ⟨i, _, rfl⟩ := List.mem_map.1 hv
    rfl
  have h2 : (rowV .u8 64 (hx.ch w)).length = 64 := rowV_len _ _ _
  have h3 := congrArg (fun r => intAt r j) (hq.iL_row h1 h2)
  have h4 : intAt (rowV .u8 64 (hx.ch (hd.iL (rowV .u8 64 (hx.ch w))))) j = intAt (rowV .u8 64 (hx.ch w)) j := h3
  rwa [intAt_row hj, intAt_row hj] at h4
theorem xl_iL (w : List Int) (p : Int) : hd.xl (hd.iL (rowV .u8 64 (hx.ch w))) p = hd.xl w p := by
  unfold hd.xl
  refine List.map_congr_left fun j hj => ?_
  rw [ch_iL w (List.mem_range.1 hj)]
theorem Ok.tag {K : List Int} {m : Mk} {M : List Int} (h : Ok K m M) : tg hq.TT0 m = hq.tgN K M := by
  show hq.tagW hz.AB hz.DS m.l (hd.iL (rowV .u8 64 (hx.ch m.w))) = _
  rw [hq.tagW_eq h.hs, xl_iL, h.key]
  rfl
/-! Tag of a key and one part, both by their places -/
def Kc (x : HX) (y : KY) (KF : hd.KT') : Prop := KF = ha.kb ∧ hx.Byt (wk x y) ∧ y.n = (wk x y).length ∧ y.n ≤ y.c ∧ y.n ≤ 1048576
def w64 (KF : hd.KT') (A : hd.AT) (K : List Int) : Prop := hd.w36 A hz.l0 (hd.xl (KF K) 54) 64 64
def T : Option Bool := some true
def F : Option Bool := some false
def no (k : Nat) (l : List (Option Bool)) : List (Option Bool) := List.replicate k none ++ l
def val (X : sw.N5) : Value := .tuple #[hy.outV X, .int .i64 0]
def hT (x : HX) (z : KY) (k : Nat) : List (Option Ob) := [some (.fam x.F), some (.cells (.lit [kv z]) 22)] ++ ha.nn k
def pA (KF : hd.KT') (A : hd.AT) (TT : hq.TTf) (x : HX) (y z : KY) : Prop := ((((True ∧ Kc x y KF) ∧ w64 KF A (wk x y)) ∧ decide (nI z.n > 0) = true) ∧ asW A (zM KF A (wk x y)) (wk x z) z.n z.c) ∧ asT TT (put A (zM KF A (wk x y)) (wk x z) z.n)
def pB (KF : hd.KT') (A : hd.AT) (TT : hq.TTf) (x : HX) (y z : KY) : Prop := (((True ∧ Kc x y KF) ∧ w64 KF A (wk x y)) ∧ decide (nI z.n > 0) = false) ∧ asT TT (zM KF A (wk x y))
theorem runA (KF : hd.KT') (A : hd.AT) (TT : hq.TTf) (TG : hq.TGf) (x : HX) (y z : KY) : (call13 KF A TT TG x y z (no 5 [T])).map (fun r => (r.1, r.2.obl, r.2.next, keepL ([true, true] ++ List.replicate 115 false) r.2.heap.get 0)) =
    some (val (tg TT (put A (zM KF A (wk x y)) (wk x z) z.n)), pA KF A TT x y z, (hT x z 115).length, hT x z 115) := by kernel_rfl
theorem runB (KF : hd.KT') (A : hd.AT) (TT : hq.TTf) (TG : hq.TGf) (x : HX) (y z : KY) : (call13 KF A TT TG x y z (no 5 [F])).map (fun r => (r.1, r.2.obl, r.2.next, keepL ([true, true] ++ List.replicate 108 false) r.2.heap.get 0)) =
    some (val (tg TT (zM KF A (wk x y))), pB KF A TT x y z, (hT x z 108).length, hT x z 108) := by kernel_rfl
/-- a key, a message -/
structure By (x : HX) (y : KY) : Prop where
  byt : hx.Byt (wk x y)
  len : y.n = (wk x y).length
  room : y.n ≤ y.c
theorem By.k {x : HX} {y : KY} (h : By x y) (hn : y.n ≤ 1048576) : Kc x y ha.kb := ⟨rfl, h.byt, h.len, h.room, hn⟩
theorem w64_ok (K : List Int) : w64 ha.kb hz.AB K := hd.Hs.zero.w (hd.xl_len _ _).symm (Nat.le_refl _)
/-- Tag's contract -/
theorem tag13 {x : HX} {y z : KY} (hy : By x y) (hz' : By x z) (h1 : y.n ≤ 1048576) (h2 : z.n ≤ 100000) : CallOk Try.prog 13 [kv y, .slice (some ⟨1, 0, none⟩) 1 1] (smSt 2 [some (.fam x.F), some (.cells (.lit [kv z]) 22)] []) (val (hq.tgN (wk x y) (wk x z))) (smSt 2 (hT x z 115) []) := by
  by_cases h0 : z.n = 0
  · have e : wk x z = [] := List.eq_nil_of_length_eq_zero (by rw [← hz'.len]; exact h0)
    have hp : pB ha.kb hz.AB hq.TT0 x y z := ⟨⟨⟨⟨trivial, hy.k h1⟩, w64_ok _⟩, by simp only [nI, decide_eq_false_iff_not]; omega⟩, (zM_ok _).t⟩
    have := frame_by sw.pg (KW_ok ha.kb hz.AB hq.TT0 hq.tgN) _ (runB ha.kb hz.AB hq.TT0 hq.tgN x y z) hp (by rfl) rfl
    rw [(zM_ok _).tag] at this
    rw [e]
    exact this.pad 7 (by simp [hT, ha.nn]) (by simp) (by simp [hT, ha.nn])
  · have hq0 := (zM_ok (wk x y)).put hz'.byt hz'.len (by simpa using h2)
    have hp : pA ha.kb hz.AB hq.TT0 x y z := ⟨⟨⟨⟨⟨trivial, hy.k h1⟩, w64_ok _⟩, by simp only [nI, decide_eq_true_eq]; omega⟩, (zM_ok _).w hz'.len hz'.room⟩, hq0.t⟩
    have := frame_by sw.pg (KW_ok ha.kb hz.AB hq.TT0 hq.tgN) _ (runA ha.kb hz.AB hq.TT0 hq.tgN x y z) hp (by rfl) rfl
    rw [hq0.tag] at this
    exact this
end
end hw
end Go.Proofs.Ytgljibcokcgfbaa
namespace Go.Proofs.Ytgljibcokcgfbaa
open Go.ChangeShapes Go.WideShapes Go.ChangeAt Go.RowKit Go.Cln
namespace hw
set_option linter.unusedVariables false
noncomputable section
open hq (KY kv)
/-- Block of a row, told -/
def F16r (KF : hd.KT') (f : FuncId) (args : List Value) (s : Go.Cln.St) : Option Inst := if f == 16 then match args with
  | [.slice (some ⟨b, o, none⟩) n c] => match s.heap.get b with
    | some (.cells (.ints .u8 l) _) => some ⟨[(b, o)], 1, hz.hB ((l.drop o).take n), [.slice (some ⟨0, 0, none⟩) n c], .tuple #[ha.bV (KF ((l.drop o).take n)), .int .i64 0], ha.o9 ((l.drop o).take n) 33, KF = ha.kb ∧ hx.Byt ((l.drop o).take n) ∧ n = ((l.drop o).take n).length ∧ n ≤ c ∧ n ≤ 1048576⟩
    | _ => none
  | _ => none else none
theorem F16r_ok (KF : hd.KT') (f : FuncId) (args : List Value) (s : Go.Cln.St) (i : Inst) (h : F16r KF f args s = some i) : Fits s i args ∧ (i.ask → CallOk Try.prog f i.args i.s0 i.val i.s1) := by
  unfold F16r at h
  split at h
  · rename_i hf
    have hf' : f = 16 := by simpa using hf
    subst hf'
    split at h
    · rename_i b o n c
      split at h
      · rename_i l ty hb
        cases h
        refine ⟨tb.fit1 hb rfl rfl rfl rfl, fun ha' => ?_⟩
        obtain ⟨rfl, q1, q2, q3, q4⟩ := ha'
        exact hq.blockL _ n c q1 q2 q3 q4
      · cases h
    · cases h
  · cases h
def FR (KF : hd.KT') (A : hd.AT) (TT : hq.TTf) (TG : hq.TGf) (f : FuncId) (args : List Value) (s : Go.Cln.St) : Option Inst := match F16r KF f args s with
  | some i => some i
  | none => FW KF A TT TG f args s
theorem FR_ok (KF : hd.KT') (A : hd.AT) (TT : hq.TTf) (TG : hq.TGf) (f : FuncId) (args : List Value) (s : Go.Cln.St) (i : Inst) (h : FR KF A TT TG f args s = some i) : Fits s i args ∧ (i.ask → CallOk Try.prog f i.args i.s0 i.val i.s1) := by
  unfold FR at h
  split at h
  · rename_i j h1
    cases h; exact F16r_ok KF f args s _ h1
  · exact FW_ok KF A TT TG f args s _ h
def KR (KF : hd.KT') (XF : hd.XT) (A : hd.AT) (TT : hq.TTf) (TG : hq.TGf) : Given := { Given.frames (Given.calls (hd.FP XF)) (FR KF A TT TG) with fits := true }
theorem KR_ok (KF : hd.KT') (A : hd.AT) (TT : hq.TTf) (TG : hq.TGf) : GivenOk Try.prog (KR KF (xorI .u8) A TT TG) := frames_fits (hd.FP_ok.frames (FR_ok KF A TT TG)) true
def call13r (KF : hd.KT') (A : hd.AT) (TT : hq.TTf) (TG : hq.TGf) (x : HX) (L : List Int) (n c : Nat) (z : KY) (o : List (Option Bool)) : Option (Value × Go.Cln.St) := (mk Try.prog (KR KF (xorI .u8) A TT TG) 300).call 13 [.slice (some ⟨2, 0, none⟩) n c, .slice (some ⟨1, 0, none⟩) 1 1] (smSt 3 [some (.fam x.F), some (.cells (.lit [kv z]) 22), hq.oM L] o)
def tk (L : List Int) (n : Nat) : List Int := (L.drop 0).take n
def Kr (L : List Int) (n c : Nat) (KF : hd.KT') : Prop := KF = ha.kb ∧ hx.Byt (tk L n) ∧ n = (tk L n).length ∧ n ≤ c ∧ n ≤ 1048576
def hR (x : HX) (z : KY) (L : List Int) (k : Nat) : List (Option Ob) := [some (.fam x.F), some (.cells (.lit [kv z]) 22), hq.oM L] ++ ha.nn k
def pC (KF : hd.KT') (A : hd.AT) (TT : hq.TTf) (x : HX) (L : List Int) (n c : Nat) (z : KY) : Prop := ((((True ∧ Kr L n c KF) ∧ w64 KF A (tk L n)) ∧ decide (nI z.n > 0) = true) ∧ asW A (zM KF A (tk L n)) (wk x z) z.n z.c) ∧ asT TT (put A (zM KF A (tk L n)) (wk x z) z.n)
def pD (KF : hd.KT') (A : hd.AT) (TT : hq.TTf) (x : HX) (L : List Int) (n c : Nat) (z : KY) : Prop := (((True ∧ Kr L n c KF) ∧ w64 KF A (tk L n)) ∧ decide (nI z.n > 0) = false) ∧ asT TT (zM KF A (tk L n))
theorem runC (KF : hd.KT') (A : hd.AT) (TT : hq.TTf) (TG : hq.TGf) (x : HX) (L : List Int) (n c : Nat) (z : KY) : (call13r KF A TT TG x L n c z (no 5 [T])).map (fun r => (r.1, r.2.obl, r.2.next, keepL ([true, true, true] ++ List.replicate 115 false) r.2.heap.get 0)) =
    some (val (tg TT (put A (zM KF A (tk L n)) (wk x z) z.n)), pC KF A TT x L n c z, (hR x z L 115).length, hR x z L 115) := by kernel_rfl
theorem runD (KF : hd.KT') (A : hd.AT) (TT : hq.TTf) (TG : hq.TGf) (x : HX) (L : List Int) (n c : Nat) (z : KY) : (call13r KF A TT TG x L n c z (no 5 [F])).map (fun r => (r.1, r.2.obl, r.2.next, keepL ([true, true, true] ++ List.replicate 108 false) r.2.heap.get 0)) =
    some (val (tg TT (zM KF A (tk L n))), pD KF A TT x L n c z, (hR x z L 108).length, hR x z L 108) := by kernel_rfl
/-- Tag's contract, of a key that is a row -/
theorem tag13r {x : HX} {L : List Int} {n c : Nat} {z : KY} (hL : hx.Byt L) (hn : n = L.length) (hc : n ≤ c) (hz' : By x z) (h1 : n ≤ 1048576) (h2 : z.n ≤ 100000) : CallOk Try.prog 13 [.slice (some ⟨2, 0, none⟩) n c, .slice (some ⟨1, 0, none⟩) 1 1] (smSt 3 [some (.fam x.F), some (.cells (.lit [kv z]) 22), hq.oM L] []) (val (hq.tgN L (wk x z))) (smSt 3 (hR x z L 115) []) := by
  have et : tk L n = L := by unfold tk; rw [List.drop_zero, hn]; exact List.take_length
  have hk : Kr L n c ha.kb := ⟨rfl, by rw [et]; exact hL, by rw [et]; exact hn, hc, h1⟩
  by_cases h0 : z.n = 0
  · have e : wk x z = [] := List.eq_nil_of_length_eq_zero (by rw [← hz'.len]; exact h0)
    have hp : pD ha.kb hz.AB hq.TT0 x L n c z := ⟨⟨⟨⟨trivial, hk⟩, w64_ok _⟩, by simp only [nI, decide_eq_false_iff_not]; omega⟩, (zM_ok _).t⟩
    have := frame_by sw.pg (KR_ok ha.kb hz.AB hq.TT0 hq.tgN) _ (runD ha.kb hz.AB hq.TT0 hq.tgN x L n c z) hp (by rfl) rfl
    rw [(zM_ok _).tag, et] at this
    rw [e]
    exact this.pad 7 (by simp [hR, ha.nn]) (by simp [hq.oM]) (by simp [hR, ha.nn, hq.oM])
  · have hq0 := (zM_ok (tk L n)).put hz'.byt hz'.len (by simpa using h2)
    have hp : pC ha.kb hz.AB hq.TT0 x L n c z := ⟨⟨⟨⟨⟨trivial, hk⟩, w64_ok _⟩, by simp only [nI, decide_eq_true_eq]; omega⟩, (zM_ok _).w hz'.len hz'.room⟩, hq0.t⟩
    have := frame_by sw.pg (KR_ok ha.kb hz.AB hq.TT0 hq.tgN) _ (runC ha.kb hz.AB hq.TT0 hq.tgN x L n c z) hp (by rfl) rfl
    rw [hq0.tag, et] at this
    exact this
/-- the sum of bytes by their place -/
theorem sum14 (F : Nat → Nat → Cells) (D : List Int) (b n c : Nat) (hF : F 1000 b = .ints .u8 D) (hB : hx.Byt (ka.wa D 0 n)) (h2 : n = (ka.wa D 0 n).length) (h3 : n ≤ c) (h0 : 0 < n) (h4 : n ≤ 100000) :
    CallOk Try.prog 14 [.slice (some ⟨b, 0, some 1000⟩) n c] (smSt 1 [some (.fam F)] []) (hy.outV (hz.shaN (ka.wa D 0 n))) (smSt 1 (some (.fam F) :: ha.nn 28) []) := by
  refine CallOk.abs (j := 0) (t := 5) (k := .u8) (L := ka.wa D 0 n) (Nat.le_refl _) (by simp) (by simp) (by simp [ha.nn]) rfl rfl (fun x y hy => ?_) h2 rfl rfl ?_ (by rfl) ?_ fun hn => absurd hn (by omega)
  · rw [hF]
    unfold ka.wa at hy
    rw [List.getElem?_take] at hy
    split at hy
    · rw [List.getElem?_drop] at hy
      simp only [Cells.get, hy]; rfl
    · cases hy
  · rfl
  · exact hz.sha_ok (ka.wa D 0 n) n c none (.inl rfl) hB h2 h3 (by omega)
end
end hw
end Go.Proofs.Ytgljibcokcgfbaa
namespace Go.Proofs.Ytgljibcokcgfbaa
open Go.ChangeShapes Go.WideShapes Go.ChangeAt Go.RowKit Go.Cln
namespace hw
set_option linter.unusedVariables false
noncomputable section
open hq (KY kv)
abbrev SGf := List Int → sw.N5
def FK (x : HX) (Fm : Nat → Nat → Cells) (TG : hq.TGf) (M : List Int) (R m d : Nat) : Prop := TG = hq.tgN ∧ Fm = x.F ∧ By x ⟨R, m, d⟩ ∧ m ≤ 100000
def pl : Value := .slice (some ⟨1, 0, none⟩) 1 1
/-- Tag of one part by its place, told: a key by its place, a row that grew or not -/
def F13 (x : HX) (TG : hq.TGf) (f : FuncId) (args : List Value) (s : Go.Cln.St) : Option Inst := if f == 13 then match args with
  | [u, .slice (some ⟨b, 0, none⟩) 1 1] => match s.heap.get 0 with
    | some (.fam Fm) => match s.heap.get b with
      | some (.cells (.lit [.slice (some ⟨R, 0, some 1000⟩) m d]) _) => match u with
        | .slice (some ⟨Q, 0, some 1000⟩) n c => some ⟨[(0, 0), (b, 0)], 2, [some (.fam Fm), some (.cells (.lit [kv ⟨R, m, d⟩]) 22)], [kv ⟨Q, n, c⟩, pl], val (TG (wk x ⟨Q, n, c⟩) (wk x ⟨R, m, d⟩)),
            [some (.fam Fm), some (.cells (.lit [kv ⟨R, m, d⟩]) 22)] ++ ha.nn 115, TG = hq.tgN ∧ Fm = x.F ∧ By x ⟨R, m, d⟩ ∧ m ≤ 100000 ∧ By x ⟨Q, n, c⟩ ∧ n ≤ 1048576⟩
        | .slice (some ⟨e, 0, none⟩) n c => match blockI s .u8 e with
          | some (L, _) => some ⟨[(0, 0), (b, 0), (e, 0)], 3, [some (.fam Fm), some (.cells (.lit [kv ⟨R, m, d⟩]) 22), hq.oM (tk L n)], [.slice (some ⟨2, 0, none⟩) n c, pl], val (TG (tk L n) (wk x ⟨R, m, d⟩)),
            [some (.fam Fm), some (.cells (.lit [kv ⟨R, m, d⟩]) 22), hq.oM (tk L n)] ++ ha.nn 115, TG = hq.tgN ∧ Fm = x.F ∧ By x ⟨R, m, d⟩ ∧ m ≤ 100000 ∧ hx.Byt (tk L n) ∧ n = (tk L n).length ∧ n ≤ c ∧ n ≤ 1048576⟩
          | none => none
        | .slice (some ⟨e, 0, some 1⟩) n c => match blockI s .u8 e with
          | some (L, _) => some ⟨[(0, 0), (b, 0), (e, 0)], 3, [some (.fam Fm), some (.cells (.lit [kv ⟨R, m, d⟩]) 22), hq.oM (tk L n)], [.slice (some ⟨2, 0, some 1⟩) n c, pl], val (TG (tk L n) (wk x ⟨R, m, d⟩)),
            [some (.fam Fm), some (.cells (.lit [kv ⟨R, m, d⟩]) 22), hq.oM (tk L n)] ++ ha.nn 115, TG = hq.tgN ∧ Fm = x.F ∧ By x ⟨R, m, d⟩ ∧ m ≤ 100000 ∧ hx.Byt (tk L n) ∧ n = (tk L n).length ∧ n ≤ 1048576⟩
          | none => none
        | _ => none
      | _ => none
    | _ => none
  | _ => none else none
theorem fitP {R m d m' : Nat} {ν δ : Nat → Nat} : ∀ (x : Nat) (v : Value), (Cells.lit [kv ⟨R, m, d⟩]).get x = some v → ∃ V, (Cells.lit [.slice (some ⟨R, 0, some 1000⟩) m d]).get (0 + x) = some V ∧ V = mv ν δ v ∧ okN (m' + 1) v = true := by
  intro x v hv
  rcases x with _ | x
  · cases hv
    exact ⟨_, rfl, rfl, decide_eq_true (Nat.succ_pos m')⟩
  · simp [Cells.get] at hv
theorem fitB {s : Go.Cln.St} {e n m' : Nat} {L : List Int} {t : TypeId} {ν δ : Nat → Nat} (h : blockI s .u8 e = some (L, t)) : ∃ C T, s.heap.get e = some (.cells C T) ∧ ∀ (x : Nat) (v : Value), (Cells.ints .u8 (tk L n)).get x = some v → ∃ V, C.get (0 + x) = some V ∧ V = mv ν δ v ∧ okN m' v = true := by
  obtain ⟨C, T, hb, hg⟩ := blockI_get h
  refine ⟨C, T, hb, fun x v hv => ?_⟩
  obtain ⟨V, e1, e2⟩ := fit_ints (k := .u8) (l := L) (d := 0) (n := n) (m := m') (ν := ν) (δ := δ) x v hv
  exact ⟨V, by rw [← hg]; exact e1, e2⟩
theorem F13_ok (x : HX) (TG : hq.TGf) (f : FuncId) (args : List Value) (s : Go.Cln.St) (i : Inst) (h : F13 x TG f args s = some i) : Fits s i args ∧ (i.ask → CallOk Try.prog f i.args i.s0 i.val i.s1) := by
  unfold F13 at h
  split at h
  · rename_i hf
    have hf' : f = 13 := by simpa using hf
    subst hf'
    split at h
    · rename_i u b
      split at h
      · rename_i Fm hF
        split at h
        · rename_i R m d tp hb
          split at h
          · rename_i Q n c
            cases h
            refine ⟨⟨?_, fun j pp ob h1 h2 => ?_⟩, fun ha' => ?_⟩
            · show [Value.slice (some ⟨Q, 0, some 1000⟩) n c, .slice (some ⟨b, 0, none⟩) 1 1] = [Value.slice (some ⟨Q, 0, some 1000⟩) n c, .slice (some ⟨b, addO 0 0, none⟩) 1 1]
              rw [addO_eq]
            · rcases j with _ | _ | j
              · simp only [List.getElem?_cons_zero, Option.some.injEq] at h1
                subst h1
                simp only [List.getElem?_cons_zero, Option.some.injEq] at h2
                subst h2
                exact ⟨_, hF, fun _ _ _ _ hx => hx⟩
              · simp only [Nat.zero_add, List.getElem?_cons_succ, List.getElem?_cons_zero, Option.some.injEq] at h1
                subst h1
                simp only [Nat.zero_add, List.getElem?_cons_succ, List.getElem?_cons_zero, Option.some.injEq] at h2
                subst h2
                exact ⟨_, hb, fitP⟩
              · simp at h1
            · obtain ⟨rfl, rfl, q1, q2, q3, q4⟩ := ha'
              exact tag13 q3 q1 q4 q2
          · rename_i e n c
            split at h
            · rename_i L tl hl
              cases h
              refine ⟨⟨?_, fun j pp ob h1 h2 => ?_⟩, fun ha' => ?_⟩
              · show [Value.slice (some ⟨e, 0, none⟩) n c, .slice (some ⟨b, 0, none⟩) 1 1] = [Value.slice (some ⟨e, addO 0 0, none⟩) n c, .slice (some ⟨b, addO 0 0, none⟩) 1 1]
                rw [addO_eq]
              · rcases j with _ | _ | _ | j
                · simp only [List.getElem?_cons_zero, Option.some.injEq] at h1
                  subst h1
                  simp only [List.getElem?_cons_zero, Option.some.injEq] at h2
                  subst h2
                  exact ⟨_, hF, fun _ _ _ _ hx => hx⟩
                · simp only [Nat.zero_add, List.getElem?_cons_succ, List.getElem?_cons_zero, Option.some.injEq] at h1
                  subst h1
                  simp only [Nat.zero_add, List.getElem?_cons_succ, List.getElem?_cons_zero, Option.some.injEq] at h2
                  subst h2
                  exact ⟨_, hb, fitP⟩
                · simp only [Nat.zero_add, List.getElem?_cons_succ, List.getElem?_cons_zero, Option.some.injEq] at h1
                  subst h1
                  simp only [Nat.zero_add, hq.oM, List.getElem?_cons_succ, List.getElem?_cons_zero, Option.some.injEq] at h2
                  subst h2
                  obtain ⟨C, T, k1, k2⟩ := fitB hl
                  exact ⟨_, k1, k2⟩
                · simp at h1
              · obtain ⟨rfl, rfl, q1, q2, q3, q4, q5, q6⟩ := ha'
                exact tag13r q3 q4 q5 q1 q6 q2
            · cases h
          · rename_i e n c
            split at h
            · rename_i L tl hl
              cases h
              refine ⟨⟨?_, fun j pp ob h1 h2 => ?_⟩, fun ha' => ?_⟩
              · show [Value.slice (some ⟨e, 0, some 1⟩) n c, .slice (some ⟨b, 0, none⟩) 1 1] = [Value.slice (some ⟨e, addO 0 0, some 1⟩) n c, .slice (some ⟨b, addO 0 0, none⟩) 1 1]
                rw [addO_eq]
              · rcases j with _ | _ | _ | j
                · simp only [List.getElem?_cons_zero, Option.some.injEq] at h1
                  subst h1
                  simp only [List.getElem?_cons_zero, Option.some.injEq] at h2
                  subst h2
                  exact ⟨_, hF, fun _ _ _ _ hx => hx⟩
                · simp only [Nat.zero_add, List.getElem?_cons_succ, List.getElem?_cons_zero, Option.some.injEq] at h1
                  subst h1
                  simp only [Nat.zero_add, List.getElem?_cons_succ, List.getElem?_cons_zero, Option.some.injEq] at h2
                  subst h2
                  exact ⟨_, hb, fitP⟩
                · simp only [Nat.zero_add, List.getElem?_cons_succ, List.getElem?_cons_zero, Option.some.injEq] at h1
                  subst h1
                  simp only [Nat.zero_add, hq.oM, List.getElem?_cons_succ, List.getElem?_cons_zero, Option.some.injEq] at h2
                  subst h2
                  obtain ⟨C, T, k1, k2⟩ := fitB hl
                  exact ⟨_, k1, k2⟩
                · simp at h1
              · obtain ⟨rfl, rfl, q1, q2, q3, q4, q6⟩ := ha'
                exact CallOk.grow [] [pl] (fun c hc => tag13r q3 q4 hc q1 q6 q2) c
            · cases h
          · cases h
        · cases h
      · cases h
    · cases h
  · cases h
/-- the sum of bytes by their place, told -/
def F14 (SG : SGf) (f : FuncId) (args : List Value) (s : Go.Cln.St) : Option Inst := if f == 14 then match args with
  | [.slice (some ⟨b, 0, some 1000⟩) n c] => match s.heap.get 0 with
    | some (.fam Fm) => match Fm 1000 b with
      | .ints .u8 D => some ⟨[(0, 0)], 1, [some (.fam Fm)], [.slice (some ⟨b, 0, some 1000⟩) n c], hy.outV (SG (ka.wa D 0 n)), some (.fam Fm) :: ha.nn 28, SG = hz.shaN ∧ hx.Byt (ka.wa D 0 n) ∧ n = (ka.wa D 0 n).length ∧ n ≤ c ∧ 0 < n ∧ n ≤ 100000⟩
      | _ => none
    | _ => none
  | _ => none else none
theorem F14_ok (SG : SGf) (f : FuncId) (args : List Value) (s : Go.Cln.St) (i : Inst) (h : F14 SG f args s = some i) : Fits s i args ∧ (i.ask → CallOk Try.prog f i.args i.s0 i.val i.s1) := by
  unfold F14 at h
  split at h
  · rename_i hf
    have hf' : f = 14 := by simpa using hf
    subst hf'
    split at h
    · rename_i b n c
      split at h
      · rename_i Fm hF
        split at h
        · rename_i D hD
          cases h
          refine ⟨⟨rfl, fun j pp ob h1 h2 => ?_⟩, fun ha' => ?_⟩
          · rcases j with _ | j
            · simp only [List.getElem?_cons_zero, Option.some.injEq] at h1
              subst h1
              simp only [List.getElem?_cons_zero, Option.some.injEq] at h2
              subst h2
              exact ⟨_, hF, fun _ _ _ _ hx => hx⟩
            · simp at h1
          · obtain ⟨rfl, q1, q2, q3, q4, q5⟩ := ha'
            exact sum14 Fm D b n c hD q1 q2 q3 q4 q5
        · cases h
      · cases h
    · cases h
  · cases h
def FX (x : HX) (KF : hd.KT') (A : hd.AT) (TT : hq.TTf) (TG : hq.TGf) (SG : SGf) (f : FuncId) (args : List Value) (s : Go.Cln.St) : Option Inst := match F13 x TG f args s with
  | some i => some i
  | none => match F14 SG f args s with
    | some i => some i
    | none => FW KF A TT TG f args s
theorem FX_ok (x : HX) (KF : hd.KT') (A : hd.AT) (TT : hq.TTf) (TG : hq.TGf) (SG : SGf) (f : FuncId) (args : List Value) (s : Go.Cln.St) (i : Inst) (h : FX x KF A TT TG SG f args s = some i) : Fits s i args ∧ (i.ask → CallOk Try.prog f i.args i.s0 i.val i.s1) := by
  unfold FX at h
  split at h
  · rename_i j h1
    cases h; exact F13_ok x TG f args s _ h1
  · split at h
    · rename_i j h1
      cases h; exact F14_ok SG f args s _ h1
    · exact FW_ok KF A TT TG f args s _ h
def KX (x : HX) (KF : hd.KT') (XF : hd.XT) (A : hd.AT) (TT : hq.TTf) (TG : hq.TGf) (SG : SGf) : Given := { Given.frames (Given.calls (hd.FP XF)) (FX x KF A TT TG SG) with fits := true }
theorem KX_ok (x : HX) (KF : hd.KT') (A : hd.AT) (TT : hq.TTf) (TG : hq.TGf) (SG : SGf) : GivenOk Try.prog (KX x KF (xorI .u8) A TT TG SG) := frames_fits (hd.FP_ok.frames (FX_ok x KF A TT TG SG)) true
end
end hw
end Go.Proofs.Ytgljibcokcgfbaa
namespace Go.Proofs.Ytgljibcokcgfbaa
open Go.ChangeShapes Go.WideShapes Go.ChangeAt Go.RowKit Go.Cln
namespace hw
set_option linter.unusedVariables false
noncomputable section
open hq (KY kv)
def cv (y : KY) : Value := .slice (some ⟨y.Q, 0, some 1001⟩) y.n y.c
def call4 (K : Given) (x : HX) (y z u : KY) (N : Int) (o : List (Option Bool)) : Option (Value × Go.Cln.St) := (mk Try.prog K 300).call 4 [kv y, kv z, cv u, .int .i64 N] (smSt 1 [some (.fam x.F)] o)
def E20 (p : Prop) (X Y : sw.N5) : Prop := ((((((((((((((((((((p ∧ (hy.by8 X.a 3 == hy.by8 Y.a 3) = true) ∧ (hy.by8 X.a 2 == hy.by8 Y.a 2) = true) ∧ (hy.by8 X.a 1 == hy.by8 Y.a 1) = true) ∧ (hy.by8 X.a 0 == hy.by8 Y.a 0) = true) ∧ (hy.by8 X.b 3 == hy.by8 Y.b 3) = true) ∧ (hy.by8 X.b 2 == hy.by8 Y.b 2) = true) ∧ (hy.by8 X.b 1 == hy.by8 Y.b 1) = true) ∧ (hy.by8 X.b 0 == hy.by8 Y.b 0) = true) ∧ (hy.by8 X.c 3 == hy.by8 Y.c 3) = true) ∧ (hy.by8 X.c 2 == hy.by8 Y.c 2) = true) ∧ (hy.by8 X.c 1 == hy.by8 Y.c 1) = true) ∧ (hy.by8 X.c 0 == hy.by8 Y.c 0) = true) ∧ (hy.by8 X.d 3 == hy.by8 Y.d 3) = true) ∧ (hy.by8 X.d 2 == hy.by8 Y.d 2) = true) ∧ (hy.by8 X.d 1 == hy.by8 Y.d 1) = true) ∧ (hy.by8 X.d 0 == hy.by8 Y.d 0) = true) ∧ (hy.by8 X.e 3 == hy.by8 Y.e 3) = true) ∧ (hy.by8 X.e 2 == hy.by8 Y.e 2) = true) ∧ (hy.by8 X.e 1 == hy.by8 Y.e 1) = true) ∧ (hy.by8 X.e 0 == hy.by8 Y.e 0) = true)
theorem e20 {p : Prop} {X Y : sw.N5} (h : p) (e : X = Y) : E20 p X Y := by
  subst e
  exact ⟨⟨⟨⟨⟨⟨⟨⟨⟨⟨⟨⟨⟨⟨⟨⟨⟨⟨⟨⟨h, beq_self_eq_true _⟩, beq_self_eq_true _⟩, beq_self_eq_true _⟩, beq_self_eq_true _⟩, beq_self_eq_true _⟩, beq_self_eq_true _⟩, beq_self_eq_true _⟩, beq_self_eq_true _⟩, beq_self_eq_true _⟩, beq_self_eq_true _⟩, beq_self_eq_true _⟩, beq_self_eq_true _⟩, beq_self_eq_true _⟩, beq_self_eq_true _⟩, beq_self_eq_true _⟩, beq_self_eq_true _⟩, beq_self_eq_true _⟩, beq_self_eq_true _⟩, beq_self_eq_true _⟩, beq_self_eq_true _⟩
def ty : Nat → List (Option Bool) → List (Option Bool)
  | 0, l => l
  | n + 1, l => some true :: ty n l
def ir (n : Nat) (l : List Nat) : List Nat := List.range n ++ l
def rp (v : Value) : Nat → List Value → List Value
  | 0, l => l
  | n + 1, l => v :: rp v n l
def vs (v : Nat → Value) (b : Nat) : Nat → List Value → List Value
  | 0, l => l
  | k + 1, l => vs v b k (v (b + k) :: l)
theorem deadT_vs {B : Nat → Bool} {v : Nat → Value} (h : ∀ i, DeadV (v i)) : ∀ (n : Nat) {a b : Nat} {l : List Value}, deadT B (a + n) l → deadT B a (vs v b n l)
  | 0, _, _, _, g => g
  | n + 1, a, b, l, g => deadT_vs h n (a := a) (b := b) (l := v (b + n) :: l) ⟨fun _ => h _, g⟩
abbrev VF := Nat → Value
def tm (v : VF) (y z u : KY) (N a : Int) (k : Nat) : List Value := (kv y :: kv z :: cv u :: .int .i64 N :: vs v 4 4 (.bool false :: .pointer (some ⟨118, 0, none⟩) :: .int .i64 0 :: .pointer (some ⟨166, 0, none⟩) :: .int .i64 0 :: .int .i64 a :: .int .i64 (nI k) :: vs v 15 139 []))
theorem tm_dead {v : VF} {y z u : KY} {N a : Int} {k : Nat} {B : Nat → Bool} (h : ∀ i, DeadV (v i)) (hB : ∀ i, ((Nat.ble 0 i && Nat.ble i 3) || (Nat.ble 8 i && Nat.ble i 14)) = true → B i = true) : deadT B 0 (tm v y z u N a k) :=
  ⟨fun e => absurd e (by rw [hB 0 rfl]; decide), ⟨fun e => absurd e (by rw [hB 1 rfl]; decide), ⟨fun e => absurd e (by rw [hB 2 rfl]; decide), ⟨fun e => absurd e (by rw [hB 3 rfl]; decide), deadT_vs h 4 (⟨fun e => absurd e (by rw [hB 8 rfl]; decide), ⟨fun e => absurd e (by rw [hB 9 rfl]; decide), ⟨fun e => absurd e (by rw [hB 10 rfl]; decide), ⟨fun e => absurd e (by rw [hB 11 rfl]; decide), ⟨fun e => absurd e (by rw [hB 12 rfl]; decide), ⟨fun e => absurd e (by rw [hB 13 rfl]; decide), ⟨fun e => absurd e (by rw [hB 14 rfl]; decide), deadT_vs h 139 (trivial)⟩⟩⟩⟩⟩⟩⟩)⟩⟩⟩⟩
def WL (i : Nat) : Bool := Nat.beq i 15 || (Nat.ble 55 i && Nat.ble i 76)
def VL (v : VF) : VF := fun i => match WL i with
  | true => junk
  | false => v i
def BL (i : Nat) : Bool := ((Nat.ble 0 i && Nat.ble i 3) || (Nat.ble 8 i && Nat.ble i 14)) || WL i
theorem VL_dead {v : VF} (h : ∀ i, DeadV (v i)) (i : Nat) : DeadV (VL v i) := by
  unfold VL
  split
  · exact DeadV.junk
  · exact h i
theorem VL2 (v : VF) : VL (VL v) = VL v := by
  funext i
  unfold VL
  cases WL i <;> rfl
theorem lvL (i : Nat) (h : ((Nat.ble 0 i && Nat.ble i 3) || (Nat.ble 8 i && Nat.ble i 14)) = true) : BL i = true := by
  unfold BL
  rw [Bool.or_eq_true]
  exact .inl h
def a20 (X : sw.N5) : List Value := (hy.ot1 X).map (Value.int .u8)
def mcell (m : Mk) : List Value := .pointer (some ⟨156, 0, none⟩) :: rowV .u8 64 (hx.ch m.w)
def hp (x : HX) (X : sw.N5) (m : Mk) : Nat → Option Ob := fun i => match i with
  | 0 => some (.fam x.F)
  | 118 => some (.cells (.lit (a20 X)) 36)
  | 156 => some (.cells (.lit m.l) 77)
  | 166 => some (.cells (.lit (mcell m)) 58)
  | _ => none
theorem hp_ok (x : HX) (X : sw.N5) (m : Mk) : Go.Cln.RowsIn (hp x X m) := by
  intro b n' w' g t h
  unfold hp at h
  split at h <;> cases h
def st (x : HX) (X : sw.N5) (y z u : KY) (N : Int) (m : Mk) (a : Int) (k : Nat) (v : VF) : St := ⟨tm v y z u N a k, [], Tr.rebuild (hp x X m) 167, 167, 1, [], fun _ => false, True, []⟩
def lb : Code := loopB Try.prog 4 0
def goL (K : Given) (s : St) (rd : Option Nat) (o : List (Option Bool)) (t : St) (σ : List Nat) : Option (Exit × Prop × Seen) := ((mk Try.prog K 200).code 4 rd lb { s with obl := True, orc := o }).map (fun r => (r.1, r.2.obl, seenInT BL r.2 t σ))
end
end hw
end Go.Proofs.Ytgljibcokcgfbaa
namespace Go.Proofs.Ytgljibcokcgfbaa
open Go.ChangeShapes Go.WideShapes Go.ChangeAt Go.RowKit Go.Cln
namespace hw
set_option linter.unusedVariables false
noncomputable section
open hq (KY kv)
def cut (x : HX) (u : KY) (k : Nat) : Int := (x.C u.Q).getD (0 + k * 1) 0
def wo (x : HX) (z : KY) (a to : Int) : List Int := ka.wa (x.D z.Q) (0 + a.toNat * 1) (to.toNat - a.toNat)
def nx (A : hd.AT) (x : HX) (z : KY) (m : Mk) (a to : Int) : Mk := put A m (wo x z a to) (to.toNat - a.toNat)
def pL (A : hd.AT) (x : HX) (z u : KY) (m : Mk) (a : Int) (k : Nat) (c1 c2 : Prop) (to : Int) : Prop := (((((((True ∧ decide (nI k < nI u.n) = true) ∧ (0 ≤ nI k ∧ nI k < nI u.n)) ∧ 0 + k * 1 < (x.C u.Q).length) ∧ c1) ∧ c2) ∧ (0 ≤ to ∧ to ≤ nI z.c ∧ 0 ≤ a ∧ a ≤ to)) ∧ asW A m (wo x z a to) (to.toNat - a.toNat) (z.c - a.toNat)) ∧ IntKind.i64.wrap (nI k + 1) = nI k + 1
def oL (e1 e2 : Option Bool) : List (Option Bool) := [T, T, T, e1, e2, T, none, none, none, none, none, none, none, none, T]
theorem ktt (x : HX) (X : sw.N5) (y z u : KY) (N : Int) (m : Mk) (a : Int) (k : Nat) (v : VF) (KF : hd.KT') (A : hd.AT) (TT : hq.TTf) (TG : hq.TGf) (SG : SGf) (rd : Option Nat) : goL (KX x KF (xorI .u8) A TT TG SG) (st x X y z u N m a k v) rd (oL T T) (st x X y z u N (nx A x z m a (cut x u k)) (cut x u k) (k + 1) (VL v)) [] = some (.normal, pL A x z u m a k (decide (cut x u k < nI z.n) = true) (decide (cut x u k > a) = true) (cut x u k), seenAsT BL (st x X y z u N (nx A x z m a (cut x u k)) (cut x u k) (k + 1) (VL v)) [] 174) := by kernel_rfl
theorem kft (x : HX) (X : sw.N5) (y z u : KY) (N : Int) (m : Mk) (a : Int) (k : Nat) (v : VF) (KF : hd.KT') (A : hd.AT) (TT : hq.TTf) (TG : hq.TGf) (SG : SGf) (rd : Option Nat) : goL (KX x KF (xorI .u8) A TT TG SG) (st x X y z u N m a k v) rd (oL F T) (st x X y z u N (nx A x z m a (nI z.n)) (nI z.n) (k + 1) (VL v)) [] = some (.normal, pL A x z u m a k (decide (cut x u k < nI z.n) = false) (decide (nI z.n > a) = true) (nI z.n), seenAsT BL (st x X y z u N (nx A x z m a (nI z.n)) (nI z.n) (k + 1) (VL v)) [] 174) := by kernel_rfl
theorem ktf (x : HX) (X : sw.N5) (y z u : KY) (N : Int) (m : Mk) (a : Int) (k : Nat) (v : VF) (KF : hd.KT') (A : hd.AT) (TT : hq.TTf) (TG : hq.TGf) (SG : SGf) (rd : Option Nat) : goL (KX x KF (xorI .u8) A TT TG SG) (st x X y z u N m a k v) rd (oL T F) (st x X y z u N (nx A x z m a a) a (k + 1) (VL v)) [] = some (.normal, pL A x z u m a k (decide (cut x u k < nI z.n) = true) (decide (cut x u k > a) = false) a, seenAsT BL (st x X y z u N (nx A x z m a a) a (k + 1) (VL v)) [] 174) := by kernel_rfl
theorem kff (x : HX) (X : sw.N5) (y z u : KY) (N : Int) (m : Mk) (a : Int) (k : Nat) (v : VF) (KF : hd.KT') (A : hd.AT) (TT : hq.TTf) (TG : hq.TGf) (SG : SGf) (rd : Option Nat) : goL (KX x KF (xorI .u8) A TT TG SG) (st x X y z u N m a k v) rd (oL F F) (st x X y z u N (nx A x z m a a) a (k + 1) (VL v)) [] = some (.normal, pL A x z u m a k (decide (cut x u k < nI z.n) = false) (decide (nI z.n > a) = false) a, seenAsT BL (st x X y z u N (nx A x z m a a) a (k + 1) (VL v)) [] 174) := by kernel_rfl
def WX (i : Nat) : Bool := Nat.ble 55 i && Nat.ble i 58
def VX (v : VF) : VF := fun i => match WX i with
  | true => junk
  | false => v i
theorem VX_dead {v : VF} (h : ∀ i, DeadV (v i)) (i : Nat) : DeadV (VX v i) := by
  unfold VX
  split
  · exact DeadV.junk
  · exact h i
def BX (i : Nat) : Bool := ((Nat.ble 0 i && Nat.ble i 3) || (Nat.ble 8 i && Nat.ble i 14)) || WX i
theorem lvX (i : Nat) (h : ((Nat.ble 0 i && Nat.ble i 3) || (Nat.ble 8 i && Nat.ble i 14)) = true) : BX i = true := by
  unfold BX
  rw [Bool.or_eq_true]
  exact .inl h
def goX (K : Given) (s : St) (rd : Option Nat) (o : List (Option Bool)) (t : St) (σ : List Nat) : Option (Exit × Prop × Seen) := ((mk Try.prog K 200).code 4 rd lb { s with obl := True, orc := o }).map (fun r => (r.1, r.2.obl, seenInT BX r.2 t σ))
theorem kx (x : HX) (X : sw.N5) (y z u : KY) (N : Int) (m : Mk) (a : Int) (k : Nat) (v : VF) (KF : hd.KT') (A : hd.AT) (TT : hq.TTf) (TG : hq.TGf) (SG : SGf) (rd : Option Nat) : goX (KX x KF (xorI .u8) A TT TG SG) (st x X y z u N m a k v) rd [F] (st x X y z u N m a k (VX v)) [] = some (.exit 0, True ∧ decide (nI k < nI u.n) = false, seenAsT BX (st x X y z u N m a k (VX v)) [] 167) := by kernel_rfl
theorem ko (tE : List Value) (gE : Nat → Option Ob) (x : HX) (X : sw.N5) (y z u : KY) (N : Int) (m : Mk) (a : Int) (k : Nat) (v : VF) : picOkT BL (⟨tE, [], Tr.rebuild gE 167, 167, 1, [], fun _ => false, True, []⟩ : St) (st x X y z u N m a k (VL v)) [] = true := by kernel_rfl
theorem koX (tE : List Value) (gE : Nat → Option Ob) (x : HX) (X : sw.N5) (y z u : KY) (N : Int) (m : Mk) (a : Int) (k : Nat) (v : VF) : picOkT BX (⟨tE, [], Tr.rebuild gE 167, 167, 1, [], fun _ => false, True, []⟩ : St) (st x X y z u N m a k (VX v)) [] = true := by kernel_rfl
end
end hw
end Go.Proofs.Ytgljibcokcgfbaa
namespace Go.Proofs.Ytgljibcokcgfbaa
open Go.ChangeShapes Go.WideShapes Go.ChangeAt Go.RowKit Go.Cln
namespace hw
set_option linter.unusedVariables false
noncomputable section
open hq (KY kv)
/-- where it stands behind k cuts -/
def toK (x : HX) (z u : KY) (a : Int) (k : Nat) : Int := if cut x u k < nI z.n then (if cut x u k > a then cut x u k else a) else (if nI z.n > a then nI z.n else a)
def aK (x : HX) (z u : KY) : Nat → Int
  | 0 => 0
  | k + 1 => toK x z u (aK x z u k) k
theorem toK_le {x : HX} {z u : KY} {a : Int} (k : Nat) (h : a ≤ nI z.n) : a ≤ toK x z u a k ∧ toK x z u a k ≤ nI z.n := by
  unfold toK
  split <;> split <;> omega
theorem aK_le (x : HX) (z u : KY) : ∀ k, 0 ≤ aK x z u k ∧ aK x z u k ≤ nI z.n
  | 0 => ⟨Int.le_refl 0, Int.natCast_nonneg _⟩
  | k + 1 => by
    have h := aK_le x z u k
    have h2 := toK_le (x := x) (u := u) k h.2
    exact ⟨by show 0 ≤ toK _ _ _ _ _; omega, h2.2⟩
def mK (x : HX) (y z u : KY) : Nat → Mk
  | 0 => zM ha.kb hz.AB (wk x y)
  | k + 1 => nx hz.AB x z (mK x y z u k) (aK x z u k) (aK x z u (k + 1))
theorem wo_len {x : HX} {z : KY} (h : By x z) {a to : Int} (h1 : a ≤ to) (h2 : to ≤ nI z.n) : to.toNat - a.toNat = (wo x z a to).length := by
  have hl : z.n = (((x.D z.Q).drop 0).take z.n).length := h.len
  rw [List.drop_zero, List.length_take] at hl
  unfold wo ka.wa
  rw [List.length_take, List.length_drop]
  unfold nI at h2
  omega
theorem wo_take {x : HX} {z : KY} (h : By x z) {a to : Int} (h1 : a ≤ to) (h2 : to ≤ nI z.n) : (wk x z).take a.toNat ++ wo x z a to = (wk x z).take to.toNat := by
  unfold wo wk ka.wa
  unfold nI at h2
  rw [Nat.zero_add, Nat.mul_one, List.drop_zero]
  have e : to.toNat = a.toNat + (to.toNat - a.toNat) := by omega
  rw [List.take_take, List.take_take, Nat.min_eq_left (by omega), Nat.min_eq_left (by omega)]
  conv => rhs; rw [e, List.take_add]
theorem byt_take {L : List Int} (h : hx.Byt L) (n : Nat) : hx.Byt (L.take n) := fun y hy => h y (List.mem_of_mem_take hy)
theorem wo_byt {x : HX} {z : KY} (h : By x z) {a to : Int} (h1 : a ≤ to) (h2 : to ≤ nI z.n) : hx.Byt (wo x z a to) := fun i hi => by
  have e := wo_take h h1 h2
  have : i ∈ (wk x z).take to.toNat := by rw [← e]; exact List.mem_append_right _ hi
  exact byt_take h.byt _ i this
theorem wk_len {x : HX} {z : KY} (h : By x z) : (wk x z).length = z.n := h.len.symm
theorem mK_ok {x : HX} {y z u : KY} (h : By x z) (hn : z.n ≤ 1000) : ∀ k, Ok (wk x y) (mK x y z u k) ((wk x z).take (aK x z u k).toNat)
  | 0 => by
    show Ok _ _ ((wk x z).take 0)
    rw [List.take_zero]
    exact zM_ok _
  | k + 1 => by
    have ih := mK_ok (u := u) (y := y) h hn k
    have hk := aK_le x z u k
    have ht := toK_le (x := x) (u := u) k hk.2
    have := ih.put (wo_byt h ht.1 ht.2) (wo_len h ht.1 ht.2) (by rw [List.length_take, wk_len h]; have := ht.2; unfold nI at this; omega)
    rw [wo_take h ht.1 ht.2] at this
    exact this
def tE (X : sw.N5) (y z u : KY) (N : Int) : List Value := (kv y :: kv z :: cv u :: .int .i64 N :: rp undef 4 (.bool false :: .pointer (some ⟨118, 0, none⟩) :: .int .i64 0 :: .pointer (some ⟨166, 0, none⟩) :: .int .i64 0 :: .int .i64 0 :: .int .i64 0 :: rp undef 9 (rp junk 18 (undef :: val X :: rp junk 3 (val X :: hy.outV X :: junk :: .tuple #[.pointer (some ⟨166, 0, none⟩), .int .i64 0] :: junk :: .tuple #[.pointer (some ⟨166, 0, none⟩), .int .i64 0] :: junk :: junk :: rp undef 99 [])))))
def sE (x : HX) (X : sw.N5) (y z u : KY) (N : Int) (m : Mk) : St := ⟨tE X y z u N, [], Tr.rebuild (hp x X m) 167, 167, 1, [], fun _ => false, True, []⟩
def JE (i : Nat) : Bool := (Nat.ble 24 i && Nat.ble i 41) || (Nat.ble 44 i && Nat.ble i 46) || Nat.beq i 49 || Nat.beq i 51 || (Nat.ble 53 i && Nat.ble i 54)
def vE : VF := fun i => match JE i with
  | true => junk
  | false => match Nat.beq i 43 || Nat.beq i 47 with
    | true => .tuple #[.agg #[junk, junk, junk, junk, junk, junk, junk, junk, junk, junk, junk, junk, junk, junk, junk, junk, junk, junk, junk, junk], junk]
    | false => match Nat.beq i 48 with
      | true => .agg #[junk, junk, junk, junk, junk, junk, junk, junk, junk, junk, junk, junk, junk, junk, junk, junk, junk, junk, junk, junk]
      | false => match Nat.beq i 50 || Nat.beq i 52 with
        | true => .tuple #[junk, junk]
        | false => undef
theorem vE_dead (i : Nat) : DeadV (vE i) := by
  unfold vE
  split
  · exact DeadV.junk
  · split
    · exact ⟨rfl, fun _ => rfl, fun _ => rfl⟩
    · split
      · exact ⟨rfl, fun _ => rfl, fun _ => rfl⟩
      · split
        · exact ⟨rfl, fun _ => rfl, fun _ => rfl⟩
        · exact DeadV.undef
def allB : Nat → Bool := fun _ => true
theorem seeE (x : HX) (X : sw.N5) (y z u : KY) (N : Int) (m : Mk) : seenInT allB (sE x X y z u N m) (st x X y z u N m 0 0 vE) [] = seenAsT allB (st x X y z u N m 0 0 vE) [] 167 := by kernel_rfl
theorem viewE (x : HX) (X : sw.N5) (y z u : KY) (N : Int) (m : Mk) : ViewM (sE x X y z u N m) (sE x X y z u N m) (st x X y z u N m 0 0 vE) (nm []) :=
  ViewM.stdT (f := hp x X m) (tm_dead vE_dead (fun _ _ => rfl)) (hp_ok _ _ _) rfl (by kernel_rfl) (seeE x X y z u N m)
def vK : Nat → VF
  | 0 => vE
  | _ + 1 => VL vE
theorem vK_dead (k i : Nat) : DeadV (vK k i) := by
  cases k with
  | zero => exact vE_dead i
  | succ k => exact VL_dead vE_dead i
theorem vK_succ (k : Nat) : VL (vK k) = vK (k + 1) := by
  cases k with
  | zero => rfl
  | succ k => exact VL2 _
def sK (x : HX) (X : sw.N5) (y z u : KY) (N : Int) (k : Nat) : St := st x X y z u N (mK x y z u k) (aK x z u k) k (vK k)
theorem roundT {x : HX} {X : sw.N5} {y z u : KY} {N : Int} {m : Mk} {a to : Int} {k : Nat} {v : VF} {c1 c2 : Prop} {o : List (Option Bool)} {m0 : Mk} {rd : Option Nat} (hv : ∀ i, DeadV (v i))
    (hr : goL (KX x ha.kb (xorI .u8) hz.AB hq.TT0 hq.tgN hz.shaN) (st x X y z u N m a k v) rd o (st x X y z u N (nx hz.AB x z m a to) to (k + 1) (VL v)) [] = some (.normal, pL hz.AB x z u m a k c1 c2 to, seenAsT BL (st x X y z u N (nx hz.AB x z m a to) to (k + 1) (VL v)) [] 174))
    (hp' : pL hz.AB x z u m a k c1 c2 to) : Step Try.prog rd (sE x X y z u N m0) lb (st x X y z u N m a k v) (fun e t => e = .normal ∧ t = st x X y z u N (nx hz.AB x z m a to) to (k + 1) (VL v)) :=
  Step.stdT sw.pg (KX_ok x ha.kb hz.AB hq.TT0 hq.tgN hz.shaN) (B := BL) (g := hp x X (nx hz.AB x z m a to)) hr hp' (Nat.le_refl _) (tm_dead (VL_dead hv) lvL) (hp_ok _ _ _) rfl (ko ..)
theorem pL_ok {x : HX} {y z u : KY} {k : Nat} {c1 c2 : Prop} {to : Int} (hz' : By x z) (hz1 : z.n ≤ 1000) (hk : k < u.n) (hu : u.n ≤ 1000) (hc : u.n ≤ (x.C u.Q).length) (e : toK x z u (aK x z u k) k = to) (g1 : c1) (g2 : c2) : pL hz.AB x z u (mK x y z u k) (aK x z u k) k c1 c2 to := by
  subst e
  have hA := aK_le x z u k
  have ht := toK_le (x := x) (u := u) k hA.2
  have hm := mK_ok (u := u) (y := y) hz' hz1 k
  have hr := hz'.room
  have ht2 := ht.2
  have hw := hm.w (wo_len hz' ht.1 ht.2) (c := z.c - (aK x z u k).toNat) (by unfold nI at *; omega)
  refine ⟨⟨⟨⟨⟨⟨⟨⟨trivial, ?_⟩, ?_⟩, ?_⟩, g1⟩, g2⟩, ⟨?_, ?_, hA.1, ht.1⟩⟩, hw⟩, ?_⟩
  · simp only [nI, decide_eq_true_eq]; omega
  · simp only [nI]; omega
  · omega
  · have := ht.1; have := hA.1; omega
  · unfold nI at *; omega
  · simp only [nI]; rw [IntKind.wrap_i64]; omega
theorem round {x : HX} {X : sw.N5} {y z u : KY} {N : Int} {k : Nat} (hz' : By x z) (hz1 : z.n ≤ 1000) (hk : k < u.n) (hu : u.n ≤ 1000) (hc : u.n ≤ (x.C u.Q).length) (rd : Option Nat) :
    Step Try.prog rd (sE x X y z u N (zM ha.kb hz.AB (wk x y))) lb (sK x X y z u N k) (fun e t => e = .normal ∧ t = sK x X y z u N (k + 1)) := by
  have eS : sK x X y z u N (k + 1) = st x X y z u N (nx hz.AB x z (mK x y z u k) (aK x z u k) (toK x z u (aK x z u k) k)) (toK x z u (aK x z u k) k) (k + 1) (VL (vK k)) := by
    rw [vK_succ k]; rfl
  rw [eS]
  by_cases h1 : cut x u k < nI z.n
  · by_cases h2 : cut x u k > aK x z u k
    · have e : toK x z u (aK x z u k) k = cut x u k := by unfold toK; rw [if_pos h1, if_pos h2]
      rw [e]
      exact roundT (vK_dead k) (ktt ..) (pL_ok hz' hz1 hk hu hc e (decide_eq_true h1) (decide_eq_true h2))
    · have e : toK x z u (aK x z u k) k = aK x z u k := by unfold toK; rw [if_pos h1, if_neg h2]
      rw [e]
      exact roundT (vK_dead k) (ktf ..) (pL_ok hz' hz1 hk hu hc e (decide_eq_true h1) (decide_eq_false h2))
  · by_cases h2 : nI z.n > aK x z u k
    · have e : toK x z u (aK x z u k) k = nI z.n := by unfold toK; rw [if_neg h1, if_pos h2]
      rw [e]
      exact roundT (vK_dead k) (kft ..) (pL_ok hz' hz1 hk hu hc e (decide_eq_false h1) (decide_eq_true h2))
    · have e : toK x z u (aK x z u k) k = aK x z u k := by unfold toK; rw [if_neg h1, if_neg h2]
      rw [e]
      exact roundT (vK_dead k) (kff ..) (pL_ok hz' hz1 hk hu hc e (decide_eq_false h1) (decide_eq_false h2))
def sX (x : HX) (X : sw.N5) (y z u : KY) (N : Int) : St := st x X y z u N (mK x y z u u.n) (aK x z u u.n) u.n (VX (vK u.n))
/-- the loop over the cuts -/
theorem loopC {x : HX} {X : sw.N5} {y z u : KY} {N : Int} (hz' : By x z) (hz1 : z.n ≤ 1000) (hu : u.n ≤ 1000) (hc : u.n ≤ (x.C u.Q).length) (rd : Option Nat) :
    CodeOk Try.prog rd (.loop lb) (sE x X y z u N (zM ha.kb hz.AB (wk x y))) (.exit 0) (sX x X y z u N) := by
  have ex : Step Try.prog rd (sE x X y z u N (zM ha.kb hz.AB (wk x y))) lb (sK x X y z u N u.n) (fun e t => e = .exit 0 ∧ t = sX x X y z u N) :=
    Step.stdT sw.pg (KX_ok x ha.kb hz.AB hq.TT0 hq.tgN hz.shaN) (B := BX) (g := hp x X (mK x y z u u.n)) (kx ..) ⟨trivial, by simp only [nI, decide_eq_false_iff_not]; omega⟩ (Nat.le_refl _) (tm_dead (VX_dead (vK_dead _)) lvX) (hp_ok _ _ _) rfl (koX ..)
  refine CodeOk.of_step (Step.loop (fun g t => (g = u.n + 1 ∧ t = sE x X y z u N (zM ha.kb hz.AB (wk x y))) ∨ ∃ j, j ≤ u.n ∧ g = u.n - j ∧ t = sK x X y z u N j) ?_ (u.n + 1) _ (.inl ⟨rfl, rfl⟩))
  rintro g t (⟨rfl, rfl⟩ | ⟨j, j1, rfl, rfl⟩)
  · refine Step.viewM (viewE x X y z u N _) ?_
    show Step Try.prog rd _ lb (sK x X y z u N 0) _
    by_cases h : 0 = u.n
    · refine (show Step Try.prog rd _ lb (sK x X y z u N 0) _ from by rw [h]; exact ex).mono ?_
      rintro e' t ⟨rfl, rfl⟩
      exact .inr ⟨(by intro x; cases x), rfl, rfl⟩
    · refine (round hz' hz1 (by omega) hu hc rd).mono ?_
      rintro e' t ⟨rfl, rfl⟩
      exact .inl ⟨rfl, u.n - (0 + 1), by omega, .inr ⟨0 + 1, by omega, rfl, rfl⟩⟩
  · by_cases h : j = u.n
    · subst h
      refine ex.mono ?_
      rintro e' t ⟨rfl, rfl⟩
      exact .inr ⟨(by intro x; cases x), rfl, rfl⟩
    · refine (round hz' hz1 (by omega) hu hc rd).mono ?_
      rintro e' t ⟨rfl, rfl⟩
      exact .inl ⟨rfl, u.n - (j + 1), by omega, .inr ⟨j + 1, by omega, rfl, rfl⟩⟩
end
end hw
end Go.Proofs.Ytgljibcokcgfbaa
namespace Go.Proofs.Ytgljibcokcgfbaa
open Go.ChangeShapes Go.WideShapes Go.ChangeAt Go.RowKit Go.Cln
namespace hw
set_option linter.unusedVariables false
noncomputable section
open hq (KY kv)
def JL : List Nat := [24, 25, 26, 27, 28, 29, 30, 31, 32, 33, 34, 35, 36, 37, 38, 39, 40, 41, 44, 45, 46, 49, 51, 53, 54]
def shed : List Nat := [1, 2, 3, 4, 5, 6, 7, 8, 9, 10, 11, 12, 13, 14, 15, 16, 17, 18, 19, 20, 21, 22, 23, 24, 25, 26, 27, 28, 29, 30, 31, 32, 33, 34, 35, 36, 37, 38, 39, 40, 41, 42, 43, 44, 45, 46, 47, 48, 49, 50, 51, 52, 53, 54, 55, 56, 57, 58, 59, 60, 61, 62, 63, 64, 65, 66, 67, 68, 69, 70, 71, 72, 73, 74, 75, 76, 77, 78, 79, 80, 81, 82, 83, 84, 85, 86, 87, 88, 89, 90, 91, 92, 93, 94, 95, 96, 97, 98, 99, 100, 101, 102, 103, 104, 105, 106, 107, 108, 109, 110, 111, 112, 113, 114, 115, 116, 117, 119, 120, 121, 122, 123, 124, 125, 126, 127, 128, 129, 130, 131, 132, 133, 134, 135, 136, 137, 138, 139, 140, 141, 142, 143, 144, 145, 146, 147, 148, 149, 150, 151, 152, 153, 154, 155, 157, 158, 159, 160, 161, 162, 163, 164, 165]
def askH (Y : St) (f : FuncId) (c : Code) (s : Go.Cln.St) : Option Ask2 := if f == 4 then some ⟨⟨JL, [], [], shed⟩, .exit 0, fun _ => Y⟩ else none
def K4 (x : HX) (KF : hd.KT') (A : hd.AT) (TT : hq.TTf) (TG : hq.TGf) (SG : SGf) (Y : St) : Given := Given.asking2 (KX x KF (xorI .u8) A TT TG SG) Try.prog (askH Y)
theorem K4_ok (x : HX) (KF : hd.KT') (A : hd.AT) (TT : hq.TTf) (TG : hq.TGf) (SG : SGf) (Y : St) : GivenOk Try.prog (K4 x KF A TT TG SG Y) := (KX_ok x KF A TT TG SG).asking2 _
end
end hw
end Go.Proofs.Ytgljibcokcgfbaa
namespace Go.Proofs.Ytgljibcokcgfbaa
open Go.ChangeShapes Go.WideShapes Go.ChangeAt Go.RowKit Go.Cln
namespace hw
set_option linter.unusedVariables false
noncomputable section
open hq (KY kv)
def s12 (X : sw.N5) : ByteArray := ⟨[UInt8.ofNat (hy.by8 X.a 3).toNat, UInt8.ofNat (hy.by8 X.a 2).toNat, UInt8.ofNat (hy.by8 X.a 1).toNat, UInt8.ofNat (hy.by8 X.a 0).toNat, UInt8.ofNat (hy.by8 X.b 3).toNat, UInt8.ofNat (hy.by8 X.b 2).toNat, UInt8.ofNat (hy.by8 X.b 1).toNat, UInt8.ofNat (hy.by8 X.b 0).toNat, UInt8.ofNat (hy.by8 X.c 3).toNat, UInt8.ofNat (hy.by8 X.c 2).toNat, UInt8.ofNat (hy.by8 X.c 1).toNat, UInt8.ofNat (hy.by8 X.c 0).toNat].toArray⟩
def kk (k : Int) : Nat := (IntKind.i64.wrap k).toNat
def lE (x : HX) (y : KY) : List Int := layI [] (0 + 0) (wk x y)
def qR (x : HX) (y : KY) : Prop := (y.n = 0 ∨ 0 + y.n ≤ (x.D y.Q).length) ∧ 0 + 0 ≤ ([] : List Int).length ∧ (0 + y.n) * 1 ≤ mostBytes ∧ 0 + y.n ≤ mostBytes
def qE (x : HX) (y : KY) : Prop := (y.n = 0 ∨ 0 + y.n ≤ (x.D y.Q).length) ∧ 0 + 0 + y.n ≤ ([] : List Int).length
def qZ (y : KY) (k : Int) : Prop := 0 ≤ IntKind.i64.wrap k ∧ (0 + y.n + kk k) * 1 ≤ mostBytes ∧ 0 + y.n + kk k ≤ mostBytes
def qN (L : List Int) (y : KY) (k : Int) : Prop := True ∧ 0 + (0 + y.n) ≤ L.length ∧ (0 + y.n + kk k) * 1 ≤ mostBytes ∧ 0 + y.n + kk k ≤ mostBytes
def qI (L : List Int) (y : KY) (k : Int) : Prop := True ∧ 0 + (0 + y.n) + kk k ≤ L.length
def l2N (L : List Int) (y : KY) (k : Int) : List Int := (L.drop 0).take (0 + y.n) ++ List.replicate (kk k) 0
def l2I (L : List Int) (y : KY) (k : Int) : List Int := layI L (0 + (0 + y.n)) (List.replicate (kk k) 0)
def q13 (TG : hq.TGf) (x : HX) (y z : KY) : Prop := TG = hq.tgN ∧ x.F = x.F ∧ By x z ∧ z.n ≤ 100000 ∧ By x y ∧ y.n ≤ 1048576
def q13r (TG : hq.TGf) (x : HX) (z : KY) (L : List Int) (n : Nat) : Prop := TG = hq.tgN ∧ x.F = x.F ∧ By x z ∧ z.n ≤ 100000 ∧ hx.Byt (tk L n) ∧ n = (tk L n).length ∧ n ≤ 1048576
def q13n (TG : hq.TGf) (x : HX) (z : KY) (L : List Int) (n c : Nat) : Prop := TG = hq.tgN ∧ x.F = x.F ∧ By x z ∧ z.n ≤ 100000 ∧ hx.Byt (tk L n) ∧ n = (tk L n).length ∧ n ≤ c ∧ n ≤ 1048576
def q14 (SG : SGf) (x : HX) (y : KY) : Prop := SG = hz.shaN ∧ hx.Byt (wk x y) ∧ y.n = (wk x y).length ∧ y.n ≤ y.c ∧ 0 < y.n ∧ y.n ≤ 100000
def wend (x : HX) (z : KY) (a : Int) : List Int := wo x z a (nI z.n)
def mE (A : hd.AT) (x : HX) (z : KY) (m : Mk) (a : Int) : Mk := put A m (wend x z a) ((nI z.n).toNat - a.toNat)
def HD (KF : hd.KT') (A : hd.AT) (TT : hq.TTf) (TG : hq.TGf) (x : HX) (y z u : KY) (N : Int) (m : Mk) (a : Int) (v : VF) : Prop := (((((((((((True ∧ decide (nI y.n > 500) = false) ∧ decide (nI z.n > 500) = false) ∧ decide (nI u.n > 20) = false) ∧ decide (N < 0) = false) ∧ decide (N > 64) = false) ∧ q13 TG x y z) ∧ Kc x y KF) ∧ w64 KF A (wk x y)) ∧ (∀ rd, CodeOk Try.prog rd (.loop lb) (sE x (TG (wk x y) (wk x z)) y z u N (zM KF A (wk x y))) (.exit 0) (st x (TG (wk x y) (wk x z)) y z u N m a u.n v))) ∧ (0 ≤ nI z.n ∧ nI z.n ≤ nI z.c ∧ 0 ≤ a ∧ a ≤ nI z.n)) ∧ asW A m (wend x z a) ((nI z.n).toNat - a.toNat) (z.c - a.toNat)) ∧ asT TT (mE A x z m a)
end
end hw
end Go.Proofs.Ytgljibcokcgfbaa
namespace Go.Proofs.Ytgljibcokcgfbaa
open Go.ChangeShapes Go.WideShapes Go.ChangeAt Go.RowKit Go.Cln
namespace hw
set_option linter.unusedVariables false
noncomputable section
open hq (KY kv)
def LR1 (KF : hd.KT') (A : hd.AT) (TT : hq.TTf) (TG : hq.TGf) (SG : SGf) (x : HX) (y z u : KY) (N : Int) (m : Mk) (a : Int) (v : VF) : Prop := ((((E20 (E20 ((((((((((((HD KF A TT TG x y z u N m a v) ∧ decide (0 + y.n ≤ 0) = false) ∧ qR x y) ∧ IntKind.i64.wrap (64 - nI y.n) = 64 - nI y.n) ∧ decide (64 - nI y.n < N) = false) ∧ decide (N > 0) = true) ∧ qZ y N) ∧ decide (0 + y.n + kk N ≤ 0 + y.n) = false) ∧ qN (wk x y) y N) ∧ decide (nI y.n > 64) = false) ∧ q13r TG x z (l2N (wk x y) y N) (0 + y.n + kk N)) ∧ q13 TG x y z) (TG (wk x y) (wk x z)) (tg TT (mE A x z m a))) (TG (wk x y) (wk x z)) (TG (tk (l2N (wk x y) y N) (0 + y.n + kk N)) (wk x z))) ∧ ((s12 (TG (wk x y) (wk x z))).toList == (s12 (TG (wk x y) (wk x z))).toList) = true) ∧ True) ∧ ((s12 (TG (wk x y) (wk x z))).toList == (s12 (TG (wk x y) (wk x z))).toList) = true)
theorem lawR1 (KF : hd.KT') (A : hd.AT) (TT : hq.TTf) (TG : hq.TGf) (SG : SGf) (x : HX) (y z u : KY) (N : Int) (m : Mk) (a : Int) (v : VF) : (call4 (K4 x KF A TT TG SG (st x (TG (wk x y) (wk x z)) y z u N m a u.n v)) x y z u N [none, none, F, none, none, none, F, none, none, none, none, none, none, F, none, none, F, none, none, F, none, none, T, none, none, none, none, none, none, none, none, F, T, F, T, T, F, F, none, none, none, none, none, none, none, none, none, none, T, T, T, T, T, T, T, T, T, T, T, T, T, T, T, T, T, T, T, T, none, none, none, none, T, T, T, T, T, T, T, T, T, T, T, T, T, T, T, T, T, T, T, T, none, none, none, none, none, none, none, none, none, T, T]).map (fun r => (r.1, r.2.obl)) = some (.bool true, LR1 KF A TT TG SG x y z u N m a v) := by kernel_rfl
end
end hw
end Go.Proofs.Ytgljibcokcgfbaa
namespace Go.Proofs.Ytgljibcokcgfbaa
open Go.ChangeShapes Go.WideShapes Go.ChangeAt Go.RowKit Go.Cln
namespace hw
set_option linter.unusedVariables false
noncomputable section
open hq (KY kv)
def LR2 (KF : hd.KT') (A : hd.AT) (TT : hq.TTf) (TG : hq.TGf) (SG : SGf) (x : HX) (y z u : KY) (N : Int) (m : Mk) (a : Int) (v : VF) : Prop := ((((E20 (E20 ((((((((((((HD KF A TT TG x y z u N m a v) ∧ decide (0 + y.n ≤ 0) = false) ∧ qR x y) ∧ IntKind.i64.wrap (64 - nI y.n) = 64 - nI y.n) ∧ decide (64 - nI y.n < N) = false) ∧ decide (N > 0) = false) ∧ qZ y 0) ∧ decide (0 + y.n + kk 0 ≤ 0 + y.n) = true) ∧ qI (wk x y) y 0) ∧ decide (nI y.n > 64) = false) ∧ q13r TG x z (l2I (wk x y) y 0) (0 + y.n + kk 0)) ∧ q13 TG x y z) (TG (wk x y) (wk x z)) (tg TT (mE A x z m a))) (TG (wk x y) (wk x z)) (TG (tk (l2I (wk x y) y 0) (0 + y.n + kk 0)) (wk x z))) ∧ ((s12 (TG (wk x y) (wk x z))).toList == (s12 (TG (wk x y) (wk x z))).toList) = true) ∧ True) ∧ ((s12 (TG (wk x y) (wk x z))).toList == (s12 (TG (wk x y) (wk x z))).toList) = true)
theorem lawR2 (KF : hd.KT') (A : hd.AT) (TT : hq.TTf) (TG : hq.TGf) (SG : SGf) (x : HX) (y z u : KY) (N : Int) (m : Mk) (a : Int) (v : VF) : (call4 (K4 x KF A TT TG SG (st x (TG (wk x y) (wk x z)) y z u N m a u.n v)) x y z u N [none, none, F, none, none, none, F, none, none, none, none, none, none, F, none, none, F, none, none, F, none, none, T, none, none, none, none, none, none, none, none, F, T, F, F, T, T, F, none, none, none, none, none, none, none, none, none, none, T, T, T, T, T, T, T, T, T, T, T, T, T, T, T, T, T, T, T, T, none, none, none, none, T, T, T, T, T, T, T, T, T, T, T, T, T, T, T, T, T, T, T, T, none, none, none, none, none, none, none, none, none, T, T]).map (fun r => (r.1, r.2.obl)) = some (.bool true, LR2 KF A TT TG SG x y z u N m a v) := by kernel_rfl
end
end hw
end Go.Proofs.Ytgljibcokcgfbaa
namespace Go.Proofs.Ytgljibcokcgfbaa
open Go.ChangeShapes Go.WideShapes Go.ChangeAt Go.RowKit Go.Cln
namespace hw
set_option linter.unusedVariables false
noncomputable section
open hq (KY kv)
def LR3 (KF : hd.KT') (A : hd.AT) (TT : hq.TTf) (TG : hq.TGf) (SG : SGf) (x : HX) (y z u : KY) (N : Int) (m : Mk) (a : Int) (v : VF) : Prop := ((((E20 (E20 ((((((((((((HD KF A TT TG x y z u N m a v) ∧ decide (0 + y.n ≤ 0) = false) ∧ qR x y) ∧ IntKind.i64.wrap (64 - nI y.n) = 64 - nI y.n) ∧ decide (64 - nI y.n < N) = true) ∧ decide (64 - nI y.n > 0) = true) ∧ qZ y (64 - nI y.n)) ∧ decide (0 + y.n + kk (64 - nI y.n) ≤ 0 + y.n) = false) ∧ qN (wk x y) y (64 - nI y.n)) ∧ decide (nI y.n > 64) = false) ∧ q13r TG x z (l2N (wk x y) y (64 - nI y.n)) (0 + y.n + kk (64 - nI y.n))) ∧ q13 TG x y z) (TG (wk x y) (wk x z)) (tg TT (mE A x z m a))) (TG (wk x y) (wk x z)) (TG (tk (l2N (wk x y) y (64 - nI y.n)) (0 + y.n + kk (64 - nI y.n))) (wk x z))) ∧ ((s12 (TG (wk x y) (wk x z))).toList == (s12 (TG (wk x y) (wk x z))).toList) = true) ∧ True) ∧ ((s12 (TG (wk x y) (wk x z))).toList == (s12 (TG (wk x y) (wk x z))).toList) = true)
theorem lawR3 (KF : hd.KT') (A : hd.AT) (TT : hq.TTf) (TG : hq.TGf) (SG : SGf) (x : HX) (y z u : KY) (N : Int) (m : Mk) (a : Int) (v : VF) : (call4 (K4 x KF A TT TG SG (st x (TG (wk x y) (wk x z)) y z u N m a u.n v)) x y z u N [none, none, F, none, none, none, F, none, none, none, none, none, none, F, none, none, F, none, none, F, none, none, T, none, none, none, none, none, none, none, none, F, T, T, T, T, F, F, none, none, none, none, none, none, none, none, none, none, T, T, T, T, T, T, T, T, T, T, T, T, T, T, T, T, T, T, T, T, none, none, none, none, T, T, T, T, T, T, T, T, T, T, T, T, T, T, T, T, T, T, T, T, none, none, none, none, none, none, none, none, none, T, T]).map (fun r => (r.1, r.2.obl)) = some (.bool true, LR3 KF A TT TG SG x y z u N m a v) := by kernel_rfl
end
end hw
end Go.Proofs.Ytgljibcokcgfbaa
namespace Go.Proofs.Ytgljibcokcgfbaa
open Go.ChangeShapes Go.WideShapes Go.ChangeAt Go.RowKit Go.Cln
namespace hw
set_option linter.unusedVariables false
noncomputable section
open hq (KY kv)
def LR4 (KF : hd.KT') (A : hd.AT) (TT : hq.TTf) (TG : hq.TGf) (SG : SGf) (x : HX) (y z u : KY) (N : Int) (m : Mk) (a : Int) (v : VF) : Prop := ((((E20 (E20 ((((((((((((HD KF A TT TG x y z u N m a v) ∧ decide (0 + y.n ≤ 0) = false) ∧ qR x y) ∧ IntKind.i64.wrap (64 - nI y.n) = 64 - nI y.n) ∧ decide (64 - nI y.n < N) = true) ∧ decide (64 - nI y.n > 0) = false) ∧ qZ y 0) ∧ decide (0 + y.n + kk 0 ≤ 0 + y.n) = true) ∧ qI (wk x y) y 0) ∧ decide (nI y.n > 64) = false) ∧ q13r TG x z (l2I (wk x y) y 0) (0 + y.n + kk 0)) ∧ q13 TG x y z) (TG (wk x y) (wk x z)) (tg TT (mE A x z m a))) (TG (wk x y) (wk x z)) (TG (tk (l2I (wk x y) y 0) (0 + y.n + kk 0)) (wk x z))) ∧ ((s12 (TG (wk x y) (wk x z))).toList == (s12 (TG (wk x y) (wk x z))).toList) = true) ∧ True) ∧ ((s12 (TG (wk x y) (wk x z))).toList == (s12 (TG (wk x y) (wk x z))).toList) = true)
theorem lawR4 (KF : hd.KT') (A : hd.AT) (TT : hq.TTf) (TG : hq.TGf) (SG : SGf) (x : HX) (y z u : KY) (N : Int) (m : Mk) (a : Int) (v : VF) : (call4 (K4 x KF A TT TG SG (st x (TG (wk x y) (wk x z)) y z u N m a u.n v)) x y z u N [none, none, F, none, none, none, F, none, none, none, none, none, none, F, none, none, F, none, none, F, none, none, T, none, none, none, none, none, none, none, none, F, T, T, F, T, T, F, none, none, none, none, none, none, none, none, none, none, T, T, T, T, T, T, T, T, T, T, T, T, T, T, T, T, T, T, T, T, none, none, none, none, T, T, T, T, T, T, T, T, T, T, T, T, T, T, T, T, T, T, T, T, none, none, none, none, none, none, none, none, none, T, T]).map (fun r => (r.1, r.2.obl)) = some (.bool true, LR4 KF A TT TG SG x y z u N m a v) := by kernel_rfl
end
end hw
end Go.Proofs.Ytgljibcokcgfbaa
namespace Go.Proofs.Ytgljibcokcgfbaa
open Go.ChangeShapes Go.WideShapes Go.ChangeAt Go.RowKit Go.Cln
namespace hw
set_option linter.unusedVariables false
noncomputable section
open hq (KY kv)
def LE1 (KF : hd.KT') (A : hd.AT) (TT : hq.TTf) (TG : hq.TGf) (SG : SGf) (x : HX) (y z u : KY) (N : Int) (m : Mk) (a : Int) (v : VF) : Prop := ((((E20 (E20 ((((((((((((HD KF A TT TG x y z u N m a v) ∧ decide (0 + y.n ≤ 0) = true) ∧ qE x y) ∧ IntKind.i64.wrap (64 - nI y.n) = 64 - nI y.n) ∧ decide (64 - nI y.n < N) = false) ∧ decide (N > 0) = true) ∧ qZ y N) ∧ decide (0 + y.n + kk N ≤ 0) = false) ∧ qN (lE x y) y N) ∧ decide (nI y.n > 64) = false) ∧ q13r TG x z (l2N (lE x y) y N) (0 + y.n + kk N)) ∧ q13 TG x y z) (TG (wk x y) (wk x z)) (tg TT (mE A x z m a))) (TG (wk x y) (wk x z)) (TG (tk (l2N (lE x y) y N) (0 + y.n + kk N)) (wk x z))) ∧ ((s12 (TG (wk x y) (wk x z))).toList == (s12 (TG (wk x y) (wk x z))).toList) = true) ∧ True) ∧ ((s12 (TG (wk x y) (wk x z))).toList == (s12 (TG (wk x y) (wk x z))).toList) = true)
theorem lawE1 (KF : hd.KT') (A : hd.AT) (TT : hq.TTf) (TG : hq.TGf) (SG : SGf) (x : HX) (y z u : KY) (N : Int) (m : Mk) (a : Int) (v : VF) : (call4 (K4 x KF A TT TG SG (st x (TG (wk x y) (wk x z)) y z u N m a u.n v)) x y z u N [none, none, F, none, none, none, F, none, none, none, none, none, none, F, none, none, F, none, none, F, none, none, T, none, none, none, none, none, none, none, none, T, T, F, T, T, F, F, none, none, none, none, none, none, none, none, none, none, T, T, T, T, T, T, T, T, T, T, T, T, T, T, T, T, T, T, T, T, none, none, none, none, T, T, T, T, T, T, T, T, T, T, T, T, T, T, T, T, T, T, T, T, none, none, none, none, none, none, none, none, none, T, T]).map (fun r => (r.1, r.2.obl)) = some (.bool true, LE1 KF A TT TG SG x y z u N m a v) := by kernel_rfl
end
end hw
end Go.Proofs.Ytgljibcokcgfbaa
namespace Go.Proofs.Ytgljibcokcgfbaa
open Go.ChangeShapes Go.WideShapes Go.ChangeAt Go.RowKit Go.Cln
namespace hw
set_option linter.unusedVariables false
noncomputable section
open hq (KY kv)
def LE2 (KF : hd.KT') (A : hd.AT) (TT : hq.TTf) (TG : hq.TGf) (SG : SGf) (x : HX) (y z u : KY) (N : Int) (m : Mk) (a : Int) (v : VF) : Prop := ((((E20 (E20 ((((((((((((HD KF A TT TG x y z u N m a v) ∧ decide (0 + y.n ≤ 0) = true) ∧ qE x y) ∧ IntKind.i64.wrap (64 - nI y.n) = 64 - nI y.n) ∧ decide (64 - nI y.n < N) = false) ∧ decide (N > 0) = false) ∧ qZ y 0) ∧ decide (0 + y.n + kk 0 ≤ 0) = true) ∧ qI (lE x y) y 0) ∧ decide (nI y.n > 64) = false) ∧ q13n TG x z (l2I (lE x y) y 0) (0 + y.n + kk 0) 0) ∧ q13 TG x y z) (TG (wk x y) (wk x z)) (tg TT (mE A x z m a))) (TG (wk x y) (wk x z)) (TG (tk (l2I (lE x y) y 0) (0 + y.n + kk 0)) (wk x z))) ∧ ((s12 (TG (wk x y) (wk x z))).toList == (s12 (TG (wk x y) (wk x z))).toList) = true) ∧ True) ∧ ((s12 (TG (wk x y) (wk x z))).toList == (s12 (TG (wk x y) (wk x z))).toList) = true)
theorem lawE2 (KF : hd.KT') (A : hd.AT) (TT : hq.TTf) (TG : hq.TGf) (SG : SGf) (x : HX) (y z u : KY) (N : Int) (m : Mk) (a : Int) (v : VF) : (call4 (K4 x KF A TT TG SG (st x (TG (wk x y) (wk x z)) y z u N m a u.n v)) x y z u N [none, none, F, none, none, none, F, none, none, none, none, none, none, F, none, none, F, none, none, F, none, none, T, none, none, none, none, none, none, none, none, T, T, F, F, T, T, F, none, none, none, none, none, none, none, none, none, none, T, T, T, T, T, T, T, T, T, T, T, T, T, T, T, T, T, T, T, T, none, none, none, none, T, T, T, T, T, T, T, T, T, T, T, T, T, T, T, T, T, T, T, T, none, none, none, none, none, none, none, none, none, T, T]).map (fun r => (r.1, r.2.obl)) = some (.bool true, LE2 KF A TT TG SG x y z u N m a v) := by kernel_rfl
end
end hw
end Go.Proofs.Ytgljibcokcgfbaa
namespace Go.Proofs.Ytgljibcokcgfbaa
open Go.ChangeShapes Go.WideShapes Go.ChangeAt Go.RowKit Go.Cln
namespace hw
set_option linter.unusedVariables false
noncomputable section
open hq (KY kv)
def LB (KF : hd.KT') (A : hd.AT) (TT : hq.TTf) (TG : hq.TGf) (SG : SGf) (x : HX) (y z u : KY) (N : Int) (m : Mk) (a : Int) (v : VF) : Prop := ((((E20 (E20 (((((((((((((HD KF A TT TG x y z u N m a v) ∧ decide (0 + y.n ≤ 0) = false) ∧ qR x y) ∧ IntKind.i64.wrap (64 - nI y.n) = 64 - nI y.n) ∧ decide (64 - nI y.n < N) = true) ∧ decide (64 - nI y.n > 0) = false) ∧ qZ y 0) ∧ decide (0 + y.n + kk 0 ≤ 0 + y.n) = true) ∧ qI (wk x y) y 0) ∧ decide (nI y.n > 64) = true) ∧ q14 SG x y) ∧ q13r TG x z (hy.ot1 (SG (wk x y))) 20) ∧ q13 TG x y z) (TG (wk x y) (wk x z)) (tg TT (mE A x z m a))) (TG (wk x y) (wk x z)) (TG (tk (hy.ot1 (SG (wk x y))) 20) (wk x z))) ∧ ((s12 (TG (wk x y) (wk x z))).toList == (s12 (TG (wk x y) (wk x z))).toList) = true) ∧ True) ∧ ((s12 (TG (wk x y) (wk x z))).toList == (s12 (TG (wk x y) (wk x z))).toList) = true)
theorem lawB (KF : hd.KT') (A : hd.AT) (TT : hq.TTf) (TG : hq.TGf) (SG : SGf) (x : HX) (y z u : KY) (N : Int) (m : Mk) (a : Int) (v : VF) : (call4 (K4 x KF A TT TG SG (st x (TG (wk x y) (wk x z)) y z u N m a u.n v)) x y z u N [none, none, F, none, none, none, F, none, none, none, none, none, none, F, none, none, F, none, none, F, none, none, T, none, none, none, none, none, none, none, none, F, T, T, F, T, T, T, none, none, none, none, none, none, none, none, none, none, none, T, T, T, T, T, T, T, T, T, T, T, T, T, T, T, T, T, T, T, T, none, none, none, none, T, T, T, T, T, T, T, T, T, T, T, T, T, T, T, T, T, T, T, T, none, none, none, none, none, none, none, none, none, T, T]).map (fun r => (r.1, r.2.obl)) = some (.bool true, LB KF A TT TG SG x y z u N m a v) := by kernel_rfl
end
end hw
end Go.Proofs.Ytgljibcokcgfbaa
namespace Go.Proofs.Ytgljibcokcgfbaa
open Go.ChangeShapes Go.WideShapes Go.ChangeAt Go.RowKit Go.Cln
namespace hw
set_option linter.unusedVariables false
noncomputable section
open hq (KY kv)
theorem tgN_kb {K K' M : List Int} (h : ha.kb K = ha.kb K') : hq.tgN K M = hq.tgN K' M := by
  unfold hq.tgN hd.tgN hd.tgD
  rw [h]
theorem kb_zeros (K : List Int) (k : Nat) (h : K.length + k ≤ 64) : ha.kb (K ++ List.replicate k 0) = ha.kb K := by
  unfold ha.kb
  have e : (K ++ List.replicate k 0).length = K.length + k := by rw [List.length_append, List.length_replicate]
  rw [if_pos (by omega), if_pos (by omega), e, List.append_assoc, List.replicate_append_replicate]
  congr 2
  omega
theorem kb_sum (K : List Int) (h : 64 < K.length) : ha.kb (hy.ot1 (hz.shaN K)) = ha.kb K := by
  have e : (hy.ot1 (hz.shaN K)).length = 20 := hd.ot_len _
  unfold ha.kb
  rw [if_pos (by omega), if_neg (by omega), e]
theorem memD {x : HX} {y : KY} (h : By x y) : y.n = 0 ∨ 0 + y.n ≤ (x.D y.Q).length := by
  have h1 : y.n = (((x.D y.Q).drop 0).take y.n).length := h.len
  rw [List.drop_zero, List.length_take] at h1
  omega
theorem kk_of {k : Int} (h0 : 0 ≤ k) (h1 : k ≤ 64) : kk k = k.toNat ∧ 0 ≤ IntKind.i64.wrap k := by
  have : IntKind.i64.wrap k = k := by rw [IntKind.wrap_i64]; omega
  unfold kk
  rw [this]
  exact ⟨rfl, h0⟩
theorem tk_all {L : List Int} {n : Nat} (h : n = L.length) : tk L n = L := by unfold tk; rw [List.drop_zero, h]; exact List.take_length
theorem byt_zeros {K : List Int} (h : hx.Byt K) (k : Nat) : hx.Byt (K ++ List.replicate k 0) := fun i hi => by
  rcases List.mem_append.1 hi with hi | hi
  · exact h i hi
  · have := List.eq_of_mem_replicate hi
    subst this; decide
theorem l2N_eq {L : List Int} {y : KY} {k : Int} (h : y.n = L.length) : l2N L y k = L ++ List.replicate (kk k) 0 := by
  unfold l2N
  rw [List.drop_zero, Nat.zero_add, h, List.take_length]
theorem l2I_eq {L : List Int} {y : KY} (h : y.n = L.length) : l2I L y 0 = L ++ List.replicate (kk 0) 0 := by
  show List.take (0 + (0 + y.n)) L ++ ([] ++ List.drop (0 + (0 + y.n) + 0) L) = L ++ []
  rw [List.nil_append, Nat.add_zero, List.take_append_drop, List.append_nil]
theorem lE_eq {x : HX} {y : KY} (h : By x y) (h0 : y.n = 0) : lE x y = wk x y := by
  have e : wk x y = [] := List.eq_nil_of_length_eq_zero (by rw [← h.len]; exact h0)
  unfold lE
  rw [e]; rfl
structure Small (x : HX) (y z u : KY) (N : Int) : Prop where
  by_y : By x y
  by_z : By x z
  c : u.n ≤ (x.C u.Q).length
  y5 : y.n ≤ 500
  z5 : z.n ≤ 500
  u20 : u.n ≤ 20
  n0 : 0 ≤ N
  n64 : N ≤ 64
def mF (x : HX) (y z u : KY) : Mk := mK x y z u u.n
def aF (x : HX) (z u : KY) : Int := aK x z u u.n
def vF (u : KY) : VF := VX (vK u.n)
theorem aF_le (x : HX) (z u : KY) : 0 ≤ aF x z u ∧ aF x z u ≤ nI z.n := aK_le x z u u.n
theorem mE_ok {x : HX} {y z u : KY} {N : Int} (h : Small x y z u N) : Ok (wk x y) (mE hz.AB x z (mF x y z u) (aF x z u)) (wk x z) := by
  have hA := aF_le x z u
  have h5 := h.z5
  have hm : Ok (wk x y) (mF x y z u) ((wk x z).take (aF x z u).toNat) := mK_ok h.by_z (by omega) u.n
  have := hm.put (wo_byt h.by_z hA.2 (Int.le_refl _)) (wo_len h.by_z hA.2 (Int.le_refl _)) (by rw [List.length_take, wk_len h.by_z]; have := hA.2; unfold nI at *; omega)
  rw [wo_take h.by_z hA.2 (Int.le_refl _)] at this
  have e : (wk x z).take (nI z.n).toNat = wk x z := List.take_of_length_le (by rw [wk_len h.by_z]; unfold nI; omega)
  rw [e] at this
  exact this
theorem HD_ok {x : HX} {y z u : KY} {N : Int} (h : Small x y z u N) : HD ha.kb hz.AB hq.TT0 hq.tgN x y z u N (mF x y z u) (aF x z u) (vF u) := by
  have hA := aF_le x z u
  have y5 := h.y5
  have z5 := h.z5
  have u2 := h.u20
  have n0 := h.n0
  have n6 := h.n64
  have hr := h.by_z.room
  have hm : Ok (wk x y) (mF x y z u) ((wk x z).take (aF x z u).toNat) := mK_ok h.by_z (by omega) u.n
  have hw := hm.w (wo_len h.by_z hA.2 (Int.le_refl _)) (c := z.c - (aF x z u).toNat) (by have := hA.2; unfold nI at *; omega)
  refine ⟨⟨⟨⟨⟨⟨⟨⟨⟨⟨⟨⟨trivial, ?_⟩, ?_⟩, ?_⟩, ?_⟩, ?_⟩, ⟨rfl, rfl, h.by_z, by omega, h.by_y, by omega⟩⟩, h.by_y.k (by omega)⟩, w64_ok _⟩, fun rd => loopC h.by_z (by omega) (by omega) h.c rd⟩, ⟨?_, ?_, hA.1, hA.2⟩⟩, hw⟩, (mE_ok h).t⟩
  · simp only [nI, decide_eq_false_iff_not]; omega
  · simp only [nI, decide_eq_false_iff_not]; omega
  · simp only [nI, decide_eq_false_iff_not]; omega
  · rw [decide_eq_false_iff_not]; omega
  · rw [decide_eq_false_iff_not]; omega
  · simp only [nI]; omega
  · simp only [nI]; omega
theorem q13r_ok {x : HX} {z : KY} {L K2 : List Int} {n : Nat} (hz' : By x z) (h5 : z.n ≤ 500) (e : L = K2) (hn : n = K2.length) (hb : hx.Byt K2) (h1 : n ≤ 1000) : q13r hq.tgN x z L n := by
  subst e
  unfold q13r
  rw [tk_all hn]
  exact ⟨rfl, rfl, hz', by omega, hb, hn, by omega⟩
theorem q13n_ok {x : HX} {z : KY} {L K2 : List Int} {n c : Nat} (hz' : By x z) (h5 : z.n ≤ 500) (e : L = K2) (hn : n = K2.length) (hb : hx.Byt K2) (hc : n ≤ c) (h1 : n ≤ 1000) : q13n hq.tgN x z L n c := by
  subst e
  unfold q13n
  rw [tk_all hn]
  exact ⟨rfl, rfl, hz', by omega, hb, hn, hc, by omega⟩
theorem Y_eq {x : HX} {z : KY} {L K2 K : List Int} {n : Nat} (e : L = K2) (hn : n = K2.length) (hk : ha.kb K2 = ha.kb K) : hq.tgN K (wk x z) = hq.tgN (tk L n) (wk x z) := by
  subst e
  rw [tk_all hn]
  exact (tgN_kb hk).symm
end
end hw
end Go.Proofs.Ytgljibcokcgfbaa
namespace Go.Proofs.Ytgljibcokcgfbaa
open Go.ChangeShapes Go.WideShapes Go.ChangeAt Go.RowKit Go.Cln
namespace hw
set_option linter.unusedVariables false
noncomputable section
open hq (KY kv)
theorem okR1 {x : HX} {y z u : KY} {N : Int} (h : Small x y z u N) (h0 : y.n ≠ 0) (hmi : ¬ 64 - nI y.n < N) (hma : N > 0) : LR1 ha.kb hz.AB hq.TT0 hq.tgN hz.shaN x y z u N (mF x y z u) (aF x z u) (vF u) := by
  have y5 := h.y5
  have z5 := h.z5
  have n0 := h.n0
  have n6 := h.n64
  have hl0 : y.n = (wk x y).length := h.by_y.len
  have hr := h.by_y.room
  have e1 : hq.tgN (wk x y) (wk x z) = tg hq.TT0 (mE hz.AB x z (mF x y z u) (aF x z u)) := (mE_ok h).tag.symm
  have hl : ¬ nI y.n > 64 := by unfold nI at *; omega
  obtain ⟨kk0, kw⟩ := kk_of (k := N) (by unfold nI at *; omega) (by unfold nI at *; omega)
  have eL : wk x y = wk x y := rfl
  have e2 : l2N (wk x y) y N = (wk x y ++ List.replicate (kk N) 0) := by rw [eL]; exact l2N_eq hl0
  have e3 : 0 + y.n + kk N = (wk x y ++ List.replicate (kk N) 0).length := by rw [List.length_append, List.length_replicate, ← hl0]; omega
  have e4 : ha.kb (wk x y ++ List.replicate (kk N) 0) = ha.kb (wk x y) := kb_zeros _ _ (by rw [← hl0, kk0]; unfold nI at *; omega)
  exact ⟨⟨⟨(e20 (e20 ⟨⟨⟨⟨⟨⟨⟨⟨⟨⟨⟨(HD_ok h), decide_eq_false (by omega)⟩, ⟨memD h.by_y, by simp, by unfold mostBytes; omega, by unfold mostBytes; omega⟩⟩, by simp only [nI]; rw [IntKind.wrap_i64]; omega⟩, decide_eq_false hmi⟩, decide_eq_true hma⟩, ⟨kw, by rw [kk0]; unfold mostBytes nI at *; omega, by rw [kk0]; unfold mostBytes nI at *; omega⟩⟩, decide_eq_false (by rw [kk0]; unfold nI at *; omega)⟩, ⟨trivial, by rw [eL, ← hl0]; omega, by rw [kk0]; unfold mostBytes nI at *; omega, by rw [kk0]; unfold mostBytes nI at *; omega⟩⟩, decide_eq_false hl⟩, q13r_ok h.by_z z5 e2 e3 (byt_zeros h.by_y.byt _) (by rw [kk0]; unfold nI at *; omega)⟩, ⟨rfl, rfl, h.by_z, by omega, h.by_y, by omega⟩⟩ e1) (Y_eq e2 e3 e4)), beq_self_eq_true _⟩, trivial⟩, beq_self_eq_true _⟩
theorem okR2 {x : HX} {y z u : KY} {N : Int} (h : Small x y z u N) (h0 : y.n ≠ 0) (hmi : ¬ 64 - nI y.n < N) (hma : ¬ N > 0) : LR2 ha.kb hz.AB hq.TT0 hq.tgN hz.shaN x y z u N (mF x y z u) (aF x z u) (vF u) := by
  have y5 := h.y5
  have z5 := h.z5
  have n0 := h.n0
  have n6 := h.n64
  have hl0 : y.n = (wk x y).length := h.by_y.len
  have hr := h.by_y.room
  have e1 : hq.tgN (wk x y) (wk x z) = tg hq.TT0 (mE hz.AB x z (mF x y z u) (aF x z u)) := (mE_ok h).tag.symm
  have hl : ¬ nI y.n > 64 := by unfold nI at *; omega
  have kk0 : kk 0 = 0 := rfl
  have kw : 0 ≤ IntKind.i64.wrap 0 := by decide
  have eL : wk x y = wk x y := rfl
  have e2 : l2I (wk x y) y 0 = (wk x y ++ List.replicate (kk 0) 0) := by rw [eL]; exact l2I_eq hl0
  have e3 : 0 + y.n + kk 0 = (wk x y ++ List.replicate (kk 0) 0).length := by rw [List.length_append, List.length_replicate, ← hl0]; omega
  have e4 : ha.kb (wk x y ++ List.replicate (kk 0) 0) = ha.kb (wk x y) := kb_zeros _ _ (by rw [← hl0, kk0]; unfold nI at *; omega)
  exact ⟨⟨⟨(e20 (e20 ⟨⟨⟨⟨⟨⟨⟨⟨⟨⟨⟨(HD_ok h), decide_eq_false (by omega)⟩, ⟨memD h.by_y, by simp, by unfold mostBytes; omega, by unfold mostBytes; omega⟩⟩, by simp only [nI]; rw [IntKind.wrap_i64]; omega⟩, decide_eq_false hmi⟩, decide_eq_false hma⟩, ⟨kw, by rw [kk0]; unfold mostBytes nI at *; omega, by rw [kk0]; unfold mostBytes nI at *; omega⟩⟩, decide_eq_true (by rw [kk0]; unfold nI at *; omega)⟩, ⟨trivial, by rw [eL, ← hl0, kk0]; omega⟩⟩, decide_eq_false hl⟩, q13r_ok h.by_z z5 e2 e3 (byt_zeros h.by_y.byt _) (by rw [kk0]; unfold nI at *; omega)⟩, ⟨rfl, rfl, h.by_z, by omega, h.by_y, by omega⟩⟩ e1) (Y_eq e2 e3 e4)), beq_self_eq_true _⟩, trivial⟩, beq_self_eq_true _⟩
theorem okR3 {x : HX} {y z u : KY} {N : Int} (h : Small x y z u N) (h0 : y.n ≠ 0) (hmi : 64 - nI y.n < N) (hma : 64 - nI y.n > 0) : LR3 ha.kb hz.AB hq.TT0 hq.tgN hz.shaN x y z u N (mF x y z u) (aF x z u) (vF u) := by
  have y5 := h.y5
  have z5 := h.z5
  have n0 := h.n0
  have n6 := h.n64
  have hl0 : y.n = (wk x y).length := h.by_y.len
  have hr := h.by_y.room
  have e1 : hq.tgN (wk x y) (wk x z) = tg hq.TT0 (mE hz.AB x z (mF x y z u) (aF x z u)) := (mE_ok h).tag.symm
  have hl : ¬ nI y.n > 64 := by unfold nI at *; omega
  obtain ⟨kk0, kw⟩ := kk_of (k := (64 - nI y.n)) (by unfold nI at *; omega) (by unfold nI at *; omega)
  have eL : wk x y = wk x y := rfl
  have e2 : l2N (wk x y) y (64 - nI y.n) = (wk x y ++ List.replicate (kk (64 - nI y.n)) 0) := by rw [eL]; exact l2N_eq hl0
  have e3 : 0 + y.n + kk (64 - nI y.n) = (wk x y ++ List.replicate (kk (64 - nI y.n)) 0).length := by rw [List.length_append, List.length_replicate, ← hl0]; omega
  have e4 : ha.kb (wk x y ++ List.replicate (kk (64 - nI y.n)) 0) = ha.kb (wk x y) := kb_zeros _ _ (by rw [← hl0, kk0]; unfold nI at *; omega)
  exact ⟨⟨⟨(e20 (e20 ⟨⟨⟨⟨⟨⟨⟨⟨⟨⟨⟨(HD_ok h), decide_eq_false (by omega)⟩, ⟨memD h.by_y, by simp, by unfold mostBytes; omega, by unfold mostBytes; omega⟩⟩, by simp only [nI]; rw [IntKind.wrap_i64]; omega⟩, decide_eq_true hmi⟩, decide_eq_true hma⟩, ⟨kw, by rw [kk0]; unfold mostBytes nI at *; omega, by rw [kk0]; unfold mostBytes nI at *; omega⟩⟩, decide_eq_false (by rw [kk0]; unfold nI at *; omega)⟩, ⟨trivial, by rw [eL, ← hl0]; omega, by rw [kk0]; unfold mostBytes nI at *; omega, by rw [kk0]; unfold mostBytes nI at *; omega⟩⟩, decide_eq_false hl⟩, q13r_ok h.by_z z5 e2 e3 (byt_zeros h.by_y.byt _) (by rw [kk0]; unfold nI at *; omega)⟩, ⟨rfl, rfl, h.by_z, by omega, h.by_y, by omega⟩⟩ e1) (Y_eq e2 e3 e4)), beq_self_eq_true _⟩, trivial⟩, beq_self_eq_true _⟩
theorem okR4 {x : HX} {y z u : KY} {N : Int} (h : Small x y z u N) (h0 : y.n ≠ 0) (hmi : 64 - nI y.n < N) (hma : ¬ 64 - nI y.n > 0) (hl : ¬ nI y.n > 64) : LR4 ha.kb hz.AB hq.TT0 hq.tgN hz.shaN x y z u N (mF x y z u) (aF x z u) (vF u) := by
  have y5 := h.y5
  have z5 := h.z5
  have n0 := h.n0
  have n6 := h.n64
  have hl0 : y.n = (wk x y).length := h.by_y.len
  have hr := h.by_y.room
  have e1 : hq.tgN (wk x y) (wk x z) = tg hq.TT0 (mE hz.AB x z (mF x y z u) (aF x z u)) := (mE_ok h).tag.symm
  have kk0 : kk 0 = 0 := rfl
  have kw : 0 ≤ IntKind.i64.wrap 0 := by decide
  have eL : wk x y = wk x y := rfl
  have e2 : l2I (wk x y) y 0 = (wk x y ++ List.replicate (kk 0) 0) := by rw [eL]; exact l2I_eq hl0
  have e3 : 0 + y.n + kk 0 = (wk x y ++ List.replicate (kk 0) 0).length := by rw [List.length_append, List.length_replicate, ← hl0]; omega
  have e4 : ha.kb (wk x y ++ List.replicate (kk 0) 0) = ha.kb (wk x y) := kb_zeros _ _ (by rw [← hl0, kk0]; unfold nI at *; omega)
  exact ⟨⟨⟨(e20 (e20 ⟨⟨⟨⟨⟨⟨⟨⟨⟨⟨⟨(HD_ok h), decide_eq_false (by omega)⟩, ⟨memD h.by_y, by simp, by unfold mostBytes; omega, by unfold mostBytes; omega⟩⟩, by simp only [nI]; rw [IntKind.wrap_i64]; omega⟩, decide_eq_true hmi⟩, decide_eq_false hma⟩, ⟨kw, by rw [kk0]; unfold mostBytes nI at *; omega, by rw [kk0]; unfold mostBytes nI at *; omega⟩⟩, decide_eq_true (by rw [kk0]; unfold nI at *; omega)⟩, ⟨trivial, by rw [eL, ← hl0, kk0]; omega⟩⟩, decide_eq_false hl⟩, q13r_ok h.by_z z5 e2 e3 (byt_zeros h.by_y.byt _) (by rw [kk0]; unfold nI at *; omega)⟩, ⟨rfl, rfl, h.by_z, by omega, h.by_y, by omega⟩⟩ e1) (Y_eq e2 e3 e4)), beq_self_eq_true _⟩, trivial⟩, beq_self_eq_true _⟩
theorem okE1 {x : HX} {y z u : KY} {N : Int} (h : Small x y z u N) (h0 : y.n = 0) (hmi : ¬ 64 - nI y.n < N) (hma : N > 0) : LE1 ha.kb hz.AB hq.TT0 hq.tgN hz.shaN x y z u N (mF x y z u) (aF x z u) (vF u) := by
  have y5 := h.y5
  have z5 := h.z5
  have n0 := h.n0
  have n6 := h.n64
  have hl0 : y.n = (wk x y).length := h.by_y.len
  have hr := h.by_y.room
  have e1 : hq.tgN (wk x y) (wk x z) = tg hq.TT0 (mE hz.AB x z (mF x y z u) (aF x z u)) := (mE_ok h).tag.symm
  have hl : ¬ nI y.n > 64 := by unfold nI at *; omega
  obtain ⟨kk0, kw⟩ := kk_of (k := N) (by unfold nI at *; omega) (by unfold nI at *; omega)
  have eL : lE x y = wk x y := lE_eq h.by_y h0
  have e2 : l2N (lE x y) y N = (wk x y ++ List.replicate (kk N) 0) := by rw [eL]; exact l2N_eq hl0
  have e3 : 0 + y.n + kk N = (wk x y ++ List.replicate (kk N) 0).length := by rw [List.length_append, List.length_replicate, ← hl0]; omega
  have e4 : ha.kb (wk x y ++ List.replicate (kk N) 0) = ha.kb (wk x y) := kb_zeros _ _ (by rw [← hl0, kk0]; unfold nI at *; omega)
  exact ⟨⟨⟨(e20 (e20 ⟨⟨⟨⟨⟨⟨⟨⟨⟨⟨⟨(HD_ok h), decide_eq_true (by omega)⟩, ⟨memD h.by_y, by simp; omega⟩⟩, by simp only [nI]; rw [IntKind.wrap_i64]; omega⟩, decide_eq_false hmi⟩, decide_eq_true hma⟩, ⟨kw, by rw [kk0]; unfold mostBytes nI at *; omega, by rw [kk0]; unfold mostBytes nI at *; omega⟩⟩, decide_eq_false (by rw [kk0]; unfold nI at *; omega)⟩, ⟨trivial, by rw [eL, ← hl0]; omega, by rw [kk0]; unfold mostBytes nI at *; omega, by rw [kk0]; unfold mostBytes nI at *; omega⟩⟩, decide_eq_false hl⟩, q13r_ok h.by_z z5 e2 e3 (byt_zeros h.by_y.byt _) (by rw [kk0]; unfold nI at *; omega)⟩, ⟨rfl, rfl, h.by_z, by omega, h.by_y, by omega⟩⟩ e1) (Y_eq e2 e3 e4)), beq_self_eq_true _⟩, trivial⟩, beq_self_eq_true _⟩
theorem okE2 {x : HX} {y z u : KY} {N : Int} (h : Small x y z u N) (h0 : y.n = 0) (hmi : ¬ 64 - nI y.n < N) (hma : ¬ N > 0) : LE2 ha.kb hz.AB hq.TT0 hq.tgN hz.shaN x y z u N (mF x y z u) (aF x z u) (vF u) := by
  have y5 := h.y5
  have z5 := h.z5
  have n0 := h.n0
  have n6 := h.n64
  have hl0 : y.n = (wk x y).length := h.by_y.len
  have hr := h.by_y.room
  have e1 : hq.tgN (wk x y) (wk x z) = tg hq.TT0 (mE hz.AB x z (mF x y z u) (aF x z u)) := (mE_ok h).tag.symm
  have hl : ¬ nI y.n > 64 := by unfold nI at *; omega
  have kk0 : kk 0 = 0 := rfl
  have kw : 0 ≤ IntKind.i64.wrap 0 := by decide
  have eL : lE x y = wk x y := lE_eq h.by_y h0
  have e2 : l2I (lE x y) y 0 = (wk x y ++ List.replicate (kk 0) 0) := by rw [eL]; exact l2I_eq hl0
  have e3 : 0 + y.n + kk 0 = (wk x y ++ List.replicate (kk 0) 0).length := by rw [List.length_append, List.length_replicate, ← hl0]; omega
  have e4 : ha.kb (wk x y ++ List.replicate (kk 0) 0) = ha.kb (wk x y) := kb_zeros _ _ (by rw [← hl0, kk0]; unfold nI at *; omega)
  exact ⟨⟨⟨(e20 (e20 ⟨⟨⟨⟨⟨⟨⟨⟨⟨⟨⟨(HD_ok h), decide_eq_true (by omega)⟩, ⟨memD h.by_y, by simp; omega⟩⟩, by simp only [nI]; rw [IntKind.wrap_i64]; omega⟩, decide_eq_false hmi⟩, decide_eq_false hma⟩, ⟨kw, by rw [kk0]; unfold mostBytes nI at *; omega, by rw [kk0]; unfold mostBytes nI at *; omega⟩⟩, decide_eq_true (by rw [kk0]; unfold nI at *; omega)⟩, ⟨trivial, by rw [eL, ← hl0, kk0]; omega⟩⟩, decide_eq_false hl⟩, q13n_ok h.by_z z5 e2 e3 (byt_zeros h.by_y.byt _) (by rw [kk0]; omega) (by rw [kk0]; unfold nI at *; omega)⟩, ⟨rfl, rfl, h.by_z, by omega, h.by_y, by omega⟩⟩ e1) (Y_eq e2 e3 e4)), beq_self_eq_true _⟩, trivial⟩, beq_self_eq_true _⟩
theorem okB {x : HX} {y z u : KY} {N : Int} (h : Small x y z u N) (h0 : y.n ≠ 0) (hmi : 64 - nI y.n < N) (hma : ¬ 64 - nI y.n > 0) (hl : nI y.n > 64) : LB ha.kb hz.AB hq.TT0 hq.tgN hz.shaN x y z u N (mF x y z u) (aF x z u) (vF u) := by
  have y5 := h.y5
  have z5 := h.z5
  have n0 := h.n0
  have n6 := h.n64
  have hl0 : y.n = (wk x y).length := h.by_y.len
  have hr := h.by_y.room
  have e1 : hq.tgN (wk x y) (wk x z) = tg hq.TT0 (mE hz.AB x z (mF x y z u) (aF x z u)) := (mE_ok h).tag.symm
  have kk0 : kk 0 = 0 := rfl
  have kw : 0 ≤ IntKind.i64.wrap 0 := by decide
  have eL : wk x y = wk x y := rfl
  exact ⟨⟨⟨(e20 (e20 ⟨⟨⟨⟨⟨⟨⟨⟨⟨⟨⟨⟨(HD_ok h), decide_eq_false (by omega)⟩, ⟨memD h.by_y, by simp, by unfold mostBytes; omega, by unfold mostBytes; omega⟩⟩, by simp only [nI]; rw [IntKind.wrap_i64]; omega⟩, decide_eq_true hmi⟩, decide_eq_false hma⟩, ⟨kw, by rw [kk0]; unfold mostBytes nI at *; omega, by rw [kk0]; unfold mostBytes nI at *; omega⟩⟩, decide_eq_true (by rw [kk0]; unfold nI at *; omega)⟩, ⟨trivial, by rw [eL, ← hl0, kk0]; omega⟩⟩, decide_eq_true hl⟩, ⟨rfl, h.by_y.byt, hl0, hr, by omega, by omega⟩⟩, q13r_ok h.by_z z5 rfl (hd.ot_len _).symm (hd.ot_byt _) (by decide)⟩, ⟨rfl, rfl, h.by_z, by omega, h.by_y, by omega⟩⟩ e1) (Y_eq rfl (hd.ot_len _).symm (kb_sum _ (by rw [← hl0]; unfold nI at *; omega)))), beq_self_eq_true _⟩, trivial⟩, beq_self_eq_true _⟩
end
end hw
end Go.Proofs.Ytgljibcokcgfbaa
namespace Go.Proofs.Ytgljibcokcgfbaa
open Go.ChangeShapes Go.WideShapes Go.ChangeAt Go.RowKit Go.Cln
namespace hw
set_option linter.unusedVariables false
noncomputable section
open hq (KY kv)
theorem big0 (KF : hd.KT') (A : hd.AT) (TT : hq.TTf) (TG : hq.TGf) (SG : SGf) (x : HX) (y z u : KY) (N : Int) : (call4 (KX x KF (xorI .u8) A TT TG SG) x y z u N [none, none, T]).map (fun r => (r.1, r.2.obl)) = some (.bool true, ((True ∧ decide (nI y.n > 500) = true) ∧ True)) := by kernel_rfl
theorem big1 (KF : hd.KT') (A : hd.AT) (TT : hq.TTf) (TG : hq.TGf) (SG : SGf) (x : HX) (y z u : KY) (N : Int) : (call4 (KX x KF (xorI .u8) A TT TG SG) x y z u N [none, none, F, none, none, none, T]).map (fun r => (r.1, r.2.obl)) = some (.bool true, (((True ∧ decide (nI y.n > 500) = false) ∧ decide (nI z.n > 500) = true) ∧ True)) := by kernel_rfl
theorem big2 (KF : hd.KT') (A : hd.AT) (TT : hq.TTf) (TG : hq.TGf) (SG : SGf) (x : HX) (y z u : KY) (N : Int) : (call4 (KX x KF (xorI .u8) A TT TG SG) x y z u N [none, none, F, none, none, none, F, none, none, none, none, none, none, T]).map (fun r => (r.1, r.2.obl)) = some (.bool true, ((((True ∧ decide (nI y.n > 500) = false) ∧ decide (nI z.n > 500) = false) ∧ decide (nI u.n > 20) = true) ∧ True)) := by kernel_rfl
theorem big3 (KF : hd.KT') (A : hd.AT) (TT : hq.TTf) (TG : hq.TGf) (SG : SGf) (x : HX) (y z u : KY) (N : Int) : (call4 (KX x KF (xorI .u8) A TT TG SG) x y z u N [none, none, F, none, none, none, F, none, none, none, none, none, none, F, none, none, T]).map (fun r => (r.1, r.2.obl)) = some (.bool true, (((((True ∧ decide (nI y.n > 500) = false) ∧ decide (nI z.n > 500) = false) ∧ decide (nI u.n > 20) = false) ∧ decide (N < 0) = true) ∧ True)) := by kernel_rfl
theorem big4 (KF : hd.KT') (A : hd.AT) (TT : hq.TTf) (TG : hq.TGf) (SG : SGf) (x : HX) (y z u : KY) (N : Int) : (call4 (KX x KF (xorI .u8) A TT TG SG) x y z u N [none, none, F, none, none, none, F, none, none, none, none, none, none, F, none, none, F, none, none, T]).map (fun r => (r.1, r.2.obl)) = some (.bool true, ((((((True ∧ decide (nI y.n > 500) = false) ∧ decide (nI z.n > 500) = false) ∧ decide (nI u.n > 20) = false) ∧ decide (N < 0) = false) ∧ decide (N > 64) = true) ∧ True)) := by kernel_rfl
end
end hw
end Go.Proofs.Ytgljibcokcgfbaa
namespace Go.Proofs.Ytgljibcokcgfbaa
open Go.ChangeShapes Go.WideShapes Go.ChangeAt Go.RowKit Go.Cln
namespace hw
set_option linter.unusedVariables false
noncomputable section
open hq (KY kv)
def wordsAt : List Value → List Int
  | .int .i64 y :: l => y :: wordsAt l
  | _ => []
theorem wordsAt_get : ∀ {l : List Value} {j : Nat} {y : Int}, (wordsAt l)[j]? = some y → l[j]? = some (.int .i64 y)
  | [], j, y, h => by simp [wordsAt] at h
  | v :: l, j, y, h => by
    unfold wordsAt at h
    split at h
    · rename_i z r e
      cases e
      cases j with
      | zero => simp only [List.getElem?_cons_zero, Option.some.injEq] at h ⊢; rw [h]
      | succ j => simp only [List.getElem?_cons_succ] at h ⊢; exact wordsAt_get h
    · simp at h
theorem wordsAt_len : ∀ {l : List Value} {m : Nat}, (∀ j, j < m → ∃ y, l[j]? = some (.int .i64 y)) → m ≤ (wordsAt l).length
  | l, 0, _ => Nat.zero_le _
  | [], m + 1, h => by obtain ⟨y, hy⟩ := h 0 (by omega); simp at hy
  | v :: l, m + 1, h => by
    obtain ⟨y, hy⟩ := h 0 (by omega)
    simp only [List.getElem?_cons_zero, Option.some.injEq] at hy
    subst hy
    have := wordsAt_len (l := l) (m := m) fun j hj => by
      obtain ⟨z, hz⟩ := h (j + 1) (by omega)
      exact ⟨z, by simpa using hz⟩
    simp only [wordsAt, List.length_cons]; omega
/-- the bytes at a place -/
def worldI (W : World) (P : Nat) : List Int := match W.heap[blkOf P]? with
  | some (.cells pc _ _) => wordsAt (pc.toList.drop (baseOf P))
  | _ => []
theorem worldI_get {W : World} {P j : Nat} {y : Int} (h : (worldI W P)[j]? = some y) : ∃ pc t fr, W.heap[blkOf P]? = some (.cells pc t fr) ∧ pc[baseOf P + j]? = some (.int .i64 y) := by
  unfold worldI at h
  split at h
  · rename_i pc t fr hc
    have := wordsAt_get h
    rw [List.getElem?_drop] at this
    exact ⟨pc, t, fr, hc, by simpa using this⟩
  · simp at h
theorem worldI_row {W : World} {b o m : Nat} {f : Nat → Int} (h : ∀ j, j < m → W.cell? ⟨b, o + j, none⟩ = some (.int .i64 (f j)) ∧ (Lit.int .i64 (f j)).wf = true) (h0 : m ≠ 0) : m ≤ (worldI W (plc b o)).length := by
  obtain ⟨pc, t, fr, k1, _⟩ := cell_in (h 0 (by omega)).1
  have at_ : ∀ j, j < m → pc[o + j]? = some (.int .i64 (f j)) := fun j hj => by
    obtain ⟨pc', t', fr', q1, q2⟩ := cell_in (h j hj).1
    rw [k1] at q1; cases q1; exact q2
  unfold worldI
  rw [blkOf_plc, baseOf_plc, k1]
  refine wordsAt_len fun j hj => ⟨f j, ?_⟩
  rw [List.getElem?_drop]
  simpa using at_ j hj
def hxW (W : World) : HX := ⟨worldB W, worldI W⟩
theorem startH {W : World} (hW : 0 < W.heap.size) (orc : List (Option Bool)) : ∃ ρ : Nat → PB, Hs (smSt 1 [some (.fam (hxW W).F)] orc) ρ W := by
  have get : ∀ (k : Nat) (ob : Ob), (smSt 1 [some (.fam (hxW W).F)] orc).heap.get k = some ob → k = 0 ∧ ob = .fam (hxW W).F := fun k ob hk => by
    have hk : (Tr.ofL [some (.fam (hxW W).F)]).get k = some ob := hk
    rw [ofL_get (by simp)] at hk
    rcases k with _ | k
    · simp only [hget, List.getElem?_cons_zero] at hk
      cases hk; exact ⟨rfl, rfl⟩
    · simp [hget] at hk
  have d0 : Dm (smSt 1 [some (.fam (hxW W).F)] orc) 0 := ⟨(show 0 < 1 by decide), rfl⟩
  refine ⟨fun _ => ⟨0, 0, 0⟩, ⟨⟨fun k ob hk => ?_, fun k k' ob ob' hk hk' hm _ => ?_, fun k k' ob ob' B hk hB hk' hm => ?_⟩, fun _ _ => rfl, ⟨Nat.le_refl _, fun z hz => by simp [smSt] at hz⟩⟩⟩
  · obtain ⟨rfl, rfl⟩ := get k ob hk
    refine ⟨d0, fun hm => absurd (show 1 ≤ 0 from hm) (by omega), hW, fun g P i v hv => ?_⟩
    unfold HX.F at hv
    split at hv
    · simp only [Cells.get, Option.map_eq_some_iff] at hv
      obtain ⟨y, hy, rfl⟩ := hv
      obtain ⟨pc, t, fr, k1, k2⟩ := worldI_get hy
      exact ⟨pc, t, fr, _, k1, k2, .same rfl, rfl⟩
    · simp only [Cells.get, Option.map_eq_some_iff] at hv
      obtain ⟨y, hy, rfl⟩ := hv
      obtain ⟨pc, t, fr, k1, k2⟩ := worldB_get hy
      exact ⟨pc, t, fr, _, k1, k2, .same rfl, rfl⟩
  · have hm : 1 ≤ k ∨ 1 ≤ k' := hm
    have e1 : k < 1 := by have := (get k ob hk).1; omega
    have e2 : k' < 1 := by have := (get k' ob' hk').1; omega
    omega
  · have hm : 1 ≤ k' := hm
    have e2 : k' < 1 := by have := (get k' ob' hk').1; omega
    omega
theorem by_of {W : World} {a : Option Addr} {n c : Nat} (s : (a = none ∧ n = 0 ∧ c = 0) ∨ ∃ b o, a = some ⟨b, o, none⟩ ∧ n ≤ c ∧ (c : Int) ≤ 9223372036854775807)
    (z : n = 0 ∨ ∃ (b o : Nat) (f : Nat → Int), a = some ⟨b, o, none⟩ ∧ b < W.heap.size ∧ ∀ j, j < n → W.cell? ⟨b, o + j, none⟩ = some (.int .u8 (f j)) ∧ (Lit.int .u8 (f j)).wf = true) :
    ∃ y : KY, AbsOk y.Q 0 y.n y.c (.slice a n c) ∧ By (hxW W) y := by
  by_cases h0 : n = 0
  · subst h0
    have e : wk (hxW W) ⟨plc 0 0, 0, 0⟩ = [] := by
      show ((worldB W (plc 0 0)).drop 0).take 0 = []
      rw [List.take_zero]
    exact ⟨⟨plc 0 0, 0, 0⟩, AbsOk.none, ⟨(by rw [e]; exact fun z hz => (by cases hz)), (by rw [e]; rfl), Nat.le_refl _⟩⟩
  · rcases z with h | ⟨b, o, f, rfl, hb, hf⟩
    · exact absurd h h0
    · have hc : n ≤ c := by
        rcases s with ⟨h, _⟩ | ⟨_, _, _, hc, _⟩
        · cases h
        · exact hc
      obtain ⟨q1, q2⟩ := worldB_row hf h0
      refine ⟨⟨plc b o, n, c⟩, AbsOk.of hc, ⟨?_, ?_, hc⟩⟩
      · show hx.Byt (((worldB W (plc b o)).drop 0).take n)
        rw [List.drop_zero]; exact q2
      · show n = (((worldB W (plc b o)).drop 0).take n).length
        rw [List.drop_zero]; exact q1.symm
theorem cuts_of {W : World} {a : Option Addr} {n c : Nat} (s : (a = none ∧ n = 0 ∧ c = 0) ∨ ∃ b o, a = some ⟨b, o, none⟩ ∧ n ≤ c ∧ (c : Int) ≤ 9223372036854775807)
    (z : n = 0 ∨ ∃ (b o : Nat) (f : Nat → Int), a = some ⟨b, o, none⟩ ∧ b < W.heap.size ∧ ∀ j, j < n → W.cell? ⟨b, o + j, none⟩ = some (.int .i64 (f j)) ∧ (Lit.int .i64 (f j)).wf = true) :
    ∃ u : KY, AbsOk u.Q 0 u.n u.c (.slice a n c) ∧ u.n ≤ ((hxW W).C u.Q).length := by
  by_cases h0 : n = 0
  · subst h0
    exact ⟨⟨plc 0 0, 0, 0⟩, AbsOk.none, Nat.zero_le _⟩
  · rcases z with h | ⟨b, o, f, rfl, hb, hf⟩
    · exact absurd h h0
    · have hc : n ≤ c := by
        rcases s with ⟨h, _⟩ | ⟨_, _, _, hc, _⟩
        · cases h
        · exact hc
      exact ⟨⟨plc b o, n, c⟩, AbsOk.of hc, worldI_row hf h0⟩
/-- where there is any memory -/
theorem holdsW {W : World} (hW : 0 < W.heap.size) {v0 v1 v2 : Value} {y z u : KY} (N : Int) (u0 : AbsOk y.Q 0 y.n y.c v0) (u1 : AbsOk z.Q 0 z.n z.c v1) (u2 : AbsOk u.Q 0 u.n u.c v2) (hy : By (hxW W) y) (hz' : By (hxW W) z) (hu : u.n ≤ ((hxW W).C u.Q).length) :
    Calls Try.prog 4 #[v0, v1, v2, .int .i64 N] W fun e w' => e = .returned (.bool true) ∧ Below W.heap.size W w' := by
  have fin : ∀ (K : Given) (hK : GivenOk Try.prog K) (orc : List (Option Bool)) (p : Prop), (call4 K (hxW W) y z u N orc).map (fun r => (r.1, r.2.obl)) = some (.bool true, p) → p →
      Calls Try.prog 4 #[v0, v1, v2, .int .i64 N] W fun e w' => e = .returned (.bool true) ∧ Below W.heap.size W w' := fun K hK orc p hr hp => by
    obtain ⟨ρ, g1⟩ := startH hW orc
    have d0 : Dm (smSt 1 [some (.fam (hxW W).F)] orc) 0 := ⟨(show 0 < 1 by decide), rfl⟩
    exact ranG sw.pg hK (ρ := ρ) hr hp rfl g1 (VL.cons (.abs d0 rfl u0) (VL.cons (.abs d0 rfl u1) (VL.cons (.abs d0 rfl u2) (VL.cons (VR.same rfl) VL.nil))))
  have kx := KX_ok (hxW W) ha.kb hz.AB hq.TT0 hq.tgN hz.shaN
  by_cases h5 : nI y.n > 500
  · exact fin _ kx _ _ (big0 ..) ⟨⟨trivial, decide_eq_true h5⟩, trivial⟩
  by_cases h6 : nI z.n > 500
  · exact fin _ kx _ _ (big1 ..) ⟨⟨⟨trivial, decide_eq_false h5⟩, decide_eq_true h6⟩, trivial⟩
  by_cases h7 : nI u.n > 20
  · exact fin _ kx _ _ (big2 ..) ⟨⟨⟨⟨trivial, decide_eq_false h5⟩, decide_eq_false h6⟩, decide_eq_true h7⟩, trivial⟩
  by_cases h8 : N < 0
  · exact fin _ kx _ _ (big3 ..) ⟨⟨⟨⟨⟨trivial, decide_eq_false h5⟩, decide_eq_false h6⟩, decide_eq_false h7⟩, decide_eq_true h8⟩, trivial⟩
  by_cases h9 : N > 64
  · exact fin _ kx _ _ (big4 ..) ⟨⟨⟨⟨⟨⟨trivial, decide_eq_false h5⟩, decide_eq_false h6⟩, decide_eq_false h7⟩, decide_eq_false h8⟩, decide_eq_true h9⟩, trivial⟩
  have h : Small (hxW W) y z u N := ⟨hy, hz', hu, by unfold nI at h5; omega, by unfold nI at h6; omega, by unfold nI at h7; omega, by omega, by omega⟩
  have k4 := K4_ok (hxW W) ha.kb hz.AB hq.TT0 hq.tgN hz.shaN
  by_cases h0 : y.n = 0
  · have hmi : ¬ 64 - nI y.n < N := by unfold nI; omega
    by_cases hma : N > 0
    · exact fin _ (k4 _) _ _ (lawE1 ..) (okE1 h h0 hmi hma)
    · exact fin _ (k4 _) _ _ (lawE2 ..) (okE2 h h0 hmi hma)
  · by_cases hmi : 64 - nI y.n < N
    · by_cases hma : 64 - nI y.n > 0
      · exact fin _ (k4 _) _ _ (lawR3 ..) (okR3 h h0 hmi hma)
      · by_cases hl : nI y.n > 64
        · exact fin _ (k4 _) _ _ (lawB ..) (okB h h0 hmi hma hl)
        · exact fin _ (k4 _) _ _ (lawR4 ..) (okR4 h h0 hmi hma hl)
    · by_cases hma : N > 0
      · exact fin _ (k4 _) _ _ (lawR1 ..) (okR1 h h0 hmi hma)
      · exact fin _ (k4 _) _ _ (lawR2 ..) (okR2 h h0 hmi hma)
end
end hw
end Go.Proofs.Ytgljibcokcgfbaa
