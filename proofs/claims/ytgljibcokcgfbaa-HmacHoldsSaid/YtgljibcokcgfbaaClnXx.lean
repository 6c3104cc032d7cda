/- Read off the code by the clean reading. -/
import Derived.Test.YtgljibcokcgfbaaClnXa
set_option linter.unusedVariables false
set_option linter.unusedSimpArgs false
set_option linter.deprecated false
set_option maxRecDepth 100000
namespace Go.Proofs.Ytgljibcokcgfbaa
open Go.ChangeShapes Go.WideShapes Go.ChangeAt Go.RowKit Go.Cln
namespace hw
set_option linter.unusedVariables false
noncomputable section
open hq (KY kv)
def zs (b c : Nat) : Value := .slice (some ⟨b, 0, none⟩) 0 c
def nl : Value := .slice none 0 0
def RN (k : Nat) : List (Option Ob) := List.replicate k none
theorem n16n : ((mk Try.prog Given.nothing 300).call 16 [nl] (smSt 0 (RN 0) [])).map (fun r => (r.1, r.2.obl, r.2.next, keepL (List.replicate 4 false) r.2.heap.get 0)) = some (.tuple #[ha.bV ha.Z64, .int .i64 0], True, (RN 4).length, RN 4) := by kernel_rfl
theorem t16n : CallOk Try.prog 16 [nl] (smSt 0 (RN 0) []) (.tuple #[ha.bV (ha.kb []), .int .i64 0]) (smSt 0 (RN 4) []) := by
  rw [ha.kb_nil]
  exact frame_by sw.pg (GivenOk.nothing _) _ n16n trivial (by rfl) rfl
theorem n16z (c : Nat) : ((mk Try.prog Given.nothing 300).call 16 [zs 0 c] (smSt 1 (RN 1) [])).map (fun r => (r.1, r.2.obl, r.2.next, keepL (List.replicate 5 false) r.2.heap.get 0)) = some (.tuple #[ha.bV ha.Z64, .int .i64 0], True, (RN 5).length, RN 5) := by kernel_rfl
theorem t16z (c : Nat) : CallOk Try.prog 16 [zs 0 c] (smSt 1 (RN 1) []) (.tuple #[ha.bV (ha.kb []), .int .i64 0]) (smSt 1 (RN 5) []) := by
  rw [ha.kb_nil]
  exact frame_by sw.pg (GivenOk.nothing _) _ (n16z c) trivial (by rfl) rfl
theorem noH {k j : Nat} {ob : Ob} (h : (RN k)[j]? = some (some ob)) : False := by
  unfold RN at h
  rw [List.getElem?_replicate] at h
  split at h <;> simp at h
/-- Block of an empty key, told -/
def FB (KF : hd.KT') (f : FuncId) (args : List Value) (s : Go.Cln.St) : Option Inst := if f == 16 then match args with
  | [.slice none 0 0] => some ⟨[], 0, RN 0, [nl], .tuple #[ha.bV (KF []), .int .i64 0], RN 4, KF = ha.kb⟩
  | [.slice (some ⟨b, o, none⟩) 0 c] => some ⟨[(b, o)], 1, RN 1, [zs 0 c], .tuple #[ha.bV (KF []), .int .i64 0], RN 5, KF = ha.kb⟩
  | _ => none
  else none
theorem FB_ok (KF : hd.KT') (f : FuncId) (args : List Value) (s : Go.Cln.St) (i : Inst) (h : FB KF f args s = some i) : Fits s i args ∧ (i.ask → CallOk Try.prog f i.args i.s0 i.val i.s1) := by
  unfold FB at h
  split at h
  · rename_i hf
    have hf' : f = 16 := by simpa using hf
    subst hf'
    split at h
    · cases h
      exact ⟨⟨rfl, fun j pp ob h1 h2 => (noH h2).elim⟩, fun hk => by cases (show KF = ha.kb from hk); exact t16n⟩
    · rename_i b o c
      cases h
      refine ⟨⟨?_, fun j pp ob h1 h2 => (noH h2).elim⟩, fun hk => by cases (show KF = ha.kb from hk); exact t16z c⟩
      show [Value.slice (some ⟨b, o, none⟩) 0 c] = [Value.slice (some ⟨b, addO o 0, none⟩) 0 c]
      rw [addO_eq]; rfl
    · cases h
  · cases h
def FWB (KF : hd.KT') (A : hd.AT) (TT : hq.TTf) (TG : hq.TGf) (f : FuncId) (args : List Value) (s : Go.Cln.St) : Option Inst := match FW KF A TT TG f args s with
  | some i => some i
  | none => FB KF f args s
theorem FWB_ok (KF : hd.KT') (A : hd.AT) (TT : hq.TTf) (TG : hq.TGf) (f : FuncId) (args : List Value) (s : Go.Cln.St) (i : Inst) (h : FWB KF A TT TG f args s = some i) : Fits s i args ∧ (i.ask → CallOk Try.prog f i.args i.s0 i.val i.s1) := by
  unfold FWB at h
  split at h
  · rename_i j h1
    cases h; exact FW_ok KF A TT TG f args s _ h1
  · exact FB_ok KF f args s _ h
def KB (KF : hd.KT') (A : hd.AT) (TT : hq.TTf) (TG : hq.TGf) : Given := { Given.frames (Given.calls (hd.FP (xorI .u8))) (FWB KF A TT TG) with fits := true }
theorem KB_ok (KF : hd.KT') (A : hd.AT) (TT : hq.TTf) (TG : hq.TGf) : GivenOk Try.prog (KB KF A TT TG) := frames_fits (hd.FP_ok.frames (FWB_ok KF A TT TG)) true
def callB (K : Given) (u v w : Value) (N : Int) (k : Nat) (o : List (Option Bool)) : Option (Value × Prop) := ((mk Try.prog K 300).call 4 [u, v, w, .int .i64 N] (St.start k .leaf o)).map (fun r => (r.1, r.2.obl))
end
end hw
end Go.Proofs.Ytgljibcokcgfbaa
namespace Go.Proofs.Ytgljibcokcgfbaa
open Go.ChangeShapes Go.WideShapes Go.ChangeAt Go.RowKit Go.Cln
namespace hw
set_option linter.unusedVariables false
noncomputable section
open hq (KY kv)
def y0 : KY := ⟨0, 0, 0⟩
def mZ (KF : hd.KT') (A : hd.AT) : Mk := ⟨(zM KF A []).h, IntKind.i64.wrap ((zM KF A []).z + ((0 : Nat) : Int)), KF []⟩
def kF (KF : hd.KT') (L : List Int) (n : Nat) : Prop := KF = ha.kb ∧ hx.Byt (tk L n) ∧ n = (tk L n).length ∧ n ≤ 1000
def kF0 (KF : hd.KT') (L : List Int) (n : Nat) : Prop := KF = ha.kb ∧ hx.Byt (tk L n) ∧ n = (tk L n).length ∧ n ≤ 1000 ∧ n = 0
def E1 (KF : hd.KT') (A : hd.AT) (TT : hq.TTf) (TG : hq.TGf) (N : Int) : Prop := ((((E20 (E20 (((((((((((((((((((True ∧ decide (N < 0) = false) ∧ decide (N > 64) = false) ∧ KF = ha.kb) ∧ w64 KF A []) ∧ asT TT (zM KF A [])) ∧ KF = ha.kb) ∧ w64 KF A []) ∧ asT TT (mZ KF A)) ∧ decide (IntKind.i64.wrap (64 - nI 0) < N) = false) ∧ decide (N > 0) = true) ∧ qZ y0 N) ∧ decide (0 + y0.n + kk N ≤ 0) = false) ∧ qN [] y0 N) ∧ kF KF (l2N [] y0 N) (0 + y0.n + kk N)) ∧ w64 KF A (tk (l2N [] y0 N) (0 + y0.n + kk N))) ∧ asT TT (zM KF A (tk (l2N [] y0 N) (0 + y0.n + kk N)))) ∧ KF = ha.kb) ∧ w64 KF A []) ∧ asT TT (zM KF A [])) (tg TT (zM KF A [])) (tg TT (mZ KF A))) (tg TT (zM KF A [])) (tg TT (zM KF A (tk (l2N [] y0 N) (0 + y0.n + kk N))))) ∧ ((s12 (tg TT (zM KF A []))).toList == (s12 (tg TT (zM KF A []))).toList) = true) ∧ True) ∧ ((s12 (tg TT (zM KF A []))).toList == (s12 (tg TT (zM KF A []))).toList) = true)
def E2 (KF : hd.KT') (A : hd.AT) (TT : hq.TTf) (TG : hq.TGf) (N : Int) : Prop := ((((E20 (E20 (((((((((((((((((((True ∧ decide (N < 0) = false) ∧ decide (N > 64) = false) ∧ KF = ha.kb) ∧ w64 KF A []) ∧ asT TT (zM KF A [])) ∧ KF = ha.kb) ∧ w64 KF A []) ∧ asT TT (mZ KF A)) ∧ decide (IntKind.i64.wrap (64 - nI 0) < N) = false) ∧ decide (N > 0) = false) ∧ qZ y0 0) ∧ decide (0 + y0.n + kk 0 ≤ 0) = true) ∧ qI [] y0 0) ∧ kF0 KF (l2I [] y0 0) (0 + y0.n + kk 0)) ∧ w64 KF A (tk (l2I [] y0 0) (0 + y0.n + kk 0))) ∧ asT TT (zM KF A (tk (l2I [] y0 0) (0 + y0.n + kk 0)))) ∧ KF = ha.kb) ∧ w64 KF A []) ∧ asT TT (zM KF A [])) (tg TT (zM KF A [])) (tg TT (mZ KF A))) (tg TT (zM KF A [])) (tg TT (zM KF A (tk (l2I [] y0 0) (0 + y0.n + kk 0))))) ∧ ((s12 (tg TT (zM KF A []))).toList == (s12 (tg TT (zM KF A []))).toList) = true) ∧ True) ∧ ((s12 (tg TT (zM KF A []))).toList == (s12 (tg TT (zM KF A []))).toList) = true)
end
end hw
end Go.Proofs.Ytgljibcokcgfbaa
namespace Go.Proofs.Ytgljibcokcgfbaa
open Go.ChangeShapes Go.WideShapes Go.ChangeAt Go.RowKit Go.Cln
namespace hw
set_option linter.unusedVariables false
noncomputable section
open hq (KY kv)
theorem mZ_ok : Ok [] (mZ ha.kb hz.AB) [] := by
  have h := zM_ok []
  refine ⟨h.sem, ?_, h.byt, h.len, h.key⟩
  have h1 := h.size
  have h2 := h.full
  show IntKind.i64.wrap ((zM ha.kb hz.AB []).z + ((0 : Nat) : Int)) = _
  rw [h1, IntKind.wrap_i64]
  have e : (hd.xl (zM ha.kb hz.AB []).w 54 ++ []).length = 64 := by rw [h2]; rfl
  have e2 : (hd.xl (mZ ha.kb hz.AB).w 54 ++ []).length = 64 := e
  rw [e, e2]; decide
theorem okN1 {N : Int} (n0 : 0 ≤ N) (n6 : N ≤ 64) (hma : N > 0) : E1 ha.kb hz.AB hq.TT0 hq.tgN N := by
  obtain ⟨kk0, kw⟩ := kk_of (k := N) n0 n6
  have e2 : l2N [] y0 N = ([] ++ List.replicate (kk N) 0 : List Int) := l2N_eq (y := y0) rfl
  have e3 : 0 + y0.n + kk N = ([] ++ List.replicate (kk N) 0 : List Int).length := by rw [List.length_append, List.length_replicate]; show 0 + 0 + kk N = 0 + kk N; omega
  have e4 : ha.kb ([] ++ List.replicate (kk N) 0 : List Int) = ha.kb [] := kb_zeros [] _ (by rw [kk0]; show 0 + _ ≤ 64; omega)
  have eT : tk (l2N [] y0 N) (0 + y0.n + kk N) = ([] ++ List.replicate (kk N) 0 : List Int) := by rw [e2]; exact tk_all e3
  have eA : tg hq.TT0 (zM ha.kb hz.AB []) = tg hq.TT0 (mZ ha.kb hz.AB) := by rw [(zM_ok []).tag, mZ_ok.tag]
  have eB : tg hq.TT0 (zM ha.kb hz.AB []) = tg hq.TT0 (zM ha.kb hz.AB (tk (l2N [] y0 N) (0 + y0.n + kk N))) := by rw [(zM_ok []).tag, (zM_ok _).tag, eT]; exact (tgN_kb e4).symm
  have hb : hx.Byt (tk (l2N [] y0 N) (0 + y0.n + kk N)) := by rw [eT]; exact byt_zeros (fun _ h => by cases h) _
  have hy0 : y0.n = 0 := rfl
  exact ⟨⟨⟨(e20 (e20 ⟨⟨⟨⟨⟨⟨⟨⟨⟨⟨⟨⟨⟨⟨⟨⟨⟨⟨⟨trivial, decide_eq_false (by omega)⟩, decide_eq_false (by omega)⟩, rfl⟩, w64_ok _⟩, (zM_ok _).t⟩, rfl⟩, w64_ok _⟩, mZ_ok.t⟩, decide_eq_false (by rw [show IntKind.i64.wrap (64 - nI 0) = 64 from by decide]; omega)⟩, decide_eq_true hma⟩, ⟨kw, by rw [kk0, hy0]; unfold mostBytes; omega, by rw [kk0, hy0]; unfold mostBytes; omega⟩⟩, decide_eq_false (by rw [kk0, hy0]; omega)⟩, ⟨trivial, by rw [hy0]; simp, by rw [kk0, hy0]; unfold mostBytes; omega, by rw [kk0, hy0]; unfold mostBytes; omega⟩⟩, ⟨rfl, hb, by rw [eT]; exact e3, by rw [kk0, hy0]; omega⟩⟩, w64_ok _⟩, (zM_ok _).t⟩, rfl⟩, w64_ok _⟩, (zM_ok _).t⟩ eA) eB), beq_self_eq_true _⟩, trivial⟩, beq_self_eq_true _⟩
theorem okN2 {N : Int} (n0 : 0 ≤ N) (n6 : N ≤ 64) (hma : ¬ N > 0) : E2 ha.kb hz.AB hq.TT0 hq.tgN N := by
  have kk0 : kk 0 = 0 := rfl
  have kw : 0 ≤ IntKind.i64.wrap 0 := by decide
  have e2 : l2I [] y0 0 = ([] ++ List.replicate (kk 0) 0 : List Int) := l2I_eq (y := y0) rfl
  have e3 : 0 + y0.n + kk 0 = ([] ++ List.replicate (kk 0) 0 : List Int).length := by rw [List.length_append, List.length_replicate]; show 0 + 0 + kk 0 = 0 + kk 0; omega
  have e4 : ha.kb ([] ++ List.replicate (kk 0) 0 : List Int) = ha.kb [] := kb_zeros [] _ (by rw [kk0]; show 0 + _ ≤ 64; omega)
  have eT : tk (l2I [] y0 0) (0 + y0.n + kk 0) = ([] ++ List.replicate (kk 0) 0 : List Int) := by rw [e2]; exact tk_all e3
  have eA : tg hq.TT0 (zM ha.kb hz.AB []) = tg hq.TT0 (mZ ha.kb hz.AB) := by rw [(zM_ok []).tag, mZ_ok.tag]
  have eB : tg hq.TT0 (zM ha.kb hz.AB []) = tg hq.TT0 (zM ha.kb hz.AB (tk (l2I [] y0 0) (0 + y0.n + kk 0))) := by rw [(zM_ok []).tag, (zM_ok _).tag, eT]; exact (tgN_kb e4).symm
  have hb : hx.Byt (tk (l2I [] y0 0) (0 + y0.n + kk 0)) := by rw [eT]; exact byt_zeros (fun _ h => by cases h) _
  have hy0 : y0.n = 0 := rfl
  exact ⟨⟨⟨(e20 (e20 ⟨⟨⟨⟨⟨⟨⟨⟨⟨⟨⟨⟨⟨⟨⟨⟨⟨⟨⟨trivial, decide_eq_false (by omega)⟩, decide_eq_false (by omega)⟩, rfl⟩, w64_ok _⟩, (zM_ok _).t⟩, rfl⟩, w64_ok _⟩, mZ_ok.t⟩, decide_eq_false (by rw [show IntKind.i64.wrap (64 - nI 0) = 64 from by decide]; omega)⟩, decide_eq_false hma⟩, ⟨kw, by rw [kk0, hy0]; unfold mostBytes; omega, by rw [kk0, hy0]; unfold mostBytes; omega⟩⟩, decide_eq_true (by rw [kk0, hy0]; omega)⟩, ⟨trivial, by rw [kk0, hy0]; simp⟩⟩, ⟨rfl, hb, by rw [eT]; exact e3, by rw [kk0, hy0]; omega, by rw [kk0, hy0]⟩⟩, w64_ok _⟩, (zM_ok _).t⟩, rfl⟩, w64_ok _⟩, (zM_ok _).t⟩ eA) eB), beq_self_eq_true _⟩, trivial⟩, beq_self_eq_true _⟩
end
end hw
end Go.Proofs.Ytgljibcokcgfbaa
namespace Go.Proofs.Ytgljibcokcgfbaa
open Go.ChangeShapes Go.WideShapes Go.ChangeAt Go.RowKit Go.Cln
namespace hw
set_option linter.unusedVariables false
noncomputable section
open hq (KY kv)
theorem nwannn (KF : hd.KT') (A : hd.AT) (TT : hq.TTf) (TG : hq.TGf) (N : Int) : callB (KB KF A TT TG) nl nl nl N 0 [none, none, none, none, none, none, none, none, none, none, none, none, none, none, none, none, T] = some (.bool true, ((True ∧ decide (N < 0) = true) ∧ True)) := by kernel_rfl
theorem nwbnnn (KF : hd.KT') (A : hd.AT) (TT : hq.TTf) (TG : hq.TGf) (N : Int) : callB (KB KF A TT TG) nl nl nl N 0 [none, none, none, none, none, none, none, none, none, none, none, none, none, none, none, none, F, none, none, T] = some (.bool true, (((True ∧ decide (N < 0) = false) ∧ decide (N > 64) = true) ∧ True)) := by kernel_rfl
theorem nwannz (KF : hd.KT') (A : hd.AT) (TT : hq.TTf) (TG : hq.TGf) (N : Int) (c2 : Nat) : callB (KB KF A TT TG) nl nl (zs 0 c2) N 1 [none, none, none, none, none, none, none, none, none, none, none, none, none, none, none, none, T] = some (.bool true, ((True ∧ decide (N < 0) = true) ∧ True)) := by kernel_rfl
theorem nwbnnz (KF : hd.KT') (A : hd.AT) (TT : hq.TTf) (TG : hq.TGf) (N : Int) (c2 : Nat) : callB (KB KF A TT TG) nl nl (zs 0 c2) N 1 [none, none, none, none, none, none, none, none, none, none, none, none, none, none, none, none, F, none, none, T] = some (.bool true, (((True ∧ decide (N < 0) = false) ∧ decide (N > 64) = true) ∧ True)) := by kernel_rfl
theorem nwanzn (KF : hd.KT') (A : hd.AT) (TT : hq.TTf) (TG : hq.TGf) (N : Int) (c1 : Nat) : callB (KB KF A TT TG) nl (zs 0 c1) nl N 1 [none, none, none, none, none, none, none, none, none, none, none, none, none, none, none, none, T] = some (.bool true, ((True ∧ decide (N < 0) = true) ∧ True)) := by kernel_rfl
theorem nwbnzn (KF : hd.KT') (A : hd.AT) (TT : hq.TTf) (TG : hq.TGf) (N : Int) (c1 : Nat) : callB (KB KF A TT TG) nl (zs 0 c1) nl N 1 [none, none, none, none, none, none, none, none, none, none, none, none, none, none, none, none, F, none, none, T] = some (.bool true, (((True ∧ decide (N < 0) = false) ∧ decide (N > 64) = true) ∧ True)) := by kernel_rfl
theorem nwanzz (KF : hd.KT') (A : hd.AT) (TT : hq.TTf) (TG : hq.TGf) (N : Int) (c1 : Nat) (c2 : Nat) : callB (KB KF A TT TG) nl (zs 0 c1) (zs 1 c2) N 2 [none, none, none, none, none, none, none, none, none, none, none, none, none, none, none, none, T] = some (.bool true, ((True ∧ decide (N < 0) = true) ∧ True)) := by kernel_rfl
theorem nwbnzz (KF : hd.KT') (A : hd.AT) (TT : hq.TTf) (TG : hq.TGf) (N : Int) (c1 : Nat) (c2 : Nat) : callB (KB KF A TT TG) nl (zs 0 c1) (zs 1 c2) N 2 [none, none, none, none, none, none, none, none, none, none, none, none, none, none, none, none, F, none, none, T] = some (.bool true, (((True ∧ decide (N < 0) = false) ∧ decide (N > 64) = true) ∧ True)) := by kernel_rfl
theorem nwaznn (KF : hd.KT') (A : hd.AT) (TT : hq.TTf) (TG : hq.TGf) (N : Int) (c0 : Nat) : callB (KB KF A TT TG) (zs 0 c0) nl nl N 1 [none, none, none, none, none, none, none, none, none, none, none, none, none, none, none, none, T] = some (.bool true, ((True ∧ decide (N < 0) = true) ∧ True)) := by kernel_rfl
theorem nwbznn (KF : hd.KT') (A : hd.AT) (TT : hq.TTf) (TG : hq.TGf) (N : Int) (c0 : Nat) : callB (KB KF A TT TG) (zs 0 c0) nl nl N 1 [none, none, none, none, none, none, none, none, none, none, none, none, none, none, none, none, F, none, none, T] = some (.bool true, (((True ∧ decide (N < 0) = false) ∧ decide (N > 64) = true) ∧ True)) := by kernel_rfl
theorem nwaznz (KF : hd.KT') (A : hd.AT) (TT : hq.TTf) (TG : hq.TGf) (N : Int) (c0 : Nat) (c2 : Nat) : callB (KB KF A TT TG) (zs 0 c0) nl (zs 1 c2) N 2 [none, none, none, none, none, none, none, none, none, none, none, none, none, none, none, none, T] = some (.bool true, ((True ∧ decide (N < 0) = true) ∧ True)) := by kernel_rfl
theorem nwbznz (KF : hd.KT') (A : hd.AT) (TT : hq.TTf) (TG : hq.TGf) (N : Int) (c0 : Nat) (c2 : Nat) : callB (KB KF A TT TG) (zs 0 c0) nl (zs 1 c2) N 2 [none, none, none, none, none, none, none, none, none, none, none, none, none, none, none, none, F, none, none, T] = some (.bool true, (((True ∧ decide (N < 0) = false) ∧ decide (N > 64) = true) ∧ True)) := by kernel_rfl
theorem nwazzn (KF : hd.KT') (A : hd.AT) (TT : hq.TTf) (TG : hq.TGf) (N : Int) (c0 : Nat) (c1 : Nat) : callB (KB KF A TT TG) (zs 0 c0) (zs 1 c1) nl N 2 [none, none, none, none, none, none, none, none, none, none, none, none, none, none, none, none, T] = some (.bool true, ((True ∧ decide (N < 0) = true) ∧ True)) := by kernel_rfl
theorem nwbzzn (KF : hd.KT') (A : hd.AT) (TT : hq.TTf) (TG : hq.TGf) (N : Int) (c0 : Nat) (c1 : Nat) : callB (KB KF A TT TG) (zs 0 c0) (zs 1 c1) nl N 2 [none, none, none, none, none, none, none, none, none, none, none, none, none, none, none, none, F, none, none, T] = some (.bool true, (((True ∧ decide (N < 0) = false) ∧ decide (N > 64) = true) ∧ True)) := by kernel_rfl
theorem nwazzz (KF : hd.KT') (A : hd.AT) (TT : hq.TTf) (TG : hq.TGf) (N : Int) (c0 : Nat) (c1 : Nat) (c2 : Nat) : callB (KB KF A TT TG) (zs 0 c0) (zs 1 c1) (zs 2 c2) N 3 [none, none, none, none, none, none, none, none, none, none, none, none, none, none, none, none, T] = some (.bool true, ((True ∧ decide (N < 0) = true) ∧ True)) := by kernel_rfl
theorem nwbzzz (KF : hd.KT') (A : hd.AT) (TT : hq.TTf) (TG : hq.TGf) (N : Int) (c0 : Nat) (c1 : Nat) (c2 : Nat) : callB (KB KF A TT TG) (zs 0 c0) (zs 1 c1) (zs 2 c2) N 3 [none, none, none, none, none, none, none, none, none, none, none, none, none, none, none, none, F, none, none, T] = some (.bool true, (((True ∧ decide (N < 0) = false) ∧ decide (N > 64) = true) ∧ True)) := by kernel_rfl
end
end hw
end Go.Proofs.Ytgljibcokcgfbaa
