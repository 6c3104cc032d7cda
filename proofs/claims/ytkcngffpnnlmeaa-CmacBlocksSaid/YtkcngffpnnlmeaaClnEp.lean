/- Read off the code by the clean reading. -/
import Derived.Test.YtkcngffpnnlmeaaClnEo
set_option linter.unusedVariables false
set_option linter.unusedSimpArgs false
set_option linter.deprecated false
set_option maxRecDepth 100000
namespace Go.Proofs.Ytkcngffpnnlmeaa
open Go.ChangeShapes Go.WideShapes Go.ChangeAt Go.RowKit Go.Cln
namespace ae
set_option linter.unusedVariables false
noncomputable section
structure BT where
  fs : List Int → Nat → Int
  sn : List Int → Nat → Int
  ok : List Int → Prop
def BT0 : BT := ⟨fst, snd, OkK⟩
/-- Blocks, the document's Blocks, works told -/
def FB (T : BT) (f : FuncId) (args : List Value) (s : St) : Option Inst := if f == 9 then (match args with
  | [] => some (flI [] (.bool true) True)
  | _ => none) else if f == 10 || f == 12 then (match args with
  | [.slice (some ⟨b, o, none⟩) 16 c] => (match s.heap.get b with
    | some (.cells (.ints .u8 K) _) =>
      if f == 10 then some ⟨[(b, o)], 1, hK ((K.drop o).take 16), [.slice (some ⟨0, 0, none⟩) 16 c], .tuple #[row16 (T.fs ((K.drop o).take 16)), row16 (T.sn ((K.drop o).take 16)), .int .i64 0], hKn 93 ((K.drop o).take 16), T = BT0 ∧ T.ok ((K.drop o).take 16)⟩
      else some ⟨[(b, o)], 1, hK ((K.drop o).take 16), [.slice (some ⟨0, 0, none⟩) 16 c], .tuple #[row16 (T.fs ((K.drop o).take 16)), row16 (T.sn ((K.drop o).take 16))], hKn 73 ((K.drop o).take 16), T = BT0 ∧ T.ok ((K.drop o).take 16)⟩
    | _ => none)
  | _ => none) else none
theorem FB_ok (T : BT) (f : FuncId) (args : List Value) (s : St) (i : Inst) (h : FB T f args s = some i) : Fits s i args ∧ (i.ask → CallOk Try.prog f i.args i.s0 i.val i.s1) := by
  unfold FB at h
  split at h
  · rename_i hf
    have hf' : f = 9 := by simpa using hf
    subst hf'
    split at h
    · cases h
      exact flI_ok rfl rfl fun _ W => known W
    · cases h
  · split at h
    · rename_i hf
      have hf' : f = 10 ∨ f = 12 := by simpa using hf
      split at h
      · rename_i b o c
        split at h
        · rename_i K tb hb
          rcases hf' with rfl | rfl
          · cases h
            refine ⟨fit_win hb rfl rfl rfl rfl, fun hT => ?_⟩
            obtain ⟨rfl, hk⟩ := hT
            exact blocks_ok _ c hk
          · cases h
            refine ⟨fit_win hb rfl rfl rfl rfl, fun hT => ?_⟩
            obtain ⟨rfl, hk⟩ := hT
            exact rblocks_ok _ c hk
        · cases h
      · cases h
    · cases h
def KB (T : BT) : Given := Given.frames Given.nothing (FB T)
theorem KB_ok (T : BT) : GivenOk Try.prog (KB T) := (GivenOk.nothing _).frames (FB_ok T)
/-- without Blocks: for keys of another length -/
def K0 : Given := Given.calls (oneF 9 (.bool true))
theorem K0_ok : GivenOk Try.prog K0 := (CallsOk.one rfl known).given
def rL0 (x : Value) (h : List (Option Ob)) (o : List (Option Bool)) : Option (Value × St) := (mk Try.prog K0 300).call 3 [x] (smSt h.length h o)
def rL3 (T : BT) (x : Value) (h : List (Option Ob)) (o : List (Option Bool)) : Option (Value × St) := (mk Try.prog (KB T) 300).call 3 [x] (smSt h.length h o)
end
end ae
end Go.Proofs.Ytkcngffpnnlmeaa
namespace Go.Proofs.Ytkcngffpnnlmeaa
open Go.ChangeShapes Go.WideShapes Go.ChangeAt Go.RowKit Go.Cln
namespace ae
set_option linter.unusedVariables false
noncomputable section
noncomputable def oL3k : List (Option Bool) := [none, none, none, none, none, none, some true, some true, some true, some true, some true, some true, some true, some true, some true, some true, some true, some true, some true, some true, some true, some true, none, none, none, some true, some true, some true, some true, some true, some true, some true, some true, some true, some true, some true, some true, some true, some true, some true, some true]
noncomputable def pL3k (T : BT) (K : List Int) (c : Nat) : Prop := (((((((((((((((((((((((((((((((((((True ∧ ((T = BT0) ∧ (T.ok (List.take 16 K)))) ∧ ((T = BT0) ∧ (T.ok (List.take 16 K)))) ∧ ((decide ((T.fs (List.take 16 K) 0) = (T.fs (List.take 16 K) 0))) = true)) ∧ ((decide ((T.fs (List.take 16 K) 1) = (T.fs (List.take 16 K) 1))) = true)) ∧ ((decide ((T.fs (List.take 16 K) 2) = (T.fs (List.take 16 K) 2))) = true)) ∧ ((decide ((T.fs (List.take 16 K) 3) = (T.fs (List.take 16 K) 3))) = true)) ∧ ((decide ((T.fs (List.take 16 K) 4) = (T.fs (List.take 16 K) 4))) = true)) ∧ ((decide ((T.fs (List.take 16 K) 5) = (T.fs (List.take 16 K) 5))) = true)) ∧ ((decide ((T.fs (List.take 16 K) 6) = (T.fs (List.take 16 K) 6))) = true)) ∧ ((decide ((T.fs (List.take 16 K) 7) = (T.fs (List.take 16 K) 7))) = true)) ∧ ((decide ((T.fs (List.take 16 K) 8) = (T.fs (List.take 16 K) 8))) = true)) ∧ ((decide ((T.fs (List.take 16 K) 9) = (T.fs (List.take 16 K) 9))) = true)) ∧ ((decide ((T.fs (List.take 16 K) 10) = (T.fs (List.take 16 K) 10))) = true)) ∧ ((decide ((T.fs (List.take 16 K) 11) = (T.fs (List.take 16 K) 11))) = true)) ∧ ((decide ((T.fs (List.take 16 K) 12) = (T.fs (List.take 16 K) 12))) = true)) ∧ ((decide ((T.fs (List.take 16 K) 13) = (T.fs (List.take 16 K) 13))) = true)) ∧ ((decide ((T.fs (List.take 16 K) 14) = (T.fs (List.take 16 K) 14))) = true)) ∧ ((decide ((T.fs (List.take 16 K) 15) = (T.fs (List.take 16 K) 15))) = true)) ∧ ((decide ((T.sn (List.take 16 K) 0) = (T.sn (List.take 16 K) 0))) = true)) ∧ ((decide ((T.sn (List.take 16 K) 1) = (T.sn (List.take 16 K) 1))) = true)) ∧ ((decide ((T.sn (List.take 16 K) 2) = (T.sn (List.take 16 K) 2))) = true)) ∧ ((decide ((T.sn (List.take 16 K) 3) = (T.sn (List.take 16 K) 3))) = true)) ∧ ((decide ((T.sn (List.take 16 K) 4) = (T.sn (List.take 16 K) 4))) = true)) ∧ ((decide ((T.sn (List.take 16 K) 5) = (T.sn (List.take 16 K) 5))) = true)) ∧ ((decide ((T.sn (List.take 16 K) 6) = (T.sn (List.take 16 K) 6))) = true)) ∧ ((decide ((T.sn (List.take 16 K) 7) = (T.sn (List.take 16 K) 7))) = true)) ∧ ((decide ((T.sn (List.take 16 K) 8) = (T.sn (List.take 16 K) 8))) = true)) ∧ ((decide ((T.sn (List.take 16 K) 9) = (T.sn (List.take 16 K) 9))) = true)) ∧ ((decide ((T.sn (List.take 16 K) 10) = (T.sn (List.take 16 K) 10))) = true)) ∧ ((decide ((T.sn (List.take 16 K) 11) = (T.sn (List.take 16 K) 11))) = true)) ∧ ((decide ((T.sn (List.take 16 K) 12) = (T.sn (List.take 16 K) 12))) = true)) ∧ ((decide ((T.sn (List.take 16 K) 13) = (T.sn (List.take 16 K) 13))) = true)) ∧ ((decide ((T.sn (List.take 16 K) 14) = (T.sn (List.take 16 K) 14))) = true)) ∧ ((decide ((T.sn (List.take 16 K) 15) = (T.sn (List.take 16 K) 15))) = true)) ∧ True)
theorem runL3k (T : BT) (K : List Int) (c : Nat) : (rL3 T (.slice (some ⟨0, 0, none⟩) 16 c) (hK K) oL3k).map (fun r => (r.1, r.2.obl)) = some (.bool true, pL3k T K c) := by kernel_rfl
noncomputable def oL3o : List (Option Bool) := [none, none, some false, none, none, some true, none, some true]
noncomputable def pL3o (n : Nat) (c : Nat) : Prop := (((True ∧ ((decide (200 < (nI n))) = false)) ∧ ((!((nI n) == 16)) = true)) ∧ ((!((nI n) == 16)) = true))
theorem runL3o (n : Nat) (c : Nat) : (rL0 (.slice (some ⟨0, 0, none⟩) n c) [none] oL3o).map (fun r => (r.1, r.2.obl)) = some (.bool true, pL3o n c) := by kernel_rfl
noncomputable def oL3b : List (Option Bool) := [none, none, some true]
noncomputable def pL3b (n : Nat) (c : Nat) : Prop := (True ∧ ((decide (200 < (nI n))) = true))
theorem runL3b (n : Nat) (c : Nat) : (rL0 (.slice (some ⟨0, 0, none⟩) n c) [none] oL3b).map (fun r => (r.1, r.2.obl)) = some (.bool true, pL3b n c) := by kernel_rfl
noncomputable def oL3n : List (Option Bool) := []
noncomputable def pL3n (n : Nat) : Prop := True
theorem runL3n (n : Nat) : (rL0 (.slice none 0 0) [] oL3n).map (fun r => (r.1, r.2.obl)) = some (.bool true, pL3n n) := by kernel_rfl
theorem takeK {K : List Int} (h : K.length = 16) : List.take 16 K = K := List.take_of_length_le (by omega)
theorem key_in {K : List Int} (h : ∀ x ∈ K, 0 ≤ x ∧ x < 256) : B16 (keyOf K) := fun j _ => bx_in h j
theorem pL3k_ok {K : List Int} {c : Nat} (h : OkK K) : pL3k BT0 K c := by
  unfold pL3k
  rw [takeK h.1]
  generalize hf : BT0.fs K = F
  generalize hg : BT0.sn K = G
  have hk : BT0.ok K := h
  simp only [decide_true, and_true, true_and]
  exact ⟨hk, hk⟩
theorem pL3o_ok {n c : Nat} (h : n ≤ 200) (g : n ≠ 16) : pL3o n c := by
  unfold pL3o
  have e : ((nI n) == 16) = false := by
    rw [Bool.eq_false_iff]
    intro h
    have : (n : Int) = 16 := by simpa using h
    omega
  rw [e]
  simp only [decide_eq_false_iff_not, nI]
  refine ⟨⟨⟨?_, ?_⟩, ?_⟩, ?_⟩ <;> first | trivial | rfl | omega | skip
theorem pL3b_ok {n c : Nat} (h : 200 < n) : pL3b n c := by
  unfold pL3b
  simp only [decide_eq_true_eq, nI]
  exact ⟨trivial, by omega⟩
theorem cmacBlocks (W : World) (a0 : Option Addr) (n0 c0 : Nat) (s0 : (a0 = none ∧ n0 = 0 ∧ c0 = 0) ∨ ∃ b o, a0 = some ⟨b, o, none⟩ ∧ n0 ≤ c0 ∧ (c0 : Int) ≤ 9223372036854775807)
    (z0 : n0 = 0 ∨ ∃ (b o : Nat) (L : List Int), a0 = some ⟨b, o, none⟩ ∧ L.length = n0 ∧ (∀ x ∈ L, (Lit.int .u8 x).wf = true) ∧ HasCells W b o (L.map (Value.int .u8))) :
    Calls Try.prog 3 #[.slice a0 n0 c0] W fun e w' => e = .returned (.bool true) ∧ Below W.heap.size W w' := by
  have small : ∀ {b o n c : Nat}, n ≤ 200 → n ≠ 16 → n ≤ c → Calls Try.prog 3 #[.slice (some ⟨b, o, none⟩) n c] W fun e w' => e = .returned (.bool true) ∧ Below W.heap.size W w' := fun {b o n c} h1 h2 hc =>
    ranG pg K0_ok (ρ := pl ⟨b, o, 0⟩ ⟨0, 0, 0⟩) (runL3o n c) (pL3o_ok h1 h2) rfl (start_hs (l := [none]) (orc := oL3o) (by simp) (ok1 trivial)) (VL.cons (vr_at (by simp) (len := 0) rfl hc) VL.nil)
  rcases cameIn 200 s0 z0 with ⟨rfl, rfl, rfl⟩ | ⟨b0, o0, rfl, hc, _, rfl | ⟨p0, q0, K, l0, hK, bK, kK⟩ | g0⟩
  · exact ranG pg K0_ok (ρ := fun _ => ⟨0, 0, 0⟩) (runL3n 0) (by trivial) rfl (start_hs (l := []) (orc := oL3n) (by simp) ok0) (VL.cons (.same rfl) VL.nil)
  · exact small (by omega) (by omega) hc
  · by_cases h : n0 = 16
    · subst h
      exact ranG pg (KB_ok BT0) (ρ := pl ⟨b0, o0, l0⟩ ⟨0, 0, 0⟩) (runL3k BT0 K c0) (pL3k_ok ⟨hK, key_in bK⟩) rfl (start_hs (l := ae.hK K) (orc := oL3k) (by show 1 ≤ 1000000; decide) (ok1 kK)) (VL.cons (vr_at (by show 0 < 1; decide) (len := l0) rfl hc) VL.nil)
    · exact small q0 h hc
  · exact ranG pg K0_ok (ρ := pl ⟨b0, o0, 0⟩ ⟨0, 0, 0⟩) (runL3b n0 c0) (pL3b_ok g0) rfl (start_hs (l := [none]) (orc := oL3b) (by simp) (ok1 trivial)) (VL.cons (vr_at (by simp) (len := 0) rfl hc) VL.nil)
end
end ae
end Go.Proofs.Ytkcngffpnnlmeaa
