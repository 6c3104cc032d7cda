/- Read off the code by the clean reading. -/
import Derived.Test.YtmgelikgcfjhhaaGreatClnZa
set_option linter.unusedVariables false
set_option linter.unusedSimpArgs false
set_option linter.deprecated false
set_option maxRecDepth 100000
namespace Go.Proofs.YtmgelikgcfjhhaaGreat
open Go.ChangeShapes Go.WideShapes Go.ChangeAt Go.RowKit Go.Cln
namespace km
set_option linter.unusedVariables false
noncomputable section
namespace ks
def lbody : Code := loopB Tryz.prog 7 0
def ix (i : Int) : Nat := 0 + i.toNat * 1
def i1 (i : Int) : Int := IntKind.i64.wrap (i + 1)
def pL (M : List Int) (n : Nat) (i : Int) : Prop := ((((True ∧ decide (i < ((0 + n : Nat) : Int)) = true) ∧ (0 ≤ i ∧ i < ((0 + n : Nat) : Int))) ∧ ix i < M.length) ∧ (0 ≤ i ∧ i < ((0 + n : Nat) : Int))) ∧ ix i + 1 ≤ M.length
def oL : List (Option Bool) := [some true, some true, some true, some true, some true]
theorem ix_eq (i : Nat) : ix (i : Int) = i := by unfold ix; omega
theorem i1_eq {j : Nat} (h : j < 100000) : i1 (j : Int) = ((j + 1 : Nat) : Int) := by unfold i1; rw [IntKind.wrap_i64]; omega
theorem pL_of {M : List Int} {n j : Nat} (hM : M.length = n) (h : j < n) : pL M n (j : Int) := by
  unfold pL
  rw [ix_eq]
  exact ⟨⟨⟨⟨⟨trivial, by rw [decide_eq_true_eq]; omega⟩, by omega⟩, by omega⟩, by omega⟩, by omega⟩
def up (M : List Int) (i : Int) : List Int := M.set (ix i) (IntKind.u8.wrap (M.getD (ix i) 0 + 1))
def H (K M B : List Int) : Nat → Option Ob := fun i => match i with
  | 0 => ae.oI K
  | 3 => ae.oI M
  | 204 => some (.cells (.lit (B.map (Value.int .u8))) 91)
  | _ => none
def HZ (K B : List Int) : Nat → Option Ob := fun i => match i with
  | 0 => ae.oI K
  | 204 => some (.cells (.lit (B.map (Value.int .u8))) 91)
  | _ => none
def hd7 (n c : Nat) (i : Int) : List Value := [sl 0 none n c, undef, .bool false, sl 3 (some 1) (0 + n) (0 + n), sl 204 none 16 16, .int .i64 0, .int .i64 i] ++ J 4 ++ [undef] ++ J 3 ++ [.tuple #[sl 204 none 16 16, .int .i64 0]] ++ J 1 ++ [.tuple #[sl 204 none 16 16, .int .i64 0]] ++ J 5 ++ U 11
def E (K M B : List Int) (n c : Nat) : St := ⟨hd7 n c 0 ++ U 28, [], Tr.rebuild (H K M B) 205, 205, 1, [], fun _ => false, True, []⟩
def R (K M B : List Int) (n c : Nat) (i : Int) : St := ⟨hd7 n c i ++ (J 14 ++ U 14), [], Tr.rebuild (H K M B) 205, 205, 1, [], fun _ => false, True, []⟩
def Z (K B : List Int) (n c : Nat) (i : Int) : St := ⟨hd7 n c i ++ (J 14 ++ U 14), [], Tr.rebuild (HZ K B) 205, 205, 1, [], fun _ => false, True, []⟩
theorem kE (K M : List Int) (f : Nat → Int) (n c : Nat) (rd : Option Nat) : ((mk Tryz.prog Given.nothing 200).code 7 rd lbody { E K M (bs f) n c with obl := True, orc := oL }).map (fun r => (r.1, r.2.obl, seenIn r.2 (R K (up M 0) (bs f) n c (i1 0)) [])) = some (.normal, pL M n 0, seenAs (R K (up M 0) (bs f) n c (i1 0)) [] 205) := by kernel_rfl
theorem kR (K M : List Int) (f : Nat → Int) (n c : Nat) (i : Int) (rd : Option Nat) : ((mk Tryz.prog Given.nothing 200).code 7 rd lbody { R K M (bs f) n c i with obl := True, orc := oL }).map (fun r => (r.1, r.2.obl, seenIn r.2 (R K (up M i) (bs f) n c (i1 i)) [])) = some (.normal, pL M n i, seenAs (R K (up M i) (bs f) n c (i1 i)) [] 205) := by kernel_rfl
theorem kX (K M : List Int) (f : Nat → Int) (n c : Nat) (i : Int) (rd : Option Nat) : ((mk Tryz.prog Given.nothing 200).code 7 rd lbody { R K M (bs f) n c i with obl := True, orc := [some false] }).map (fun r => (r.1, r.2.obl, seenIn r.2 (Z K (bs f) n c i) [])) = some (.exit 0, True ∧ decide (i < ((0 + n : Nat) : Int)) = false, seenAs (Z K (bs f) n c i) [] 205) := by kernel_rfl
theorem sE (K M M0 : List Int) (f : Nat → Int) (n c : Nat) (rd : Option Nat) (hp : pL M n 0) : Step Tryz.prog rd (E K M0 (bs f) n c) lbody (E K M (bs f) n c) (fun e' t => e' = .normal ∧ t = R K (up M 0) (bs f) n c (i1 0)) :=
  Step.std ae.pg (GivenOk.nothing _) (kE K M f n c rd) hp (show 205 ≤ 205 by decide) (g := H K (up M 0) (bs f)) rfl (by kernel_rfl)
theorem sR (K M M0 : List Int) (f : Nat → Int) (n c : Nat) (i : Int) (rd : Option Nat) (hp : pL M n i) : Step Tryz.prog rd (E K M0 (bs f) n c) lbody (R K M (bs f) n c i) (fun e' t => e' = .normal ∧ t = R K (up M i) (bs f) n c (i1 i)) :=
  Step.std ae.pg (GivenOk.nothing _) (kR K M f n c i rd) hp (show 205 ≤ 205 by decide) (g := H K (up M i) (bs f)) rfl (by kernel_rfl)
theorem sX (K M M0 : List Int) (f : Nat → Int) (n c : Nat) (i : Int) (rd : Option Nat) (hp : True ∧ decide (i < ((0 + n : Nat) : Int)) = false) : Step Tryz.prog rd (E K M0 (bs f) n c) lbody (R K M (bs f) n c i) (fun e' t => e' = .exit 0 ∧ t = Z K (bs f) n c i) :=
  Step.std ae.pg (GivenOk.nothing _) (kX K M f n c i rd) hp (show 205 ≤ 205 by decide) (g := HZ K (bs f)) rfl (by kernel_rfl)
theorem loop (K M : List Int) (f : Nat → Int) (n c : Nat) (hM : M.length = n) (h0 : 0 < n) (hm : n ≤ 2000) (rd : Option Nat) : CodeOk Tryz.prog rd (.loop lbody) (E K M (bs f) n c) (.exit 0) (Z K (bs f) n c ((n : Nat) : Int)) := by
  refine CodeOk.of_step (Step.loop (fun g t => (g = n ∧ t = E K M (bs f) n c) ∨ ∃ (j : Nat) (M' : List Int), 1 ≤ j ∧ j ≤ n ∧ g = n - j ∧ M'.length = n ∧ t = R K M' (bs f) n c (j : Int)) ?_ n _ (.inl ⟨rfl, rfl⟩))
  rintro g t (⟨rfl, rfl⟩ | ⟨j, M', g1, g2, rfl, g3, rfl⟩)
  · refine (sE K M M f g c rd (pL_of (j := 0) hM h0)).mono ?_
    rintro e' t ⟨rfl, rfl⟩
    exact .inl ⟨rfl, g - 1, by omega, .inr ⟨1, up M 0, by omega, by omega, rfl, by unfold up; rw [List.length_set]; exact hM, by rw [show i1 0 = ((1 : Nat) : Int) from i1_eq (j := 0) (by omega)]⟩⟩
  · by_cases hj : j = n
    · subst hj
      refine (sX K M' M f j c (j : Int) rd ⟨trivial, by rw [decide_eq_false_iff_not]; omega⟩).mono ?_
      rintro e' t ⟨rfl, rfl⟩
      exact .inr ⟨(by intro x; cases x), rfl, rfl⟩
    · refine (sR K M' M f n c (j : Int) rd (pL_of g3 (by omega))).mono ?_
      rintro e' t ⟨rfl, rfl⟩
      exact .inl ⟨rfl, n - (j + 1), by omega, .inr ⟨j + 1, up M' (j : Int), by omega, by omega, rfl, by unfold up; rw [List.length_set]; exact g3, by rw [i1_eq (by omega)]⟩⟩
def ask7 (S1 : St) (f : FuncId) (c : Code) (S : St) : Option Ask2 := if f == 7 then some ⟨⟨[7, 8, 9, 10, 12, 13, 14, 15, 16, 17, 18, 19, 20, 21, 22], [], [], [1, 2, 4, 5]⟩, .exit 0, fun _ => S1⟩ else none
def KS (TG : GT) (S1 : St) : Given := Given.asking2 (KCw 21 TG) Tryz.prog (ask7 S1)
theorem KS_ok (TG : GT) (S1 : St) : GivenOk Tryz.prog (KS TG S1) := (KCw_ok known6 TG).asking2 (ask7 S1)
def tL (TG : GT) (K : List Int) (n : Nat) : Nat → Int := TG (wd Zr 0 16) (wd (List.take n K) 0 (0 + n))
def tR (TG : GT) (K : List Int) (n : Nat) : Nat → Int := TG (wd Zr 0 16) (wd K 0 n)
def SZ (TG : GT) (K : List Int) (n c : Nat) : St := Z K (bs (tL TG K n)) n c ((n : Nat) : Int)
def rL (TG : GT) (K : List Int) (n c : Nat) (o : List (Option Bool)) : Option (Value × St) := (mk Tryz.prog (KS TG (SZ TG K n c)) 300).call 7 [sl 0 none n c] (smSt 1 [ae.oI K] o)
def oS : List (Option Bool) := [none, none, some false, none, none, none, some false, some true, none, none, none, some false, some false, none, none, some true, none, none, none, some false, some false, none, none, some true, some true, some true, some true]
def pS (TG : GT) (K : List Int) (n c : Nat) : Prop := (((((((((((((((((True ∧ ((decide (300 < (nI n))) = false)) ∧ ((decide ((0 + n) ≤ 0)) = false)) ∧ (((0 + n) ≤ K.length) ∧ ((0 ≤ 0) ∧ ((((0 + n) * 1) ≤ mostBytes) ∧ ((0 + n) ≤ mostBytes))))) ∧ ((decide (0 < (nI (0 + n)))) = true)) ∧ ((!(decide ((nI (0 + n)) ≤ 80))) = false)) ∧ ((decide ((nI (0 + n)) = 16)) = false)) ∧ ((TG = ae.tagF) ∧ ((km.okA (wd Zr 0 16) (wd (List.take n K) 0 (0 + n)) (0 + n)) ∧ ((0 < (0 + n)) ∧ ((0 + n) ≤ (0 + n)))))) ∧ ((decide (1 ≤ (nI n))) = true)) ∧ ((!(decide ((nI n) ≤ 80))) = false)) ∧ (∀ rd, CodeOk Tryz.prog rd (.loop lbody) (E K (List.take n K) (bs (tL TG K n)) n c) (.exit 0) (SZ TG K n c))) ∧ ((decide ((nI n) = 16)) = false)) ∧ ((TG = ae.tagF) ∧ ((km.okA (wd Zr 0 16) (wd K 0 n) n) ∧ ((16 ≤ 16) ∧ (n ≤ c))))) ∧ ((beqB (bytesI (bs (tL TG K n))).toList (bytesI (bs (tR TG K n))).toList) = true)) ∧ ((beqB (bytesI (bs (tL TG K n))).toList (bytesI (bs (tR TG K n))).toList) = true)) ∧ ((beqB (bytesI (bs (tL TG K n))).toList (bytesI (bs (tR TG K n))).toList) = true)) ∧ ((beqB (bytesI (bs (tL TG K n))).toList (bytesI (bs (tR TG K n))).toList) = true)) ∧ True)
theorem runS (TG : GT) (K : List Int) (n c : Nat) : (rL TG K n c oS).map (fun r => (r.1, r.2.obl)) = some (.bool true, pS TG K n c) := by kernel_rfl
end ks
namespace k2
def lbody : Code := loopB Tryz.prog 7 0
def ix (i : Int) : Nat := 0 + i.toNat * 1
def i1 (i : Int) : Int := IntKind.i64.wrap (i + 1)
def pL (M : List Int) (n : Nat) (i : Int) : Prop := ((((True ∧ decide (i < ((0 + n : Nat) : Int)) = true) ∧ (0 ≤ i ∧ i < ((0 + n : Nat) : Int))) ∧ ix i < M.length) ∧ (0 ≤ i ∧ i < ((0 + n : Nat) : Int))) ∧ ix i + 1 ≤ M.length
def oL : List (Option Bool) := [some true, some true, some true, some true, some true]
theorem ix_eq (i : Nat) : ix (i : Int) = i := by unfold ix; omega
theorem i1_eq {j : Nat} (h : j < 100000) : i1 (j : Int) = ((j + 1 : Nat) : Int) := by unfold i1; rw [IntKind.wrap_i64]; omega
theorem pL_of {M : List Int} {n j : Nat} (hM : M.length = n) (h : j < n) : pL M n (j : Int) := by
  unfold pL
  rw [ix_eq]
  exact ⟨⟨⟨⟨⟨trivial, by rw [decide_eq_true_eq]; omega⟩, by omega⟩, by omega⟩, by omega⟩, by omega⟩
def up (M : List Int) (i : Int) : List Int := M.set (ix i) (IntKind.u8.wrap (M.getD (ix i) 0 + 1))
def H (K M B : List Int) : Nat → Option Ob := fun i => match i with
  | 0 => ae.oI K
  | 3 => ae.oI M
  | 5 => ae.oI B
  | _ => none
def HZ (K B : List Int) : Nat → Option Ob := fun i => match i with
  | 0 => ae.oI K
  | 5 => ae.oI B
  | _ => none
def hd7 (n c : Nat) (i : Int) : List Value := [sl 0 none n c, undef, .bool false, sl 3 (some 1) (0 + n) (0 + n), sl 5 (some 1) 16 16, .int .i64 0, .int .i64 i] ++ J 4 ++ [undef] ++ J 3 ++ [.tuple #[sl 5 (some 1) 16 16, .int .i64 0]] ++ J 1 ++ [.tuple #[sl 5 (some 1) 16 16, .int .i64 0]] ++ J 5 ++ U 11
def E (K M B : List Int) (n c : Nat) : St := ⟨hd7 n c 0 ++ U 28, [], Tr.rebuild (H K M B) 6, 6, 1, [], fun _ => false, True, []⟩
def R (K M B : List Int) (n c : Nat) (i : Int) : St := ⟨hd7 n c i ++ (J 14 ++ U 14), [], Tr.rebuild (H K M B) 6, 6, 1, [], fun _ => false, True, []⟩
def Z (K B : List Int) (n c : Nat) (i : Int) : St := ⟨hd7 n c i ++ (J 14 ++ U 14), [], Tr.rebuild (HZ K B) 6, 6, 1, [], fun _ => false, True, []⟩
theorem kE (K M : List Int) (f : List Int) (n c : Nat) (rd : Option Nat) : ((mk Tryz.prog Given.nothing 200).code 7 rd lbody { E K M f n c with obl := True, orc := oL }).map (fun r => (r.1, r.2.obl, seenIn r.2 (R K (up M 0) f n c (i1 0)) [])) = some (.normal, pL M n 0, seenAs (R K (up M 0) f n c (i1 0)) [] 6) := by kernel_rfl
theorem kR (K M : List Int) (f : List Int) (n c : Nat) (i : Int) (rd : Option Nat) : ((mk Tryz.prog Given.nothing 200).code 7 rd lbody { R K M f n c i with obl := True, orc := oL }).map (fun r => (r.1, r.2.obl, seenIn r.2 (R K (up M i) f n c (i1 i)) [])) = some (.normal, pL M n i, seenAs (R K (up M i) f n c (i1 i)) [] 6) := by kernel_rfl
theorem kX (K M : List Int) (f : List Int) (n c : Nat) (i : Int) (rd : Option Nat) : ((mk Tryz.prog Given.nothing 200).code 7 rd lbody { R K M f n c i with obl := True, orc := [some false] }).map (fun r => (r.1, r.2.obl, seenIn r.2 (Z K f n c i) [])) = some (.exit 0, True ∧ decide (i < ((0 + n : Nat) : Int)) = false, seenAs (Z K f n c i) [] 6) := by kernel_rfl
theorem sE (K M M0 : List Int) (f : List Int) (n c : Nat) (rd : Option Nat) (hp : pL M n 0) : Step Tryz.prog rd (E K M0 f n c) lbody (E K M f n c) (fun e' t => e' = .normal ∧ t = R K (up M 0) f n c (i1 0)) :=
  Step.std ae.pg (GivenOk.nothing _) (kE K M f n c rd) hp (show 6 ≤ 6 by decide) (g := H K (up M 0) f) rfl (by kernel_rfl)
theorem sR (K M M0 : List Int) (f : List Int) (n c : Nat) (i : Int) (rd : Option Nat) (hp : pL M n i) : Step Tryz.prog rd (E K M0 f n c) lbody (R K M f n c i) (fun e' t => e' = .normal ∧ t = R K (up M i) f n c (i1 i)) :=
  Step.std ae.pg (GivenOk.nothing _) (kR K M f n c i rd) hp (show 6 ≤ 6 by decide) (g := H K (up M i) f) rfl (by kernel_rfl)
theorem sX (K M M0 : List Int) (f : List Int) (n c : Nat) (i : Int) (rd : Option Nat) (hp : True ∧ decide (i < ((0 + n : Nat) : Int)) = false) : Step Tryz.prog rd (E K M0 f n c) lbody (R K M f n c i) (fun e' t => e' = .exit 0 ∧ t = Z K f n c i) :=
  Step.std ae.pg (GivenOk.nothing _) (kX K M f n c i rd) hp (show 6 ≤ 6 by decide) (g := HZ K f) rfl (by kernel_rfl)
theorem loop (K M : List Int) (f : List Int) (n c : Nat) (hM : M.length = n) (h0 : 0 < n) (hm : n ≤ 2000) (rd : Option Nat) : CodeOk Tryz.prog rd (.loop lbody) (E K M f n c) (.exit 0) (Z K f n c ((n : Nat) : Int)) := by
  refine CodeOk.of_step (Step.loop (fun g t => (g = n ∧ t = E K M f n c) ∨ ∃ (j : Nat) (M' : List Int), 1 ≤ j ∧ j ≤ n ∧ g = n - j ∧ M'.length = n ∧ t = R K M' f n c (j : Int)) ?_ n _ (.inl ⟨rfl, rfl⟩))
  rintro g t (⟨rfl, rfl⟩ | ⟨j, M', g1, g2, rfl, g3, rfl⟩)
  · refine (sE K M M f g c rd (pL_of (j := 0) hM h0)).mono ?_
    rintro e' t ⟨rfl, rfl⟩
    exact .inl ⟨rfl, g - 1, by omega, .inr ⟨1, up M 0, by omega, by omega, rfl, by unfold up; rw [List.length_set]; exact hM, by rw [show i1 0 = ((1 : Nat) : Int) from i1_eq (j := 0) (by omega)]⟩⟩
  · by_cases hj : j = n
    · subst hj
      refine (sX K M' M f j c (j : Int) rd ⟨trivial, by rw [decide_eq_false_iff_not]; omega⟩).mono ?_
      rintro e' t ⟨rfl, rfl⟩
      exact .inr ⟨(by intro x; cases x), rfl, rfl⟩
    · refine (sR K M' M f n c (j : Int) rd (pL_of g3 (by omega))).mono ?_
      rintro e' t ⟨rfl, rfl⟩
      exact .inl ⟨rfl, n - (j + 1), by omega, .inr ⟨j + 1, up M' (j : Int), by omega, by omega, rfl, by unfold up; rw [List.length_set]; exact g3, by rw [i1_eq (by omega)]⟩⟩
def ask7 (S1 : St) (f : FuncId) (c : Code) (S : St) : Option Ask2 := if f == 7 then some ⟨⟨[7, 8, 9, 10, 12, 13, 14, 15, 16, 17, 18, 19, 20, 21, 22], [], [], [1, 2, 4]⟩, .exit 0, fun _ => S1⟩ else none
def KS (TG : GT) (S1 : St) : Given := Given.asking2 (KCw 21 TG) Tryz.prog (ask7 S1)
theorem KS_ok (TG : GT) (S1 : St) : GivenOk Tryz.prog (KS TG S1) := (KCw_ok known6 TG).asking2 (ask7 S1)
def SZ (K : List Int) (c : Nat) : St := Z K (List.take 16 (List.take 16 K)) 16 c ((16 : Nat) : Int)
def rL (TG : GT) (K : List Int) (c : Nat) (o : List (Option Bool)) : Option (Value × St) := (mk Tryz.prog (KS TG (SZ K c)) 300).call 7 [sl 0 none 16 c] (smSt 1 [ae.oI K] o)
def oS : List (Option Bool) := [none, none, none, none, none, none, none, none, none, none, none, none, none, none, none, none, none, none, none, none, none, none, some true, some true, some true, some true]
def pS (K : List Int) (c : Nat) : Prop := (((((((((((True ∧ ((16 ≤ K.length) ∧ ((0 ≤ 0) ∧ ((16 ≤ mostBytes) ∧ (16 ≤ mostBytes))))) ∧ ((16 ≤ (List.take 16 K).length) ∧ ((0 ≤ 0) ∧ ((16 ≤ mostBytes) ∧ (16 ≤ mostBytes))))) ∧ (∀ rd, CodeOk Tryz.prog rd (.loop lbody) (E K (List.take 16 K) (List.take 16 (List.take 16 K)) 16 c) (.exit 0) (SZ K c))) ∧ (16 ≤ (List.take 16 (List.take 16 K)).length)) ∧ ((16 ≤ K.length) ∧ ((0 ≤ 0) ∧ ((16 ≤ mostBytes) ∧ (16 ≤ mostBytes))))) ∧ (16 ≤ (List.take 16 K).length)) ∧ ((beqB (bytesI (List.take 16 (List.take 16 (List.take 16 K)))).toList (bytesI (List.take 16 (List.take 16 K))).toList) = true)) ∧ ((beqB (bytesI (List.take 16 (List.take 16 (List.take 16 K)))).toList (bytesI (List.take 16 (List.take 16 K))).toList) = true)) ∧ ((beqB (bytesI (List.take 16 (List.take 16 (List.take 16 K)))).toList (bytesI (List.take 16 (List.take 16 K))).toList) = true)) ∧ ((beqB (bytesI (List.take 16 (List.take 16 (List.take 16 K)))).toList (bytesI (List.take 16 (List.take 16 K))).toList) = true)) ∧ True)
theorem runS (TG : GT) (K : List Int) (c : Nat) : (rL TG K c oS).map (fun r => (r.1, r.2.obl)) = some (.bool true, pS K c) := by kernel_rfl
end k2
noncomputable def oSn : List (Option Bool) := []
noncomputable def pSn (TG : GT) : Prop := (True ∧ True)
theorem runSn (TG : GT) : (rS TG (.slice none 0 0) [] oSn).map (fun r => (r.1, r.2.obl)) = some (.bool true, pSn TG) := by kernel_rfl
noncomputable def oSz : List (Option Bool) := []
noncomputable def pSz (TG : GT) (c : Nat) : Prop := (True ∧ True)
theorem runSz (TG : GT) (c : Nat) : (rS TG (sl 0 none 0 c) [none] oSz).map (fun r => (r.1, r.2.obl)) = some (.bool true, pSz TG c) := by kernel_rfl
noncomputable def oSl : List (Option Bool) := [none, none, some false, none, none, none, some false, some true, none, none, none, some true, some true, none, none, none, some true]
noncomputable def pSl (TG : GT) (K : List Int) (n : Nat) (c : Nat) : Prop := ((((((((True ∧ ((decide (300 < (nI n))) = false)) ∧ ((decide ((0 + n) ≤ 0)) = false)) ∧ (((0 + n) ≤ K.length) ∧ ((0 ≤ 0) ∧ ((((0 + n) * 1) ≤ mostBytes) ∧ ((0 + n) ≤ mostBytes))))) ∧ ((decide (0 < (nI (0 + n)))) = true)) ∧ ((!(decide ((nI (0 + n)) ≤ 80))) = true)) ∧ ((decide (1 ≤ (nI n))) = true)) ∧ ((!(decide ((nI n) ≤ 80))) = true)) ∧ True)
theorem runSl (TG : GT) (K : List Int) (n : Nat) (c : Nat) : (rS TG (sl 0 none n c) [ae.oI K] oSl).map (fun r => (r.1, r.2.obl)) = some (.bool true, pSl TG K n c) := by kernel_rfl
noncomputable def oSb : List (Option Bool) := [none, none, some true]
noncomputable def pSb (n : Nat) (c : Nat) : Prop := ((True ∧ ((decide (300 < (nI n))) = true)) ∧ True)
theorem runSb (n : Nat) (c : Nat) : (rS0 (sl 0 none n c) [none] oSb).map (fun r => (r.1, r.2.obl)) = some (.bool true, pSb n c) := by kernel_rfl
theorem nD {n k : Nat} (h : n ≤ k) : (!(decide ((n : Int) ≤ (k : Int)))) = false := by rw [decide_eq_true (by omega)]; rfl
theorem nD' {n k : Nat} (h : k < n) : (!(decide ((n : Int) ≤ (k : Int)))) = true := by rw [decide_eq_false (by omega)]; rfl
theorem pSl_ok {K : List Int} {n c : Nat} (hK : K.length = n) (p0 : 80 < n) (p1 : n ≤ 300) : pSl ae.tagF K n c := by
  unfold pSl
  simp only [Nat.zero_add, Nat.mul_one, nI, nD' (n := n) (k := 80) p0, show ((80 : Nat) : Int) = 80 from rfl, decide_true, and_true, true_and]
  repeat' apply And.intro
  all_goals first | trivial | assumption | rfl | (unfold mostBytes; omega) | (simp only [decide_eq_true_eq, decide_eq_false_iff_not]; omega) | exact nB rfl | exact yB rfl | exact iE ‹_› | exact iF ‹_› | exact nE ‹_› | exact wrI ‹_› | exact nD' p0 | omega
theorem k2_ok {K : List Int} {c : Nat} (hK : K.length = 16) : k2.pS K c := by
  have hl : ∀ rd, CodeOk Tryz.prog rd (.loop k2.lbody) (k2.E K (List.take 16 K) (List.take 16 (List.take 16 K)) 16 c) (.exit 0) (k2.SZ K c) := fun rd => k2.loop K _ _ 16 c (by rw [tkM hK]; exact hK) (by omega) (by omega) rd
  unfold k2.pS
  generalize hQ : (∀ rd, CodeOk Tryz.prog rd (.loop k2.lbody) (k2.E K (List.take 16 K) (List.take 16 (List.take 16 K)) 16 c) (.exit 0) (k2.SZ K c)) = Q at hl
  simp only [Nat.zero_add, Nat.mul_one, nI, tkM hK, decide_true, and_true, true_and]
  repeat' apply And.intro
  all_goals first | trivial | assumption | rfl | (unfold mostBytes; omega) | (simp only [decide_eq_true_eq, decide_eq_false_iff_not]; omega) | exact nB rfl | exact yB rfl | exact iE ‹_› | exact iF ‹_› | exact nE ‹_› | exact wrI ‹_› | omega
theorem ks_ok {K : List Int} {n c : Nat} (bK : ∀ x ∈ K, 0 ≤ x ∧ x < 256) (hK : K.length = n) (p0 : 0 < n) (p1 : n ≤ 80) (h16 : n ≠ 16) (hc : n ≤ c) : ks.pS ae.tagF K n c := by
  have hl : ∀ rd, CodeOk Tryz.prog rd (.loop ks.lbody) (ks.E K (List.take n K) (bs (ks.tL ae.tagF K n)) n c) (.exit 0) (ks.SZ ae.tagF K n c) := fun rd => ks.loop K _ _ n c (by rw [tkM hK]; exact hK) p0 (by omega) rd
  unfold ks.pS
  generalize hQ : (∀ rd, CodeOk Tryz.prog rd (.loop ks.lbody) (ks.E K (List.take n K) (bs (ks.tL ae.tagF K n)) n c) (.exit 0) (ks.SZ ae.tagF K n c)) = Q at hl
  have eLR : ks.tL ae.tagF K n = ks.tR ae.tagF K n := by
    unfold ks.tL ks.tR
    rw [Nat.zero_add, tkM hK]
  rw [eLR]
  have hZ : ae.OkK (wd Zr 0 16) := by rw [wdM (by simp [Zr])]; exact Zr_ok
  have hA : okA (wd Zr 0 16) K n := ⟨hZ, hK, by omega⟩
  have hZ2 := hZ.2
  simp only [Nat.zero_add, Nat.mul_one, nI, tkM hK, wdM hK, nE h16, nD (n := n) (k := 80) p1, show ((80 : Nat) : Int) = 80 from rfl, show ((16 : Nat) : Int) = 16 from rfl, decide_true, and_true, true_and]
  repeat' apply And.intro
  all_goals first | trivial | assumption | rfl | (unfold mostBytes; omega) | (simp only [decide_eq_true_eq, decide_eq_false_iff_not]; omega) | exact nB rfl | exact yB rfl | exact iE ‹_› | exact iF ‹_› | exact nE ‹_› | exact wrI ‹_› | exact nD p1 | exact hZ.1 | omega
theorem kdfSteps (W : World) (a0 : Option Addr) (n0 c0 : Nat) (s0 : (a0 = none ∧ n0 = 0 ∧ c0 = 0) ∨ ∃ b o, a0 = some ⟨b, o, none⟩ ∧ n0 ≤ c0 ∧ (c0 : Int) ≤ 9223372036854775807)
    (z0 : n0 = 0 ∨ ∃ (b o : Nat) (L : List Int), a0 = some ⟨b, o, none⟩ ∧ L.length = n0 ∧ (∀ x ∈ L, (Lit.int .u8 x).wf = true) ∧ HasCells W b o (L.map (Value.int .u8))) :
    Calls Tryz.prog 7 #[.slice a0 n0 c0] W fun e w' => e = .returned (.bool true) ∧ Below W.heap.size W w' := by
  rcases cameIn 300 s0 z0 with ⟨rfl, rfl, rfl⟩ | ⟨b0, o0, rfl, hc, _, rfl | ⟨p0, q0, K, l0, hK, bK, kK⟩ | g0⟩
  · exact ranG ae.pg (KCw_ok known6 ae.tagF) (ρ := pl ⟨0, 0, 0⟩ ⟨0, 0, 0⟩) (runSn ae.tagF) (by exact ⟨trivial, trivial⟩) rfl (start_hs (l := []) (orc := oSn) (by simp) ok0) (VL.cons (.same rfl) VL.nil)
  · exact ranG ae.pg (KCw_ok known6 ae.tagF) (ρ := pl ⟨b0, o0, 0⟩ ⟨0, 0, 0⟩) (runSz ae.tagF c0) (by exact ⟨trivial, trivial⟩) rfl (start_hs (l := [none]) (orc := oSz) (by simp) (ok1 trivial)) (VL.cons (vr_at (by simp) (len := 0) rfl hc) VL.nil)
  · rcases Nat.lt_or_ge 80 n0 with h80 | h80
    · exact ranG ae.pg (KCw_ok known6 ae.tagF) (ρ := pl ⟨b0, o0, l0⟩ ⟨0, 0, 0⟩) (runSl ae.tagF K n0 c0) (pSl_ok hK h80 q0) rfl (start_hs (l := [ae.oI K]) (orc := oSl) (by simp) (ok1 kK)) (VL.cons (vr_at (by simp) (len := l0) rfl hc) VL.nil)
    · by_cases h16 : n0 = 16
      · subst h16
        exact ranG ae.pg (k2.KS_ok ae.tagF _) (ρ := pl ⟨b0, o0, l0⟩ ⟨0, 0, 0⟩) (k2.runS ae.tagF K c0) (k2_ok hK) rfl (start_hs (l := [ae.oI K]) (orc := k2.oS) (by simp) (ok1 kK)) (VL.cons (vr_at (by simp) (len := l0) rfl hc) VL.nil)
      · exact ranG ae.pg (ks.KS_ok ae.tagF _) (ρ := pl ⟨b0, o0, l0⟩ ⟨0, 0, 0⟩) (ks.runS ae.tagF K n0 c0) (ks_ok bK hK p0 h80 h16 hc) rfl (start_hs (l := [ae.oI K]) (orc := ks.oS) (by simp) (ok1 kK)) (VL.cons (vr_at (by simp) (len := l0) rfl hc) VL.nil)
  · exact ranG ae.pg (GivenOk.frames (frames_fits (GivenOk.nothing _) true) (FW_ok (f0 := 21) known6)) (ρ := pl ⟨b0, o0, 0⟩ ⟨0, 0, 0⟩) (runSb n0 c0) ⟨⟨trivial, decide_eq_true (show 300 < (n0 : Int) by omega)⟩, trivial⟩ rfl (start_hs (l := [none]) (orc := oSb) (by simp) (ok1 trivial)) (VL.cons (vr_at (by simp) (len := 0) rfl hc) VL.nil)
end
end km
end Go.Proofs.YtmgelikgcfjhhaaGreat
