/- Read off the code by the clean reading. -/
import Derived.Test.YtpfmilkddapfiaaClnMa
import Derived.Test.YtpfmilkddapfiaaClnQd
set_option linter.unusedVariables false
set_option linter.unusedSimpArgs false
set_option linter.deprecated false
set_option maxRecDepth 100000
namespace Go.Proofs.Ytpfmilkddapfiaa
open Go.ChangeShapes Go.WideShapes Go.ChangeAt Go.RowKit Go.Cln
namespace ob
set_option linter.unusedVariables false
noncomputable section
def b11 : Code := ((Try.prog.funcs[11]?).bind (·.body)).getD .skip
def l11 : Code := loopB Try.prog 11 0
noncomputable def z11 (x : MX) (a : OV) : St := { smSt 1 [some (.fam x.F)] [] with tmps := [a.v] ++ List.replicate 28 undef, defers := [] }
noncomputable def gd11 (K : Given) (s : St) (o : List (Option Bool)) : Option (St × Code) := down (mk Try.prog K 200) 11 none [2, 2, 3, 2, 0] b11 { s with obl := True, orc := o }
theorem fn11 : (Try.prog.funcs[11]?).map (fun f => (f.body, f.results.toList, f.ntmps)) = some (some b11, [.cell 2 26], 29) := by kernel_rfl
def capR (K : Nat → Int) (Q M C : Nat → Nat) (i : Nat) : List Value := [.int .u8 (K i), PB_ (Q i) (M i) (C i)]
noncomputable def tm11 (v : VF) (a : OV) (i : Nat) : List Value := (a.v :: .pointer (some ⟨1, 0, none⟩) :: .pointer (some ⟨2, 0, none⟩) :: .slice (some ⟨3, 0, some 2⟩) a.n a.n :: .int .i64 (nI i) :: vs v 5 24 [])
theorem tm11_dead {v : VF} {a : OV} {i : Nat} {B : Nat → Bool} (h : ∀ i, DeadV (v i)) (hB : ∀ i, ((Nat.ble 0 i && Nat.ble i 4)) = true → B i = true) : deadT B 0 (tm11 v a i) :=
  dl (hB 0 rfl) (dl (hB 1 rfl) (dl (hB 2 rfl) (dl (hB 3 rfl) (dl (hB 4 rfl) (deadT_vs h 24 (trivial))))))
noncomputable def h11 (x : MX) (a : OV) (K : Nat → Int) (Q M C : Nat → Nat) : Nat → Option Ob := fun i => match i with
  | 0 => some (.fam x.F)
  | 1 => some (.cells (.lit a.l) 26)
  | 2 => some (.cells (.lit [.int .u32 0, .int .u16 0, .int .u32 0, .slice none 0 0]) 26)
  | 3 => some (.cells (.rows a.n 2 (capR K Q M C)) 53)
  | _ => none
noncomputable def s11 (x : MX) (a : OV) (K : Nat → Int) (Q M C : Nat → Nat) (i : Nat) (v : VF) : St := ⟨tm11 v a i, [], Tr.rebuild (h11 x a K Q M C) 4, 4, 1, [], fun _ => false, True, []⟩
noncomputable def go11 (K : Given) (c : Code) (s : St) (o : List (Option Bool)) : Option (Exit × St) := (mk Try.prog K 200).code 11 none c { s with obl := True, orc := o }
def WD11 (i : Nat) : Bool := (Nat.ble 5 i && Nat.ble i 8)
noncomputable def VD11 (v : VF) : VF := fun i => match WD11 i with
  | true => junk
  | false => v i
def BD11 (i : Nat) : Bool := ((Nat.ble 0 i && Nat.ble i 4)) || WD11 i
theorem VD11_dead {v : VF} (h : ∀ i, DeadV (v i)) (i : Nat) : DeadV (VD11 v i) := jD (W := WD11) h i
theorem lvD11 (i : Nat) (h : ((Nat.ble 0 i && Nat.ble i 4)) = true) : BD11 i = true := jl h
def WR11 (i : Nat) : Bool := (Nat.ble 9 i && Nat.ble i 25)
noncomputable def VR11 (v : VF) : VF := fun i => match WR11 i with
  | true => junk
  | false => v i
def BR11 (i : Nat) : Bool := ((Nat.ble 0 i && Nat.ble i 4)) || WR11 i
theorem VR11_dead {v : VF} (h : ∀ i, DeadV (v i)) (i : Nat) : DeadV (VR11 v i) := jD (W := WR11) h i
theorem lvR11 (i : Nat) (h : ((Nat.ble 0 i && Nat.ble i 4)) = true) : BR11 i = true := jl h
def WX11 (i : Nat) : Bool := (Nat.ble 9 i && Nat.ble i 12)
noncomputable def VX11 (v : VF) : VF := fun i => match WX11 i with
  | true => junk
  | false => v i
def BX11 (i : Nat) : Bool := ((Nat.ble 0 i && Nat.ble i 4)) || WX11 i
theorem VX11_dead {v : VF} (h : ∀ i, DeadV (v i)) (i : Nat) : DeadV (VX11 v i) := jD (W := WX11) h i
theorem lvX11 (i : Nat) (h : ((Nat.ble 0 i && Nat.ble i 4)) = true) : BX11 i = true := jl h
def MX.wD (x : MX) (D : Nat → List Int) : MX := { x with D := D }
def MX.putC (x : MX) (P n : Nat) (K : Nat → Int) (Q M C : Nat → Nat) : MX := { x with CN := updF x.CN P n, CK := updF x.CK P K, CQ := updF x.CQ P Q, CM := updF x.CM P M, CC := updF x.CC P C }
theorem putB_F (x : MX) (P : Nat) (L : List Int) : (x.wD (updF x.D P L)).F = famPutS x.F (fun g => Nat.beq g 1000) P (.ints .u8 L) := by
  funext g B
  unfold famPutS MX.F MX.wD updF
  dsimp only
  cases Nat.beq g 1000 <;> cases Nat.beq B P <;> rfl
theorem putC_F (x : MX) (P n : Nat) (K : Nat → Int) (Q M C : Nat → Nat) : (x.putC P n K Q M C).F = famPutS x.F (fun g => !Nat.beq g 1000) P (.rows n 2 (capR K Q M C)) := by
  funext g B
  unfold famPutS MX.F MX.putC MX.cap updF
  dsimp only
  cases Nat.beq g 1000 <;> cases Nat.beq B P <;> rfl
def e11 : Code := dropC 3 b11
def r6c : Code := match e11 with | .seq x _ => x | x => x
def e11b : Code := dropC 1 e11
theorem e11_eq : e11 = .seq r6c e11b := by kernel_rfl
theorem up11 (x : MX) (a : OV) (ρ0 : Nat → PB) (w0 : World) (Q_ : Exit → St → Prop) : upW Try.prog none (z11 x a) ρ0 w0 [2, 2, 3, 2, 0] b11 Q_ = fun e s => (fun e s => (e = .normal ∧ StepW Try.prog none (z11 x a) ρ0 w0 e11 s Q_) ∨ (e ≠ .normal ∧ Q_ e s)) (blockOut 0 e) s := by kernel_rfl
theorem capR_in {K : Nat → Int} {Q M C : Nat → Nat} {i : Nat} {v : Value} (hv : v ∈ capR K Q M C i) : (∀ σ, ren σ v = v) ∧ ∀ s : St, okB s 0 = true → okV s v = true := by
  simp only [capR, List.mem_cons, List.not_mem_nil, or_false] at hv
  rcases hv with rfl | rfl
  · exact ⟨fun _ => rfl, fun _ _ => rfl⟩
  · exact ⟨fun _ => rfl, fun _ h => h⟩
theorem h11_ok (x : MX) (a : OV) (K : Nat → Int) (Q M C : Nat → Nat) : Go.Cln.RowsIn (h11 x a K Q M C) := by
  intro b n' w' g' t h
  unfold h11 at h
  split at h
  · cases h
  · cases h
  · cases h
  · cases h; exact fun i v hv => capR_in hv
  · cases h
theorem kD11 (x : MX) (a : OV) : (gd11 KN (z11 x a) [some false]).map (fun r => (r.2, r.1.obl, seenInT BD11 r.1 (s11 x a (x.CK a.P) (x.CQ a.P) (x.CM a.P) (x.CC a.P) 0 (VD11 vU)) [0, 1, 2, 4])) = some (.loop l11, (True ∧ decide (a.n = 0) = false) ∧ (a.n ≤ x.CN a.P ∧ (∀ i, (x.cap a.P i).length = 2) ∧ a.n * 32 ≤ mostBytes ∧ a.n ≤ mostBytes), seenAsT BD11 (s11 x a (x.CK a.P) (x.CQ a.P) (x.CM a.P) (x.CC a.P) 0 (VD11 vU)) [0, 1, 2, 4] 5) := by kernel_rfl
noncomputable def Lf (x : MX) (Q M : Nat → Nat) (i : Nat) : List Int := (((x.D (Q (ix3 i))).drop 0).take (M (ix3 i)))
noncomputable def hbf (x : MX) (a : OV) (K : Nat → Int) (Q M C : Nat → Nat) (i : Nat) : Nat → Option Ob := fun j => match j with
  | 0 => some (.fam x.F)
  | 1 => some (.cells (.lit a.l) 26)
  | 2 => some (.cells (.lit [.int .u32 0, .int .u16 0, .int .u32 0, .slice none 0 0]) 26)
  | 3 => some (.cells (.rows a.n 2 (rowSet (capR K Q M C) (ix3 i) 1 [.slice (some ⟨5, 0, some 1⟩) (0 + M (ix3 i)) (0 + M (ix3 i))])) 53)
  | 4 => some (.cells (.lit []) 5)
  | 5 => some (.cells (.ints .u8 (Lf x Q M i)) 5)
  | _ => none
noncomputable def sbf (x : MX) (a : OV) (K : Nat → Int) (Q M C : Nat → Nat) (i : Nat) (v : VF) : St := ⟨tm11 v a (i + 1), [], Tr.rebuild (hbf x a K Q M C i) 6, 6, 1, [], fun _ => false, True, []⟩
noncomputable def hcf (x x' : MX) (a : OV) (K : Nat → Int) (Q M C : Nat → Nat) (i : Nat) : Nat → Option Ob := fun j => match j with
  | 0 => some (.fam x'.F)
  | 1 => some (.cells (.lit a.l) 26)
  | 2 => some (.cells (.lit [.int .u32 0, .int .u16 0, .int .u32 0, .slice none 0 0]) 26)
  | 3 => some (.cells (.rows a.n 2 (capR K Q M C)) 53)
  | 4 => some (.cells (.lit []) 5)
  | _ => none
noncomputable def scf (x x' : MX) (a : OV) (K : Nat → Int) (Q M C : Nat → Nat) (i : Nat) (v : VF) : St := ⟨tm11 v a (i + 1), [], Tr.rebuild (hcf x x' a K Q M C i) 6, 6, 1, [], fun _ => false, True, []⟩
def pRf (x : MX) (a : OV) (Q M : Nat → Nat) (i : Nat) : Prop := ((((((((True ∧ decide (nI i < nI a.n) = true) ∧ (0 ≤ nI i ∧ nI i < nI a.n)) ∧ ((0 + i * 2 + 1) % 2 = 1 ∧ (0 + i * 2 + 1) / 2 < a.n)) ∧ decide (0 + M (ix3 i) ≤ 0) = false) ∧ ((M (ix3 i) = 0 ∨ 0 + M (ix3 i) ≤ (x.D (Q (ix3 i))).length) ∧ 0 + 0 ≤ 0 ∧ (0 + M (ix3 i)) * 1 ≤ mostBytes ∧ 0 + M (ix3 i) ≤ mostBytes)) ∧ (0 ≤ nI i ∧ nI i < nI a.n)) ∧ ((0 + i * 2 + 1) % 2 = 1 ∧ (0 + i * 2 + 1) / 2 < a.n)) ∧ IntKind.i64.wrap (nI i + 1) = nI i + 1)
theorem kRf (x : MX) (a : OV) (K : Nat → Int) (Q M C : Nat → Nat) (i : Nat) (v : VF) : (go11 KN l11 (s11 x a K Q M C i v) [some true, some true, some false, none, some true, some false, some true, some false, none, some true, some true]).map (fun r => (r.1, r.2.obl, seenInT BR11 r.2 (sbf x a K Q M C i (VR11 v)) [0, 1, 2, 3, 4, 5])) = some (.normal, pRf x a Q M i, seenAsT BR11 (sbf x a K Q M C i (VR11 v)) [0, 1, 2, 3, 4, 5] 6) := by kernel_rfl
noncomputable def Lt (x : MX) (Q M : Nat → Nat) (i : Nat) : List Int := (layI [] (0 + 0) (((x.D (Q (ix3 i))).drop 0).take (M (ix3 i))))
noncomputable def hbt (x : MX) (a : OV) (K : Nat → Int) (Q M C : Nat → Nat) (i : Nat) : Nat → Option Ob := fun j => match j with
  | 0 => some (.fam x.F)
  | 1 => some (.cells (.lit a.l) 26)
  | 2 => some (.cells (.lit [.int .u32 0, .int .u16 0, .int .u32 0, .slice none 0 0]) 26)
  | 3 => some (.cells (.rows a.n 2 (rowSet (capR K Q M C) (ix3 i) 1 [.slice (some ⟨4, 0, none⟩) (0 + M (ix3 i)) 0])) 53)
  | 4 => some (.cells (.ints .u8 (Lt x Q M i)) 5)
  | _ => none
noncomputable def sbt (x : MX) (a : OV) (K : Nat → Int) (Q M C : Nat → Nat) (i : Nat) (v : VF) : St := ⟨tm11 v a (i + 1), [], Tr.rebuild (hbt x a K Q M C i) 5, 5, 1, [], fun _ => false, True, []⟩
noncomputable def hct (x x' : MX) (a : OV) (K : Nat → Int) (Q M C : Nat → Nat) (i : Nat) : Nat → Option Ob := fun j => match j with
  | 0 => some (.fam x'.F)
  | 1 => some (.cells (.lit a.l) 26)
  | 2 => some (.cells (.lit [.int .u32 0, .int .u16 0, .int .u32 0, .slice none 0 0]) 26)
  | 3 => some (.cells (.rows a.n 2 (capR K Q M C)) 53)
  | _ => none
noncomputable def sct (x x' : MX) (a : OV) (K : Nat → Int) (Q M C : Nat → Nat) (i : Nat) (v : VF) : St := ⟨tm11 v a (i + 1), [], Tr.rebuild (hct x x' a K Q M C i) 5, 5, 1, [], fun _ => false, True, []⟩
def pRt (x : MX) (a : OV) (Q M : Nat → Nat) (i : Nat) : Prop := ((((((((True ∧ decide (nI i < nI a.n) = true) ∧ (0 ≤ nI i ∧ nI i < nI a.n)) ∧ ((0 + i * 2 + 1) % 2 = 1 ∧ (0 + i * 2 + 1) / 2 < a.n)) ∧ decide (0 + M (ix3 i) ≤ 0) = true) ∧ ((M (ix3 i) = 0 ∨ 0 + M (ix3 i) ≤ (x.D (Q (ix3 i))).length) ∧ 0 + 0 + M (ix3 i) ≤ 0)) ∧ (0 ≤ nI i ∧ nI i < nI a.n)) ∧ ((0 + i * 2 + 1) % 2 = 1 ∧ (0 + i * 2 + 1) / 2 < a.n)) ∧ IntKind.i64.wrap (nI i + 1) = nI i + 1)
theorem kRt (x : MX) (a : OV) (K : Nat → Int) (Q M C : Nat → Nat) (i : Nat) (v : VF) : (go11 KN l11 (s11 x a K Q M C i v) [some true, some true, some false, none, some true, some true, some true, some false, none, some true, some true]).map (fun r => (r.1, r.2.obl, seenInT BR11 r.2 (sbt x a K Q M C i (VR11 v)) [0, 1, 2, 3, 4])) = some (.normal, pRt x a Q M i, seenAsT BR11 (sbt x a K Q M C i (VR11 v)) [0, 1, 2, 3, 4] 5) := by kernel_rfl
theorem kX11 (x : MX) (a : OV) (K : Nat → Int) (Q M C : Nat → Nat) (i : Nat) (v : VF) : (go11 KN l11 (s11 x a K Q M C i v) [some false]).map (fun r => (r.1, r.2.obl, seenInT BX11 r.2 (s11 x a K Q M C i (VX11 v)) [0, 1, 2, 3])) = some (.exit 0, True ∧ decide (nI i < nI a.n) = false, seenAsT BX11 (s11 x a K Q M C i (VX11 v)) [0, 1, 2, 3] 4) := by kernel_rfl
end
end ob
end Go.Proofs.Ytpfmilkddapfiaa
namespace Go.Proofs.Ytpfmilkddapfiaa
open Go.ChangeShapes Go.WideShapes Go.ChangeAt Go.RowKit Go.Cln
namespace ob
set_option linter.unusedVariables false
noncomputable section
theorem rowSet_at (g : Nat → List Value) (i c : Nat) (vs : List Value) : rowSet g i c vs i = putL (g i) c vs := by unfold rowSet; rw [Nat.beq_refl]
theorem rowSet_ne (g : Nat → List Value) {i j c : Nat} (vs : List Value) (h : j ≠ i) : rowSet g i c vs j = g j := by
  unfold rowSet
  split
  · rename_i e; exact absurd (Nat.eq_of_beq_eq_true e) h
  · rfl
theorem capR_put {n i P c' : Nat} {K : Nat → Int} {Q M C : Nat → Nat} {sl : Value} (k : Nat) (v : Value) (h : (Cells.rows n 2 (capR K (updF Q i P) M (updF C i c'))).get k = some v) : (k = i * 2 + 1 ∧ v = PB_ P (M i) c') ∨ (k ≠ i * 2 + 1 ∧ (Cells.rows n 2 (rowSet (capR K Q M C) i 1 [sl])).get k = some v) := by
  obtain ⟨h1, h2, h3⟩ := rows_inv (by decide) h
  by_cases e : k / 2 = i
  · subst e
    rcases Nat.mod_two_eq_zero_or_one k with h0 | h0
    · rw [h0] at h2
      refine .inr ⟨by omega, ?_⟩
      simp only [Cells.get]
      rw [if_pos h1, rowSet_at, h0]
      exact h2
    · rw [h0] at h2
      simp only [capR, updF_at, List.getElem?_cons_succ, List.getElem?_cons_zero, Option.some.injEq] at h2
      exact .inl ⟨by omega, h2.symm⟩
  · refine .inr ⟨by omega, ?_⟩
    simp only [Cells.get]
    rw [if_pos h1, rowSet_ne _ _ e]
    rw [show capR K (updF Q i P) M (updF C i c') (k / 2) = capR K Q M C (k / 2) by unfold capR; rw [updF_ne _ _ e, updF_ne _ _ e]] at h2
    exact h2
theorem capR_sl {n i : Nat} {K : Nat → Int} {Q M C : Nat → Nat} {sl : Value} (h : i < n) : (Cells.rows n 2 (rowSet (capR K Q M C) i 1 [sl])).get (i * 2 + 1) = some sl := by
  rw [rows_get h (by decide), rowSet_at]; rfl
theorem z11_base (x : MX) (a : OV) (b : Nat) (o : Ob) (h : (z11 x a).heap.get b = some o) : (z11 x a).may b = false := by
  obtain ⟨rfl, _⟩ := fam_get (orc := []) (show (smSt 1 [some (.fam x.F)] []).heap.get b = some o from h)
  rfl
theorem ints_fam {L : List Int} (k : Nat) (v : Value) (h : (Cells.ints .u8 L).get k = some v) : (Cells.ints .u8 L).get k = some v ∧ famV v = true := by
  refine ⟨h, ?_⟩
  simp only [Cells.get, Option.map_eq_some_iff] at h
  obtain ⟨y, _, rfl⟩ := h
  rfl
theorem hIf (x : MX) (a : OV) (K : Nat → Int) (Q M C : Nat → Nat) (i : Nat) (v : VF) (b n' w' : Nat) (g' : Nat → List Value) (t : TypeId) (h : hbf x a K Q M C i b = some (.cells (.rows n' w' g') t)) (j : Nat) (u : Value) (hu : u ∈ g' j) : ren (nm [0, 1, 2, 3, 4, 5]) u = u ∧ okV (sbf x a K Q M C i v) u = true := by
  unfold hbf at h
  split at h
  · cases h
  · cases h
  · cases h
  · cases h
    unfold rowSet at hu
    split at hu
    · simp only [capR, putL, List.set_cons_succ, List.set_cons_zero, List.mem_cons, List.not_mem_nil, or_false] at hu
      rcases hu with rfl | rfl
      · exact ⟨rfl, rfl⟩
      · exact ⟨rfl, by kernel_rfl⟩
    · exact ⟨(capR_in hu).1 _, (capR_in hu).2 _ (by kernel_rfl)⟩
  · cases h
  · cases h
  · cases h
theorem okRf (x : MX) (y : MX) (a : OV) (K : Nat → Int) (Q M C : Nat → Nat) (i : Nat) (v : VF) : picOkT BR11 (z11 x a) (sbf y a K Q M C i (VR11 v)) [0, 1, 2, 3, 4, 5] = true := by kernel_rfl
theorem tookf (x : MX) (a : OV) (K : Nat → Int) (Q M C : Nat → Nat) (i P c' : Nat) (v : VF) : TookS (sbf x a K Q M C i v) (scf x (x.wD (updF x.D P (Lf x Q M i))) a K (updF Q (ix3 i) P) M (updF C (ix3 i) c') i v) x.F (fun g => Nat.beq g 1000) 1000 5 3 (ix3 i * 2 + 1) (.ints .u8 (Lf x Q M i)) (.rows a.n 2 (rowSet (capR K Q M C) (ix3 i) 1 [.slice (some ⟨5, 0, some 1⟩) (0 + M (ix3 i)) (0 + M (ix3 i))])) 53 (0 + M (ix3 i)) P c' where
  next := rfl
  roB := rfl
  ro := rfl
  hid := rfl
  defers := rfl
  tmps := rfl
  zero := by
    rw [← putB_F]
    kernel_rfl
  gone := by kernel_rfl
  cell := ⟨.rows a.n 2 (capR K (updF Q (ix3 i) P) M (updF C (ix3 i) c')), by kernel_rfl, fun k u hu => by
    rw [Nat.zero_add]
    exact capR_put k u hu⟩
  rest := fun j h0 hb h3 => by
    unfold scf sbf
    rw [Tr.get_rebuild _ _ _ (by decide), Tr.get_rebuild _ _ _ (by decide)]
    split
    · rename_i hj
      rcases j with _ | _ | _ | _ | _ | _ | j
      · exact absurd rfl h0
      · rfl
      · rfl
      · exact absurd rfl h3
      · rfl
      · exact absurd rfl hb
      · omega
    · rfl
theorem vwf (x y : MX) (a : OV) (K : Nat → Int) (Q M C : Nat → Nat) (i : Nat) (v : VF) : seenInT BR11 (scf x y a K Q M C i (VR11 v)) (s11 y a K Q M C (i + 1) (VR11 v)) [0, 1, 2, 3] = seenAsT BR11 (s11 y a K Q M C (i + 1) (VR11 v)) [0, 1, 2, 3] 6 := by kernel_rfl
theorem hIt (x : MX) (a : OV) (K : Nat → Int) (Q M C : Nat → Nat) (i : Nat) (v : VF) (b n' w' : Nat) (g' : Nat → List Value) (t : TypeId) (h : hbt x a K Q M C i b = some (.cells (.rows n' w' g') t)) (j : Nat) (u : Value) (hu : u ∈ g' j) : ren (nm [0, 1, 2, 3, 4]) u = u ∧ okV (sbt x a K Q M C i v) u = true := by
  unfold hbt at h
  split at h
  · cases h
  · cases h
  · cases h
  · cases h
    unfold rowSet at hu
    split at hu
    · simp only [capR, putL, List.set_cons_succ, List.set_cons_zero, List.mem_cons, List.not_mem_nil, or_false] at hu
      rcases hu with rfl | rfl
      · exact ⟨rfl, rfl⟩
      · exact ⟨rfl, by kernel_rfl⟩
    · exact ⟨(capR_in hu).1 _, (capR_in hu).2 _ (by kernel_rfl)⟩
  · cases h
  · cases h
theorem okRt (x : MX) (y : MX) (a : OV) (K : Nat → Int) (Q M C : Nat → Nat) (i : Nat) (v : VF) : picOkT BR11 (z11 x a) (sbt y a K Q M C i (VR11 v)) [0, 1, 2, 3, 4] = true := by kernel_rfl
theorem tookt (x : MX) (a : OV) (K : Nat → Int) (Q M C : Nat → Nat) (i P c' : Nat) (v : VF) : TookS (sbt x a K Q M C i v) (sct x (x.wD (updF x.D P (Lt x Q M i))) a K (updF Q (ix3 i) P) M (updF C (ix3 i) c') i v) x.F (fun g => Nat.beq g 1000) 1000 4 3 (ix3 i * 2 + 1) (.ints .u8 (Lt x Q M i)) (.rows a.n 2 (rowSet (capR K Q M C) (ix3 i) 1 [.slice (some ⟨4, 0, none⟩) (0 + M (ix3 i)) 0])) 53 (0 + M (ix3 i)) P c' where
  next := rfl
  roB := rfl
  ro := rfl
  hid := rfl
  defers := rfl
  tmps := rfl
  zero := by
    rw [← putB_F]
    kernel_rfl
  gone := by kernel_rfl
  cell := ⟨.rows a.n 2 (capR K (updF Q (ix3 i) P) M (updF C (ix3 i) c')), by kernel_rfl, fun k u hu => by
    rw [Nat.zero_add]
    exact capR_put k u hu⟩
  rest := fun j h0 hb h3 => by
    unfold sct sbt
    rw [Tr.get_rebuild _ _ _ (by decide), Tr.get_rebuild _ _ _ (by decide)]
    split
    · rename_i hj
      rcases j with _ | _ | _ | _ | _ | j
      · exact absurd rfl h0
      · rfl
      · rfl
      · exact absurd rfl h3
      · exact absurd rfl hb
      · omega
    · rfl
theorem vwt (x y : MX) (a : OV) (K : Nat → Int) (Q M C : Nat → Nat) (i : Nat) (v : VF) : seenInT BR11 (sct x y a K Q M C i (VR11 v)) (s11 y a K Q M C (i + 1) (VR11 v)) [0, 1, 2, 3] = seenAsT BR11 (s11 y a K Q M C (i + 1) (VR11 v)) [0, 1, 2, 3] 5 := by kernel_rfl
theorem okD11 (x y : MX) (a : OV) (K : Nat → Int) (Q M C : Nat → Nat) (v : VF) : picOkT BD11 (z11 x a) (s11 y a K Q M C 0 (VD11 v)) [0, 1, 2, 4] = true := by kernel_rfl
theorem okR11 (x y : MX) (a : OV) (K : Nat → Int) (Q M C : Nat → Nat) (i : Nat) (v : VF) : picOkT BR11 (z11 x a) (s11 y a K Q M C i (VR11 v)) [0, 1, 2, 3] = true := by kernel_rfl
theorem okX11 (x y : MX) (a : OV) (K : Nat → Int) (Q M C : Nat → Nat) (i : Nat) (v : VF) : picOkT BX11 (z11 x a) (s11 y a K Q M C i (VX11 v)) [0, 1, 2, 3] = true := by kernel_rfl
end
end ob
end Go.Proofs.Ytpfmilkddapfiaa
namespace Go.Proofs.Ytpfmilkddapfiaa
open Go.ChangeShapes Go.WideShapes Go.ChangeAt Go.RowKit Go.Cln
namespace ob
set_option linter.unusedVariables false
noncomputable section
noncomputable def tm6q (v : VF) (a : OV) : List Value := (a.v :: .pointer (some ⟨1, 0, none⟩) :: .pointer (some ⟨2, 0, none⟩) :: vs v 3 26 [])
theorem tm6q_dead {v : VF} {a : OV} {B : Nat → Bool} (h : ∀ i, DeadV (v i)) (hB : ∀ i, ((Nat.ble 0 i && Nat.ble i 2)) = true → B i = true) : deadT B 0 (tm6q v a) :=
  dl (hB 0 rfl) (dl (hB 1 rfl) (dl (hB 2 rfl) (deadT_vs h 26 (trivial))))
def WR6q (i : Nat) : Bool := (Nat.ble 3 i && Nat.ble i 4) || (Nat.ble 26 i && Nat.ble i 27)
noncomputable def VR6q (v : VF) : VF := fun i => match WR6q i with
  | true => junk
  | false => v i
def BR6q (i : Nat) : Bool := ((Nat.ble 0 i && Nat.ble i 2)) || WR6q i
theorem VR6q_dead {v : VF} (h : ∀ i, DeadV (v i)) (i : Nat) : DeadV (VR6q v i) := jD (W := WR6q) h i
theorem lvR6q (i : Nat) (h : ((Nat.ble 0 i && Nat.ble i 2)) = true) : BR6q i = true := jl h
def WD6q (i : Nat) : Bool := (Nat.ble 3 i && Nat.ble i 12) || (Nat.ble 26 i && Nat.ble i 27)
noncomputable def VD6q (v : VF) : VF := fun i => match WD6q i with
  | true => junk
  | false => v i
def BD6q (i : Nat) : Bool := ((Nat.ble 0 i && Nat.ble i 2)) || WD6q i
theorem VD6q_dead {v : VF} (h : ∀ i, DeadV (v i)) (i : Nat) : DeadV (VD6q v i) := jD (W := WD6q) h i
theorem lvD6q (i : Nat) (h : ((Nat.ble 0 i && Nat.ble i 2)) = true) : BD6q i = true := jl h
theorem g0f (x : MX) (a : OV) (K : Nat → Int) (Q M C : Nat → Nat) (i : Nat) (v : VF) : (sbf x a K Q M C i v).heap.get 0 = some (.fam x.F) := by kernel_rfl
theorem gbf (x : MX) (a : OV) (K : Nat → Int) (Q M C : Nat → Nat) (i : Nat) (v : VF) : (sbf x a K Q M C i v).heap.get 5 = some (.cells (.ints .u8 (Lf x Q M i)) 5) := by kernel_rfl
theorem g3f (x : MX) (a : OV) (K : Nat → Int) (Q M C : Nat → Nat) (i : Nat) (v : VF) : (sbf x a K Q M C i v).heap.get 3 = some (.cells (.rows a.n 2 (rowSet (capR K Q M C) (ix3 i) 1 [.slice (some ⟨5, 0, some 1⟩) (0 + M (ix3 i)) (0 + M (ix3 i))])) 53) := by kernel_rfl
theorem g0t (x : MX) (a : OV) (K : Nat → Int) (Q M C : Nat → Nat) (i : Nat) (v : VF) : (sbt x a K Q M C i v).heap.get 0 = some (.fam x.F) := by kernel_rfl
theorem gbt (x : MX) (a : OV) (K : Nat → Int) (Q M C : Nat → Nat) (i : Nat) (v : VF) : (sbt x a K Q M C i v).heap.get 4 = some (.cells (.ints .u8 (Lt x Q M i)) 5) := by kernel_rfl
theorem g3t (x : MX) (a : OV) (K : Nat → Int) (Q M C : Nat → Nat) (i : Nat) (v : VF) : (sbt x a K Q M C i v).heap.get 3 = some (.cells (.rows a.n 2 (rowSet (capR K Q M C) (ix3 i) 1 [.slice (some ⟨4, 0, none⟩) (0 + M (ix3 i)) 0])) 53) := by kernel_rfl
theorem StepW.redrawE {P : Program} {rd : Option Nat} {s0 : St} {ρ0 : Nat → PB} {w0 : World} {c : Code} {s : St} {Q : Exit → St → Prop} (hp : ∀ (w : World) (a : Act), Hs s0 ρ0 w0 → PicG s0 ρ0 w0 s w a → ∃ s2, PicG s0 ρ0 w0 s2 w a ∧ StepW P rd s0 ρ0 w0 c s2 Q) : StepW P rd s0 ρ0 w0 c s Q := fun n w a R h1 h2 h3 h4 => let ⟨_, p, h⟩ := hp w a h2 h3; h n w a R h1 h2 p h4
structure LI (x : MX) (a : OV) (w0 : World) (D : Nat → List Int) (Q : Nat → Nat) : Prop where
  keep : Keeps x.F (x.wD D).F
  fresh : Fresh w0 x.F (x.wD D).F
  len : ∀ j, j < a.n → x.CM a.P j ≤ (D (Q j)).length
  eq : ∀ j, j < a.n → (D (Q j)).take (x.CM a.P j) = (x.D (x.CQ a.P j)).take (x.CM a.P j)
theorem keepD {x : MX} {D D2 : Nat → List Int} (h : Keeps (x.wD D).F (x.wD D2).F) {B : Nat} (hB : 0 < (D B).length) : D2 B = D B := by
  have e : Cells.ints .u8 (D2 B) = Cells.ints .u8 (D B) := h.ints (g := 1000) (B := B) (k := .u8) (L := D B) rfl hB
  exact (Cells.ints.inj e).2
theorem LI.step {x : MX} {a : OV} {w0 : World} {i : Nat} {D : Nat → List Int} {Q : Nat → Nat} {P : Nat} {L : List Int} (h : LI x a w0 D Q) (hi : i < a.n) (hL : L = (D (Q i)).take (x.CM a.P i)) (hP : w0.heap.size ≤ blkOf P)
    (hk : Keeps (x.wD D).F (famPutS (x.wD D).F (fun g => Nat.beq g 1000) P (.ints .u8 L))) : LI x a w0 (updF D P L) (updF Q i P) := by
  have eF : famPutS (x.wD D).F (fun g => Nat.beq g 1000) P (.ints .u8 L) = (x.wD (updF D P L)).F := (putB_F (x.wD D) P L).symm
  rw [eF] at hk
  have hl := h.len i hi
  have hLl : L.length = x.CM a.P i := by rw [hL, List.length_take]; omega
  refine ⟨h.keep.trans hk, ?_, fun j hj => ?_, fun j hj => ?_⟩
  · rw [← eF]; exact h.fresh.put hP
  · by_cases e : j = i
    · subst e; rw [updF_at, updF_at, hLl]; exact Nat.le_refl _
    · rw [updF_ne Q P e]
      have := h.len j hj
      rcases Nat.eq_zero_or_pos (x.CM a.P j) with h0 | h0
      · omega
      · rw [keepD hk (by omega)]; exact this
  · by_cases e : j = i
    · subst e; rw [updF_at, updF_at, List.take_of_length_le (by omega), hL]; exact h.eq j hj
    · rw [updF_ne Q P e]
      have := h.len j hj
      rcases Nat.eq_zero_or_pos (x.CM a.P j) with h0 | h0
      · rw [h0]; simp
      · rw [keepD hk (by omega)]; exact h.eq j hj
theorem Lf_eq (x : MX) (D : Nat → List Int) (Q M : Nat → Nat) (i : Nat) : Lf (x.wD D) Q M i = (D (Q i)).take (M i) := by
  unfold Lf; rw [ix3_eq, List.drop_zero]; rfl
theorem Lt_eq (x : MX) (D : Nat → List Int) (Q M : Nat → Nat) (i : Nat) (h : M i = 0) : Lt (x.wD D) Q M i = (D (Q i)).take (M i) := by
  unfold Lt; rw [ix3_eq, h]; rfl
theorem round11 {x : MX} {a : OV} {ρ0 : Nat → PB} {w0 : World} {i : Nat} {D : Nat → List Int} {Q C : Nat → Nat} {v : VF} (hO : capOk x a.P a.n) (hv : ∀ j, DeadV (v j)) (h : LI x a w0 D Q) (hi : i < a.n) :
    StepW Try.prog none (z11 x a) ρ0 w0 l11 (s11 (x.wD D) a (x.CK a.P) Q (x.CM a.P) C i v) (fun e s => e = .normal ∧ ∃ D' Q' C' v', LI x a w0 D' Q' ∧ (∀ j, DeadV (v' j)) ∧ s = s11 (x.wD D') a (x.CK a.P) Q' (x.CM a.P) C' (i + 1) v') := by
  obtain ⟨p1, p2, p3⟩ := hO
  have hm := (p3 i hi).2
  have hl := h.len i hi
  have e3 := ix3_eq i
  have hl3 : x.CM a.P (ix3 i) ≤ (D (Q (ix3 i))).length := by rw [e3]; exact hl
  have hm3 : x.CM a.P (ix3 i) ≤ 1000 := by rw [e3]; exact hm
  have hx : ix3 i < a.n := by rw [e3]; exact hi
  have w1 : IntKind.i64.wrap (nI i + 1) = nI i + 1 := by rw [IntKind.wrap_i64]; unfold nI; omega
  have c1 : decide (nI i < nI a.n) = true := decide_eq_true (by unfold nI; omega)
  have c2 : 0 ≤ nI i ∧ nI i < nI a.n := by unfold nI; omega
  have c3 : (0 + i * 2 + 1) % 2 = 1 ∧ (0 + i * 2 + 1) / 2 < a.n := by omega
  by_cases h0 : x.CM a.P (ix3 i) = 0
  · refine StepW.turn ((StepG.stdI pg KN_ok (kRt (x.wD D) a (x.CK a.P) Q (x.CM a.P) C i v) ?_ (show 1 ≤ 4 by decide) (tm11_dead (VR11_dead hv) lvR11) (fun b n' w' g' t hb j u hu => hIt (x.wD D) a (x.CK a.P) Q (x.CM a.P) C i (VR11 v) b n' w' g' t hb j u hu) rfl (okRt x (x.wD D) a (x.CK a.P) Q (x.CM a.P) C i v)).at ρ0 w0) ?_
    · exact ⟨⟨⟨⟨⟨⟨⟨⟨trivial, c1⟩, c2⟩, c3⟩, decide_eq_true (by omega)⟩, .inl h0, by omega⟩, c2⟩, c3⟩, w1⟩
    · rintro e s1 w a' ⟨rfl, rfl⟩ hs0 hp
      obtain ⟨P, c', hc, hP, hk, hp2⟩ := PicG.takeS (sg := 1000) (i := ix3 i * 2 + 1) (p := fun g => Nat.beq g 1000) (fun P c' => sct (x.wD D) ((x.wD D).wD (updF (x.wD D).D P (Lt (x.wD D) Q (x.CM a.P) i))) a (x.CK a.P) (updF Q (ix3 i) P) (x.CM a.P) (updF C (ix3 i) c') i (VR11 v)) hp (b := 4) (m := 3) (F := (x.wD D).F) (g0t (x.wD D) a _ Q _ C i _) (gbt (x.wD D) a _ Q _ C i _) ints_fam (g3t (x.wD D) a _ Q _ C i _) (capR_sl hx) (by decide) (by decide) (by decide) rfl rfl rfl rfl (z11_base x a) (fun P c' => tookt (x.wD D) a (x.CK a.P) Q (x.CM a.P) C i P c' (VR11 v))
      refine ⟨_, ⟨rfl, updF D P (Lt (x.wD D) Q (x.CM a.P) i), updF Q (ix3 i) P, updF C (ix3 i) c', VR11 v, ?_, VR11_dead hv, rfl⟩, PicG.stdT hs0 hp2 (vwt (x.wD D) _ a (x.CK a.P) (updF Q (ix3 i) P) (x.CM a.P) (updF C (ix3 i) c') i v) (tm11_dead (VR11_dead hv) lvR11) (h11_ok _ a _ _ _ _) rfl (okR11 x _ a _ _ _ _ _ v)⟩
      rw [e3]
      exact h.step hi (Lt_eq x D Q _ i (by rw [← e3]; exact h0)) hP hk
  · refine StepW.turn ((StepG.stdI pg KN_ok (kRf (x.wD D) a (x.CK a.P) Q (x.CM a.P) C i v) ?_ (show 1 ≤ 4 by decide) (tm11_dead (VR11_dead hv) lvR11) (fun b n' w' g' t hb j u hu => hIf (x.wD D) a (x.CK a.P) Q (x.CM a.P) C i (VR11 v) b n' w' g' t hb j u hu) rfl (okRf x (x.wD D) a (x.CK a.P) Q (x.CM a.P) C i v)).at ρ0 w0) ?_
    · exact ⟨⟨⟨⟨⟨⟨⟨⟨trivial, c1⟩, c2⟩, c3⟩, decide_eq_false (by omega)⟩, .inr (by show 0 + x.CM a.P (ix3 i) ≤ (D (Q (ix3 i))).length; omega), by omega, by unfold mostBytes; omega, by unfold mostBytes; omega⟩, c2⟩, c3⟩, w1⟩
    · rintro e s1 w a' ⟨rfl, rfl⟩ hs0 hp
      obtain ⟨P, c', hc, hP, hk, hp2⟩ := PicG.takeS (sg := 1000) (i := ix3 i * 2 + 1) (p := fun g => Nat.beq g 1000) (fun P c' => scf (x.wD D) ((x.wD D).wD (updF (x.wD D).D P (Lf (x.wD D) Q (x.CM a.P) i))) a (x.CK a.P) (updF Q (ix3 i) P) (x.CM a.P) (updF C (ix3 i) c') i (VR11 v)) hp (b := 5) (m := 3) (F := (x.wD D).F) (g0f (x.wD D) a _ Q _ C i _) (gbf (x.wD D) a _ Q _ C i _) ints_fam (g3f (x.wD D) a _ Q _ C i _) (capR_sl hx) (by decide) (by decide) (by decide) rfl rfl rfl rfl (z11_base x a) (fun P c' => tookf (x.wD D) a (x.CK a.P) Q (x.CM a.P) C i P c' (VR11 v))
      refine ⟨_, ⟨rfl, updF D P (Lf (x.wD D) Q (x.CM a.P) i), updF Q (ix3 i) P, updF C (ix3 i) c', VR11 v, ?_, VR11_dead hv, rfl⟩, PicG.stdT hs0 hp2 (vwf (x.wD D) _ a (x.CK a.P) (updF Q (ix3 i) P) (x.CM a.P) (updF C (ix3 i) c') i v) (tm11_dead (VR11_dead hv) lvR11) (h11_ok _ a _ _ _ _) rfl (okR11 x _ a _ _ _ _ _ v)⟩
      rw [e3]
      exact h.step hi (Lf_eq x D Q _ i) hP hk
end
end ob
end Go.Proofs.Ytpfmilkddapfiaa
namespace Go.Proofs.Ytpfmilkddapfiaa
open Go.ChangeShapes Go.WideShapes Go.ChangeAt Go.RowKit Go.Cln
namespace ob
set_option linter.unusedVariables false
noncomputable section
theorem mk_fn {P : Program} {F : Nat → Nat → Cells} {f : FuncId} {args : List Value} {body : Code} {l : List ResultVar} {NT : Nat} {R : (Nat → Nat → Cells) → Value → Prop} {s0 : St} (hs0 : s0 = { smSt 1 [some (.fam F)] [] with tmps := args ++ List.replicate (NT - args.length) undef, defers := [] })
    (hfn : (P.funcs[f]?).map (fun f => (f.body, f.results.toList, f.ntmps)) = some (some body, l, NT))
    (h : ∀ ρ0 w0, StepW P none s0 ρ0 w0 body s0 fun e s' => leaves? e = true ∧ s'.defers = [] ∧ ∃ F' q, s'.heap.get 0 = some (.fam F') ∧ Fresh w0 F F' ∧ results1 P s' l = some q ∧ q.2.obl ∧ farW (oneOf q.1) = true ∧ R F' (oneOf q.1)) : MkOk P F f args R := by
  cases hf : P.funcs[f]? with
  | none => rw [hf] at hfn; cases hfn
  | some fn =>
    rw [hf] at hfn
    simp only [Option.map_some, Option.some.injEq, Prod.mk.injEq] at hfn
    obtain ⟨h1, h2, h3⟩ := hfn
    subst h3
    subst hs0
    exact MkOk.ofW hf h1 h2 h
noncomputable def h6 (x : MX) (a : OV) (K : Nat → Int) (Q M C : Nat → Nat) : Nat → Option Ob := fun j => match j with
  | 0 => some (.fam x.F)
  | 1 => some (.cells (.lit [.int .u32 a.asn, .int .u16 a.hold, .int .u32 a.id, .slice (some ⟨3, 0, some 2⟩) a.n a.n]) 26)
  | 2 => some (.cells (.lit [.int .u32 0, .int .u16 0, .int .u32 0, .slice none 0 0]) 26)
  | 3 => some (.cells (.rows a.n 2 (capR K Q M C)) 53)
  | _ => none
noncomputable def s6 (x : MX) (a : OV) (K : Nat → Int) (Q M C : Nat → Nat) (v : VF) : St := ⟨tm6q v a, [], Tr.rebuild (h6 x a K Q M C) 4, 4, 1, [], fun _ => false, True, []⟩
theorem h6_ok (x : MX) (a : OV) (K : Nat → Int) (Q M C : Nat → Nat) : Go.Cln.RowsIn (h6 x a K Q M C) := by
  intro b n' w' g' t h
  unfold h6 at h
  split at h
  · cases h
  · cases h
  · cases h
  · cases h; exact fun i v hv => capR_in hv
  · cases h
noncomputable def h6z (x : MX) (a : OV) : Nat → Option Ob := fun j => match j with
  | 0 => some (.fam x.F)
  | 1 => some (.cells (.lit [.int .u32 a.asn, .int .u16 a.hold, .int .u32 a.id, .slice (some ⟨3, 0, none⟩) 0 0]) 26)
  | 2 => some (.cells (.lit [.int .u32 0, .int .u16 0, .int .u32 0, .slice none 0 0]) 26)
  | 3 => some (.cells (.lit []) 53)
  | _ => none
noncomputable def s6z (x : MX) (a : OV) (v : VF) : St := ⟨tm6q v a, [], Tr.rebuild (h6z x a) 4, 4, 1, [], fun _ => false, True, []⟩
theorem h6z_ok (x : MX) (a : OV) : Go.Cln.RowsIn (h6z x a) := by
  intro b n' w' g' t h
  unfold h6z at h
  split at h <;> cases h
noncomputable def h7 (x : MX) (a : OV) (P c : Nat) : Nat → Option Ob := fun j => match j with
  | 0 => some (.fam x.F)
  | 1 => some (.cells (.lit [.int .u32 a.asn, .int .u16 a.hold, .int .u32 a.id, PC P a.n c]) 26)
  | 2 => some (.cells (.lit [.int .u32 0, .int .u16 0, .int .u32 0, .slice none 0 0]) 26)
  | _ => none
noncomputable def s7 (x : MX) (a : OV) (P c : Nat) (v : VF) : St := ⟨tm6q v a, [], Tr.rebuild (h7 x a P c) 4, 4, 1, [], fun _ => false, True, []⟩
theorem kR6 (x : MX) (a : OV) (K : Nat → Int) (Q M C : Nat → Nat) (i : Nat) (v : VF) : (go11 KN r6c (s11 x a K Q M C i v) []).map (fun r => (r.1, r.2.obl, seenInT BR6q r.2 (s6 x a K Q M C (VR6q v)) [0, 1, 2, 3])) = some (.normal, True, seenAsT BR6q (s6 x a K Q M C (VR6q v)) [0, 1, 2, 3] 4) := by kernel_rfl
theorem ok6 (x y : MX) (a : OV) (K : Nat → Int) (Q M C : Nat → Nat) (v : VF) : picOkT BR6q (z11 x a) (s6 y a K Q M C (VR6q v)) [0, 1, 2, 3] = true := by kernel_rfl
noncomputable def gdz (K : Given) (s : St) (o : List (Option Bool)) : Option (St × Code) := down (mk Try.prog K 200) 11 none [2, 2, 2, 2] b11 { s with obl := True, orc := o }
theorem kDz (x : MX) (a : OV) : (gdz KN (z11 x a) [some true]).map (fun r => (r.2, r.1.obl, seenInT BD6q r.1 (s6z x a (VD6q vU)) [0, 1, 2, 3])) = some (e11b, True ∧ decide (a.n = 0) = true, seenAsT BD6q (s6z x a (VD6q vU)) [0, 1, 2, 3] 4) := by kernel_rfl
theorem ok6z (x y : MX) (a : OV) (v : VF) : picOkT BD6q (z11 x a) (s6z y a (VD6q v)) [0, 1, 2, 3] = true := by kernel_rfl
theorem upz (x : MX) (a : OV) (ρ0 : Nat → PB) (w0 : World) (Q_ : Exit → St → Prop) : upW Try.prog none (z11 x a) ρ0 w0 [2, 2, 2, 2] b11 Q_ = Q_ := by kernel_rfl
theorem k7 (x : MX) (a : OV) (P c : Nat) (v : VF) : (go11 KN e11b (s7 x a P c v) []).bind (fun r => (results1 Try.prog r.2 [.cell 2 26]).map fun q => (r.1, q.2.obl, r.2.defers, oneOf q.1, r.2.heap.get 0)) = some (.ret, True, [], OV.v ⟨a.asn, a.hold, a.id, P, a.n, c⟩, some (.fam x.F)) := by kernel_rfl
theorem capR_fam {n : Nat} {K : Nat → Int} {Q M C : Nat → Nat} (k : Nat) (v : Value) (h : (Cells.rows n 2 (capR K Q M C)).get k = some v) : (Cells.rows n 2 (capR K Q M C)).get k = some v ∧ famV v = true := by
  refine ⟨h, ?_⟩
  obtain ⟨_, h2, _⟩ := rows_inv (by decide) h
  have hv := List.mem_of_getElem? h2
  simp only [capR, List.mem_cons, List.not_mem_nil, or_false] at hv
  rcases hv with rfl | rfl <;> rfl
theorem took6 (x : MX) (a : OV) (K : Nat → Int) (Q M C : Nat → Nat) (P c' : Nat) (v : VF) : TookS (s6 x a K Q M C v) (s7 (x.putC P a.n K Q M C) a P c' v) x.F (fun g => !Nat.beq g 1000) 1003 3 1 3 (.rows a.n 2 (capR K Q M C)) (.lit [.int .u32 a.asn, .int .u16 a.hold, .int .u32 a.id, .slice (some ⟨3, 0, some 2⟩) a.n a.n]) 26 a.n P c' where
  next := rfl
  roB := rfl
  ro := rfl
  hid := rfl
  defers := rfl
  tmps := rfl
  zero := by
    rw [← putC_F]
    kernel_rfl
  gone := by kernel_rfl
  cell := ⟨.lit [.int .u32 a.asn, .int .u16 a.hold, .int .u32 a.id, PC P a.n c'], by kernel_rfl, fun k u hu => by
    rcases k with _ | _ | _ | _ | k
    · exact .inr ⟨by decide, hu⟩
    · exact .inr ⟨by decide, hu⟩
    · exact .inr ⟨by decide, hu⟩
    · cases hu; exact .inl ⟨rfl, rfl⟩
    · cases hu⟩
  rest := fun j h0 hb h3 => by
    unfold s7 s6
    rw [Tr.get_rebuild _ _ _ (by decide), Tr.get_rebuild _ _ _ (by decide)]
    split
    · rename_i hj
      rcases j with _ | _ | _ | _ | j
      · exact absurd rfl h0
      · exact absurd rfl h3
      · rfl
      · exact absurd rfl hb
      · omega
    · rfl
theorem took6z (x : MX) (a : OV) (K : Nat → Int) (Q M C : Nat → Nat) (ha : a.n = 0) (P c' : Nat) (v : VF) : TookS (s6z x a v) (s7 (x.putC P a.n K Q M C) a P c' v) x.F (fun g => !Nat.beq g 1000) 1003 3 1 3 (.rows a.n 2 (capR K Q M C)) (.lit [.int .u32 a.asn, .int .u16 a.hold, .int .u32 a.id, .slice (some ⟨3, 0, none⟩) 0 0]) 26 0 P c' where
  next := rfl
  roB := rfl
  ro := rfl
  hid := rfl
  defers := rfl
  tmps := rfl
  zero := by
    rw [← putC_F]
    kernel_rfl
  gone := by kernel_rfl
  cell := ⟨.lit [.int .u32 a.asn, .int .u16 a.hold, .int .u32 a.id, PC P a.n c'], by kernel_rfl, fun k u hu => by
    rcases k with _ | _ | _ | _ | k
    · exact .inr ⟨by decide, hu⟩
    · exact .inr ⟨by decide, hu⟩
    · exact .inr ⟨by decide, hu⟩
    · cases hu; rw [ha]; exact .inl ⟨rfl, rfl⟩
    · cases hu⟩
  rest := fun j h0 hb h3 => by
    unfold s7 s6z
    rw [Tr.get_rebuild _ _ _ (by decide), Tr.get_rebuild _ _ _ (by decide)]
    split
    · rename_i hj
      rcases j with _ | _ | _ | _ | j
      · exact absurd rfl h0
      · exact absurd rfl h3
      · rfl
      · exact absurd rfl hb
      · omega
    · rfl
theorem g06 (x : MX) (a : OV) (K : Nat → Int) (Q M C : Nat → Nat) (v : VF) : (s6 x a K Q M C v).heap.get 0 = some (.fam x.F) := by kernel_rfl
theorem g16 (x : MX) (a : OV) (K : Nat → Int) (Q M C : Nat → Nat) (v : VF) : (s6 x a K Q M C v).heap.get 1 = some (.cells (.lit [.int .u32 a.asn, .int .u16 a.hold, .int .u32 a.id, .slice (some ⟨3, 0, some 2⟩) a.n a.n]) 26) := by kernel_rfl
theorem g36 (x : MX) (a : OV) (K : Nat → Int) (Q M C : Nat → Nat) (v : VF) : (s6 x a K Q M C v).heap.get 3 = some (.cells (.rows a.n 2 (capR K Q M C)) 53) := by kernel_rfl
theorem g06z (x : MX) (a : OV) (v : VF) : (s6z x a v).heap.get 0 = some (.fam x.F) := by kernel_rfl
theorem g16z (x : MX) (a : OV) (v : VF) : (s6z x a v).heap.get 1 = some (.cells (.lit [.int .u32 a.asn, .int .u16 a.hold, .int .u32 a.id, .slice (some ⟨3, 0, none⟩) 0 0]) 26) := by kernel_rfl
theorem g36z (x : MX) (a : OV) (v : VF) : (s6z x a v).heap.get 3 = some (.cells (.lit []) 53) := by kernel_rfl
structure SameCaps (x : MX) (P : Nat) (y : MX) (P' n : Nat) : Prop where
  cn : n ≤ y.CN P'
  k : ∀ j, j < n → y.CK P' j = x.CK P j
  m : ∀ j, j < n → y.CM P' j = x.CM P j
  len : ∀ j, j < n → y.CM P' j ≤ (y.D (y.CQ P' j)).length
  eq : ∀ j, j < n → (y.D (y.CQ P' j)).take (y.CM P' j) = (x.D (x.CQ P j)).take (x.CM P j)
def LentR (x : MX) (a : OV) (F' : Nat → Nat → Cells) (v : Value) : Prop := ∃ (y : MX) (P c : Nat), F' = y.F ∧ v = OV.v ⟨a.asn, a.hold, a.id, P, a.n, c⟩ ∧ Keeps x.F y.F ∧ SameCaps x a.P y P a.n
theorem putC_same {x : MX} {a : OV} {w0 : World} {D : Nat → List Int} {Q C : Nat → Nat} {P : Nat} (h : LI x a w0 D Q) : SameCaps x a.P ((x.wD D).putC P a.n (x.CK a.P) Q (x.CM a.P) C) P a.n := by
  have e1 : ((x.wD D).putC P a.n (x.CK a.P) Q (x.CM a.P) C).CQ P = Q := updF_at _ _ _
  have e2 : ((x.wD D).putC P a.n (x.CK a.P) Q (x.CM a.P) C).CM P = x.CM a.P := updF_at _ _ _
  have e3 : ((x.wD D).putC P a.n (x.CK a.P) Q (x.CM a.P) C).CK P = x.CK a.P := updF_at _ _ _
  have e4 : ((x.wD D).putC P a.n (x.CK a.P) Q (x.CM a.P) C).CN P = a.n := updF_at _ _ _
  refine ⟨by rw [e4]; exact Nat.le_refl _, fun j hj => by rw [e3], fun j hj => by rw [e2], fun j hj => ?_, fun j hj => ?_⟩
  · rw [e1, e2]; exact h.len j hj
  · rw [e1, e2]; exact h.eq j hj
theorem end7 {x y : MX} {a : OV} {ρ0 : Nat → PB} {w0 : World} {P c : Nat} {v : VF} (hf : Fresh w0 x.F y.F) (hR : LentR x a y.F (OV.v ⟨a.asn, a.hold, a.id, P, a.n, c⟩)) : StepW Try.prog none (z11 x a) ρ0 w0 e11b (s7 y a P c v) fun e s' => leaves? e = true ∧ s'.defers = [] ∧ ∃ F' q, s'.heap.get 0 = some (.fam F') ∧ Fresh w0 x.F F' ∧ results1 Try.prog s' [.cell 2 26] = some q ∧ q.2.obl ∧ farW (oneOf q.1) = true ∧ LentR x a F' (oneOf q.1) := by
  refine ((StepG.ranM (s0 := z11 x a) (rd := none) pg KN_ok (k7 y a P c v) trivial (show 1 ≤ 4 by decide)).at ρ0 w0).mono ?_
  rintro e s' ⟨rfl, h1, h2, q, h3, h4, h5⟩
  exact ⟨rfl, h1, _, q, h2, hf, h3, h4, by rw [h5]; rfl, by rw [h5]; exact hR⟩
theorem lent11 {x : MX} {a : OV} (hO : capOk x a.P a.n) : MkOk Try.prog x.F 11 [a.v] (LentR x a) := by
  refine mk_fn (s0 := z11 x a) rfl fn11 fun ρ0 w0 => ?_
  have hl0 : ∀ j, j < a.n → x.CM a.P j ≤ (x.D (x.CQ a.P j)).length := fun j hj => (hO.2.2 j hj).1
  have start : LI x a w0 x.D (x.CQ a.P) := ⟨Keeps.refl _, Fresh.refl _ _, hl0, fun _ _ => rfl⟩
  by_cases ha : a.n = 0
  · refine StepW.downs pg KN_ok (kDz x a) ⟨trivial, decide_eq_true ha⟩ (tm6q_dead (VD6q_dead vU_dead) lvD6q) (h6z_ok x a) rfl (ok6z x x a vU) ?_
    rw [upz]
    refine StepW.redrawE fun w a' hs0 hp => ?_
    obtain ⟨P, c', hc, hP, hk, hp2⟩ := PicG.takeS (c := .rows a.n 2 (capR (x.CK a.P) (x.CQ a.P) (x.CM a.P) (x.CC a.P))) (fun P c' => s7 (x.putC P a.n (x.CK a.P) (x.CQ a.P) (x.CM a.P) (x.CC a.P)) a P c' (VD6q vU)) hp (b := 3) (m := 1) (i := 3) (sg := 1003) (g06z x a _) (g36z x a _) (fun k u hu => by
      rw [ha] at hu
      simp only [Cells.get, Nat.not_lt_zero, if_false] at hu
      cases hu) (g16z x a _) rfl (by decide) (by decide) (by decide) rfl rfl rfl rfl (z11_base x a) (fun P c' => took6z x a _ _ _ _ ha P c' _)
    refine ⟨_, hp2, end7 ?_ ⟨_, P, c', rfl, rfl, ?_, putC_same (D := x.D) start⟩⟩
    · rw [putC_F]; exact (Fresh.refl _ _).put hP
    · rw [← putC_F] at hk; exact hk
  · refine StepW.downs pg KN_ok (kD11 x a) ⟨⟨trivial, decide_eq_false ha⟩, hO.1, fun _ => rfl, by have := hO.2.1; unfold mostBytes; omega, by have := hO.2.1; unfold mostBytes; omega⟩ (tm11_dead (VD11_dead vU_dead) lvD11) (h11_ok x a _ _ _ _) rfl (okD11 x x a _ _ _ _ vU) ?_
    rw [up11]
    refine StepW.mono (Q := fun e s => e = .exit 0 ∧ ∃ D Q C v, LI x a w0 D Q ∧ (∀ j, DeadV (v j)) ∧ s = s11 (x.wD D) a (x.CK a.P) Q (x.CM a.P) C a.n v) (StepW.loop (fun k s => ∃ i D Q C v, k = a.n - i ∧ i ≤ a.n ∧ LI x a w0 D Q ∧ (∀ j, DeadV (v j)) ∧ s = s11 (x.wD D) a (x.CK a.P) Q (x.CM a.P) C i v) (fun k s hI => ?_) a.n _ ⟨0, x.D, x.CQ a.P, x.CC a.P, VD11 vU, by omega, by omega, start, VD11_dead vU_dead, rfl⟩) ?_
    · obtain ⟨i, D, Q, C, v, rfl, hi, h, hv, rfl⟩ := hI
      rcases Nat.lt_or_ge i a.n with h1 | h1
      · refine (round11 hO hv h h1).mono ?_
        rintro e s ⟨rfl, D', Q', C', v', g1, g2, rfl⟩
        exact .inl ⟨rfl, a.n - (i + 1), by omega, i + 1, D', Q', C', v', rfl, by omega, g1, g2, rfl⟩
      · have hn : i = a.n := by omega
        subst hn
        refine ((StepG.stdT (s0 := z11 x a) (rd := none) pg KN_ok (kX11 (x.wD D) a (x.CK a.P) Q (x.CM a.P) C a.n v) ⟨trivial, decide_eq_false (by omega)⟩ (show 1 ≤ 4 by decide) (tm11_dead (VX11_dead hv) lvX11) (h11_ok _ a _ _ _ _) rfl (okX11 x _ a _ _ _ _ _ v)).at ρ0 w0).mono ?_
        rintro e s ⟨rfl, rfl⟩
        exact .inr ⟨(by intro h; cases h), rfl, D, Q, C, VX11 v, h, VX11_dead hv, rfl⟩
    · rintro e s ⟨rfl, D, Q, C, v, h, hv, rfl⟩
      refine .inl ⟨rfl, ?_⟩
      rw [e11_eq]
      refine StepW.seq (((StepG.stdT (s0 := z11 x a) (rd := none) pg KN_ok (kR6 (x.wD D) a (x.CK a.P) Q (x.CM a.P) C a.n v) trivial (show 1 ≤ 4 by decide) (tm6q_dead (VR6q_dead hv) lvR6q) (h6_ok _ a _ _ _ _) rfl (ok6 x _ a _ _ _ _ v)).at ρ0 w0).mono ?_)
      rintro e s ⟨rfl, rfl⟩
      refine .inl ⟨rfl, StepW.redrawE fun w a' hs0 hp => ?_⟩
      obtain ⟨P, c', hc, hP, hk, hp2⟩ := PicG.takeS (fun P c' => s7 ((x.wD D).putC P a.n (x.CK a.P) Q (x.CM a.P) C) a P c' (VR6q v)) hp (b := 3) (m := 1) (i := 3) (sg := 1003) (g06 _ a _ _ _ _ _) (g36 _ a _ _ _ _ _) capR_fam (g16 _ a _ _ _ _ _) rfl (by decide) (by decide) (by decide) rfl rfl rfl rfl (z11_base x a) (fun P c' => took6 (x.wD D) a _ _ _ _ P c' _)
      refine ⟨_, hp2, end7 ?_ ⟨_, P, c', rfl, rfl, ?_, putC_same h⟩⟩
      · rw [putC_F]; exact h.fresh.put hP
      · rw [← putC_F] at hk; exact h.keep.trans hk
end
end ob
end Go.Proofs.Ytpfmilkddapfiaa
