/- Read off the code by the clean reading. -/
import Derived.Test.YtpfmilkddapfiaaClnMi
import Derived.Test.YtpfmilkddapfiaaClnQd
set_option linter.unusedVariables false
set_option linter.unusedSimpArgs false
set_option linter.deprecated false
set_option maxRecDepth 100000
namespace Go.Proofs.Ytpfmilkddapfiaa
open Go.ChangeShapes Go.WideShapes Go.ChangeAt Go.RowKit Go.Cln
namespace ob
set_option linter.unusedVariables false
noncomputable section
def b25 : Code := ((Try.prog.funcs[25]?).bind (·.body)).getD .skip
theorem fn25 : (Try.prog.funcs[25]?).map (fun f => (f.body, f.results.toList, f.ntmps)) = some (some b25, [.tmp 2], 17) := by kernel_rfl
def e25 : Code := sndC b25
def o25 : Array Oper := opsC (fstC e25)
def f25 : Code := sndC e25
theorem b25_eq : b25 = .seq (fstC b25) (.seq (.region 1 o25 true) f25) := by kernel_rfl
noncomputable def z25 (x : MX) (a : OV) : St := { smSt 1 [some (.fam x.F)] [] with tmps := [a.v] ++ List.replicate 16 undef, defers := [] }
noncomputable def go25 (K : Given) (c : Code) (s : St) (o : List (Option Bool)) : Option (Exit × St) := (mk Try.prog K 300).code 25 none c { s with obl := True, orc := o }
noncomputable def rs25 (l : List Nat) (s : St) (o : List (Option Bool)) : Option St := runSeq Try.prog KN (mk Try.prog KN 200) o25 l { s with obl := True, orc := o }
theorem mixed : Try.prog.follows .mixedOrders = true := by decide +kernel
theorem all25 : allGo .any o25 o25.size (Array.replicate o25.size false) = [[0, 1, 2, 3, 4, 5, 6, 7], [0, 1, 3, 2, 4, 5, 6, 7], [0, 1, 3, 4, 2, 5, 6, 7], [0, 3, 1, 2, 4, 5, 6, 7], [0, 3, 1, 4, 2, 5, 6, 7], [0, 3, 4, 1, 2, 5, 6, 7], [3, 0, 1, 2, 4, 5, 6, 7], [3, 0, 1, 4, 2, 5, 6, 7], [3, 0, 4, 1, 2, 5, 6, 7], [3, 4, 0, 1, 2, 5, 6, 7]] := by decide +kernel
noncomputable def tm25s (v : VF) (a : OV) : List Value := (a.v :: .pointer (some ⟨1, 0, none⟩) :: vs v 2 15 [])
theorem tm25s_dead {v : VF} {a : OV} {B : Nat → Bool} (h : ∀ i, DeadV (v i)) (hB : ∀ i, ((Nat.ble 0 i && Nat.ble i 1)) = true → B i = true) : deadT B 0 (tm25s v a) :=
  dl (hB 0 rfl) (dl (hB 1 rfl) (deadT_vs h 15 (trivial)))
noncomputable def tm25A0 (v : VF) (a : OV) : List Value := (a.v :: .pointer (some ⟨1, 0, none⟩) :: v 2 :: v 3 :: a.v :: vs v 5 12 [])
theorem tm25A0_dead {v : VF} {a : OV} {B : Nat → Bool} (h : ∀ i, DeadV (v i)) (hB : ∀ i, ((Nat.ble 0 i && Nat.ble i 1) || Nat.beq i 4) = true → B i = true) : deadT B 0 (tm25A0 v a) :=
  dl (hB 0 rfl) (dl (hB 1 rfl) (dn (h 2) (dn (h 3) (dl (hB 4 rfl) (deadT_vs h 12 (trivial))))))
noncomputable def tm25A1 (v : VF) (a : OV) : List Value := (a.v :: .pointer (some ⟨1, 0, none⟩) :: v 2 :: v 3 :: a.v :: v 5 :: v 6 :: .pointer (some ⟨1, 3, none⟩) :: vs v 8 9 [])
theorem tm25A1_dead {v : VF} {a : OV} {B : Nat → Bool} (h : ∀ i, DeadV (v i)) (hB : ∀ i, ((Nat.ble 0 i && Nat.ble i 1) || Nat.beq i 4 || Nat.beq i 7) = true → B i = true) : deadT B 0 (tm25A1 v a) :=
  dl (hB 0 rfl) (dl (hB 1 rfl) (dn (h 2) (dn (h 3) (dl (hB 4 rfl) (dn (h 5) (dn (h 6) (dl (hB 7 rfl) (deadT_vs h 9 (trivial)))))))))
noncomputable def tm25A2 (v : VF) (a : OV) : List Value := (a.v :: .pointer (some ⟨1, 0, none⟩) :: v 2 :: v 3 :: a.v :: vs v 5 3 (PC a.P a.n a.c :: vs v 9 8 []))
theorem tm25A2_dead {v : VF} {a : OV} {B : Nat → Bool} (h : ∀ i, DeadV (v i)) (hB : ∀ i, ((Nat.ble 0 i && Nat.ble i 1) || Nat.beq i 4 || Nat.beq i 8) = true → B i = true) : deadT B 0 (tm25A2 v a) :=
  dl (hB 0 rfl) (dl (hB 1 rfl) (dn (h 2) (dn (h 3) (dl (hB 4 rfl) (deadT_vs h 3 (dl (hB 8 rfl) (deadT_vs h 8 (trivial))))))))
noncomputable def tm25B0 (v : VF) (a : OV) (P c : Nat) : List Value := (a.v :: .pointer (some ⟨1, 0, none⟩) :: v 2 :: v 3 :: a.v :: cv 65 P 4 c :: vs v 6 11 [])
noncomputable def tm25B1 (v : VF) (a : OV) (P c : Nat) : List Value := (a.v :: .pointer (some ⟨1, 0, none⟩) :: v 2 :: v 3 :: a.v :: cv 65 P 4 c :: v 6 :: .pointer (some ⟨1, 3, none⟩) :: vs v 8 9 [])
noncomputable def tm25B2 (v : VF) (a : OV) (P c : Nat) : List Value := (a.v :: .pointer (some ⟨1, 0, none⟩) :: v 2 :: v 3 :: a.v :: cv 65 P 4 c :: v 6 :: v 7 :: PC a.P a.n a.c :: vs v 9 8 [])
noncomputable def tm25C (v : VF) (a : OV) (u : Value) : List Value := (a.v :: .pointer (some ⟨1, 0, none⟩) :: vs v 2 4 (.slice (some ⟨2, 0, none⟩) 1 1 :: v 7 :: u :: vs v 9 8 []))
theorem tm25C_dead {v : VF} {a : OV} {u : Value} {B : Nat → Bool} (h : ∀ i, DeadV (v i)) (hB : ∀ i, ((Nat.ble 0 i && Nat.ble i 1) || Nat.beq i 6 || Nat.beq i 8) = true → B i = true) : deadT B 0 (tm25C v a u) :=
  dl (hB 0 rfl) (dl (hB 1 rfl) (deadT_vs h 4 (dl (hB 6 rfl) (dn (h 7) (dl (hB 8 rfl) (deadT_vs h 8 (trivial)))))))
noncomputable def tm25d (v : VF) (a : OV) (u : Value) : List Value := (a.v :: .pointer (some ⟨1, 0, none⟩) :: vs v 2 7 (u :: vs v 10 7 []))
theorem tm25d_dead {v : VF} {a : OV} {u : Value} {B : Nat → Bool} (h : ∀ i, DeadV (v i)) (hB : ∀ i, ((Nat.ble 0 i && Nat.ble i 1) || Nat.beq i 9) = true → B i = true) : deadT B 0 (tm25d v a u) :=
  dl (hB 0 rfl) (dl (hB 1 rfl) (deadT_vs h 7 (dl (hB 9 rfl) (deadT_vs h 7 (trivial)))))
noncomputable def tm25f (v : VF) (a : OV) (u w : Value) : List Value := (a.v :: .pointer (some ⟨1, 0, none⟩) :: vs v 2 7 (u :: w :: vs v 11 6 []))
noncomputable def tm25g (v : VF) (a : OV) (u : Value) : List Value := (a.v :: .pointer (some ⟨1, 0, none⟩) :: v 2 :: u :: vs v 4 13 [])
theorem tm25g_dead {v : VF} {a : OV} {u : Value} {B : Nat → Bool} (h : ∀ i, DeadV (v i)) (hB : ∀ i, ((Nat.ble 0 i && Nat.ble i 1) || Nat.beq i 3) = true → B i = true) : deadT B 0 (tm25g v a u) :=
  dl (hB 0 rfl) (dl (hB 1 rfl) (dn (h 2) (dl (hB 3 rfl) (deadT_vs h 13 (trivial)))))
noncomputable def tm25r (v : VF) (a : OV) (u : Value) : List Value := (a.v :: .pointer (some ⟨1, 0, none⟩) :: u :: vs v 3 14 [])
theorem tm25r_dead {v : VF} {a : OV} {u : Value} {B : Nat → Bool} (h : ∀ i, DeadV (v i)) (hB : ∀ i, ((Nat.ble 0 i && Nat.ble i 2)) = true → B i = true) : deadT B 0 (tm25r v a u) :=
  dl (hB 0 rfl) (dl (hB 1 rfl) (dl (hB 2 rfl) (deadT_vs h 14 (trivial))))
def WS25 (i : Nat) : Bool := Nat.beq i 2
noncomputable def VS25 (v : VF) : VF := fun i => match WS25 i with
  | true => junk
  | false => v i
def BS25 (i : Nat) : Bool := ((Nat.ble 0 i && Nat.ble i 1)) || WS25 i
theorem VS25_dead {v : VF} (h : ∀ i, DeadV (v i)) (i : Nat) : DeadV (VS25 v i) := jD (W := WS25) h i
theorem lvS25 (i : Nat) (h : ((Nat.ble 0 i && Nat.ble i 1)) = true) : BS25 i = true := jl h
def WN25 (i : Nat) : Bool := false
noncomputable def VN25 (v : VF) : VF := fun i => match WN25 i with
  | true => junk
  | false => v i
def BN25 (i : Nat) : Bool := ((Nat.ble 0 i && Nat.ble i 1) || Nat.beq i 4) || WN25 i
theorem VN25_dead {v : VF} (h : ∀ i, DeadV (v i)) (i : Nat) : DeadV (VN25 v i) := jD (W := WN25) h i
theorem lvN25 (i : Nat) (h : ((Nat.ble 0 i && Nat.ble i 1) || Nat.beq i 4) = true) : BN25 i = true := jl h
def WA225 (i : Nat) : Bool := Nat.beq i 7
noncomputable def VA225 (v : VF) : VF := fun i => match WA225 i with
  | true => junk
  | false => v i
def BA225 (i : Nat) : Bool := ((Nat.ble 0 i && Nat.ble i 1) || Nat.beq i 4 || Nat.beq i 8) || WA225 i
theorem VA225_dead {v : VF} (h : ∀ i, DeadV (v i)) (i : Nat) : DeadV (VA225 v i) := jD (W := WA225) h i
theorem lvA225 (i : Nat) (h : ((Nat.ble 0 i && Nat.ble i 1) || Nat.beq i 4 || Nat.beq i 8) = true) : BA225 i = true := jl h
def WC25 (i : Nat) : Bool := Nat.beq i 7
noncomputable def VC25 (v : VF) : VF := fun i => match Nat.beq i 4 with
  | true => .agg #[junk, junk, junk, junk]
  | false => match Nat.beq i 5 with
  | true => .agg #[junk, junk]
  | false => match WC25 i with
  | true => junk
  | false => v i
def BC25 (i : Nat) : Bool := ((Nat.ble 0 i && Nat.ble i 1) || Nat.beq i 6 || Nat.beq i 8) || WC25 i || Nat.beq i 4 || Nat.beq i 5
theorem VC25_dead {v : VF} (h : ∀ i, DeadV (v i)) (i : Nat) : DeadV (VC25 v i) := by
  unfold VC25
  split
  · exact ⟨rfl, fun _ => rfl, fun _ => rfl⟩
  split
  · exact ⟨rfl, fun _ => rfl, fun _ => rfl⟩
  split
  · exact DeadV.junk
  · exact h i
theorem lvC25 (i : Nat) (h : ((Nat.ble 0 i && Nat.ble i 1) || Nat.beq i 6 || Nat.beq i 8) = true) : BC25 i = true := jl (jl (jl h))
def WD25 (i : Nat) : Bool := false
noncomputable def VD25 (v : VF) : VF := fun i => match Nat.beq i 4 with
  | true => .agg #[junk, junk, junk, junk]
  | false => match Nat.beq i 5 with
  | true => .agg #[junk, junk]
  | false => match WD25 i with
  | true => junk
  | false => v i
def BD25 (i : Nat) : Bool := ((Nat.ble 0 i && Nat.ble i 1) || Nat.beq i 6 || Nat.beq i 8) || WD25 i || Nat.beq i 4 || Nat.beq i 5
theorem VD25_dead {v : VF} (h : ∀ i, DeadV (v i)) (i : Nat) : DeadV (VD25 v i) := by
  unfold VD25
  split
  · exact ⟨rfl, fun _ => rfl, fun _ => rfl⟩
  split
  · exact ⟨rfl, fun _ => rfl, fun _ => rfl⟩
  split
  · exact DeadV.junk
  · exact h i
theorem lvD25 (i : Nat) (h : ((Nat.ble 0 i && Nat.ble i 1) || Nat.beq i 6 || Nat.beq i 8) = true) : BD25 i = true := jl (jl (jl h))
def WE25 (i : Nat) : Bool := Nat.beq i 6 || Nat.beq i 8
noncomputable def VE25 (v : VF) : VF := fun i => match WE25 i with
  | true => junk
  | false => v i
def BE25 (i : Nat) : Bool := ((Nat.ble 0 i && Nat.ble i 1) || Nat.beq i 9) || WE25 i
theorem VE25_dead {v : VF} (h : ∀ i, DeadV (v i)) (i : Nat) : DeadV (VE25 v i) := jD (W := WE25) h i
theorem lvE25 (i : Nat) (h : ((Nat.ble 0 i && Nat.ble i 1) || Nat.beq i 9) = true) : BE25 i = true := jl h
def WG25 (i : Nat) : Bool := (Nat.ble 9 i && Nat.ble i 10)
noncomputable def VG25 (v : VF) : VF := fun i => match WG25 i with
  | true => junk
  | false => v i
def BG25 (i : Nat) : Bool := ((Nat.ble 0 i && Nat.ble i 1) || Nat.beq i 3) || WG25 i
theorem VG25_dead {v : VF} (h : ∀ i, DeadV (v i)) (i : Nat) : DeadV (VG25 v i) := jD (W := WG25) h i
theorem lvG25 (i : Nat) (h : ((Nat.ble 0 i && Nat.ble i 1) || Nat.beq i 3) = true) : BG25 i = true := jl h
def WR25 (i : Nat) : Bool := Nat.beq i 3 || (Nat.ble 11 i && Nat.ble i 16)
noncomputable def VR25 (v : VF) : VF := fun i => match WR25 i with
  | true => junk
  | false => v i
def BR25 (i : Nat) : Bool := ((Nat.ble 0 i && Nat.ble i 2)) || WR25 i
theorem VR25_dead {v : VF} (h : ∀ i, DeadV (v i)) (i : Nat) : DeadV (VR25 v i) := jD (W := WR25) h i
theorem lvR25 (i : Nat) (h : ((Nat.ble 0 i && Nat.ble i 2)) = true) : BR25 i = true := jl h
def WN125 (i : Nat) : Bool := false
noncomputable def VN125 (v : VF) : VF := fun i => match WN125 i with
  | true => junk
  | false => v i
def BN125 (i : Nat) : Bool := ((Nat.ble 0 i && Nat.ble i 1) || Nat.beq i 4 || Nat.beq i 7) || WN125 i
theorem VN125_dead {v : VF} (h : ∀ i, DeadV (v i)) (i : Nat) : DeadV (VN125 v i) := jD (W := WN125) h i
theorem lvN125 (i : Nat) (h : ((Nat.ble 0 i && Nat.ble i 1) || Nat.beq i 4 || Nat.beq i 7) = true) : BN125 i = true := jl h
noncomputable def h25c (x : MX) (a : OV) (P c : Nat) : Nat → Option Ob := fun j => match j with
  | 0 => some (.fam x.F)
  | 1 => some (.cells (.lit a.l) 26)
  | 2 => some (.cells (.lit [.int .u8 65, PB_ P 4 c]) 53)
  | _ => none
theorem h25c_ok (x : MX) (a : OV) (P c : Nat) : Go.Cln.RowsIn (h25c x a P c) := by
  intro b n' w' g' t h
  unfold h25c at h
  split at h <;> cases h
theorem cons_in {x : MX} {P Q c i : Nat} {v : Value} (hv : v ∈ consR [.int .u8 65, PB_ Q 4 c] (x.cap P) i) : (∀ σ, ren σ v = v) ∧ ∀ s : St, okB s 0 = true → okV s v = true := by
  cases i with
  | zero => exact capR_in (K := fun _ => 65) (Q := fun _ => Q) (M := fun _ => 4) (C := fun _ => c) (i := 0) hv
  | succ i => exact capR_in (K := x.CK P) (Q := x.CQ P) (M := x.CM P) (C := x.CC P) (i := i) hv
noncomputable def h25d (x : MX) (a : OV) (P c : Nat) : Nat → Option Ob := fun j => match j with
  | 0 => some (.fam x.F)
  | 1 => some (.cells (.lit a.l) 26)
  | 2 => some (.cells (.rows (1 + a.n) 2 (consR [.int .u8 65, PB_ P 4 c] (x.cap a.P))) 53)
  | _ => none
theorem h25d_ok (x : MX) (a : OV) (P c : Nat) : Go.Cln.RowsIn (h25d x a P c) := by
  intro b n' w' g' t h
  unfold h25d at h
  split at h
  · cases h
  · cases h
  · cases h; exact fun i v hv => cons_in hv
  · cases h
noncomputable def h25x (x : MX) (a : OV) (P c : Nat) : Nat → Option Ob := fun j => match j with
  | 0 => some (.fam x.F)
  | 1 => some (.cells (.lit a.l) 26)
  | 2 => some (.cells (.lit [.int .u8 65, PB_ P 4 c]) 53)
  | 3 => some (.cells (.rows (1 + a.n) 2 (consR [.int .u8 65, PB_ P 4 c] (x.cap a.P))) 53)
  | _ => none
noncomputable def h25r (x : MX) (a : OV) (M : List Int) : Nat → Option Ob := fun j => match j with
  | 0 => some (.fam x.F)
  | 1 => some (.cells (.lit a.l) 26)
  | 2 => some (.cells (.ints .u8 M) 5)
  | _ => none
theorem h25r_ok (x : MX) (a : OV) (M : List Int) : Go.Cln.RowsIn (h25r x a M) := by
  intro b n' w' g' t h
  unfold h25r at h
  split at h <;> cases h
noncomputable def N25 (x : MX) (Q m : Nat) : List Int := ((([2, IntKind.u8.wrap (nI m)] : List Int).drop 0).take 2) ++ ((x.D Q).drop 0).take m
noncomputable def s25s (x : MX) (a : OV) (v : VF) : St := ⟨tm25s v a, [], Tr.rebuild (g23 x a) 2, 2, 1, [], fun _ => false, True, []⟩
noncomputable def s25A0 (x : MX) (a : OV) (v : VF) : St := ⟨tm25A0 v a, [], Tr.rebuild (g23 x a) 2, 2, 1, [], fun _ => false, True, []⟩
noncomputable def s25A1 (x : MX) (a : OV) (v : VF) : St := ⟨tm25A1 v a, [], Tr.rebuild (g23 x a) 2, 2, 1, [], fun _ => false, True, []⟩
noncomputable def s25A2 (x : MX) (a : OV) (v : VF) : St := ⟨tm25A2 v a, [], Tr.rebuild (g23 x a) 2, 2, 1, [], fun _ => false, True, []⟩
noncomputable def s25B0 (x : MX) (a : OV) (P c : Nat) (v : VF) : St := ⟨tm25B0 v a P c, [], Tr.rebuild (g23 x a) 2, 2, 1, [], fun _ => false, True, []⟩
noncomputable def s25B1 (x : MX) (a : OV) (P c : Nat) (v : VF) : St := ⟨tm25B1 v a P c, [], Tr.rebuild (g23 x a) 2, 2, 1, [], fun _ => false, True, []⟩
noncomputable def s25B2 (x : MX) (a : OV) (P c : Nat) (v : VF) : St := ⟨tm25B2 v a P c, [], Tr.rebuild (g23 x a) 2, 2, 1, [], fun _ => false, True, []⟩
noncomputable def s25C (x : MX) (a : OV) (P c : Nat) (u : Value) (v : VF) : St := ⟨tm25C v a u, [], Tr.rebuild (h25c x a P c) 3, 3, 1, [], fun _ => false, True, []⟩
noncomputable def s25D (x : MX) (a : OV) (P c : Nat) (u : Value) (v : VF) : St := ⟨tm25d v a u, [], Tr.rebuild (h25c x a P c) 3, 3, 1, [], fun _ => false, True, []⟩
noncomputable def s25E (x : MX) (a : OV) (P c : Nat) (u : Value) (v : VF) : St := ⟨tm25d v a u, [], Tr.rebuild (h25d x a P c) 3, 3, 1, [], fun _ => false, True, []⟩
noncomputable def s25e (x : MX) (a : OV) (u : Value) (v : VF) : St := ⟨tm25d v a u, [], Tr.rebuild (g23 x a) 3, 3, 1, [], fun _ => false, True, []⟩
noncomputable def s25f (x : MX) (a : OV) (u w : Value) (v : VF) : St := ⟨tm25f v a u w, [], Tr.rebuild (g23 x a) 3, 3, 1, [], fun _ => false, True, []⟩
noncomputable def s25g (x : MX) (a : OV) (u : Value) (v : VF) : St := ⟨tm25g v a u, [], Tr.rebuild (g23 x a) 2, 2, 1, [], fun _ => false, True, []⟩
noncomputable def s25r (x : MX) (a : OV) (M : List Int) (u : Value) (v : VF) : St := ⟨tm25r v a u, [], Tr.rebuild (h25r x a M) 3, 3, 1, [], fun _ => false, True, []⟩
noncomputable def s25t (x : MX) (a : OV) (u : Value) (v : VF) : St := ⟨tm25r v a u, [], Tr.rebuild (g23 x a) 3, 3, 1, [], fun _ => false, True, []⟩
noncomputable def s25x (x : MX) (a : OV) (P c : Nat) (v : VF) : St := ⟨tm25C v a (PC a.P a.n a.c), [], Tr.rebuild (h25x x a P c) 4, 4, 1, [], fun _ => false, True, []⟩
theorem k25s (x : MX) (a : OV) : (go25 KN (fstC b25) (z25 x a) []).map (fun r => (r.1, r.2.obl, seenInT BS25 r.2 (s25s x a (VS25 vU)) [0, 1])) = some (.normal, True, seenAsT BS25 (s25s x a (VS25 vU)) [0, 1] 2) := by kernel_rfl
theorem ok25s (x0 : MX) (x : MX) (a : OV) (v : VF) : picOkT BS25 (z25 x0 a) (s25s x a (VS25 v)) [0, 1] = true := by kernel_rfl
theorem k25pA00 (x : MX) (a : OV) (v : VF) : (rs25 [0] (s25s x a v) []).map (fun r => (r.obl, seenInT BN25 r (s25A0 x a (VN25 v)) [0, 1])) = some (True, seenAsT BN25 (s25A0 x a (VN25 v)) [0, 1] 2) := by kernel_rfl
theorem ok25A0 (x0 : MX) (x : MX) (a : OV) (v : VF) : picOkT BN25 (z25 x0 a) (s25A0 x a (VN25 v)) [0, 1] = true := by kernel_rfl
theorem k25pA10 (x : MX) (a : OV) (v : VF) : (rs25 [0, 3] (s25s x a v) []).map (fun r => (r.obl, seenInT BN125 r (s25A1 x a (VN125 v)) [0, 1])) = some (True, seenAsT BN125 (s25A1 x a (VN125 v)) [0, 1] 2) := by kernel_rfl
theorem k25pA11 (x : MX) (a : OV) (v : VF) : (rs25 [3, 0] (s25s x a v) []).map (fun r => (r.obl, seenInT BN125 r (s25A1 x a (VN125 v)) [0, 1])) = some (True, seenAsT BN125 (s25A1 x a (VN125 v)) [0, 1] 2) := by kernel_rfl
theorem ok25A1 (x0 : MX) (x : MX) (a : OV) (v : VF) : picOkT BN125 (z25 x0 a) (s25A1 x a (VN125 v)) [0, 1] = true := by kernel_rfl
theorem k25pA20 (x : MX) (a : OV) (v : VF) : (rs25 [0, 3, 4] (s25s x a v) []).map (fun r => (r.obl, seenInT BA225 r (s25A2 x a (VA225 v)) [0, 1])) = some (True, seenAsT BA225 (s25A2 x a (VA225 v)) [0, 1] 2) := by kernel_rfl
theorem k25pA21 (x : MX) (a : OV) (v : VF) : (rs25 [3, 0, 4] (s25s x a v) []).map (fun r => (r.obl, seenInT BA225 r (s25A2 x a (VA225 v)) [0, 1])) = some (True, seenAsT BA225 (s25A2 x a (VA225 v)) [0, 1] 2) := by kernel_rfl
theorem k25pA22 (x : MX) (a : OV) (v : VF) : (rs25 [3, 4, 0] (s25s x a v) []).map (fun r => (r.obl, seenInT BA225 r (s25A2 x a (VA225 v)) [0, 1])) = some (True, seenAsT BA225 (s25A2 x a (VA225 v)) [0, 1] 2) := by kernel_rfl
theorem ok25A2 (x0 : MX) (x : MX) (a : OV) (v : VF) : picOkT BA225 (z25 x0 a) (s25A2 x a (VA225 v)) [0, 1] = true := by kernel_rfl
theorem k25m00 (x : MX) (a : OV) (P c : Nat) (v : VF) : (rs25 [2, 3, 4] (s25B0 x a P c v) []).map (fun r => (r.obl, seenInT BC25 r (s25C x a P c (PC a.P a.n a.c) (VC25 v)) [0, 1, 2])) = some (True, seenAsT BC25 (s25C x a P c (PC a.P a.n a.c) (VC25 v)) [0, 1, 2] 3) := by kernel_rfl
theorem k25m01 (x : MX) (a : OV) (P c : Nat) (v : VF) : (rs25 [3, 2, 4] (s25B0 x a P c v) []).map (fun r => (r.obl, seenInT BC25 r (s25C x a P c (PC a.P a.n a.c) (VC25 v)) [0, 1, 2])) = some (True, seenAsT BC25 (s25C x a P c (PC a.P a.n a.c) (VC25 v)) [0, 1, 2] 3) := by kernel_rfl
theorem k25m02 (x : MX) (a : OV) (P c : Nat) (v : VF) : (rs25 [3, 4, 2] (s25B0 x a P c v) []).map (fun r => (r.obl, seenInT BC25 r (s25C x a P c (PC a.P a.n a.c) (VC25 v)) [0, 1, 2])) = some (True, seenAsT BC25 (s25C x a P c (PC a.P a.n a.c) (VC25 v)) [0, 1, 2] 3) := by kernel_rfl
theorem k25m10 (x : MX) (a : OV) (P c : Nat) (v : VF) : (rs25 [2, 4] (s25B1 x a P c v) []).map (fun r => (r.obl, seenInT BC25 r (s25C x a P c (PC a.P a.n a.c) (VC25 v)) [0, 1, 2])) = some (True, seenAsT BC25 (s25C x a P c (PC a.P a.n a.c) (VC25 v)) [0, 1, 2] 3) := by kernel_rfl
theorem k25m11 (x : MX) (a : OV) (P c : Nat) (v : VF) : (rs25 [4, 2] (s25B1 x a P c v) []).map (fun r => (r.obl, seenInT BC25 r (s25C x a P c (PC a.P a.n a.c) (VC25 v)) [0, 1, 2])) = some (True, seenAsT BC25 (s25C x a P c (PC a.P a.n a.c) (VC25 v)) [0, 1, 2] 3) := by kernel_rfl
theorem k25m20 (x : MX) (a : OV) (P c : Nat) (v : VF) : (rs25 [2] (s25B2 x a P c v) []).map (fun r => (r.obl, seenInT BD25 r (s25C x a P c (PC a.P a.n a.c) (VD25 v)) [0, 1, 2])) = some (True, seenAsT BD25 (s25C x a P c (PC a.P a.n a.c) (VD25 v)) [0, 1, 2] 3) := by kernel_rfl
theorem ok25C (x0 : MX) (x : MX) (a : OV) (P c : Nat) (v : VF) : picOkT BC25 (z25 x0 a) (s25C x a P c (PC a.P a.n a.c) (VC25 v)) [0, 1, 2] = true := by kernel_rfl
theorem ok25D (x0 : MX) (x : MX) (a : OV) (P c : Nat) (v : VF) : picOkT BD25 (z25 x0 a) (s25C x a P c (PC a.P a.n a.c) (VD25 v)) [0, 1, 2] = true := by kernel_rfl
theorem k25n0 (x : MX) (a : OV) (P c : Nat) (v : VF) : (rs25 [5] (s25C x a P c (PC a.P 0 a.c) v) []).map (fun r => (r.obl, seenInT BE25 r (s25D x a P c (.slice (some ⟨2, 0, none⟩) 1 1) (VE25 v)) [0, 1, 2])) = some (True, seenAsT BE25 (s25D x a P c (.slice (some ⟨2, 0, none⟩) 1 1) (VE25 v)) [0, 1, 2] 3) := by kernel_rfl
theorem ok25n0 (x0 : MX) (x : MX) (a : OV) (P c : Nat) (v : VF) : picOkT BE25 (z25 x0 a) (s25D x a P c (.slice (some ⟨2, 0, none⟩) 1 1) (VE25 v)) [0, 1, 2] = true := by kernel_rfl
theorem al25 (x : MX) (a : OV) (P c : Nat) (v : VF) : (s25C x a P c (PC a.P a.n a.c) v).alloc (.cells (.rows (1 + a.n) 2 (consR [.int .u8 65, PB_ P 4 c] (x.cap a.P))) 53) = some (3, s25x x a P c v) := by kernel_rfl
theorem k25n1 (x : MX) (a : OV) (P c : Nat) (v : VF) : (rs25 [] (St.set (s25x x a P c v) (some 9) (.slice (some ⟨3, 0, some 2⟩) (1 + a.n) (1 + a.n))) []).map (fun r => (r.obl, seenInT BE25 r (s25E x a P c (.slice (some ⟨2, 0, some 2⟩) (1 + a.n) (1 + a.n)) (VE25 v)) [0, 1, 3])) = some (True, seenAsT BE25 (s25E x a P c (.slice (some ⟨2, 0, some 2⟩) (1 + a.n) (1 + a.n)) (VE25 v)) [0, 1, 3] 4) := by kernel_rfl
theorem ok25n1 (x0 : MX) (x : MX) (a : OV) (P c : Nat) (v : VF) : picOkT BE25 (z25 x0 a) (s25E x a P c (.slice (some ⟨2, 0, some 2⟩) (1 + a.n) (1 + a.n)) (VE25 v)) [0, 1, 3] = true := by kernel_rfl
theorem k25g (x : MX) (a : OV) (R m c Q k d : Nat) (v : VF) : (rs25 [7] (s25f x a (PC R m c) (PB_ Q k d) v) []).map (fun r => (r.obl, seenInT BG25 r (s25g x a (PB_ Q k d) (VG25 v)) [0, 1])) = some (True, seenAsT BG25 (s25g x a (PB_ Q k d) (VG25 v)) [0, 1] 3) := by kernel_rfl
theorem ok25g (x0 : MX) (x : MX) (a : OV) (Q k d : Nat) (v : VF) : picOkT BG25 (z25 x0 a) (s25g x a (PB_ Q k d) (VG25 v)) [0, 1] = true := by kernel_rfl
theorem k25r (x : MX) (a : OV) (Q m d : Nat) (v : VF) : (go25 KN f25 (s25g x a (PB_ Q m d) v) [none, some false, some true]).map (fun r => (r.1, r.2.obl, seenInT BR25 r.2 (s25r x a (N25 x Q m) (.slice (some ⟨2, 0, some 1⟩) (2 + m) (2 + m)) (VR25 v)) [0, 1, 3])) = some (.ret, ((True ∧ decide (2 + m ≤ 2) = false) ∧ ((m = 0 ∨ 0 + m ≤ (x.D Q).length) ∧ 0 + 2 ≤ ([2, IntKind.u8.wrap (nI m)] : List Int).length ∧ (2 + m) * 1 ≤ mostBytes ∧ 2 + m ≤ mostBytes)), seenAsT BR25 (s25r x a (N25 x Q m) (.slice (some ⟨2, 0, some 1⟩) (2 + m) (2 + m)) (VR25 v)) [0, 1, 3] 4) := by kernel_rfl
theorem ok25r (x0 : MX) (x : MX) (a : OV) (M : List Int) (m : Nat) (v : VF) : picOkT BR25 (z25 x0 a) (s25r x a M (.slice (some ⟨2, 0, some 1⟩) (2 + m) (2 + m)) (VR25 v)) [0, 1, 3] = true := by kernel_rfl
end
end ob
end Go.Proofs.Ytpfmilkddapfiaa
namespace Go.Proofs.Ytpfmilkddapfiaa
open Go.ChangeShapes Go.WideShapes Go.ChangeAt Go.RowKit Go.Cln
namespace ob
set_option linter.unusedVariables false
noncomputable section
theorem StepO.redrawE {P : Program} {rd : Option Nat} {s0 : St} {ρ0 : Nat → PB} {w0 : World} {ops : Array Oper} {l : List Nat} {s : St} {Q : Exit → St → Prop} (hp : ∀ (w : World) (a : Act), Hs s0 ρ0 w0 → PicG s0 ρ0 w0 s w a → ∃ s2, PicG s0 ρ0 w0 s2 w a ∧ StepO P rd s0 ρ0 w0 ops l s2 Q) : StepO P rd s0 ρ0 w0 ops l s Q := fun n w a R h1 h2 h3 h4 => let ⟨_, p, h⟩ := hp w a h2 h3; h n w a R h1 h2 p h4
def isAppq (o : Oper) : Option (Array Operand × Array TypeId × Option Tmp) := match o.op with
  | .call ⟨.builtin .append, args, ats⟩ => (match o.guard with
    | none => some (args, ats, o.dst)
    | _ => none)
  | _ => none
def consN {α : Type} (v : α) (f : Nat → α) : Nat → α
  | 0 => v
  | i + 1 => f i
theorem consR_eq (x : MX) (P Q c : Nat) : consR [.int .u8 65, PB_ Q 4 c] (x.cap P) = capR (consN 65 (x.CK P)) (consN Q (x.CQ P)) (consN 4 (x.CM P)) (consN c (x.CC P)) := by
  funext i
  cases i <;> rfl
theorem inf53 : (Try.prog.info? 53).map (fun i => (i.size, i.bytes)) = some (2, 32) := by kernel_rfl
theorem bad53 (B n c : Nat) : ((Try.prog.info? 53).bind fun i => (Try.prog.underlying 24).map fun d => appendBad d i (PC B n c)) = some false := by kernel_rfl
theorem und24 : Try.prog.underlying 24 = some (.slice 53) := by kernel_rfl
theorem op25 : ((o25[5]?).bind isAppq).map (fun q => (q.1, q.2.1.toList, q.2.2)) = some (#[.tmp 6, .tmp 8], [24, 24], some 9) := by kernel_rfl
noncomputable def capsL (x : MX) (a : OV) : Nat → List Int
  | 0 => [65, IntKind.u8.wrap 4] ++ B4 a
  | i + 1 => capsL x a i ++ (two47 x a.P i ++ rowK2 x a.P i)
noncomputable def behE (x : MX) (a : OV) : List Int := [2, IntKind.u8.wrap (nI (capsL x a a.n).length)] ++ capsL x a a.n
noncomputable def put25 (y : MX) (a : OV) (P c R : Nat) : MX := y.putC R (1 + a.n) (consN 65 (y.CK a.P)) (consN P (y.CQ a.P)) (consN 4 (y.CM a.P)) (consN c (y.CC a.P))
theorem acc25 {x y : MX} {a : OV} {P c R : Nat} (hO : capOk x a.P a.n) (hk : Keeps x.F y.F) (hP : y.D P = B4 a) : ∀ i, i ≤ a.n → acc47 (put25 y a P c R) R (1 + i) = capsL x a i := by
  obtain ⟨p1, p2, p3⟩ := hO
  have eK : (put25 y a P c R).CK R = consN 65 (y.CK a.P) := updF_at _ _ _
  have eQ : (put25 y a P c R).CQ R = consN P (y.CQ a.P) := updF_at _ _ _
  have eM : (put25 y a P c R).CM R = consN 4 (y.CM a.P) := updF_at _ _ _
  intro i
  induction i with
  | zero =>
    intro _
    show [] ++ (two47 _ R 0 ++ rowK2 _ R 0) = _
    unfold two47 rowK2
    rw [eK, eQ, eM, ix2_eq, List.nil_append]
    show [65, IntKind.u8.wrap (nI 4)] ++ ((y.D P).drop 0).take 4 = _
    rw [hP]; rfl
  | succ i ih =>
    intro hi
    obtain ⟨b1, b2⟩ := p3 i (by omega)
    obtain ⟨_, k1, k2, k3⟩ := kp_cap hk (j := i) (n := a.n) (by omega) p1
    have ix : ix2 (1 + i) = i + 1 := by rw [ix2_eq]; omega
    show acc47 _ R (1 + i) ++ (two47 _ R (1 + i) ++ rowK2 _ R (1 + i)) = capsL x a i ++ (two47 x a.P i ++ rowK2 x a.P i)
    rw [ih (by omega)]
    congr 1
    unfold two47 rowK2
    rw [eK, eQ, eM, ix, ix2_eq]
    show [y.CK a.P i, IntKind.u8.wrap (nI (y.CM a.P i))] ++ ((y.D (y.CQ a.P i)).drop 0).take (y.CM a.P i) = _
    rw [k1, k2, k3]
    congr 1
    rw [List.drop_zero, List.drop_zero]
    rcases kp_row hk b1 with h | h
    · exact h.2
    · rw [h, List.take_zero, List.take_zero]
theorem ok25 {x y : MX} {a : OV} {P c R : Nat} (hO : capOk x a.P a.n) (hk : Keeps x.F y.F) (hP : y.D P = B4 a) : capOk5 (put25 y a P c R) R (1 + a.n) := by
  obtain ⟨p1, p2, p3⟩ := kp_capOk hk hO
  have eN : (put25 y a P c R).CN R = 1 + a.n := updF_at _ _ _
  have eQ : (put25 y a P c R).CQ R = consN P (y.CQ a.P) := updF_at _ _ _
  have eM : (put25 y a P c R).CM R = consN 4 (y.CM a.P) := updF_at _ _ _
  refine ⟨by rw [eN]; exact Nat.le_refl _, by omega, fun i hi => ?_⟩
  rw [eQ, eM]
  cases i with
  | zero =>
    show 4 ≤ (y.D P).length ∧ 4 ≤ 1000
    rw [hP]; exact ⟨Nat.le_refl _, by omega⟩
  | succ i => exact p3 i (by omega)
theorem capsL_len {x : MX} {a : OV} (hO : capOk x a.P a.n) : ∀ i, i ≤ a.n → 6 ≤ (capsL x a i).length ∧ (capsL x a i).length ≤ 6 + i * 1002 := by
  obtain ⟨p1, p2, p3⟩ := hO
  intro i
  induction i with
  | zero => intro _; exact ⟨Nat.le_refl _, Nat.le_refl _⟩
  | succ i ih =>
    intro hi
    have := ih (by omega)
    obtain ⟨b1, b2⟩ := p3 i (by omega)
    have hr : (rowK2 x a.P i).length = x.CM a.P i := by have := rowK2_len (x := x) (P := a.P) (i := i) (by rw [ix2_eq]; exact b1); rwa [ix2_eq] at this
    unfold capsL
    rw [List.length_append, List.length_append, two47_len, hr]
    omega
theorem z25_base (x : MX) (a : OV) (b : Nat) (o : Ob) (h : (z25 x a).heap.get b = some o) : (z25 x a).may b = false := by
  obtain ⟨rfl, _⟩ := fam_get (orc := []) (show (smSt 1 [some (.fam x.F)] []).heap.get b = some o from h)
  rfl
theorem rest25 {f g : Nat → Option Ob} (h1 : f 1 = g 1) (h2 : ∀ j, 3 ≤ j → f j = g j) (x : Nat) (h0 : x ≠ 0) (hb : x ≠ 2) : (Tr.rebuild f 3).get x = (Tr.rebuild g 3).get x := by
  rw [Tr.get_rebuild _ _ _ (by decide), Tr.get_rebuild _ _ _ (by decide)]
  split
  · rcases x with _ | _ | _ | x
    · exact absurd rfl h0
    · exact h1
    · exact absurd rfl hb
    · exact h2 _ (by omega)
  · rfl
theorem took25D (y : MX) (a : OV) (P c R c' : Nat) (hn : a.n = 0) (v : VF) : TookT (s25D y a P c (.slice (some ⟨2, 0, none⟩) 1 1) v) (s25e (put25 y a P c R) a (PC R (1 + a.n) c') v) y.F (fun g => !Nat.beq g 1000) 1003 2 9 (.rows (1 + a.n) 2 (capR (consN 65 (y.CK a.P)) (consN P (y.CQ a.P)) (consN 4 (y.CM a.P)) (consN c (y.CC a.P)))) 1 R c' where
  next := rfl
  roB := rfl
  ro := rfl
  hid := rfl
  defers := rfl
  tmps := by rw [hn]; rfl
  zero := by rw [← putC_F]; kernel_rfl
  gone := by kernel_rfl
  rest := fun j h0 hb => rest25 (f := g23 (put25 y a P c R) a) (g := h25c y a P c) rfl (fun j hj => by rcases j with _ | _ | _ | j <;> first | omega | rfl) j h0 hb
theorem took25E (y : MX) (a : OV) (P c R c' : Nat) (v : VF) : TookT (s25E y a P c (.slice (some ⟨2, 0, some 2⟩) (1 + a.n) (1 + a.n)) v) (s25e (put25 y a P c R) a (PC R (1 + a.n) c') v) y.F (fun g => !Nat.beq g 1000) 1003 2 9 (.rows (1 + a.n) 2 (capR (consN 65 (y.CK a.P)) (consN P (y.CQ a.P)) (consN 4 (y.CM a.P)) (consN c (y.CC a.P)))) (1 + a.n) R c' where
  next := rfl
  roB := rfl
  ro := rfl
  hid := rfl
  defers := rfl
  tmps := rfl
  zero := by rw [← putC_F]; kernel_rfl
  gone := by kernel_rfl
  rest := fun j h0 hb => rest25 (f := g23 (put25 y a P c R) a) (g := h25d y a P c) rfl (fun j hj => by rcases j with _ | _ | _ | j <;> first | omega | rfl) j h0 hb
theorem took25r (y : MX) (a : OV) (M : List Int) (m R c' : Nat) (v : VF) : TookT (s25r y a M (.slice (some ⟨2, 0, some 1⟩) m m) v) (s25t (y.wD (updF y.D R M)) a (PB_ R m c') v) y.F (fun g => Nat.beq g 1000) 1000 2 2 (.ints .u8 M) m R c' where
  next := rfl
  roB := rfl
  ro := rfl
  hid := rfl
  defers := rfl
  tmps := rfl
  zero := by rw [← putB_F]; kernel_rfl
  gone := by kernel_rfl
  rest := fun j h0 hb => rest25 (f := g23 (y.wD (updF y.D R M)) a) (g := h25r y a M) rfl (fun j hj => by rcases j with _ | _ | _ | j <;> first | omega | rfl) j h0 hb
theorem g25r0 (x : MX) (a : OV) (M : List Int) (u : Value) (v : VF) : (s25r x a M u v).heap.get 0 = some (.fam x.F) := by kernel_rfl
theorem g25r2 (x : MX) (a : OV) (M : List Int) (u : Value) (v : VF) : (s25r x a M u v).heap.get 2 = some (.cells (.ints .u8 M) 5) := by kernel_rfl
theorem g25t0 (x : MX) (a : OV) (u : Value) (v : VF) : (s25t x a u v).heap.get 0 = some (.fam x.F) := by kernel_rfl
theorem g25e0 (x : MX) (a : OV) (u : Value) (v : VF) : (s25e x a u v).heap.get 0 = some (.fam x.F) := by kernel_rfl
theorem g25f0 (x : MX) (a : OV) (u w : Value) (v : VF) : (s25f x a u w v).heap.get 0 = some (.fam x.F) := by kernel_rfl
theorem g25D0 (x : MX) (a : OV) (P c : Nat) (u : Value) (v : VF) : (s25D x a P c u v).heap.get 0 = some (.fam x.F) := by kernel_rfl
theorem g25D2 (x : MX) (a : OV) (P c : Nat) (u : Value) (v : VF) : (s25D x a P c u v).heap.get 2 = some (.cells (.lit [.int .u8 65, PB_ P 4 c]) 53) := by kernel_rfl
theorem g25E0 (x : MX) (a : OV) (P c : Nat) (u : Value) (v : VF) : (s25E x a P c u v).heap.get 0 = some (.fam x.F) := by kernel_rfl
theorem g25E2 (x : MX) (a : OV) (P c : Nat) (u : Value) (v : VF) : (s25E x a P c u v).heap.get 2 = some (.cells (.rows (1 + a.n) 2 (consR [.int .u8 65, PB_ P 4 c] (x.cap a.P))) 53) := by kernel_rfl
theorem g25C0 (x : MX) (a : OV) (P c : Nat) (u : Value) (v : VF) : (s25C x a P c u v).heap.get 0 = some (.fam x.F) := by kernel_rfl
theorem g25C2 (x : MX) (a : OV) (P c : Nat) (u : Value) (v : VF) : (s25C x a P c u v).heap.get 2 = some (.cells (.lit [.int .u8 65, PB_ P 4 c]) 53) := by kernel_rfl
theorem set25f (a : OV) (u w : Value) (v : VF) : setL (tm25d v a u) 10 w = tm25f v a u w := by kernel_rfl
theorem set250 (a : OV) (P c : Nat) (v : VF) : setL (tm25A0 v a) 5 (cv 65 P 4 c) = tm25B0 v a P c := by kernel_rfl
theorem g25A0 (x : MX) (a : OV) (v : VF) : (s25A0 x a v).heap.get 0 = some (.fam x.F) := by kernel_rfl
theorem g25B0 (x : MX) (a : OV) (P c : Nat) (v : VF) : (s25B0 x a P c v).heap.get 0 = some (.fam x.F) := by kernel_rfl
theorem set251 (a : OV) (P c : Nat) (v : VF) : setL (tm25A1 v a) 5 (cv 65 P 4 c) = tm25B1 v a P c := by kernel_rfl
theorem g25A1 (x : MX) (a : OV) (v : VF) : (s25A1 x a v).heap.get 0 = some (.fam x.F) := by kernel_rfl
theorem g25B1 (x : MX) (a : OV) (P c : Nat) (v : VF) : (s25B1 x a P c v).heap.get 0 = some (.fam x.F) := by kernel_rfl
theorem set252 (a : OV) (P c : Nat) (v : VF) : setL (tm25A2 v a) 5 (cv 65 P 4 c) = tm25B2 v a P c := by kernel_rfl
theorem g25A2 (x : MX) (a : OV) (v : VF) : (s25A2 x a v).heap.get 0 = some (.fam x.F) := by kernel_rfl
theorem g25B2 (x : MX) (a : OV) (P c : Nat) (v : VF) : (s25B2 x a P c v).heap.get 0 = some (.fam x.F) := by kernel_rfl
def Q25 (x : MX) (a : OV) (W0 : World) : Exit → St → Prop := fun e s' => leaves? e = true ∧ s'.defers = [] ∧ ∃ F' q, s'.heap.get 0 = some (.fam F') ∧ Fresh W0 x.F F' ∧ results1 Try.prog s' [.tmp 2] = some q ∧ q.2.obl ∧ farW (oneOf q.1) = true ∧ BytesR x (behE x a) F' (oneOf q.1)
def K25 (x0 x : MX) (a : OV) (ρ0 : Nat → PB) (W0 : World) : Exit → St → Prop := fun e s' => (e = .normal ∧ StepW Try.prog none (z25 x0 a) ρ0 W0 f25 s' (Q25 x a W0)) ∨ (e ≠ .normal ∧ Q25 x a W0 e s')
theorem getr {f g : Nat → Option Ob} {n : Nat} (hn : n ≤ 1000000) (h : ∀ j, j ≠ 0 → f j = g j) (j : Nat) (hj : j ≠ 0) : (Tr.rebuild f n).get j = (Tr.rebuild g n).get j := by
  rw [Tr.get_rebuild _ _ _ hn, Tr.get_rebuild _ _ _ hn]
  split
  · exact h j hj
  · rfl
theorem g23_rest (x y : MX) (a : OV) (j : Nat) (hj : j ≠ 0) : g23 y a j = g23 x a j := by
  rcases j with _ | _ | j
  · exact absurd rfl hj
  · rfl
  · rfl
theorem end25 {x z : MX} {a : OV} {R c' : Nat} {v : VF} {ρ0 : Nat → PB} {W0 : World} (hO : capOk x a.P a.n) (h5 : capOk5 z R (1 + a.n)) (hk : Keeps x.F z.F) (hf : Fresh W0 x.F z.F) (he : acc47 z R (1 + a.n) = capsL x a a.n) (hv : ∀ j, DeadV (v j)) : StepO Try.prog none (z25 x a) ρ0 W0 o25 [6, 7] (s25e z a (PC R (1 + a.n) c') v) (K25 x x a ρ0 W0) := by
  refine StepO.call' (F := z.F) (g := 47) (vs := [PC R (1 + a.n) c']) (f := .func 47) (args := #[.tmp 9]) (dst := some 10) pg (by kernel_rfl) trivial rfl rfl fn47 rfl (g25e0 z a _ _) rfl (caps47 (by omega) h5) ?_
  rintro F' v' hf2 ⟨y2, Q, d, rfl, rfl, hk2, hs⟩
  refine ⟨s25f y2 a (PC R (1 + a.n) c') (PB_ Q (acc47 z R (1 + a.n)).length d) v, ⟨rfl, rfl, rfl, rfl, rfl, (set25f a _ _ _).symm, g25f0 y2 a _ _ _, fun j hj => getr (by decide) (g23_rest z y2 a) j hj⟩, ?_⟩
  rw [he] at hs ⊢
  obtain ⟨l1, l2⟩ := capsL_len hO a.n (Nat.le_refl _)
  have hn := hO.2.1
  refine StepO.run (l1 := [7]) (l2 := []) pg KN_ok (k25g y2 a R _ c' Q _ d v) trivial (show 1 ≤ 3 by decide) (tm25g_dead (VG25_dead hv) lvG25) (g23_ok y2 a) rfl (ok25g x y2 a _ _ _ _) ?_
  refine StepO.nil (.inl ⟨rfl, ?_⟩)
  refine StepW.turn ((StepG.stdT (s0 := z25 x a) (rd := none) pg KN_ok (k25r y2 a Q _ d _) ⟨⟨trivial, decide_eq_false (by omega)⟩, .inr (by rw [hs]; omega), Nat.le_refl _, by unfold mostBytes; omega, by unfold mostBytes; omega⟩ (show 1 ≤ 2 by decide) (tm25r_dead (VR25_dead (VG25_dead hv)) lvR25) (h25r_ok y2 a _) rfl (ok25r x y2 a _ _ _)).at ρ0 W0) ?_
  rintro e s w a' ⟨rfl, rfl⟩ hs0 hp
  have eN : N25 y2 Q (capsL x a a.n).length = behE x a := by
    unfold N25 behE
    rw [hs, List.drop_zero, List.drop_zero, List.take_of_length_le (Nat.le_refl _)]
    rfl
  have eL : 2 + (capsL x a a.n).length = (behE x a).length := by unfold behE; rw [List.length_append]; rfl
  obtain ⟨S, e', hc, hS, hk3, hp2⟩ := PicG.takeT (sg := 1000) (i := 2) (b := 2) (p := fun g => Nat.beq g 1000) (c := .ints .u8 (N25 y2 Q (capsL x a a.n).length)) (fun S e' => s25t (y2.wD (updF y2.D S (N25 y2 Q (capsL x a a.n).length))) a (PB_ S (2 + (capsL x a a.n).length) e') (VR25 (VG25 v))) hp (g25r0 y2 a _ _ _) (g25r2 y2 a _ _ _) ints_fam rfl (by decide) rfl rfl rfl (z25_base x a) (fun S e' => took25r y2 a _ _ S e' _)
  rw [← putB_F] at hk3
  refine ⟨_, ⟨rfl, rfl, _, ([PB_ S (2 + (capsL x a a.n).length) e'], s25t (y2.wD (updF y2.D S (N25 y2 Q (capsL x a a.n).length))) a (PB_ S (2 + (capsL x a a.n).length) e') (VR25 (VG25 v))), g25t0 _ a _ _, ?_, rfl, trivial, rfl, _, S, e', rfl, ?_, (hk.trans hk2).trans hk3, ?_⟩, hp2⟩
  · rw [putB_F]; exact (hf.trans hf2 (Nat.le_refl _)).put hS
  · rw [eL]; rfl
  · rw [← eN]; exact updF_at _ _ _
theorem tail25 {x y : MX} {a : OV} {P c : Nat} {v : VF} {ρ0 : Nat → PB} {W0 : World} (hO : capOk x a.P a.n) (hk : Keeps x.F y.F) (hf : Fresh W0 x.F y.F) (hP : y.D P = B4 a) (hv : ∀ j, DeadV (v j)) : StepO Try.prog none (z25 x a) ρ0 W0 o25 [5, 6, 7] (s25C y a P c (PC a.P a.n a.c) v) (K25 x x a ρ0 W0) := by
  have hOy := kp_capOk hk hO
  by_cases hn : a.n = 0
  · have e : PC a.P a.n a.c = PC a.P 0 a.c := by rw [hn]
    rw [e]
    refine StepO.run (l1 := [5]) (l2 := [6, 7]) pg KN_ok (k25n0 y a P c v) trivial (show 1 ≤ 3 by decide) (tm25d_dead (VE25_dead hv) lvE25) (h25c_ok y a P c) rfl (ok25n0 x y a P c v) ?_
    refine StepO.redrawE fun w a' hs0 hp => ?_
    obtain ⟨R, c', hc, hR, hk2, hp2⟩ := PicG.takeT (sg := 1003) (i := 9) (b := 2) (p := fun g => !Nat.beq g 1000) (c := .rows (1 + a.n) 2 (capR (consN 65 (y.CK a.P)) (consN P (y.CQ a.P)) (consN 4 (y.CM a.P)) (consN c (y.CC a.P)))) (fun R c' => s25e (put25 y a P c R) a (PC R (1 + a.n) c') (VE25 v)) hp (g25D0 y a _ _ _ _) (g25D2 y a _ _ _ _) (fun k u hu => by
      refine ⟨?_, (capR_fam k u hu).2⟩
      obtain ⟨h1, h2, h3⟩ := rows_inv (by decide) hu
      have h0 : k / 2 = 0 := by omega
      rw [h0] at h2 h3
      rw [Nat.zero_mul, Nat.zero_add] at h3
      rw [h3]
      exact h2) rfl (by decide) rfl rfl rfl (z25_base x a) (fun R c' => took25D y a P c R c' hn _)
    rw [← putC_F] at hk2
    refine ⟨_, hp2, end25 hO (ok25 hO hk hP) (hk.trans hk2) ?_ (acc25 hO hk hP a.n (Nat.le_refl _)) (VE25_dead hv)⟩
    show Fresh W0 x.F (MX.putC _ _ _ _ _ _ _).F
    rw [putC_F]; exact hf.put hR
  · have hi := inf53
    rw [Option.map_eq_some_iff] at hi
    obtain ⟨inf, hi, hi2⟩ := hi
    simp only [Prod.mk.injEq] at hi2
    obtain ⟨i1, i2⟩ := hi2
    have hb := bad53 a.P a.n a.c
    rw [hi, und24] at hb
    simp only [Option.bind_some, Option.map_some, Option.some.injEq] at hb
    have ho := op25
    rw [Option.map_eq_some_iff] at ho
    obtain ⟨⟨ar, ats, d⟩, ho, ho2⟩ := ho
    simp only [Prod.mk.injEq] at ho2
    obtain ⟨rfl, hats, rfl⟩ := ho2
    rw [Option.bind_eq_some_iff] at ho
    obtain ⟨o, hq, ho⟩ := ho
    unfold isAppq at ho
    split at ho
    rotate_left
    · cases ho
    rename_i h1
    split at ho
    rotate_left
    · cases ho
    rename_i h2
    simp only [Option.some.injEq, Prod.mk.injEq] at ho
    obtain ⟨rfl, rfl, h3⟩ := ho
    have a0 : ∀ (q : Array TypeId), q.toList = [24, 24] → q[0]? = some 24 ∧ q[1]? = some 24 := fun q h => by
      rw [← Array.getElem?_toList, ← Array.getElem?_toList, h]; exact ⟨rfl, rfl⟩
    obtain ⟨t0, t1⟩ := a0 _ hats
    refine StepO.append1 (q := [.int .u8 65, PB_ P 4 c]) (row := y.cap a.P) (N := y.CN a.P) (wd := 2) hq h1 h2 h3 trivial (show evs (s25C y a P c (PC a.P a.n a.c) v) [.tmp 6, .tmp 8] = some [.slice (some ⟨2, 0, none⟩) 1 1, PC a.P a.n a.c] from rfl) t0 t1 und24 hi und24 hb i1 rfl rfl (by unfold absMem; rw [g25C0]; rfl) (g25C2 y a P c _ v) rfl hn hOy.1 (fun _ => rfl) (by rw [i2]; have := hO.2.1; unfold mostBytes; omega) (by have := hO.2.1; unfold mostBytes; omega) (al25 y a P c v) ?_
    refine StepO.run (l1 := []) (l2 := [6, 7]) pg KN_ok (k25n1 y a P c v) trivial (show 1 ≤ 4 by decide) (tm25d_dead (VE25_dead hv) lvE25) (h25d_ok y a P c) rfl (ok25n1 x y a P c v) ?_
    refine StepO.redrawE fun w a' hs0 hp => ?_
    obtain ⟨R, c', hc, hR, hk2, hp2⟩ := PicG.takeT (sg := 1003) (i := 9) (b := 2) (p := fun g => !Nat.beq g 1000) (c := .rows (1 + a.n) 2 (capR (consN 65 (y.CK a.P)) (consN P (y.CQ a.P)) (consN 4 (y.CM a.P)) (consN c (y.CC a.P)))) (fun R c' => s25e (put25 y a P c R) a (PC R (1 + a.n) c') (VE25 v)) hp (g25E0 y a _ _ _ _) (g25E2 y a _ _ _ _) (fun k u hu => by
      rw [consR_eq]; exact capR_fam k u hu) rfl (by decide) rfl rfl rfl (z25_base x a) (fun R c' => took25E y a P c R c' _)
    rw [← putC_F] at hk2
    refine ⟨_, hp2, end25 hO (ok25 hO hk hP) (hk.trans hk2) ?_ (acc25 hO hk hP a.n (Nat.le_refl _)) (VE25_dead hv)⟩
    show Fresh W0 x.F (MX.putC _ _ _ _ _ _ _).F
    rw [putC_F]; exact hf.put hR
theorem call25_00 {x : MX} {a : OV} {v : VF} {ρ0 : Nat → PB} {W0 : World} (hO : capOk x a.P a.n) (hv : ∀ j, DeadV (v j)) : StepO Try.prog none (z25 x a) ρ0 W0 o25 [1, 2, 3, 4, 5, 6, 7] (s25A0 x a v) (K25 x x a ρ0 W0) := by
  refine StepO.call' (F := x.F) (g := 48) (vs := [a.v]) (f := .func 48) (args := #[.tmp 4]) (dst := some 5) pg (by kernel_rfl) trivial rfl rfl fn48 rfl (g25A0 x a _) rfl as48 ?_
  rintro F' v' hf ⟨y, P, c, rfl, rfl, hk, hP⟩
  refine ⟨s25B0 y a P c v, ⟨rfl, rfl, rfl, rfl, rfl, (set250 a _ _ _).symm, g25B0 y a _ _ _, fun j hj => getr (by decide) (g23_rest x y a) j hj⟩, ?_⟩
  exact StepO.run (l1 := [2, 3, 4]) (l2 := [5, 6, 7]) pg KN_ok (k25m00 y a P c v) trivial (show 1 ≤ 2 by decide) (tm25C_dead (VC25_dead hv) lvC25) (h25c_ok y a P c) rfl (ok25C x y a P c v) (tail25 hO hk hf hP (VC25_dead hv))
theorem call25_01 {x : MX} {a : OV} {v : VF} {ρ0 : Nat → PB} {W0 : World} (hO : capOk x a.P a.n) (hv : ∀ j, DeadV (v j)) : StepO Try.prog none (z25 x a) ρ0 W0 o25 [1, 3, 2, 4, 5, 6, 7] (s25A0 x a v) (K25 x x a ρ0 W0) := by
  refine StepO.call' (F := x.F) (g := 48) (vs := [a.v]) (f := .func 48) (args := #[.tmp 4]) (dst := some 5) pg (by kernel_rfl) trivial rfl rfl fn48 rfl (g25A0 x a _) rfl as48 ?_
  rintro F' v' hf ⟨y, P, c, rfl, rfl, hk, hP⟩
  refine ⟨s25B0 y a P c v, ⟨rfl, rfl, rfl, rfl, rfl, (set250 a _ _ _).symm, g25B0 y a _ _ _, fun j hj => getr (by decide) (g23_rest x y a) j hj⟩, ?_⟩
  exact StepO.run (l1 := [3, 2, 4]) (l2 := [5, 6, 7]) pg KN_ok (k25m01 y a P c v) trivial (show 1 ≤ 2 by decide) (tm25C_dead (VC25_dead hv) lvC25) (h25c_ok y a P c) rfl (ok25C x y a P c v) (tail25 hO hk hf hP (VC25_dead hv))
theorem call25_02 {x : MX} {a : OV} {v : VF} {ρ0 : Nat → PB} {W0 : World} (hO : capOk x a.P a.n) (hv : ∀ j, DeadV (v j)) : StepO Try.prog none (z25 x a) ρ0 W0 o25 [1, 3, 4, 2, 5, 6, 7] (s25A0 x a v) (K25 x x a ρ0 W0) := by
  refine StepO.call' (F := x.F) (g := 48) (vs := [a.v]) (f := .func 48) (args := #[.tmp 4]) (dst := some 5) pg (by kernel_rfl) trivial rfl rfl fn48 rfl (g25A0 x a _) rfl as48 ?_
  rintro F' v' hf ⟨y, P, c, rfl, rfl, hk, hP⟩
  refine ⟨s25B0 y a P c v, ⟨rfl, rfl, rfl, rfl, rfl, (set250 a _ _ _).symm, g25B0 y a _ _ _, fun j hj => getr (by decide) (g23_rest x y a) j hj⟩, ?_⟩
  exact StepO.run (l1 := [3, 4, 2]) (l2 := [5, 6, 7]) pg KN_ok (k25m02 y a P c v) trivial (show 1 ≤ 2 by decide) (tm25C_dead (VC25_dead hv) lvC25) (h25c_ok y a P c) rfl (ok25C x y a P c v) (tail25 hO hk hf hP (VC25_dead hv))
theorem call25_10 {x : MX} {a : OV} {v : VF} {ρ0 : Nat → PB} {W0 : World} (hO : capOk x a.P a.n) (hv : ∀ j, DeadV (v j)) : StepO Try.prog none (z25 x a) ρ0 W0 o25 [1, 2, 4, 5, 6, 7] (s25A1 x a v) (K25 x x a ρ0 W0) := by
  refine StepO.call' (F := x.F) (g := 48) (vs := [a.v]) (f := .func 48) (args := #[.tmp 4]) (dst := some 5) pg (by kernel_rfl) trivial rfl rfl fn48 rfl (g25A1 x a _) rfl as48 ?_
  rintro F' v' hf ⟨y, P, c, rfl, rfl, hk, hP⟩
  refine ⟨s25B1 y a P c v, ⟨rfl, rfl, rfl, rfl, rfl, (set251 a _ _ _).symm, g25B1 y a _ _ _, fun j hj => getr (by decide) (g23_rest x y a) j hj⟩, ?_⟩
  exact StepO.run (l1 := [2, 4]) (l2 := [5, 6, 7]) pg KN_ok (k25m10 y a P c v) trivial (show 1 ≤ 2 by decide) (tm25C_dead (VC25_dead hv) lvC25) (h25c_ok y a P c) rfl (ok25C x y a P c v) (tail25 hO hk hf hP (VC25_dead hv))
theorem call25_11 {x : MX} {a : OV} {v : VF} {ρ0 : Nat → PB} {W0 : World} (hO : capOk x a.P a.n) (hv : ∀ j, DeadV (v j)) : StepO Try.prog none (z25 x a) ρ0 W0 o25 [1, 4, 2, 5, 6, 7] (s25A1 x a v) (K25 x x a ρ0 W0) := by
  refine StepO.call' (F := x.F) (g := 48) (vs := [a.v]) (f := .func 48) (args := #[.tmp 4]) (dst := some 5) pg (by kernel_rfl) trivial rfl rfl fn48 rfl (g25A1 x a _) rfl as48 ?_
  rintro F' v' hf ⟨y, P, c, rfl, rfl, hk, hP⟩
  refine ⟨s25B1 y a P c v, ⟨rfl, rfl, rfl, rfl, rfl, (set251 a _ _ _).symm, g25B1 y a _ _ _, fun j hj => getr (by decide) (g23_rest x y a) j hj⟩, ?_⟩
  exact StepO.run (l1 := [4, 2]) (l2 := [5, 6, 7]) pg KN_ok (k25m11 y a P c v) trivial (show 1 ≤ 2 by decide) (tm25C_dead (VC25_dead hv) lvC25) (h25c_ok y a P c) rfl (ok25C x y a P c v) (tail25 hO hk hf hP (VC25_dead hv))
theorem call25_20 {x : MX} {a : OV} {v : VF} {ρ0 : Nat → PB} {W0 : World} (hO : capOk x a.P a.n) (hv : ∀ j, DeadV (v j)) : StepO Try.prog none (z25 x a) ρ0 W0 o25 [1, 2, 5, 6, 7] (s25A2 x a v) (K25 x x a ρ0 W0) := by
  refine StepO.call' (F := x.F) (g := 48) (vs := [a.v]) (f := .func 48) (args := #[.tmp 4]) (dst := some 5) pg (by kernel_rfl) trivial rfl rfl fn48 rfl (g25A2 x a _) rfl as48 ?_
  rintro F' v' hf ⟨y, P, c, rfl, rfl, hk, hP⟩
  refine ⟨s25B2 y a P c v, ⟨rfl, rfl, rfl, rfl, rfl, (set252 a _ _ _).symm, g25B2 y a _ _ _, fun j hj => getr (by decide) (g23_rest x y a) j hj⟩, ?_⟩
  exact StepO.run (l1 := [2]) (l2 := [5, 6, 7]) pg KN_ok (k25m20 y a P c v) trivial (show 1 ≤ 2 by decide) (tm25C_dead (VD25_dead hv) lvD25) (h25c_ok y a P c) rfl (ok25D x y a P c v) (tail25 hO hk hf hP (VD25_dead hv))
theorem beh25 {x : MX} {a : OV} (hO : capOk x a.P a.n) : MkOk Try.prog x.F 25 [a.v] (BytesR x (behE x a)) := by
  refine mk_fn (s0 := z25 x a) rfl fn25 fun ρ0 W0 => ?_
  show StepW Try.prog none (z25 x a) ρ0 W0 b25 (z25 x a) (Q25 x a W0)
  rw [b25_eq]
  refine StepW.seq (((StepG.stdT (s0 := z25 x a) (rd := none) pg KN_ok (k25s x a) trivial (show 1 ≤ 1 by decide) (tm25s_dead (VS25_dead vU_dead) lvS25) (g23_ok x a) rfl (ok25s x x a vU)).at ρ0 W0).mono ?_)
  rintro e s ⟨rfl, rfl⟩
  refine .inl ⟨rfl, StepW.seq (StepW.regionD mixed all25 fun l hl => ?_)⟩
  show StepO Try.prog none (z25 x a) ρ0 W0 o25 l (s25s x a (VS25 vU)) (K25 x x a ρ0 W0)
  have hd := VS25_dead vU_dead
  simp only [List.mem_cons, List.not_mem_nil, or_false] at hl
  rcases hl with rfl | rfl | rfl | rfl | rfl | rfl | rfl | rfl | rfl | rfl
  · exact StepO.run (l1 := [0]) (l2 := [1, 2, 3, 4, 5, 6, 7]) pg KN_ok (k25pA00 x a _) trivial (show 1 ≤ 2 by decide) (tm25A0_dead (VN25_dead hd) lvN25) (g23_ok x a) rfl (ok25A0 x x a _) (call25_00 hO (VN25_dead hd))
  · exact StepO.run (l1 := [0]) (l2 := [1, 3, 2, 4, 5, 6, 7]) pg KN_ok (k25pA00 x a _) trivial (show 1 ≤ 2 by decide) (tm25A0_dead (VN25_dead hd) lvN25) (g23_ok x a) rfl (ok25A0 x x a _) (call25_01 hO (VN25_dead hd))
  · exact StepO.run (l1 := [0]) (l2 := [1, 3, 4, 2, 5, 6, 7]) pg KN_ok (k25pA00 x a _) trivial (show 1 ≤ 2 by decide) (tm25A0_dead (VN25_dead hd) lvN25) (g23_ok x a) rfl (ok25A0 x x a _) (call25_02 hO (VN25_dead hd))
  · exact StepO.run (l1 := [0, 3]) (l2 := [1, 2, 4, 5, 6, 7]) pg KN_ok (k25pA10 x a _) trivial (show 1 ≤ 2 by decide) (tm25A1_dead (VN125_dead hd) lvN125) (g23_ok x a) rfl (ok25A1 x x a _) (call25_10 hO (VN125_dead hd))
  · exact StepO.run (l1 := [0, 3]) (l2 := [1, 4, 2, 5, 6, 7]) pg KN_ok (k25pA10 x a _) trivial (show 1 ≤ 2 by decide) (tm25A1_dead (VN125_dead hd) lvN125) (g23_ok x a) rfl (ok25A1 x x a _) (call25_11 hO (VN125_dead hd))
  · exact StepO.run (l1 := [0, 3, 4]) (l2 := [1, 2, 5, 6, 7]) pg KN_ok (k25pA20 x a _) trivial (show 1 ≤ 2 by decide) (tm25A2_dead (VA225_dead hd) lvA225) (g23_ok x a) rfl (ok25A2 x x a _) (call25_20 hO (VA225_dead hd))
  · exact StepO.run (l1 := [3, 0]) (l2 := [1, 2, 4, 5, 6, 7]) pg KN_ok (k25pA11 x a _) trivial (show 1 ≤ 2 by decide) (tm25A1_dead (VN125_dead hd) lvN125) (g23_ok x a) rfl (ok25A1 x x a _) (call25_10 hO (VN125_dead hd))
  · exact StepO.run (l1 := [3, 0]) (l2 := [1, 4, 2, 5, 6, 7]) pg KN_ok (k25pA11 x a _) trivial (show 1 ≤ 2 by decide) (tm25A1_dead (VN125_dead hd) lvN125) (g23_ok x a) rfl (ok25A1 x x a _) (call25_11 hO (VN125_dead hd))
  · exact StepO.run (l1 := [3, 0, 4]) (l2 := [1, 2, 5, 6, 7]) pg KN_ok (k25pA21 x a _) trivial (show 1 ≤ 2 by decide) (tm25A2_dead (VA225_dead hd) lvA225) (g23_ok x a) rfl (ok25A2 x x a _) (call25_20 hO (VA225_dead hd))
  · exact StepO.run (l1 := [3, 4, 0]) (l2 := [1, 2, 5, 6, 7]) pg KN_ok (k25pA22 x a _) trivial (show 1 ≤ 2 by decide) (tm25A2_dead (VA225_dead hd) lvA225) (g23_ok x a) rfl (ok25A2 x x a _) (call25_20 hO (VA225_dead hd))
end
end ob
end Go.Proofs.Ytpfmilkddapfiaa
