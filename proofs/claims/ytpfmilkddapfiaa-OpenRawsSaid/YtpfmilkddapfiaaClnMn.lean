/- Read off the code by the clean reading. -/
import Derived.Test.YtpfmilkddapfiaaClnMk
set_option linter.unusedVariables false
set_option linter.unusedSimpArgs false
set_option linter.deprecated false
set_option maxRecDepth 100000
namespace Go.Proofs.Ytpfmilkddapfiaa
open Go.ChangeShapes Go.WideShapes Go.ChangeAt Go.RowKit Go.Cln
namespace ob
set_option linter.unusedVariables false
noncomputable section
def b12 : Code := ((Try.prog.funcs[12]?).bind (·.body)).getD .skip
theorem fn12 : (Try.prog.funcs[12]?).map (fun f => (f.body, f.results.toList, f.ntmps)) = some (some b12, [.tmp 2, .tmp 3], 35) := by kernel_rfl
def e12 : Code := sndC (sndC b12)
def o12 : Array Oper := opsC (fstC e12)
def v12 : Code := sndC e12
theorem e12_eq : e12 = .seq (.region 4 o12 false) v12 := by kernel_rfl
theorem o12_eq : List.range o12.size = [0] ++ (1 :: ([2] ++ [])) := by kernel_rfl
noncomputable def z12 (x : MX) (a : OV) : St := { smSt 1 [some (.fam x.F)] [] with tmps := [a.v] ++ List.replicate 34 undef, defers := [] }
noncomputable def go12 (K : Given) (c : Code) (s : St) (o : List (Option Bool)) : Option (Exit × St) := (mk Try.prog K 300).code 12 none c { s with obl := True, orc := o }
noncomputable def gd12 (K : Given) (l : List Nat) (c : Code) (s : St) (o : List (Option Bool)) : Option (St × Code) := down (mk Try.prog K 300) 12 none l c { s with obl := True, orc := o }
noncomputable def rs12 (l : List Nat) (s : St) (o : List (Option Bool)) : Option St := runSeq Try.prog KN (mk Try.prog KN 200) o12 l { s with obl := True, orc := o }
noncomputable def shortE (a : OV) : Int := bif decide (a.asn > 65535) then 23456 else a.asn
noncomputable def l2E (a : OV) (s : Int) : List Int := [IntKind.u8.wrap (s.fdiv (2 ^ 8)), IntKind.u8.wrap (s.fdiv (2 ^ 0)), IntKind.u8.wrap ((IntKind.u32.wrap a.hold).fdiv (2 ^ 8)), IntKind.u8.wrap ((IntKind.u32.wrap a.hold).fdiv (2 ^ 0))]
noncomputable def l3E (a : OV) : List Int := [IntKind.u8.wrap (a.id.fdiv (2 ^ 24)), IntKind.u8.wrap (a.id.fdiv (2 ^ 16)), IntKind.u8.wrap (a.id.fdiv (2 ^ 8)), IntKind.u8.wrap (a.id.fdiv (2 ^ 0))]
noncomputable def l4E (m : Nat) : List Int := [IntKind.u8.wrap ((IntKind.u32.wrap (nI m)).fdiv (2 ^ 0))]
noncomputable def n12 (m : Nat) : Nat := (IntKind.i64.wrap (10 + nI m - 0)).toNat
noncomputable def Y0 (m : Nat) : List Int := List.replicate (n12 m) 0
noncomputable def Y1 (m : Nat) : List Int := layI (Y0 m) 0 [4]
noncomputable def Y2 (a : OV) (s : Int) (m : Nat) : List Int := layI (Y1 m) 1 (l2E a s)
noncomputable def Y3 (a : OV) (s : Int) (m : Nat) : List Int := layI (Y2 a s m) 5 (l3E a)
noncomputable def Y4 (a : OV) (s : Int) (m : Nat) : List Int := layI (Y3 a s m) 9 (l4E m)
noncomputable def Y5 (x : MX) (a : OV) (s : Int) (Q m : Nat) : List Int := layI (Y4 a s m) 10 (((x.D Q).drop 0).take m)
noncomputable def tm12s (v : VF) (a : OV) : List Value := (a.v :: .pointer (some ⟨1, 0, none⟩) :: vs v 2 33 [])
theorem tm12s_dead {v : VF} {a : OV} {B : Nat → Bool} (h : ∀ i, DeadV (v i)) (hB : ∀ i, ((Nat.ble 0 i && Nat.ble i 1)) = true → B i = true) : deadT B 0 (tm12s v a) :=
  dl (hB 0 rfl) (dl (hB 1 rfl) (deadT_vs h 33 (trivial)))
noncomputable def tm12a (v : VF) (a : OV) : List Value := (a.v :: .pointer (some ⟨1, 0, none⟩) :: vs v 2 9 (a.v :: vs v 12 23 []))
theorem tm12a_dead {v : VF} {a : OV} {B : Nat → Bool} (h : ∀ i, DeadV (v i)) (hB : ∀ i, ((Nat.ble 0 i && Nat.ble i 1) || Nat.beq i 11) = true → B i = true) : deadT B 0 (tm12a v a) :=
  dl (hB 0 rfl) (dl (hB 1 rfl) (deadT_vs h 9 (dl (hB 11 rfl) (deadT_vs h 23 (trivial)))))
noncomputable def tm12b (v : VF) (a : OV) (u : Value) : List Value := (a.v :: .pointer (some ⟨1, 0, none⟩) :: vs v 2 9 (a.v :: u :: vs v 13 22 []))
noncomputable def tm12c (v : VF) (a : OV) (u : Value) : List Value := (a.v :: .pointer (some ⟨1, 0, none⟩) :: vs v 2 3 (u :: vs v 6 29 []))
theorem tm12c_dead {v : VF} {a : OV} {u : Value} {B : Nat → Bool} (h : ∀ i, DeadV (v i)) (hB : ∀ i, ((Nat.ble 0 i && Nat.ble i 1) || Nat.beq i 5) = true → B i = true) : deadT B 0 (tm12c v a u) :=
  dl (hB 0 rfl) (dl (hB 1 rfl) (deadT_vs h 3 (dl (hB 5 rfl) (deadT_vs h 29 (trivial)))))
noncomputable def tm12r (v : VF) (a : OV) (u : Value) : List Value := (a.v :: .pointer (some ⟨1, 0, none⟩) :: u :: .int .i64 0 :: vs v 4 31 [])
theorem tm12r_dead {v : VF} {a : OV} {u : Value} {B : Nat → Bool} (h : ∀ i, DeadV (v i)) (hB : ∀ i, ((Nat.ble 0 i && Nat.ble i 3)) = true → B i = true) : deadT B 0 (tm12r v a u) :=
  dl (hB 0 rfl) (dl (hB 1 rfl) (dl (hB 2 rfl) (dl (hB 3 rfl) (deadT_vs h 31 (trivial)))))
def WS12 (i : Nat) : Bool := (Nat.ble 2 i && Nat.ble i 4) || (Nat.ble 7 i && Nat.ble i 9)
noncomputable def VS12 (v : VF) : VF := fun i => match Nat.beq i 6 with
  | true => .agg #[junk, junk, junk, junk]
  | false => match WS12 i with
  | true => junk
  | false => v i
def BS12 (i : Nat) : Bool := ((Nat.ble 0 i && Nat.ble i 1)) || WS12 i || Nat.beq i 6
theorem VS12_dead {v : VF} (h : ∀ i, DeadV (v i)) (i : Nat) : DeadV (VS12 v i) := by
  unfold VS12
  split
  · exact ⟨rfl, fun _ => rfl, fun _ => rfl⟩
  split
  · exact DeadV.junk
  · exact h i
theorem lvS12 (i : Nat) (h : ((Nat.ble 0 i && Nat.ble i 1)) = true) : BS12 i = true := jl (jl h)
def WA12 (i : Nat) : Bool := false
noncomputable def VA12 (v : VF) : VF := fun i => match WA12 i with
  | true => junk
  | false => v i
def BA12 (i : Nat) : Bool := ((Nat.ble 0 i && Nat.ble i 1) || Nat.beq i 11) || WA12 i
theorem VA12_dead {v : VF} (h : ∀ i, DeadV (v i)) (i : Nat) : DeadV (VA12 v i) := jD (W := WA12) h i
theorem lvA12 (i : Nat) (h : ((Nat.ble 0 i && Nat.ble i 1) || Nat.beq i 11) = true) : BA12 i = true := jl h
def WC12 (i : Nat) : Bool := Nat.beq i 12
noncomputable def VC12 (v : VF) : VF := fun i => match Nat.beq i 11 with
  | true => .agg #[junk, junk, junk, junk]
  | false => match WC12 i with
  | true => junk
  | false => v i
def BC12 (i : Nat) : Bool := ((Nat.ble 0 i && Nat.ble i 1) || Nat.beq i 5) || WC12 i || Nat.beq i 11
theorem VC12_dead {v : VF} (h : ∀ i, DeadV (v i)) (i : Nat) : DeadV (VC12 v i) := by
  unfold VC12
  split
  · exact ⟨rfl, fun _ => rfl, fun _ => rfl⟩
  split
  · exact DeadV.junk
  · exact h i
theorem lvC12 (i : Nat) (h : ((Nat.ble 0 i && Nat.ble i 1) || Nat.beq i 5) = true) : BC12 i = true := jl (jl h)
def WR12 (i : Nat) : Bool := Nat.beq i 5 || (Nat.ble 13 i && Nat.ble i 34)
noncomputable def VR12 (v : VF) : VF := fun i => match WR12 i with
  | true => junk
  | false => v i
def BR12 (i : Nat) : Bool := ((Nat.ble 0 i && Nat.ble i 3)) || WR12 i
theorem VR12_dead {v : VF} (h : ∀ i, DeadV (v i)) (i : Nat) : DeadV (VR12 v i) := jD (W := WR12) h i
theorem lvR12 (i : Nat) (h : ((Nat.ble 0 i && Nat.ble i 3)) = true) : BR12 i = true := jl h
noncomputable def s12s (x : MX) (a : OV) (v : VF) : St := ⟨tm12s v a, [], Tr.rebuild (g23 x a) 2, 2, 1, [], fun _ => false, True, []⟩
noncomputable def s12a (x : MX) (a : OV) (v : VF) : St := ⟨tm12a v a, [], Tr.rebuild (g23 x a) 2, 2, 1, [], fun _ => false, True, []⟩
noncomputable def s12b (x : MX) (a : OV) (u : Value) (v : VF) : St := ⟨tm12b v a u, [], Tr.rebuild (g23 x a) 2, 2, 1, [], fun _ => false, True, []⟩
noncomputable def s12c (x : MX) (a : OV) (u : Value) (v : VF) : St := ⟨tm12c v a u, [], Tr.rebuild (g23 x a) 2, 2, 1, [], fun _ => false, True, []⟩
noncomputable def s12r (x : MX) (a : OV) (M : List Int) (u : Value) (v : VF) : St := ⟨tm12r v a u, [], Tr.rebuild (h25r x a M) 3, 3, 1, [], fun _ => false, True, []⟩
noncomputable def s12t (x : MX) (a : OV) (u : Value) (v : VF) : St := ⟨tm12r v a u, [], Tr.rebuild (g23 x a) 3, 3, 1, [], fun _ => false, True, []⟩
theorem k12e (x : MX) (a : OV) : (go12 (KT15 x) b12 (z12 x a) [some true]).bind (fun r => (results1 Try.prog r.2 [.tmp 2, .tmp 3]).map fun q => (r.1, q.2.obl, r.2.defers, oneOf q.1, r.2.heap.get 0)) = some (.ret, (True ∧ (x.F = x.F ∧ capOk x a.P a.n)) ∧ (check15 x a != 0) = true, [], .tuple #[.slice none 0 0, .int .i64 (check15 x a)], some (.fam x.F)) := by kernel_rfl
theorem k12d (x : MX) (a : OV) : (gd12 (KT15 x) [2, 2] b12 (z12 x a) [some false]).map (fun r => (r.2, r.1.obl, seenInT BS12 r.1 (s12s x a (VS12 vU)) [0, 1])) = some (e12, (True ∧ (x.F = x.F ∧ capOk x a.P a.n)) ∧ (check15 x a != 0) = false, seenAsT BS12 (s12s x a (VS12 vU)) [0, 1] 2) := by kernel_rfl
theorem ok12d (x0 x : MX) (a : OV) (v : VF) : picOkT BS12 (z12 x0 a) (s12s x a (VS12 v)) [0, 1] = true := by kernel_rfl
theorem up12 (x : MX) (a : OV) (ρ0 : Nat → PB) (W0 : World) (Q_ : Exit → St → Prop) : upW Try.prog none (z12 x a) ρ0 W0 [2, 2] b12 Q_ = Q_ := by kernel_rfl
theorem k12a (x : MX) (a : OV) (v : VF) : (rs12 [0] (s12s x a v) []).map (fun r => (r.obl, seenInT BA12 r (s12a x a (VA12 v)) [0, 1])) = some (True, seenAsT BA12 (s12a x a (VA12 v)) [0, 1] 2) := by kernel_rfl
theorem ok12a (x0 x : MX) (a : OV) (v : VF) : picOkT BA12 (z12 x0 a) (s12a x a (VA12 v)) [0, 1] = true := by kernel_rfl
theorem k12c (x : MX) (a : OV) (Q m c : Nat) (v : VF) : (rs12 [2] (s12b x a (PB_ Q m c) v) []).map (fun r => (r.obl, seenInT BC12 r (s12c x a (PB_ Q m c) (VC12 v)) [0, 1])) = some (True, seenAsT BC12 (s12c x a (PB_ Q m c) (VC12 v)) [0, 1] 2) := by kernel_rfl
theorem ok12c (x0 x : MX) (a : OV) (Q m c : Nat) (v : VF) : picOkT BC12 (z12 x0 a) (s12c x a (PB_ Q m c) (VC12 v)) [0, 1] = true := by kernel_rfl
def p12b (x : MX) (a : OV) (Q m : Nat) : Prop := (((((((((((((((True ∧ decide (a.asn > 65535) = true) ∧ IntKind.i64.wrap (10 + nI m) = 10 + nI m) ∧ IntKind.i64.wrap (10 + nI m - 0) = 10 + nI m - 0) ∧ decide (10 + nI m - 0 > 0) = true) ∧ (1 ≤ IntKind.i64.wrap (10 + nI m - 0) ∧ n12 m * 1 ≤ mostBytes ∧ n12 m ≤ mostBytes)) ∧ decide (1 ≤ n12 m) = true) ∧ (0 + 1 ≤ ([4] : List Int).length ∧ 0 + 1 ≤ (Y0 m).length)) ∧ decide (5 ≤ n12 m) = true) ∧ (0 + 4 ≤ (l2E a 23456 : List Int).length ∧ 1 + 4 ≤ (Y1 m).length)) ∧ decide (9 ≤ n12 m) = true) ∧ (0 + 4 ≤ (l3E a : List Int).length ∧ 5 + 4 ≤ (Y2 a 23456 m).length)) ∧ decide (10 ≤ n12 m) = true) ∧ (0 + 1 ≤ (l4E m : List Int).length ∧ 9 + 1 ≤ (Y3 a 23456 m).length)) ∧ decide (10 + m ≤ n12 m) = true) ∧ ((m = 0 ∨ 0 + m ≤ (x.D Q).length) ∧ 10 + m ≤ (Y4 a 23456 m).length))
theorem k12rb (x : MX) (a : OV) (Q m c : Nat) (v : VF) : (go12 KN v12 (s12c x a (PB_ Q m c) v) [none, none, none, none, none, none, none, none, none, none, none, none, some true, none, none, none, none, none, none, none, none, none, none, none, none, none, none, none, none, none, none, none, none, none, none, none, none, none, none, none, none, none, none, none, none, none, none, none, none, none, none, none, none, none, none, none, none, none, none, none, none, none, none, none, none, none, none, none, none, none, none, none, none, none, none, none, none, none, none, none, none, none, none, none, none, none, none, none, none, none, none, none, none, none, some true, none, none, none, none, none, some true, some true, some true, none, none, none, some true, none, none, none, some true, none, none, none, some true, none, none, none, some true, none, none, none, some true]).map (fun r => (r.1, r.2.obl, seenInT BR12 r.2 (s12r x a (Y5 x a 23456 Q m) (.slice (some ⟨2, 0, some 1⟩) (10 + m) (n12 m)) (VR12 v)) [0, 1, 27])) = some (.ret, p12b x a Q m, seenAsT BR12 (s12r x a (Y5 x a 23456 Q m) (.slice (some ⟨2, 0, some 1⟩) (10 + m) (n12 m)) (VR12 v)) [0, 1, 27] 28) := by kernel_rfl
def p12s (x : MX) (a : OV) (Q m : Nat) : Prop := (((((((((((((((True ∧ decide (a.asn > 65535) = false) ∧ IntKind.i64.wrap (10 + nI m) = 10 + nI m) ∧ IntKind.i64.wrap (10 + nI m - 0) = 10 + nI m - 0) ∧ decide (10 + nI m - 0 > 0) = true) ∧ (1 ≤ IntKind.i64.wrap (10 + nI m - 0) ∧ n12 m * 1 ≤ mostBytes ∧ n12 m ≤ mostBytes)) ∧ decide (1 ≤ n12 m) = true) ∧ (0 + 1 ≤ ([4] : List Int).length ∧ 0 + 1 ≤ (Y0 m).length)) ∧ decide (5 ≤ n12 m) = true) ∧ (0 + 4 ≤ (l2E a a.asn : List Int).length ∧ 1 + 4 ≤ (Y1 m).length)) ∧ decide (9 ≤ n12 m) = true) ∧ (0 + 4 ≤ (l3E a : List Int).length ∧ 5 + 4 ≤ (Y2 a a.asn m).length)) ∧ decide (10 ≤ n12 m) = true) ∧ (0 + 1 ≤ (l4E m : List Int).length ∧ 9 + 1 ≤ (Y3 a a.asn m).length)) ∧ decide (10 + m ≤ n12 m) = true) ∧ ((m = 0 ∨ 0 + m ≤ (x.D Q).length) ∧ 10 + m ≤ (Y4 a a.asn m).length))
theorem k12rs (x : MX) (a : OV) (Q m c : Nat) (v : VF) : (go12 KN v12 (s12c x a (PB_ Q m c) v) [none, none, none, none, none, none, none, none, none, none, none, none, some false, none, none, none, none, none, none, none, none, none, none, none, none, none, none, none, none, none, none, none, none, none, none, none, none, none, none, none, none, none, none, none, none, none, none, none, none, none, none, none, none, none, none, none, none, none, none, none, none, none, none, none, none, none, none, none, none, none, none, none, none, none, none, none, none, none, none, none, none, none, none, none, none, none, none, none, none, none, none, none, none, none, some true, none, none, none, none, none, some true, some true, some true, none, none, none, some true, none, none, none, some true, none, none, none, some true, none, none, none, some true, none, none, none, some true]).map (fun r => (r.1, r.2.obl, seenInT BR12 r.2 (s12r x a (Y5 x a a.asn Q m) (.slice (some ⟨2, 0, some 1⟩) (10 + m) (n12 m)) (VR12 v)) [0, 1, 27])) = some (.ret, p12s x a Q m, seenAsT BR12 (s12r x a (Y5 x a a.asn Q m) (.slice (some ⟨2, 0, some 1⟩) (10 + m) (n12 m)) (VR12 v)) [0, 1, 27] 28) := by kernel_rfl
theorem ok12r (x0 x : MX) (a : OV) (M : List Int) (m n : Nat) (v : VF) : picOkT BR12 (z12 x0 a) (s12r x a M (.slice (some ⟨2, 0, some 1⟩) m n) (VR12 v)) [0, 1, 27] = true := by kernel_rfl
end
end ob
end Go.Proofs.Ytpfmilkddapfiaa
namespace Go.Proofs.Ytpfmilkddapfiaa
open Go.ChangeShapes Go.WideShapes Go.ChangeAt Go.RowKit Go.Cln
namespace ob
set_option linter.unusedVariables false
noncomputable section
theorem lay_rep (A r : List Int) {n k o : Nat} (ho : o = A.length) (h : n = r.length + k) : layI (A ++ List.replicate n 0) o r = (A ++ r) ++ List.replicate k 0 := by
  subst h
  subst ho
  unfold layI
  rw [List.take_left', List.append_assoc]
  · congr 1
    congr 1
    rw [List.drop_append, List.drop_eq_nil_of_le (by omega), List.nil_append, List.drop_replicate]
    congr 1
    omega
  · rfl
theorem n12_eq {m : Nat} (hm : m ≤ 1000000000) : n12 m = 10 + m := by
  unfold n12
  rw [IntKind.wrap_i64] <;> unfold nI <;> omega
noncomputable def head12 (a : OV) (s : Int) (m : Nat) : List Int := (([4] ++ l2E a s) ++ l3E a) ++ l4E m
theorem Y1_eq {m : Nat} (hm : m ≤ 1000000000) : Y1 m = [4] ++ List.replicate (9 + m) 0 := by
  unfold Y1 Y0
  rw [n12_eq hm]
  exact lay_rep [] [4] rfl (by show 10 + m = 1 + (9 + m); omega)
theorem Y2_eq {a : OV} {s : Int} {m : Nat} (hm : m ≤ 1000000000) : Y2 a s m = ([4] ++ l2E a s) ++ List.replicate (5 + m) 0 := by
  unfold Y2
  rw [Y1_eq hm]
  exact lay_rep _ _ rfl (by show 9 + m = 4 + (5 + m); omega)
theorem Y3_eq {a : OV} {s : Int} {m : Nat} (hm : m ≤ 1000000000) : Y3 a s m = (([4] ++ l2E a s) ++ l3E a) ++ List.replicate (1 + m) 0 := by
  unfold Y3
  rw [Y2_eq hm]
  exact lay_rep _ _ rfl (by show 5 + m = 4 + (1 + m); omega)
theorem Y4_eq {a : OV} {s : Int} {m : Nat} (hm : m ≤ 1000000000) : Y4 a s m = head12 a s m ++ List.replicate m 0 := by
  unfold Y4 head12
  rw [Y3_eq hm]
  exact lay_rep _ _ rfl (by show 1 + m = 1 + m; omega)
theorem Y5_eq {x : MX} {a : OV} {s : Int} {Q m : Nat} (hm : m ≤ 1000000000) (hl : (x.D Q).length = m) : Y5 x a s Q m = head12 a s m ++ x.D Q := by
  unfold Y5
  rw [Y4_eq hm, List.drop_zero, List.take_of_length_le (by omega)]
  rw [lay_rep (k := 0) (o := 10) (n := m) (head12 a s m) (x.D Q) rfl (by omega)]
  exact List.append_nil _
theorem Y_len {a : OV} {s : Int} {m : Nat} (hm : m ≤ 1000000000) : (Y0 m).length = 10 + m ∧ (Y1 m).length = 10 + m ∧ (Y2 a s m).length = 10 + m ∧ (Y3 a s m).length = 10 + m ∧ (Y4 a s m).length = 10 + m := by
  rw [Y1_eq hm, Y2_eq hm, Y3_eq hm, Y4_eq hm]
  refine ⟨by unfold Y0; rw [n12_eq hm, List.length_replicate], ?_, ?_, ?_, ?_⟩
  · rw [List.length_append, List.length_replicate]; show 1 + (9 + m) = _; omega
  · rw [List.length_append, List.length_replicate]; show 5 + (5 + m) = _; omega
  · rw [List.length_append, List.length_replicate]; show 9 + (1 + m) = _; omega
  · rw [List.length_append, List.length_replicate]; rfl
theorem conds12 {x : MX} {a : OV} {s : Int} {Q m : Nat} {A : Prop} (hA : A) (hm : m ≤ 2000000) (hl : (x.D Q).length = m) : (((((((((((((((True ∧ A) ∧ IntKind.i64.wrap (10 + nI m) = 10 + nI m) ∧ IntKind.i64.wrap (10 + nI m - 0) = 10 + nI m - 0) ∧ decide (10 + nI m - 0 > 0) = true) ∧ (1 ≤ IntKind.i64.wrap (10 + nI m - 0) ∧ n12 m * 1 ≤ mostBytes ∧ n12 m ≤ mostBytes)) ∧ decide (1 ≤ n12 m) = true) ∧ (0 + 1 ≤ ([4] : List Int).length ∧ 0 + 1 ≤ (Y0 m).length)) ∧ decide (5 ≤ n12 m) = true) ∧ (0 + 4 ≤ (l2E a s : List Int).length ∧ 1 + 4 ≤ (Y1 m).length)) ∧ decide (9 ≤ n12 m) = true) ∧ (0 + 4 ≤ (l3E a : List Int).length ∧ 5 + 4 ≤ (Y2 a s m).length)) ∧ decide (10 ≤ n12 m) = true) ∧ (0 + 1 ≤ (l4E m : List Int).length ∧ 9 + 1 ≤ (Y3 a s m).length)) ∧ decide (10 + m ≤ n12 m) = true) ∧ ((m = 0 ∨ 0 + m ≤ (x.D Q).length) ∧ 10 + m ≤ (Y4 a s m).length)) := by
  obtain ⟨y0, y1, y2, y3, y4⟩ := Y_len (a := a) (s := s) (m := m) (by omega)
  have en := n12_eq (m := m) (by omega)
  have w1 : IntKind.i64.wrap (10 + nI m) = 10 + nI m := by rw [IntKind.wrap_i64] <;> unfold nI <;> omega
  have w2 : IntKind.i64.wrap (10 + nI m - 0) = 10 + nI m - 0 := by rw [IntKind.wrap_i64] <;> unfold nI <;> omega
  rw [y0, y1, y2, y3, y4, en, w2]
  refine ⟨⟨⟨⟨⟨⟨⟨⟨⟨⟨⟨⟨⟨⟨⟨trivial, hA⟩, w1⟩, rfl⟩, decide_eq_true (by unfold nI; omega)⟩, by unfold nI; omega, by unfold mostBytes; omega, by unfold mostBytes; omega⟩, decide_eq_true (by omega)⟩, Nat.le_refl _, by omega⟩, decide_eq_true (by omega)⟩, Nat.le_refl _, by omega⟩, decide_eq_true (by omega)⟩, Nat.le_refl _, by omega⟩, decide_eq_true (by omega)⟩, Nat.le_refl _, by omega⟩, decide_eq_true (by omega)⟩, .inr (by omega), Nat.le_refl _⟩
theorem took12 (y : MX) (a : OV) (M : List Int) (m n R c' : Nat) (v : VF) : TookT (s12r y a M (.slice (some ⟨2, 0, some 1⟩) m n) v) (s12t (y.wD (updF y.D R M)) a (PB_ R m c') v) y.F (fun g => Nat.beq g 1000) 1000 2 2 (.ints .u8 M) m R c' where
  next := rfl
  roB := rfl
  ro := rfl
  hid := rfl
  defers := rfl
  tmps := rfl
  zero := by rw [← putB_F]; kernel_rfl
  gone := by kernel_rfl
  rest := fun j h0 hb => rest25 (f := g23 (y.wD (updF y.D R M)) a) (g := h25r y a M) rfl (fun j hj => by rcases j with _ | _ | _ | j <;> first | omega | rfl) j h0 hb
theorem g12r0 (x : MX) (a : OV) (M : List Int) (u : Value) (v : VF) : (s12r x a M u v).heap.get 0 = some (.fam x.F) := by kernel_rfl
theorem g12r2 (x : MX) (a : OV) (M : List Int) (u : Value) (v : VF) : (s12r x a M u v).heap.get 2 = some (.cells (.ints .u8 M) 5) := by kernel_rfl
theorem g12t0 (x : MX) (a : OV) (u : Value) (v : VF) : (s12t x a u v).heap.get 0 = some (.fam x.F) := by kernel_rfl
theorem g12a0 (x : MX) (a : OV) (v : VF) : (s12a x a v).heap.get 0 = some (.fam x.F) := by kernel_rfl
theorem g12b0 (x : MX) (a : OV) (u : Value) (v : VF) : (s12b x a u v).heap.get 0 = some (.fam x.F) := by kernel_rfl
theorem set12 (a : OV) (u : Value) (v : VF) : setL (tm12a v a) 12 u = tm12b v a u := by kernel_rfl
theorem z12_base (x : MX) (a : OV) (b : Nat) (o : Ob) (h : (z12 x a).heap.get b = some o) : (z12 x a).may b = false := by
  obtain ⟨rfl, _⟩ := fam_get (orc := []) (show (smSt 1 [some (.fam x.F)] []).heap.get b = some o from h)
  rfl
noncomputable def rawE (x : MX) (a : OV) : List Int := head12 a (shortE a) (behE x a).length ++ behE x a
def RawR (x : MX) (a : OV) (F' : Nat → Nat → Cells) (v : Value) : Prop := (check15 x a ≠ 0 ∧ F' = x.F ∧ v = .tuple #[.slice none 0 0, .int .i64 (check15 x a)]) ∨ (check15 x a = 0 ∧ ∃ (y : MX) (P c : Nat), F' = y.F ∧ v = .tuple #[PB_ P (rawE x a).length c, .int .i64 0] ∧ Keeps x.F y.F ∧ y.D P = rawE x a)
def Q12 (x : MX) (a : OV) (W0 : World) : Exit → St → Prop := fun e s' => leaves? e = true ∧ s'.defers = [] ∧ ∃ F' q, s'.heap.get 0 = some (.fam F') ∧ Fresh W0 x.F F' ∧ results1 Try.prog s' [.tmp 2, .tmp 3] = some q ∧ q.2.obl ∧ farW (oneOf q.1) = true ∧ RawR x a F' (oneOf q.1)
theorem end12 {x y : MX} {a : OV} {s : Int} {Q m c : Nat} {v : VF} {ρ0 : Nat → PB} {W0 : World} (h0 : check15 x a = 0) (hs : shortE a = s) (hm : m = (behE x a).length) (hm2 : m ≤ 2000000) (hk : Keeps x.F y.F) (hf : Fresh W0 x.F y.F) (hQ : y.D Q = behE x a)
    (hr : StepW Try.prog none (z12 x a) ρ0 W0 v12 (s12c y a (PB_ Q m c) v) fun e s' => e = .ret ∧ s' = s12r y a (Y5 y a s Q m) (.slice (some ⟨2, 0, some 1⟩) (10 + m) (n12 m)) (VR12 v)) : StepW Try.prog none (z12 x a) ρ0 W0 v12 (s12c y a (PB_ Q m c) v) (Q12 x a W0) := by
  refine StepW.turn hr ?_
  rintro e s' w a' ⟨rfl, rfl⟩ hs0 hp
  have eL : Y5 y a s Q m = rawE x a := by
    rw [Y5_eq (by omega) (by rw [hQ, hm]), hQ]
    unfold rawE
    rw [hs, hm]
  have en : 10 + m = (rawE x a).length := by unfold rawE; rw [List.length_append, ← hm]; rfl
  obtain ⟨R, c', hc, hR, hk3, hp2⟩ := PicG.takeT (sg := 1000) (i := 2) (b := 2) (p := fun g => Nat.beq g 1000) (c := .ints .u8 (Y5 y a s Q m)) (fun R c' => s12t (y.wD (updF y.D R (Y5 y a s Q m))) a (PB_ R (10 + m) c') (VR12 v)) hp (g12r0 y a _ _ _) (g12r2 y a _ _ _) ints_fam rfl (by decide) rfl rfl rfl (z12_base x a) (fun R c' => took12 y a _ _ _ R c' _)
  rw [← putB_F] at hk3
  refine ⟨_, ⟨rfl, rfl, _, ([PB_ R (10 + m) c', .int .i64 0], s12t (y.wD (updF y.D R (Y5 y a s Q m))) a (PB_ R (10 + m) c') (VR12 v)), g12t0 _ a _ _, ?_, rfl, trivial, rfl, .inr ⟨h0, _, R, c', rfl, ?_, hk.trans hk3, ?_⟩⟩, hp2⟩
  · rw [putB_F]; exact hf.put hR
  · rw [en]; rfl
  · rw [← eL]; exact updF_at _ _ _
theorem raw12 {x : MX} {a : OV} (hO : capOk x a.P a.n) : MkOk Try.prog x.F 12 [a.v] (RawR x a) := by
  refine mk_fn (s0 := z12 x a) rfl fn12 fun ρ0 W0 => ?_
  show StepW Try.prog none (z12 x a) ρ0 W0 b12 (z12 x a) (Q12 x a W0)
  cases hc : (check15 x a != 0) with
  | true =>
    refine ((StepG.ranM (s0 := z12 x a) (rd := none) pg (KT15_ok x) (k12e x a) ⟨⟨trivial, rfl, hO⟩, hc⟩ (show 1 ≤ 1 by decide)).at ρ0 W0).mono ?_
    rintro e s ⟨rfl, h5, h6, q, h7, h8, h9⟩
    exact ⟨rfl, h5, _, q, h6, Fresh.refl _ _, h7, h8, by rw [h9]; rfl, .inl ⟨by simpa using hc, rfl, h9⟩⟩
  | false =>
    have h0 : check15 x a = 0 := by simpa using hc
    refine StepW.downs pg (KT15_ok x) (k12d x a) ⟨⟨trivial, rfl, hO⟩, hc⟩ (tm12s_dead (VS12_dead vU_dead) lvS12) (g23_ok x a) rfl (ok12d x x a vU) ?_
    rw [up12, e12_eq]
    have hv := VS12_dead vU_dead
    refine StepW.seq (StepW.region ?_)
    rw [o12_eq]
    refine StepO.run pg KN_ok (k12a x a _) trivial (show 1 ≤ 2 by decide) (tm12a_dead (VA12_dead hv) lvA12) (g23_ok x a) rfl (ok12a x x a _) ?_
    refine StepO.call' (F := x.F) (g := 25) (vs := [a.v]) (f := .func 25) (args := #[.tmp 11]) (dst := some 12) pg (by kernel_rfl) trivial rfl rfl fn25 rfl (g12a0 x a _) rfl (beh25 hO) ?_
    rintro F' v' hf ⟨y, Q, c, rfl, rfl, hk, hQ⟩
    refine ⟨s12b y a (PB_ Q (behE x a).length c) (VA12 (VS12 vU)), ⟨rfl, rfl, rfl, rfl, rfl, (set12 a _ _).symm, g12b0 y a _ _, fun j hj => getr (by decide) (g23_rest x y a) j hj⟩, ?_⟩
    have hv2 := VC12_dead (VA12_dead hv)
    refine StepO.run pg KN_ok (k12c y a Q _ c _) trivial (show 1 ≤ 2 by decide) (tm12c_dead hv2 lvC12) (g23_ok y a) rfl (ok12c x y a _ _ _ _) ?_
    refine StepO.nil (.inl ⟨rfl, ?_⟩)
    have hl := (capsL_len hO a.n (Nat.le_refl _)).2
    have hn := hO.2.1
    have hb : (behE x a).length = 2 + (capsL x a a.n).length := by unfold behE; rw [List.length_append]; rfl
    cases hs : decide (a.asn > 65535) with
    | true =>
      exact end12 h0 (by unfold shortE; rw [hs]; rfl) rfl (by omega) hk hf hQ ((StepG.stdT (s0 := z12 x a) (rd := none) pg KN_ok (k12rb y a Q _ c _) (conds12 hs (by omega) (by rw [hQ])) (show 1 ≤ 2 by decide) (tm12r_dead (VR12_dead hv2) lvR12) (h25r_ok y a _) rfl (ok12r x y a _ _ _ _)).at ρ0 W0)
    | false =>
      exact end12 h0 (by unfold shortE; rw [hs]; rfl) rfl (by omega) hk hf hQ ((StepG.stdT (s0 := z12 x a) (rd := none) pg KN_ok (k12rs y a Q _ c _) (conds12 hs (by omega) (by rw [hQ])) (show 1 ≤ 2 by decide) (tm12r_dead (VR12_dead hv2) lvR12) (h25r_ok y a _) rfl (ok12r x y a _ _ _ _)).at ρ0 W0)
end
end ob
end Go.Proofs.Ytpfmilkddapfiaa
namespace Go.Proofs.Ytpfmilkddapfiaa
open Go.ChangeShapes Go.WideShapes Go.ChangeAt Go.RowKit Go.Cln
namespace ob
set_option linter.unusedVariables false
noncomputable section
def b17 : Code := ((Try.prog.funcs[17]?).bind (·.body)).getD .skip
theorem fn17 : (Try.prog.funcs[17]?).map (fun f => (f.body, f.results.toList, f.ntmps)) = some (some b17, [.tmp 2], 59) := by kernel_rfl
def e17 : Code := sndC b17
def o17 : Array Oper := opsC (fstC e17)
def v17 : Code := sndC e17
theorem e17_eq : e17 = .seq (.region 1 o17 false) v17 := by kernel_rfl
theorem o17_eq : List.range o17.size = [0] ++ (1 :: ([2] ++ [])) := by kernel_rfl
noncomputable def z17 (x : MX) (a : OV) : St := { smSt 1 [some (.fam x.F)] [] with tmps := [a.v] ++ List.replicate 58 undef, defers := [] }
noncomputable def go17 (K : Given) (c : Code) (s : St) (o : List (Option Bool)) : Option (Exit × St) := (mk Try.prog K 300).code 17 none c { s with obl := True, orc := o }
noncomputable def gd17 (l : List Nat) (c : Code) (s : St) (o : List (Option Bool)) : Option (St × Code) := down (mk Try.prog KN 300) 17 none l c { s with obl := True, orc := o }
noncomputable def rs17 (l : List Nat) (s : St) (o : List (Option Bool)) : Option St := runSeq Try.prog KN (mk Try.prog KN 200) o17 l { s with obl := True, orc := o }
noncomputable def tm17s (v : VF) (a : OV) : List Value := (a.v :: .pointer (some ⟨1, 0, none⟩) :: vs v 2 57 [])
theorem tm17s_dead {v : VF} {a : OV} {B : Nat → Bool} (h : ∀ i, DeadV (v i)) (hB : ∀ i, ((Nat.ble 0 i && Nat.ble i 1)) = true → B i = true) : deadT B 0 (tm17s v a) :=
  dl (hB 0 rfl) (dl (hB 1 rfl) (deadT_vs h 57 (trivial)))
noncomputable def tm17a (v : VF) (a : OV) : List Value := (a.v :: .pointer (some ⟨1, 0, none⟩) :: vs v 2 4 (a.v :: vs v 7 52 []))
theorem tm17a_dead {v : VF} {a : OV} {B : Nat → Bool} (h : ∀ i, DeadV (v i)) (hB : ∀ i, ((Nat.ble 0 i && Nat.ble i 1) || Nat.beq i 6) = true → B i = true) : deadT B 0 (tm17a v a) :=
  dl (hB 0 rfl) (dl (hB 1 rfl) (deadT_vs h 4 (dl (hB 6 rfl) (deadT_vs h 52 (trivial)))))
noncomputable def tm17b (v : VF) (a : OV) (u : Value) : List Value := (a.v :: .pointer (some ⟨1, 0, none⟩) :: vs v 2 4 (a.v :: u :: vs v 8 51 []))
noncomputable def tm17c (v : VF) (a : OV) (u : Value) : List Value := (a.v :: .pointer (some ⟨1, 0, none⟩) :: v 2 :: u :: vs v 4 55 [])
theorem tm17c_dead {v : VF} {a : OV} {u : Value} {B : Nat → Bool} (h : ∀ i, DeadV (v i)) (hB : ∀ i, ((Nat.ble 0 i && Nat.ble i 1) || Nat.beq i 3) = true → B i = true) : deadT B 0 (tm17c v a u) :=
  dl (hB 0 rfl) (dl (hB 1 rfl) (dn (h 2) (dl (hB 3 rfl) (deadT_vs h 55 (trivial)))))
noncomputable def tm17r (v : VF) (a : OV) (u : Value) : List Value := (a.v :: .pointer (some ⟨1, 0, none⟩) :: u :: vs v 3 56 [])
theorem tm17r_dead {v : VF} {a : OV} {u : Value} {B : Nat → Bool} (h : ∀ i, DeadV (v i)) (hB : ∀ i, ((Nat.ble 0 i && Nat.ble i 2)) = true → B i = true) : deadT B 0 (tm17r v a u) :=
  dl (hB 0 rfl) (dl (hB 1 rfl) (dl (hB 2 rfl) (deadT_vs h 56 (trivial))))
def WS17 (i : Nat) : Bool := Nat.beq i 2
noncomputable def VS17 (v : VF) : VF := fun i => match WS17 i with
  | true => junk
  | false => v i
def BS17 (i : Nat) : Bool := ((Nat.ble 0 i && Nat.ble i 1)) || WS17 i
theorem VS17_dead {v : VF} (h : ∀ i, DeadV (v i)) (i : Nat) : DeadV (VS17 v i) := jD (W := WS17) h i
theorem lvS17 (i : Nat) (h : ((Nat.ble 0 i && Nat.ble i 1)) = true) : BS17 i = true := jl h
def WA17 (i : Nat) : Bool := false
noncomputable def VA17 (v : VF) : VF := fun i => match WA17 i with
  | true => junk
  | false => v i
def BA17 (i : Nat) : Bool := ((Nat.ble 0 i && Nat.ble i 1) || Nat.beq i 6) || WA17 i
theorem VA17_dead {v : VF} (h : ∀ i, DeadV (v i)) (i : Nat) : DeadV (VA17 v i) := jD (W := WA17) h i
theorem lvA17 (i : Nat) (h : ((Nat.ble 0 i && Nat.ble i 1) || Nat.beq i 6) = true) : BA17 i = true := jl h
def WC17 (i : Nat) : Bool := Nat.beq i 7
noncomputable def VC17 (v : VF) : VF := fun i => match Nat.beq i 6 with
  | true => .agg #[junk, junk, junk, junk]
  | false => match WC17 i with
  | true => junk
  | false => v i
def BC17 (i : Nat) : Bool := ((Nat.ble 0 i && Nat.ble i 1) || Nat.beq i 3) || WC17 i || Nat.beq i 6
theorem VC17_dead {v : VF} (h : ∀ i, DeadV (v i)) (i : Nat) : DeadV (VC17 v i) := by
  unfold VC17
  split
  · exact ⟨rfl, fun _ => rfl, fun _ => rfl⟩
  split
  · exact DeadV.junk
  · exact h i
theorem lvC17 (i : Nat) (h : ((Nat.ble 0 i && Nat.ble i 1) || Nat.beq i 3) = true) : BC17 i = true := jl (jl h)
def WR17 (i : Nat) : Bool := (Nat.ble 3 i && Nat.ble i 5) || (Nat.ble 8 i && Nat.ble i 58)
noncomputable def VR17 (v : VF) : VF := fun i => match WR17 i with
  | true => junk
  | false => v i
def BR17 (i : Nat) : Bool := ((Nat.ble 0 i && Nat.ble i 2)) || WR17 i
theorem VR17_dead {v : VF} (h : ∀ i, DeadV (v i)) (i : Nat) : DeadV (VR17 v i) := jD (W := WR17) h i
theorem lvR17 (i : Nat) (h : ((Nat.ble 0 i && Nat.ble i 2)) = true) : BR17 i = true := jl h
noncomputable def s17s (x : MX) (a : OV) (v : VF) : St := ⟨tm17s v a, [], Tr.rebuild (g23 x a) 2, 2, 1, [], fun _ => false, True, []⟩
noncomputable def s17a (x : MX) (a : OV) (v : VF) : St := ⟨tm17a v a, [], Tr.rebuild (g23 x a) 2, 2, 1, [], fun _ => false, True, []⟩
noncomputable def s17b (x : MX) (a : OV) (u : Value) (v : VF) : St := ⟨tm17b v a u, [], Tr.rebuild (g23 x a) 2, 2, 1, [], fun _ => false, True, []⟩
noncomputable def s17c (x : MX) (a : OV) (u : Value) (v : VF) : St := ⟨tm17c v a u, [], Tr.rebuild (g23 x a) 2, 2, 1, [], fun _ => false, True, []⟩
noncomputable def s17r (x : MX) (a : OV) (M : List Int) (u : Value) (v : VF) : St := ⟨tm17r v a u, [], Tr.rebuild (h25r x a M) 3, 3, 1, [], fun _ => false, True, []⟩
noncomputable def s17t (x : MX) (a : OV) (u : Value) (v : VF) : St := ⟨tm17r v a u, [], Tr.rebuild (g23 x a) 3, 3, 1, [], fun _ => false, True, []⟩
noncomputable def M17 (a : OV) (s : Int) (m : Nat) : List Int := [4, IntKind.u8.wrap (IntKind.u32.wrap (s.tdiv 256)), IntKind.u8.wrap (s.tmod 256), IntKind.u8.wrap (IntKind.u16.wrap (a.hold.tdiv 256)), IntKind.u8.wrap (a.hold.tmod 256), IntKind.u8.wrap (IntKind.u32.wrap (a.id.tdiv 16777216)), IntKind.u8.wrap ((IntKind.u32.wrap (a.id.tdiv 65536)).tmod 256), IntKind.u8.wrap ((IntKind.u32.wrap (a.id.tdiv 256)).tmod 256), IntKind.u8.wrap (a.id.tmod 256), IntKind.u8.wrap (IntKind.i64.wrap (nI m + 2)), 2, IntKind.u8.wrap (nI m)]
noncomputable def N17 (x : MX) (a : OV) (s : Int) (Q m : Nat) : List Int := (((M17 a s m).drop 0).take 12) ++ ((x.D Q).drop 0).take m
theorem k17d (x : MX) (a : OV) : (gd17 [2] b17 (z17 x a) []).map (fun r => (r.2, r.1.obl, seenInT BS17 r.1 (s17s x a (VS17 vU)) [0, 1])) = some (e17, True, seenAsT BS17 (s17s x a (VS17 vU)) [0, 1] 2) := by kernel_rfl
theorem ok17d (x0 x : MX) (a : OV) (v : VF) : picOkT BS17 (z17 x0 a) (s17s x a (VS17 v)) [0, 1] = true := by kernel_rfl
theorem up17 (x : MX) (a : OV) (ρ0 : Nat → PB) (W0 : World) (Q_ : Exit → St → Prop) : upW Try.prog none (z17 x a) ρ0 W0 [2] b17 Q_ = Q_ := by kernel_rfl
theorem k17a (x : MX) (a : OV) (v : VF) : (rs17 [0] (s17s x a v) []).map (fun r => (r.obl, seenInT BA17 r (s17a x a (VA17 v)) [0, 1])) = some (True, seenAsT BA17 (s17a x a (VA17 v)) [0, 1] 2) := by kernel_rfl
theorem ok17a (x0 x : MX) (a : OV) (v : VF) : picOkT BA17 (z17 x0 a) (s17a x a (VA17 v)) [0, 1] = true := by kernel_rfl
theorem k17c (x : MX) (a : OV) (Q m c : Nat) (v : VF) : (rs17 [2] (s17b x a (PB_ Q m c) v) []).map (fun r => (r.obl, seenInT BC17 r (s17c x a (PB_ Q m c) (VC17 v)) [0, 1])) = some (True, seenAsT BC17 (s17c x a (PB_ Q m c) (VC17 v)) [0, 1] 2) := by kernel_rfl
theorem ok17c (x0 x : MX) (a : OV) (Q m c : Nat) (v : VF) : picOkT BC17 (z17 x0 a) (s17c x a (PB_ Q m c) (VC17 v)) [0, 1] = true := by kernel_rfl
def p17s (x : MX) (a : OV) (Q m : Nat) : Prop := (((True ∧ decide (a.asn < 65536) = true) ∧ decide (12 + m ≤ 12) = false) ∧ ((m = 0 ∨ 0 + m ≤ (x.D Q).length) ∧ 0 + 12 ≤ (M17 a a.asn m).length ∧ (12 + m) * 1 ≤ mostBytes ∧ 12 + m ≤ mostBytes))
theorem k17rs (x : MX) (a : OV) (Q m c : Nat) (v : VF) : (go17 KN v17 (s17c x a (PB_ Q m c) v) [some true, none, none, none, none, none, none, none, none, none, none, none, some false]).map (fun r => (r.1, r.2.obl, seenInT BR17 r.2 (s17r x a (N17 x a a.asn Q m) (.slice (some ⟨2, 0, some 1⟩) (12 + m) (12 + m)) (VR17 v)) [0, 1, 7])) = some (.ret, p17s x a Q m, seenAsT BR17 (s17r x a (N17 x a a.asn Q m) (.slice (some ⟨2, 0, some 1⟩) (12 + m) (12 + m)) (VR17 v)) [0, 1, 7] 8) := by kernel_rfl
def p17b (x : MX) (a : OV) (Q m : Nat) : Prop := (((True ∧ decide (a.asn < 65536) = false) ∧ decide (12 + m ≤ 12) = false) ∧ ((m = 0 ∨ 0 + m ≤ (x.D Q).length) ∧ 0 + 12 ≤ (M17 a 23456 m).length ∧ (12 + m) * 1 ≤ mostBytes ∧ 12 + m ≤ mostBytes))
theorem k17rb (x : MX) (a : OV) (Q m c : Nat) (v : VF) : (go17 KN v17 (s17c x a (PB_ Q m c) v) [some false, none, none, none, none, none, none, none, none, none, none, none, some false]).map (fun r => (r.1, r.2.obl, seenInT BR17 r.2 (s17r x a (N17 x a 23456 Q m) (.slice (some ⟨2, 0, some 1⟩) (12 + m) (12 + m)) (VR17 v)) [0, 1, 7])) = some (.ret, p17b x a Q m, seenAsT BR17 (s17r x a (N17 x a 23456 Q m) (.slice (some ⟨2, 0, some 1⟩) (12 + m) (12 + m)) (VR17 v)) [0, 1, 7] 8) := by kernel_rfl
theorem ok17r (x0 x : MX) (a : OV) (M : List Int) (m n : Nat) (v : VF) : picOkT BR17 (z17 x0 a) (s17r x a M (.slice (some ⟨2, 0, some 1⟩) m n) (VR17 v)) [0, 1, 7] = true := by kernel_rfl
end
end ob
end Go.Proofs.Ytpfmilkddapfiaa
namespace Go.Proofs.Ytpfmilkddapfiaa
open Go.ChangeShapes Go.WideShapes Go.ChangeAt Go.RowKit Go.Cln
namespace ob
set_option linter.unusedVariables false
noncomputable section
theorem took17 (y : MX) (a : OV) (M : List Int) (m n R c' : Nat) (v : VF) : TookT (s17r y a M (.slice (some ⟨2, 0, some 1⟩) m n) v) (s17t (y.wD (updF y.D R M)) a (PB_ R m c') v) y.F (fun g => Nat.beq g 1000) 1000 2 2 (.ints .u8 M) m R c' where
  next := rfl
  roB := rfl
  ro := rfl
  hid := rfl
  defers := rfl
  tmps := rfl
  zero := by rw [← putB_F]; kernel_rfl
  gone := by kernel_rfl
  rest := fun j h0 hb => rest25 (f := g23 (y.wD (updF y.D R M)) a) (g := h25r y a M) rfl (fun j hj => by rcases j with _ | _ | _ | j <;> first | omega | rfl) j h0 hb
theorem g17r0 (x : MX) (a : OV) (M : List Int) (u : Value) (v : VF) : (s17r x a M u v).heap.get 0 = some (.fam x.F) := by kernel_rfl
theorem g17r2 (x : MX) (a : OV) (M : List Int) (u : Value) (v : VF) : (s17r x a M u v).heap.get 2 = some (.cells (.ints .u8 M) 5) := by kernel_rfl
theorem g17t0 (x : MX) (a : OV) (u : Value) (v : VF) : (s17t x a u v).heap.get 0 = some (.fam x.F) := by kernel_rfl
theorem g17a0 (x : MX) (a : OV) (v : VF) : (s17a x a v).heap.get 0 = some (.fam x.F) := by kernel_rfl
theorem g17b0 (x : MX) (a : OV) (u : Value) (v : VF) : (s17b x a u v).heap.get 0 = some (.fam x.F) := by kernel_rfl
theorem set17 (a : OV) (u : Value) (v : VF) : setL (tm17a v a) 7 u = tm17b v a u := by kernel_rfl
theorem z17_base (x : MX) (a : OV) (b : Nat) (o : Ob) (h : (z17 x a).heap.get b = some o) : (z17 x a).may b = false := by
  obtain ⟨rfl, _⟩ := fam_get (orc := []) (show (smSt 1 [some (.fam x.F)] []).heap.get b = some o from h)
  rfl
noncomputable def shortR (a : OV) : Int := bif decide (a.asn < 65536) then a.asn else 23456
noncomputable def rawR (x : MX) (a : OV) : List Int := M17 a (shortR a) (acc29 x a a.n).length ++ acc29 x a a.n
def Q17 (x : MX) (a : OV) (W0 : World) : Exit → St → Prop := fun e s' => leaves? e = true ∧ s'.defers = [] ∧ ∃ F' q, s'.heap.get 0 = some (.fam F') ∧ Fresh W0 x.F F' ∧ results1 Try.prog s' [.tmp 2] = some q ∧ q.2.obl ∧ farW (oneOf q.1) = true ∧ BytesR x (rawR x a) F' (oneOf q.1)
theorem end17 {x y : MX} {a : OV} {s : Int} {Q m c : Nat} {v : VF} {ρ0 : Nat → PB} {W0 : World} (hs : shortR a = s) (hm : m = (acc29 x a a.n).length) (hk : Keeps x.F y.F) (hf : Fresh W0 x.F y.F) (hQ : y.D Q = acc29 x a a.n)
    (hr : StepW Try.prog none (z17 x a) ρ0 W0 v17 (s17c y a (PB_ Q m c) v) fun e s' => e = .ret ∧ s' = s17r y a (N17 y a s Q m) (.slice (some ⟨2, 0, some 1⟩) (12 + m) (12 + m)) (VR17 v)) : StepW Try.prog none (z17 x a) ρ0 W0 v17 (s17c y a (PB_ Q m c) v) (Q17 x a W0) := by
  refine StepW.turn hr ?_
  rintro e s' w a' ⟨rfl, rfl⟩ hs0 hp
  have eL : N17 y a s Q m = rawR x a := by
    unfold N17 rawR
    rw [hQ, hs, ← hm, List.drop_zero, List.drop_zero, List.take_of_length_le (by exact Nat.le_refl 12), List.take_of_length_le (by rw [← hm]; exact Nat.le_refl m)]
  have en : 12 + m = (rawR x a).length := by unfold rawR; rw [List.length_append, ← hm]; rfl
  obtain ⟨R, c', hc, hR, hk3, hp2⟩ := PicG.takeT (sg := 1000) (i := 2) (b := 2) (p := fun g => Nat.beq g 1000) (c := .ints .u8 (N17 y a s Q m)) (fun R c' => s17t (y.wD (updF y.D R (N17 y a s Q m))) a (PB_ R (12 + m) c') (VR17 v)) hp (g17r0 y a _ _ _) (g17r2 y a _ _ _) ints_fam rfl (by decide) rfl rfl rfl (z17_base x a) (fun R c' => took17 y a _ _ _ R c' _)
  rw [← putB_F] at hk3
  refine ⟨_, ⟨rfl, rfl, _, ([PB_ R (12 + m) c'], s17t (y.wD (updF y.D R (N17 y a s Q m))) a (PB_ R (12 + m) c') (VR17 v)), g17t0 _ a _ _, ?_, rfl, trivial, rfl, _, R, c', rfl, ?_, hk.trans hk3, ?_⟩, hp2⟩
  · rw [putB_F]; exact hf.put hR
  · rw [en]; rfl
  · rw [← eL]; exact updF_at _ _ _
theorem raw17 {x : MX} {a : OV} (hO : capOk x a.P a.n) : MkOk Try.prog x.F 17 [a.v] (BytesR x (rawR x a)) := by
  refine mk_fn (s0 := z17 x a) rfl fn17 fun ρ0 W0 => ?_
  show StepW Try.prog none (z17 x a) ρ0 W0 b17 (z17 x a) (Q17 x a W0)
  refine StepW.downs pg KN_ok (k17d x a) trivial (tm17s_dead (VS17_dead vU_dead) lvS17) (g23_ok x a) rfl (ok17d x x a vU) ?_
  rw [up17, e17_eq]
  have hv := VS17_dead vU_dead
  refine StepW.seq (StepW.region ?_)
  rw [o17_eq]
  refine StepO.run pg KN_ok (k17a x a _) trivial (show 1 ≤ 2 by decide) (tm17a_dead (VA17_dead hv) lvA17) (g23_ok x a) rfl (ok17a x x a _) ?_
  refine StepO.call' (F := x.F) (g := 29) (vs := [a.v]) (f := .func 29) (args := #[.tmp 6]) (dst := some 7) pg (by kernel_rfl) trivial rfl rfl fn29 rfl (g17a0 x a _) rfl (laid29 hO) ?_
  rintro F' v' hf ⟨y, Q, c, rfl, rfl, hk, hQ⟩
  refine ⟨s17b y a (PB_ Q (acc29 x a a.n).length c) (VA17 (VS17 vU)), ⟨rfl, rfl, rfl, rfl, rfl, (set17 a _ _).symm, g17b0 y a _ _, fun j hj => getr (by decide) (g23_rest x y a) j hj⟩, ?_⟩
  have hv2 := VC17_dead (VA17_dead hv)
  refine StepO.run pg KN_ok (k17c y a Q _ c _) trivial (show 1 ≤ 2 by decide) (tm17c_dead hv2 lvC17) (g23_ok y a) rfl (ok17c x y a _ _ _ _) ?_
  refine StepO.nil (.inl ⟨rfl, ?_⟩)
  have hl := acc29_len hO a.n (Nat.le_refl _)
  have hl6 : 6 ≤ (acc29 x a a.n).length := by rw [len29 hO a.n (Nat.le_refl _), ← len47 hO a.n (Nat.le_refl _)]; exact (capsL_len hO a.n (Nat.le_refl _)).1
  have hn := hO.2.1
  have pf : ∀ (s : Int) {A : Prop}, A → (((True ∧ A) ∧ decide (12 + (acc29 x a a.n).length ≤ 12) = false) ∧ (((acc29 x a a.n).length = 0 ∨ 0 + (acc29 x a a.n).length ≤ (y.D Q).length) ∧ 0 + 12 ≤ (M17 a s (acc29 x a a.n).length).length ∧ (12 + (acc29 x a a.n).length) * 1 ≤ mostBytes ∧ 12 + (acc29 x a a.n).length ≤ mostBytes)) := fun s A hA => ⟨⟨⟨trivial, hA⟩, decide_eq_false (by omega)⟩, .inr (by rw [hQ]; omega), Nat.le_refl 12, by unfold mostBytes; omega, by unfold mostBytes; omega⟩
  cases hs : decide (a.asn < 65536) with
  | true =>
    exact end17 (by unfold shortR; rw [hs]; rfl) rfl hk hf hQ ((StepG.stdT (s0 := z17 x a) (rd := none) pg KN_ok (k17rs y a Q _ c _) (pf _ hs) (show 1 ≤ 2 by decide) (tm17r_dead (VR17_dead hv2) lvR17) (h25r_ok y a _) rfl (ok17r x y a _ _ _ _)).at ρ0 W0)
  | false =>
    exact end17 (by unfold shortR; rw [hs]; rfl) rfl hk hf hQ ((StepG.stdT (s0 := z17 x a) (rd := none) pg KN_ok (k17rb y a Q _ c _) (pf _ hs) (show 1 ≤ 2 by decide) (tm17r_dead (VR17_dead hv2) lvR17) (h25r_ok y a _) rfl (ok17r x y a _ _ _ _)).at ρ0 W0)
end
end ob
end Go.Proofs.Ytpfmilkddapfiaa
namespace Go.Proofs.Ytpfmilkddapfiaa
open Go.ChangeShapes Go.WideShapes Go.ChangeAt Go.RowKit Go.Cln
namespace ob
set_option linter.unusedVariables false
noncomputable section
theorem w8 (n : Int) : IntKind.u8.wrap n = n % 256 := by simp [IntKind.wrap, IntKind.bits, IntKind.signed]
theorem w16 (n : Int) : IntKind.u16.wrap n = n % 65536 := by simp [IntKind.wrap, IntKind.bits, IntKind.signed]
theorem w32 (n : Int) : IntKind.u32.wrap n = n % 4294967296 := by simp [IntKind.wrap, IntKind.bits, IntKind.signed]
theorem fd (n : Int) (k : Nat) : n.fdiv (2 ^ k) = n / (2 ^ k) := Int.fdiv_eq_ediv_of_nonneg _ (Int.pow_nonneg (by decide))
theorem td {n : Int} (h : 0 ≤ n) (k : Int) : n.tdiv k = n / k := Int.tdiv_eq_ediv_of_nonneg h
theorem tm {n : Int} (h : 0 ≤ n) (k : Int) : n.tmod k = n % k := Int.tmod_eq_emod_of_nonneg h
theorem four_eq {n : Int} (h : 0 ≤ n) (h2 : n ≤ 4294967295) : [IntKind.u8.wrap (IntKind.u32.wrap (n.tdiv 16777216)), IntKind.u8.wrap ((IntKind.u32.wrap (n.tdiv 65536)).tmod 256), IntKind.u8.wrap ((IntKind.u32.wrap (n.tdiv 256)).tmod 256), IntKind.u8.wrap (n.tmod 256)] = [IntKind.u8.wrap (n.fdiv (2 ^ 24)), IntKind.u8.wrap (n.fdiv (2 ^ 16)), IntKind.u8.wrap (n.fdiv (2 ^ 8)), IntKind.u8.wrap (n.fdiv (2 ^ 0))] := by
  have e1 : IntKind.u32.wrap (n.tdiv 16777216) = n / 16777216 := by rw [td h, w32]; omega
  have e2 : IntKind.u32.wrap (n.tdiv 65536) = n / 65536 := by rw [td h, w32]; omega
  have e3 : IntKind.u32.wrap (n.tdiv 256) = n / 256 := by rw [td h, w32]; omega
  rw [e1, e2, e3, tm (by omega), tm (by omega), tm h, fd, fd, fd, fd]
  simp only [w8, show (2 : Int) ^ 24 = 16777216 from rfl, show (2 : Int) ^ 16 = 65536 from rfl, show (2 : Int) ^ 8 = 256 from rfl, show (2 : Int) ^ 0 = 1 from rfl]
  refine List.cons_eq_cons.2 ⟨rfl, List.cons_eq_cons.2 ⟨?_, List.cons_eq_cons.2 ⟨?_, List.cons_eq_cons.2 ⟨?_, rfl⟩⟩⟩⟩ <;> omega
theorem caps_eq {y z : MX} {a : OV} (hO : capOk y a.P a.n) (hk : Keeps y.F z.F) (h1 : 0 ≤ a.asn) (h2 : a.asn ≤ 4294967295) : ∀ i, i ≤ a.n → acc29 z a i = capsL y a i
  | 0, _ => by
    show [65, 4] ++ [_, _, _, _] = [65, IntKind.u8.wrap 4] ++ B4 a
    rw [four_eq h1 h2]
    rfl
  | i + 1, hi => by
    obtain ⟨b1, b2⟩ := hO.2.2 i (by omega)
    obtain ⟨_, k1, k2, k3⟩ := kp_cap hk (j := i) (n := a.n) (by omega) hO.1
    unfold acc29 capsL
    rw [caps_eq hO hk h1 h2 i (by omega)]
    congr 1
    unfold two29 two47 rowK rowK2
    rw [ix2_eq, ix3_eq, k1, k2, k3, List.drop_zero, List.drop_zero]
    congr 1
    rcases kp_row hk b1 with h | h
    · exact h.2
    · rw [h, List.take_zero, List.take_zero]
theorem five (m : Nat) : IntKind.u8.wrap (IntKind.i64.wrap (nI m + 2)) = IntKind.u8.wrap ((IntKind.u32.wrap (nI (2 + m))).fdiv (2 ^ 0)) := by
  rw [fd, w8, w8, w32, IntKind.wrap_i64, show nI (2 + m) = nI m + 2 from by unfold nI; omega]
  generalize nI m = k
  have : ((2 : Int) ^ 0) = 1 := rfl
  rw [this]
  omega
theorem raw_eq {y z : MX} {a : OV} (hO : capOk y a.P a.n) (hk : Keeps y.F z.F) (h1 : 0 ≤ a.asn) (h2 : a.asn ≤ 4294967295) (h3 : 0 ≤ a.id) (h4 : a.id ≤ 4294967295) (h5 : 0 ≤ a.hold) (h6 : a.hold ≤ 65535) : rawR z a = rawE y a := by
  have hl := (capsL_len hO a.n (Nat.le_refl _))
  have hn := hO.2.1
  have hc := caps_eq hO hk h1 h2 a.n (Nat.le_refl _)
  unfold rawR rawE
  rw [hc]
  have hb : (behE y a).length = 2 + (capsL y a a.n).length := by unfold behE; rw [List.length_append]; rfl
  rw [hb]
  unfold behE
  have es : shortR a = shortE a := by
    unfold shortR shortE
    by_cases h : a.asn > 65535
    · rw [decide_eq_true h, decide_eq_false (by omega)]; rfl
    · rw [decide_eq_false h, decide_eq_true (by omega)]; rfl
  have e0 : 0 ≤ shortE a ∧ shortE a ≤ 65535 := by
    unfold shortE
    by_cases h : a.asn > 65535
    · rw [decide_eq_true h]; exact ⟨(by decide : (0 : Int) ≤ 23456), (by decide : (23456 : Int) ≤ 65535)⟩
    · rw [decide_eq_false h]; exact ⟨h1, by show a.asn ≤ 65535; omega⟩
  rw [es]
  generalize shortE a = s at e0
  generalize (capsL y a a.n).length = m at hl ⊢
  rw [← List.append_assoc]
  congr 1
  have f1 : IntKind.u8.wrap (IntKind.u32.wrap (s.tdiv 256)) = IntKind.u8.wrap (s.fdiv (2 ^ 8)) := by
    rw [td e0.1, fd, w8, w8, w32, show (2 : Int) ^ 8 = 256 from rfl]; omega
  have f2 : IntKind.u8.wrap (s.tmod 256) = IntKind.u8.wrap (s.fdiv (2 ^ 0)) := by
    rw [tm e0.1, fd, w8, w8, show (2 : Int) ^ 0 = 1 from rfl]; omega
  have f3 : IntKind.u8.wrap (IntKind.u16.wrap (a.hold.tdiv 256)) = IntKind.u8.wrap ((IntKind.u32.wrap a.hold).fdiv (2 ^ 8)) := by
    rw [td h5, fd, w8, w8, w16, w32, show (2 : Int) ^ 8 = 256 from rfl]; omega
  have f4 : IntKind.u8.wrap (a.hold.tmod 256) = IntKind.u8.wrap ((IntKind.u32.wrap a.hold).fdiv (2 ^ 0)) := by
    rw [tm h5, fd, w8, w8, w32, show (2 : Int) ^ 0 = 1 from rfl]; omega
  have f5 : IntKind.u8.wrap (IntKind.i64.wrap (nI m + 2)) = IntKind.u8.wrap ((IntKind.u32.wrap (nI (2 + m))).fdiv (2 ^ 0)) := by
    exact five m
  have f6 := four_eq h3 h4
  simp only [List.cons.injEq, and_true] at f6
  obtain ⟨g1, g2, g3, g4⟩ := f6
  unfold M17 head12 l2E l3E l4E
  rw [f1, f2, f3, f4, f5, g1, g2, g3, g4]
  simp only [List.cons_append, List.nil_append]
theorem alike_caps {y : MX} {a d : OV} (ha : d.asn = a.asn) (hn : d.n = a.n) (al : Alike y d.P a.P a.n) : ∀ i, i ≤ a.n → capsL y d i = capsL y a i
  | 0, _ => by unfold capsL B4; rw [ha]
  | i + 1, hi => by
    unfold capsL
    rw [alike_caps ha hn al i (by omega)]
    congr 1
    unfold two47 rowK2
    rw [ix2_eq, al.k i (by omega), List.drop_zero, List.drop_zero, al.eq i (by omega), al.m i (by omega)]
theorem alike_raw {y : MX} {a d : OV} (ha : d.asn = a.asn) (hh : d.hold = a.hold) (hi : d.id = a.id) (hn : d.n = a.n) (al : Alike y d.P a.P a.n) : rawE y d = rawE y a := by
  have e := alike_caps ha hn al a.n (Nat.le_refl _)
  have eb : behE y d = behE y a := by unfold behE; rw [hn, e]
  unfold rawE head12 shortE l2E l3E
  rw [eb, ha, hh, hi]
theorem alike_check {y : MX} {a d : OV} (ha : d.asn = a.asn) (hh : d.hold = a.hold) (hi : d.id = a.id) (hn : d.n = a.n) (al : Alike y d.P a.P a.n) : check15 y d = check15 y a := by
  have e := alike_caps ha hn al a.n (Nat.le_refl _)
  have eb : behE y d = behE y a := by unfold behE; rw [hn, e]
  have er : rightE y d = rightE y a := by
    rw [Bool.eq_iff_iff, right_iff, right_iff]
    have w1 : w56 d = w56 a := by unfold w56; rw [ha, hi]
    have w2 : w57 d = w57 a := by unfold w57; rw [hh]
    have w3 : w58 d = w58 a := by unfold w58; rw [hn]
    have o : ∀ i, i < a.n → okC y d.P i = okC y a.P i := fun i hi => by
      unfold okC; rw [ix2_eq, al.k i hi, al.m i hi]
    have u : ∀ i, i + 1 < a.n → upC y d.P i = upC y a.P i := fun i hi => by
      unfold upC; rw [ixp_eq, ixq_eq, al.k i (by omega), al.k (i + 1) hi]
    rw [w1, w2, w3, hn]
    exact ⟨fun ⟨h1, h2, h3, h4, h5⟩ => ⟨h1, h2, h3, fun i hi => by rw [← o i hi]; exact h4 i hi, fun i hi => by rw [← u i hi]; exact h5 i hi⟩, fun ⟨h1, h2, h3, h4, h5⟩ => ⟨h1, h2, h3, fun i hi => by rw [o i hi]; exact h4 i hi, fun i hi => by rw [u i hi]; exact h5 i hi⟩⟩
  unfold check15
  rw [er, eb]
theorem check15_keeps {x y : MX} {a : OV} (hO : capOk x a.P a.n) (hk : Keeps x.F y.F) (h0 : 0 ≤ a.hold) : check15 y a = check15 x a := by
  rw [← check_eq hO hk h0, ← check_eq (kp_capOk hk hO) (Keeps.refl _) h0]
end
end ob
end Go.Proofs.Ytpfmilkddapfiaa
