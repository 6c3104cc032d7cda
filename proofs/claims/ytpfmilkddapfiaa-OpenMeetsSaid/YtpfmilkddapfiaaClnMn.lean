/- Read off the code by the clean reading. -/
import Derived.Test.YtpfmilkddapfiaaClnMm
import Derived.Test.YtpfmilkddapfiaaClnMe
set_option linter.unusedVariables false
set_option linter.unusedSimpArgs false
set_option linter.deprecated false
set_option maxRecDepth 100000
namespace Go.Proofs.Ytpfmilkddapfiaa
open Go.ChangeShapes Go.WideShapes Go.ChangeAt Go.RowKit Go.Cln
namespace ob
set_option linter.unusedVariables false
noncomputable section
theorem capW_iff (x : MX) (P i : Nat) : capW x P i = false ↔ ¬ x.CK P i = 0 ∧ ¬ x.CK P i = 65 ∧ x.CM P i ≤ 100 ∧ (0 < i → x.CK P (i - 1) < x.CK P i) := by
  unfold capW nI
  simp only [Bool.or_eq_false_iff, Bool.and_eq_false_iff, decide_eq_false_iff_not, beq_eq_false_iff_ne, ne_eq]
  constructor
  · rintro ⟨h1, h2, h3, h4⟩
    refine ⟨h1, h2, by omega, fun h => ?_⟩
    rcases h4 with h4 | h4 <;> omega
  · rintro ⟨h1, h2, h3, h4⟩
    refine ⟨h1, h2, by omega, ?_⟩
    rcases Nat.eq_zero_or_pos i with h | h
    · exact .inl (by omega)
    · have := h4 h; exact .inr (by omega)
theorem okC_iff (x : MX) (P i : Nat) : okC x P i = true ↔ ¬ x.CK P i = 0 ∧ ¬ x.CK P i = 65 ∧ x.CM P i ≤ 100 := by
  unfold okC w61 nI
  rw [ix2_eq]
  simp only [Bool.not_eq_true', Bool.or_eq_false_iff, decide_eq_false_iff_not, beq_eq_false_iff_ne, ne_eq]
  constructor
  · rintro ⟨h1, h2, h3⟩; exact ⟨h1, h2, by omega⟩
  · rintro ⟨h1, h2, h3⟩; exact ⟨h1, h2, by omega⟩
theorem upC_iff (x : MX) (P i : Nat) : upC x P i = true ↔ x.CK P i < x.CK P (i + 1) := by
  unfold upC
  rw [ixp_eq, ixq_eq]
  simp only [Bool.not_eq_true', decide_eq_false_iff_not]
  omega
theorem right_iff (x : MX) (a : OV) : rightE x a = true ↔ w56 a = false ∧ w57 a = false ∧ w58 a = false ∧ (∀ i, i < a.n → okC x a.P i = true) ∧ (∀ i, i + 1 < a.n → upC x a.P i = true) := by
  unfold rightE
  rw [allB_iff]
  constructor
  · intro h
    have h0 := h 0 (by decide)
    have h1 := h 1 (by decide)
    have h2 := h 2 (by decide)
    have h3 := h 3 (by decide)
    have h4 := h 4 (by decide)
    simp only [fW, Bool.not_eq_true'] at h0 h1 h2 h3 h4
    unfold w59 at h3
    unfold w62 riseE at h4
    simp only [Bool.not_eq_false'] at h3 h4
    exact ⟨h0, h1, h2, allB_at h3, fun i hi => allB_at h4 i (by omega)⟩
  · rintro ⟨h0, h1, h2, h3, h4⟩ i hi
    have e3 : w59 x a = false := by unfold w59; rw [allB_all h3]; rfl
    have e4 : w62 x a = false := by unfold w62 riseE; rw [allB_all fun i hi => h4 i (by omega)]; rfl
    rcases i with _ | _ | _ | _ | _ | i
    · simp only [fW, h0]; rfl
    · simp only [fW, h1]; rfl
    · simp only [fW, h2]; rfl
    · simp only [fW, e3]; rfl
    · simp only [fW, e4]; rfl
    · omega
theorem right_eq {x : MX} {a : OV} (h0 : 0 ≤ a.hold) : rightE x a = (!earlyW a && allB (fun i => !capW x a.P i) a.n) := by
  rw [Bool.eq_iff_iff, right_iff, Bool.and_eq_true, allB_iff, Bool.not_eq_true']
  have e1 : (w56 a = false ∧ w57 a = false ∧ w58 a = false) ↔ earlyW a = false := by
    unfold w56 w57 w58 earlyW nI
    simp only [Bool.or_eq_false_iff, Bool.and_eq_false_iff, decide_eq_false_iff_not, beq_eq_false_iff_ne, bne_eq_false_iff_eq, ne_eq]
    constructor
    · rintro ⟨⟨h1, h2⟩, h3, h4⟩
      refine ⟨h1, ?_, ?_, h2, h4⟩ <;> rcases h3 with h3 | h3 <;> omega
    · rintro ⟨h1, h2, h3, h4, h5⟩
      refine ⟨⟨h1, h4⟩, ?_, h5⟩
      by_cases h : a.hold = 0
      · exact .inl h
      · exact .inr (by omega)
  constructor
  · rintro ⟨h1, h2, h3, h4, h5⟩
    refine ⟨e1.1 ⟨h1, h2, h3⟩, fun i hi => ?_⟩
    rw [Bool.not_eq_true', capW_iff]
    obtain ⟨k1, k2, k3⟩ := (okC_iff x a.P i).1 (h4 i hi)
    refine ⟨k1, k2, k3, fun hp => ?_⟩
    have := (upC_iff x a.P (i - 1)).1 (h5 (i - 1) (by omega))
    rwa [show i - 1 + 1 = i by omega] at this
  · rintro ⟨h1, h2⟩
    obtain ⟨k1, k2, k3⟩ := e1.2 h1
    have h3 : ∀ i, i < a.n → capW x a.P i = false := fun i hi => by have := h2 i hi; rwa [Bool.not_eq_true'] at this
    refine ⟨k1, k2, k3, fun i hi => ?_, fun i hi => ?_⟩
    · obtain ⟨q1, q2, q3, q4⟩ := (capW_iff x a.P i).1 (h3 i hi)
      exact (okC_iff x a.P i).2 ⟨q1, q2, q3⟩
    · obtain ⟨q1, q2, q3, q4⟩ := (capW_iff x a.P (i + 1)).1 (h3 (i + 1) hi)
      exact (upC_iff x a.P i).2 (q4 (by omega))
noncomputable def lenE (x : MX) (a : OV) : Nat → Nat
  | 0 => 6
  | i + 1 => lenE x a i + (2 + x.CM a.P i)
theorem len29 {x : MX} {a : OV} (hO : capOk x a.P a.n) : ∀ i, i ≤ a.n → (acc29 x a i).length = lenE x a i
  | 0, _ => rfl
  | i + 1, hi => by
    obtain ⟨b1, b2⟩ := hO.2.2 i (by omega)
    have hr : (rowK x a.P i).length = x.CM a.P i := by have := rowK_len (x := x) (P := a.P) (i := i) (by rw [ix3_eq]; exact b1); rwa [ix3_eq] at this
    unfold acc29 lenE
    rw [List.length_append, List.length_append, two29_len, hr, len29 hO i (by omega)]
theorem len47 {x : MX} {a : OV} (hO : capOk x a.P a.n) : ∀ i, i ≤ a.n → (capsL x a i).length = lenE x a i
  | 0, _ => rfl
  | i + 1, hi => by
    obtain ⟨b1, b2⟩ := hO.2.2 i (by omega)
    have hr : (rowK2 x a.P i).length = x.CM a.P i := by have := rowK2_len (x := x) (P := a.P) (i := i) (by rw [ix2_eq]; exact b1); rwa [ix2_eq] at this
    unfold capsL lenE
    rw [List.length_append, List.length_append, two47_len, hr, len47 hO i (by omega)]
theorem lenE_keeps {x y : MX} {a : OV} (hk : Keeps x.F y.F) (hn : a.n ≤ x.CN a.P) : ∀ i, i ≤ a.n → lenE y a i = lenE x a i
  | 0, _ => rfl
  | i + 1, hi => by
    obtain ⟨_, k1, k2, k3⟩ := kp_cap hk (j := i) (n := a.n) (by omega) hn
    unfold lenE
    rw [lenE_keeps hk hn i (by omega), k3]
theorem capW_keeps {x y : MX} {P n : Nat} (hk : Keeps x.F y.F) (hn : n ≤ x.CN P) {i : Nat} (hi : i < n) : capW y P i = capW x P i := by
  obtain ⟨_, k1, k2, k3⟩ := kp_cap hk hi hn
  obtain ⟨_, j1, j2, j3⟩ := kp_cap hk (j := i - 1) (n := n) (by omega) hn
  unfold capW
  rw [k1, k3, j1]
theorem allB_congr {f g : Nat → Bool} {n : Nat} (h : ∀ i, i < n → f i = g i) : allB f n = allB g n := by
  rw [Bool.eq_iff_iff, allB_iff, allB_iff]
  exact ⟨fun k i hi => by rw [← h i hi]; exact k i hi, fun k i hi => by rw [h i hi]; exact k i hi⟩
theorem check_eq {x y : MX} {a : OV} (hO : capOk x a.P a.n) (hk : Keeps x.F y.F) (h0 : 0 ≤ a.hold) : check13 y a = check15 x a := by
  unfold check13 check15
  rw [right_eq h0, allB_congr (f := fun i => !capW y a.P i) (g := fun i => !capW x a.P i) fun i hi => by rw [capW_keeps hk hO.1 hi]]
  rw [len29 (kp_capOk hk hO) a.n (Nat.le_refl _), lenE_keeps hk hO.1 a.n (Nat.le_refl _)]
  have hl : (behE x a).length = 2 + lenE x a a.n := by unfold behE; rw [List.length_append, len47 hO a.n (Nat.le_refl _)]; rfl
  rw [hl, show nI (2 + lenE x a a.n) = nI (lenE x a a.n) + 2 by unfold nI; omega]
  cases earlyW a
  · simp
  · simp
theorem rise_of {x : MX} {b : OV} (h : rightE x b = true) : ∀ k j, j < k → k < b.n → x.CK b.P j < x.CK b.P k := by
  obtain ⟨_, _, _, _, h5⟩ := (right_iff x b).1 h
  intro k
  induction k with
  | zero => intro j hj; omega
  | succ k ih =>
    intro j hj hk
    have h1 := (upC_iff x b.P k).1 (h5 k hk)
    rcases Nat.lt_succ_iff_lt_or_eq.1 hj with h | rfl
    · have := ih j h (by omega); omega
    · exact h1
theorem accI_eq {x : MX} {a b : OV} {i : Nat} {L : List Int} (hr : ∀ k j, j < k → k < b.n → x.CK b.P j < x.CK b.P k) : ∀ k, k ≤ b.n → accI x a b i L k = L ++ (bif !allB (fun j => !(x.CK b.P j == x.CK a.P i)) k then [x.CK a.P i] else [])
  | 0, _ => by
    unfold accI
    have : allB (fun j => !(x.CK b.P j == x.CK a.P i)) 0 = true := allB_all fun j hj => absurd hj (Nat.not_lt_zero j)
    rw [this]; exact (List.append_nil _).symm
  | k + 1, hk => by
    have ih := accI_eq (a := a) (i := i) (L := L) hr k (by omega)
    unfold accI
    rw [ih]
    cases hc : ((x.CK a.P i) == (x.CK b.P k)) with
    | false =>
      have hne : ¬ x.CK a.P i = x.CK b.P k := by simpa using hc
      have e : allB (fun j => !(x.CK b.P j == x.CK a.P i)) (k + 1) = allB (fun j => !(x.CK b.P j == x.CK a.P i)) k := by
        rw [Bool.eq_iff_iff, allB_iff, allB_iff]
        refine ⟨fun h j hj => h j (by omega), fun h j hj => ?_⟩
        rcases Nat.lt_succ_iff_lt_or_eq.1 hj with h1 | rfl
        · exact h j h1
        · rw [Bool.not_eq_true', beq_eq_false_iff_ne]; exact fun q => hne q.symm
      rw [e]; exact List.append_nil _
    | true =>
      have he : x.CK a.P i = x.CK b.P k := by simpa using hc
      have e1 : allB (fun j => !(x.CK b.P j == x.CK a.P i)) k = true := allB_all fun j hj => by
        have := hr k j hj (by omega)
        rw [Bool.not_eq_true', beq_eq_false_iff_ne]; omega
      have e2 : allB (fun j => !(x.CK b.P j == x.CK a.P i)) (k + 1) = false := allB_no (i := k) (by rw [Bool.not_eq_false', he]; exact beq_self_eq_true _) (by omega)
      rw [e1, e2]
      simp
theorem acc_eq {x y : MX} {a b : OV} (hA : capOk x a.P a.n) (hB : capOk x b.P b.n) (hk : Keeps x.F y.F) (hr : rightE x b = true) : ∀ i, i ≤ a.n → accR y a b i = accM x a b i
  | 0, _ => rfl
  | i + 1, hi => by
    obtain ⟨_, k1, _, _⟩ := kp_cap hk (j := i) (n := a.n) (by omega) hA.1
    have hb : ∀ j, j < b.n → y.CK b.P j = x.CK b.P j := fun j hj => (kp_cap hk hj hB.1).2.1
    have hr' : ∀ k j, j < k → k < b.n → y.CK b.P j < y.CK b.P k := fun k j h1 h2 => by
      rw [hb j (by omega), hb k h2]; exact rise_of hr k j h1 h2
    unfold accR accM
    rw [accI_eq hr' b.n (Nat.le_refl _), acc_eq hA hB hk hr i (by omega), k1]
    have : hasE x b (x.CK a.P i) = !allB (fun j => !(y.CK b.P j == x.CK a.P i)) b.n := by
      unfold hasE
      rw [allB_congr fun j hj => ?_]
      unfold isntC
      rw [ix2_eq, hb j hj]
    rw [this]
end
end ob
end Go.Proofs.Ytpfmilkddapfiaa
namespace Go.Proofs.Ytpfmilkddapfiaa
open Go.ChangeShapes Go.WideShapes Go.ChangeAt Go.RowKit Go.Cln
namespace ob
set_option linter.unusedVariables false
noncomputable section
noncomputable def rw13 (x : MX) (args : List Value) : Option (Value × Prop) := match args with
  | [.agg z0] => (ovOf z0).bind fun u => some (.int .i64 (check13 x u), capOk x u.P u.n ∧ ∀ i, i < u.n → 0 ≤ x.CK u.P i ∧ x.CK u.P i ≤ 255)
  | _ => none
theorem rw13_ok (x : MX) {args : List Value} {r : Value × Prop} (h : rw13 x args = some r) : flat r.1 = true ∧ args.all farV = true ∧ (r.2 → Rd Try.prog x.F 13 args r.1) := by
  unfold rw13 at h
  split at h
  · rename_i z0
    rw [Option.bind_eq_some_iff] at h
    obtain ⟨u, hu, h⟩ := h
    cases h
    rw [ovOf_v hu]
    exact ⟨rfl, rfl, fun hp => rd13 hp.1 hp.2⟩
  · cases h
noncomputable def TR13 (x : MX) (f : FuncId) (args : List Value) : Option (Value × Prop) := if f == 13 then rw13 x args else none
theorem TR13_ok (x : MX) (f : FuncId) (args : List Value) (r : Value × Prop) (h : TR13 x f args = some r) : flat r.1 = true ∧ args.all farV = true ∧ (r.2 → Rd Try.prog x.F f args r.1) := by
  unfold TR13 at h
  by_cases e13 : (f == 13) = true
  · have hf : f = 13 := by simpa using e13
    subst hf
    exact rw13_ok x h
  rw [if_neg e13] at h
  cases h
noncomputable def KT13 (x : MX) : Given := { Given.rds Given.nothing x.F (TR13 x) with fits := true }
theorem KT13_ok (x : MX) : GivenOk Try.prog (KT13 x) := frames_fits ((GivenOk.nothing _).rds (TR13_ok x)) true
def b5 : Code := ((Try.prog.funcs[5]?).bind (·.body)).getD .skip
theorem fn5 : (Try.prog.funcs[5]?).map (fun f => (f.body, f.results.toList, f.ntmps)) = some (some b5, [.tmp 4], 62) := by kernel_rfl
def e5 : Code := sndC (sndC b5)
def o5 : Array Oper := opsC (fstC e5)
def x5 : Code := sndC e5
def c5 : Code := sndC (fstC (sndC x5))
def y5 : Code := sndC (sndC x5)
def w5 : Code := sndC y5
def p5 : Array Oper := opsC (fstC w5)
def v5 : Code := sndC w5
theorem e5_eq : e5 = .seq (.region 3 o5 false) x5 := by kernel_rfl
theorem w5_eq : w5 = .seq (.region 10 p5 true) v5 := by kernel_rfl
theorem o5_eq : List.range o5.size = [0, 1] ++ (2 :: ([3, 4, 5, 6, 7, 8] ++ [])) := by kernel_rfl
noncomputable def z5 (x : MX) (a b : OV) : St := { smSt 1 [some (.fam x.F)] [] with tmps := [a.v, b.v] ++ List.replicate 60 undef, defers := [] }
noncomputable def go5 (K : Given) (c : Code) (s : St) (o : List (Option Bool)) : Option (Exit × St) := (mk Try.prog K 300).code 5 none c { s with obl := True, orc := o }
noncomputable def gd5 (K : Given) (l : List Nat) (c : Code) (s : St) (o : List (Option Bool)) : Option (St × Code) := down (mk Try.prog K 300) 5 none l c { s with obl := True, orc := o }
noncomputable def rs5 (K : Given) (ops : Array Oper) (l : List Nat) (s : St) (o : List (Option Bool)) : Option St := runSeq Try.prog K (mk Try.prog K 200) ops l { s with obl := True, orc := o }
theorem all5 : allGo .any p5 p5.size (Array.replicate p5.size false) = [[0, 1, 2, 3, 4, 5, 6, 7, 8, 9, 10, 11, 12, 13], [0, 2, 1, 3, 4, 5, 6, 7, 8, 9, 10, 11, 12, 13], [1, 0, 2, 3, 4, 5, 6, 7, 8, 9, 10, 11, 12, 13], [1, 2, 0, 3, 4, 5, 6, 7, 8, 9, 10, 11, 12, 13], [1, 2, 3, 0, 4, 5, 6, 7, 8, 9, 10, 11, 12, 13], [2, 0, 1, 3, 4, 5, 6, 7, 8, 9, 10, 11, 12, 13], [2, 1, 0, 3, 4, 5, 6, 7, 8, 9, 10, 11, 12, 13], [2, 1, 3, 0, 4, 5, 6, 7, 8, 9, 10, 11, 12, 13]] := by decide +kernel
noncomputable def tm5p (v : VF) (a b : OV) : List Value := (a.v :: b.v :: .pointer (some ⟨1, 0, none⟩) :: .pointer (some ⟨2, 0, none⟩) :: vs v 4 58 [])
theorem tm5p_dead {v : VF} {a b : OV} {B : Nat → Bool} (h : ∀ i, DeadV (v i)) (hB : ∀ i, ((Nat.ble 0 i && Nat.ble i 3)) = true → B i = true) : deadT B 0 (tm5p v a b) :=
  dl (hB 0 rfl) (dl (hB 1 rfl) (dl (hB 2 rfl) (dl (hB 3 rfl) (deadT_vs h 58 (trivial)))))
noncomputable def tm5q (v : VF) (a b : OV) : List Value := (a.v :: b.v :: .pointer (some ⟨1, 0, none⟩) :: .pointer (some ⟨2, 0, none⟩) :: vs v 4 15 (a.v :: b.v :: vs v 21 41 []))
theorem tm5q_dead {v : VF} {a b : OV} {B : Nat → Bool} (h : ∀ i, DeadV (v i)) (hB : ∀ i, ((Nat.ble 0 i && Nat.ble i 3) || (Nat.ble 19 i && Nat.ble i 20)) = true → B i = true) : deadT B 0 (tm5q v a b) :=
  dl (hB 0 rfl) (dl (hB 1 rfl) (dl (hB 2 rfl) (dl (hB 3 rfl) (deadT_vs h 15 (dl (hB 19 rfl) (dl (hB 20 rfl) (deadT_vs h 41 (trivial))))))))
noncomputable def tm5r (v : VF) (a b : OV) (u : Value) : List Value := (a.v :: b.v :: .pointer (some ⟨1, 0, none⟩) :: .pointer (some ⟨2, 0, none⟩) :: vs v 4 15 (a.v :: b.v :: u :: vs v 22 40 []))
noncomputable def tm5s (v : VF) (a b : OV) (n : Int) : List Value := (a.v :: b.v :: .pointer (some ⟨1, 0, none⟩) :: .pointer (some ⟨2, 0, none⟩) :: v 4 :: .pointer (some ⟨3, 0, none⟩) :: .int .i64 n :: vs v 7 55 [])
theorem tm5s_dead {v : VF} {a b : OV} {n : Int} {B : Nat → Bool} (h : ∀ i, DeadV (v i)) (hB : ∀ i, ((Nat.ble 0 i && Nat.ble i 3) || (Nat.ble 5 i && Nat.ble i 6)) = true → B i = true) : deadT B 0 (tm5s v a b n) :=
  dl (hB 0 rfl) (dl (hB 1 rfl) (dl (hB 2 rfl) (dl (hB 3 rfl) (dn (h 4) (dl (hB 5 rfl) (dl (hB 6 rfl) (deadT_vs h 55 (trivial))))))))
noncomputable def tm5t (v : VF) (a b : OV) (n e1 e2 : Int) : List Value := (a.v :: b.v :: .pointer (some ⟨1, 0, none⟩) :: .pointer (some ⟨2, 0, none⟩) :: v 4 :: .pointer (some ⟨3, 0, none⟩) :: .int .i64 n :: .int .i64 e1 :: .int .i64 e2 :: vs v 9 53 [])
theorem tm5t_dead {v : VF} {a b : OV} {n e1 e2 : Int} {B : Nat → Bool} (h : ∀ i, DeadV (v i)) (hB : ∀ i, ((Nat.ble 0 i && Nat.ble i 3) || (Nat.ble 5 i && Nat.ble i 8)) = true → B i = true) : deadT B 0 (tm5t v a b n e1 e2) :=
  dl (hB 0 rfl) (dl (hB 1 rfl) (dl (hB 2 rfl) (dl (hB 3 rfl) (dn (h 4) (dl (hB 5 rfl) (dl (hB 6 rfl) (dl (hB 7 rfl) (dl (hB 8 rfl) (deadT_vs h 53 (trivial))))))))))
noncomputable def tm5u (v : VF) (a b : OV) (n m : Int) : List Value := (a.v :: b.v :: .pointer (some ⟨1, 0, none⟩) :: .pointer (some ⟨2, 0, none⟩) :: v 4 :: .pointer (some ⟨3, 0, none⟩) :: .int .i64 n :: .int .i64 m :: vs v 8 54 [])
theorem tm5u_dead {v : VF} {a b : OV} {n m : Int} {B : Nat → Bool} (h : ∀ i, DeadV (v i)) (hB : ∀ i, ((Nat.ble 0 i && Nat.ble i 3) || (Nat.ble 5 i && Nat.ble i 7)) = true → B i = true) : deadT B 0 (tm5u v a b n m) :=
  dl (hB 0 rfl) (dl (hB 1 rfl) (dl (hB 2 rfl) (dl (hB 3 rfl) (dn (h 4) (dl (hB 5 rfl) (dl (hB 6 rfl) (dl (hB 7 rfl) (deadT_vs h 54 (trivial)))))))))
noncomputable def tm5A (v : VF) (a b : OV) : List Value := (a.v :: b.v :: .pointer (some ⟨1, 0, none⟩) :: .pointer (some ⟨2, 0, none⟩) :: v 4 :: .pointer (some ⟨3, 0, none⟩) :: .int .i64 0 :: vs v 7 43 (a.v :: b.v :: vs v 52 10 []))
theorem tm5A_dead {v : VF} {a b : OV} {B : Nat → Bool} (h : ∀ i, DeadV (v i)) (hB : ∀ i, ((Nat.ble 0 i && Nat.ble i 3) || (Nat.ble 5 i && Nat.ble i 6) || (Nat.ble 50 i && Nat.ble i 51)) = true → B i = true) : deadT B 0 (tm5A v a b) :=
  dl (hB 0 rfl) (dl (hB 1 rfl) (dl (hB 2 rfl) (dl (hB 3 rfl) (dn (h 4) (dl (hB 5 rfl) (dl (hB 6 rfl) (deadT_vs h 43 (dl (hB 50 rfl) (dl (hB 51 rfl) (deadT_vs h 10 (trivial)))))))))))
noncomputable def tm5Z (v : VF) (a b : OV) (g : Value) : List Value := (a.v :: b.v :: .pointer (some ⟨1, 0, none⟩) :: .pointer (some ⟨2, 0, none⟩) :: v 4 :: .pointer (some ⟨3, 0, none⟩) :: .int .i64 0 :: vs v 7 42 (g :: a.v :: b.v :: vs v 52 10 []))
theorem tm5Z_dead {v : VF} {a b : OV} {g : Value} {B : Nat → Bool} (h : ∀ i, DeadV (v i)) (hB : ∀ i, ((Nat.ble 0 i && Nat.ble i 3) || (Nat.ble 5 i && Nat.ble i 6) || (Nat.ble 49 i && Nat.ble i 51)) = true → B i = true) : deadT B 0 (tm5Z v a b g) :=
  dl (hB 0 rfl) (dl (hB 1 rfl) (dl (hB 2 rfl) (dl (hB 3 rfl) (dn (h 4) (dl (hB 5 rfl) (dl (hB 6 rfl) (deadT_vs h 42 (dl (hB 49 rfl) (dl (hB 50 rfl) (dl (hB 51 rfl) (deadT_vs h 10 (trivial))))))))))))
noncomputable def tm5B (v : VF) (a b : OV) (g : Value) : List Value := (a.v :: b.v :: .pointer (some ⟨1, 0, none⟩) :: .pointer (some ⟨2, 0, none⟩) :: v 4 :: .pointer (some ⟨3, 0, none⟩) :: .int .i64 0 :: vs v 7 43 (a.v :: b.v :: g :: vs v 53 9 []))
noncomputable def tm5Y (v : VF) (a b : OV) (g k : Value) : List Value := (a.v :: b.v :: .pointer (some ⟨1, 0, none⟩) :: .pointer (some ⟨2, 0, none⟩) :: v 4 :: .pointer (some ⟨3, 0, none⟩) :: .int .i64 0 :: vs v 7 42 (g :: a.v :: b.v :: k :: vs v 53 9 []))
noncomputable def tm5e (v : VF) (a b : OV) (g : Bool) : List Value := (a.v :: b.v :: .pointer (some ⟨1, 0, none⟩) :: .pointer (some ⟨2, 0, none⟩) :: .bool g :: vs v 5 57 [])
theorem tm5e_dead {v : VF} {a b : OV} {g : Bool} {B : Nat → Bool} (h : ∀ i, DeadV (v i)) (hB : ∀ i, ((Nat.ble 0 i && Nat.ble i 4)) = true → B i = true) : deadT B 0 (tm5e v a b g) :=
  dl (hB 0 rfl) (dl (hB 1 rfl) (dl (hB 2 rfl) (dl (hB 3 rfl) (dl (hB 4 rfl) (deadT_vs h 57 (trivial))))))
def WP5 (i : Nat) : Bool := Nat.beq i 4 || (Nat.ble 10 i && Nat.ble i 12) || (Nat.ble 14 i && Nat.ble i 16)
noncomputable def VP5 (v : VF) : VF := fun i => match Nat.beq i 9 with
  | true => .agg #[junk, junk, junk, junk]
  | false => match Nat.beq i 13 with
  | true => .agg #[junk, junk, junk, junk]
  | false => match WP5 i with
  | true => junk
  | false => v i
def BP5 (i : Nat) : Bool := ((Nat.ble 0 i && Nat.ble i 3)) || WP5 i || Nat.beq i 9 || Nat.beq i 13
theorem VP5_dead {v : VF} (h : ∀ i, DeadV (v i)) (i : Nat) : DeadV (VP5 v i) := by
  unfold VP5
  split
  · exact ⟨rfl, fun _ => rfl, fun _ => rfl⟩
  split
  · exact ⟨rfl, fun _ => rfl, fun _ => rfl⟩
  split
  · exact DeadV.junk
  · exact h i
theorem lvP5 (i : Nat) (h : ((Nat.ble 0 i && Nat.ble i 3)) = true) : BP5 i = true := jl (jl (jl h))
def WN5 (i : Nat) : Bool := false
noncomputable def VN5 (v : VF) : VF := fun i => match WN5 i with
  | true => junk
  | false => v i
def BN5 (i : Nat) : Bool := ((Nat.ble 0 i && Nat.ble i 3) || (Nat.ble 19 i && Nat.ble i 20)) || WN5 i
theorem VN5_dead {v : VF} (h : ∀ i, DeadV (v i)) (i : Nat) : DeadV (VN5 v i) := jD (W := WN5) h i
theorem lvN5 (i : Nat) (h : ((Nat.ble 0 i && Nat.ble i 3) || (Nat.ble 19 i && Nat.ble i 20)) = true) : BN5 i = true := jl h
def WS5 (i : Nat) : Bool := Nat.beq i 23
noncomputable def VS5 (v : VF) : VF := fun i => match Nat.beq i 18 with
  | true => .tuple #[.agg #[junk, junk, junk], junk]
  | false => match Nat.beq i 21 with
  | true => .tuple #[.agg #[junk, junk, junk], junk]
  | false => match Nat.beq i 22 with
  | true => .agg #[junk, junk, junk]
  | false => match Nat.beq i 19 with
  | true => .agg #[junk, junk, junk, junk]
  | false => match Nat.beq i 20 with
  | true => .agg #[junk, junk, junk, junk]
  | false => match WS5 i with
  | true => junk
  | false => v i
def BS5 (i : Nat) : Bool := ((Nat.ble 0 i && Nat.ble i 3) || (Nat.ble 5 i && Nat.ble i 6)) || WS5 i || Nat.beq i 18 || Nat.beq i 21 || Nat.beq i 22 || Nat.beq i 19 || Nat.beq i 20
theorem VS5_dead {v : VF} (h : ∀ i, DeadV (v i)) (i : Nat) : DeadV (VS5 v i) := by
  unfold VS5
  split
  · exact ⟨rfl, fun _ => rfl, fun _ => rfl⟩
  split
  · exact ⟨rfl, fun _ => rfl, fun _ => rfl⟩
  split
  · exact ⟨rfl, fun _ => rfl, fun _ => rfl⟩
  split
  · exact ⟨rfl, fun _ => rfl, fun _ => rfl⟩
  split
  · exact ⟨rfl, fun _ => rfl, fun _ => rfl⟩
  split
  · exact DeadV.junk
  · exact h i
theorem lvS5 (i : Nat) (h : ((Nat.ble 0 i && Nat.ble i 3) || (Nat.ble 5 i && Nat.ble i 6)) = true) : BS5 i = true := jl (jl (jl (jl (jl (jl h)))))
def WT5 (i : Nat) : Bool := Nat.beq i 25 || Nat.beq i 27
noncomputable def VT5 (v : VF) : VF := fun i => match Nat.beq i 24 with
  | true => .agg #[junk, junk, junk, junk]
  | false => match Nat.beq i 26 with
  | true => .agg #[junk, junk, junk, junk]
  | false => match WT5 i with
  | true => junk
  | false => v i
def BT5 (i : Nat) : Bool := ((Nat.ble 0 i && Nat.ble i 3) || (Nat.ble 5 i && Nat.ble i 8)) || WT5 i || Nat.beq i 24 || Nat.beq i 26
theorem VT5_dead {v : VF} (h : ∀ i, DeadV (v i)) (i : Nat) : DeadV (VT5 v i) := by
  unfold VT5
  split
  · exact ⟨rfl, fun _ => rfl, fun _ => rfl⟩
  split
  · exact ⟨rfl, fun _ => rfl, fun _ => rfl⟩
  split
  · exact DeadV.junk
  · exact h i
theorem lvT5 (i : Nat) (h : ((Nat.ble 0 i && Nat.ble i 3) || (Nat.ble 5 i && Nat.ble i 8)) = true) : BT5 i = true := jl (jl (jl h))
def WUa5 (i : Nat) : Bool := Nat.beq i 8 || (Nat.ble 28 i && Nat.ble i 30) || (Nat.ble 33 i && Nat.ble i 34)
noncomputable def VUa5 (v : VF) : VF := fun i => match Nat.beq i 31 with
  | true => undef
  | false => match Nat.beq i 32 with
  | true => undef
  | false => match WUa5 i with
  | true => junk
  | false => v i
def BUa5 (i : Nat) : Bool := ((Nat.ble 0 i && Nat.ble i 3) || (Nat.ble 5 i && Nat.ble i 7)) || WUa5 i || Nat.beq i 31 || Nat.beq i 32
theorem VUa5_dead {v : VF} (h : ∀ i, DeadV (v i)) (i : Nat) : DeadV (VUa5 v i) := by
  unfold VUa5
  split
  · exact ⟨rfl, fun _ => rfl, fun _ => rfl⟩
  split
  · exact ⟨rfl, fun _ => rfl, fun _ => rfl⟩
  split
  · exact DeadV.junk
  · exact h i
theorem lvUa5 (i : Nat) (h : ((Nat.ble 0 i && Nat.ble i 3) || (Nat.ble 5 i && Nat.ble i 7)) = true) : BUa5 i = true := jl (jl (jl h))
def WUb5 (i : Nat) : Bool := Nat.beq i 8 || (Nat.ble 28 i && Nat.ble i 34)
noncomputable def VUb5 (v : VF) : VF := fun i => match WUb5 i with
  | true => junk
  | false => v i
def BUb5 (i : Nat) : Bool := ((Nat.ble 0 i && Nat.ble i 3) || (Nat.ble 5 i && Nat.ble i 7)) || WUb5 i
theorem VUb5_dead {v : VF} (h : ∀ i, DeadV (v i)) (i : Nat) : DeadV (VUb5 v i) := jD (W := WUb5) h i
theorem lvUb5 (i : Nat) (h : ((Nat.ble 0 i && Nat.ble i 3) || (Nat.ble 5 i && Nat.ble i 7)) = true) : BUb5 i = true := jl h
def WUc5 (i : Nat) : Bool := Nat.beq i 8 || (Nat.ble 28 i && Nat.ble i 33)
noncomputable def VUc5 (v : VF) : VF := fun i => match WUc5 i with
  | true => junk
  | false => v i
def BUc5 (i : Nat) : Bool := ((Nat.ble 0 i && Nat.ble i 3) || (Nat.ble 5 i && Nat.ble i 7)) || WUc5 i
theorem VUc5_dead {v : VF} (h : ∀ i, DeadV (v i)) (i : Nat) : DeadV (VUc5 v i) := jD (W := WUc5) h i
theorem lvUc5 (i : Nat) (h : ((Nat.ble 0 i && Nat.ble i 3) || (Nat.ble 5 i && Nat.ble i 7)) = true) : BUc5 i = true := jl h
def WW5 (i : Nat) : Bool := (Nat.ble 35 i && Nat.ble i 36)
noncomputable def VW5 (v : VF) : VF := fun i => match WW5 i with
  | true => junk
  | false => v i
def BW5 (i : Nat) : Bool := ((Nat.ble 0 i && Nat.ble i 3) || (Nat.ble 5 i && Nat.ble i 7)) || WW5 i
theorem VW5_dead {v : VF} (h : ∀ i, DeadV (v i)) (i : Nat) : DeadV (VW5 v i) := jD (W := WW5) h i
theorem lvW5 (i : Nat) (h : ((Nat.ble 0 i && Nat.ble i 3) || (Nat.ble 5 i && Nat.ble i 7)) = true) : BW5 i = true := jl h
def WA5 (i : Nat) : Bool := Nat.beq i 7
noncomputable def VA5 (v : VF) : VF := fun i => match WA5 i with
  | true => junk
  | false => v i
def BA5 (i : Nat) : Bool := ((Nat.ble 0 i && Nat.ble i 3) || (Nat.ble 5 i && Nat.ble i 6) || (Nat.ble 50 i && Nat.ble i 51)) || WA5 i
theorem VA5_dead {v : VF} (h : ∀ i, DeadV (v i)) (i : Nat) : DeadV (VA5 v i) := jD (W := WA5) h i
theorem lvA5 (i : Nat) (h : ((Nat.ble 0 i && Nat.ble i 3) || (Nat.ble 5 i && Nat.ble i 6) || (Nat.ble 50 i && Nat.ble i 51)) = true) : BA5 i = true := jl h
def WZ5 (i : Nat) : Bool := Nat.beq i 7
noncomputable def VZ5 (v : VF) : VF := fun i => match WZ5 i with
  | true => junk
  | false => v i
def BZ5 (i : Nat) : Bool := ((Nat.ble 0 i && Nat.ble i 3) || (Nat.ble 5 i && Nat.ble i 6) || (Nat.ble 49 i && Nat.ble i 51)) || WZ5 i
theorem VZ5_dead {v : VF} (h : ∀ i, DeadV (v i)) (i : Nat) : DeadV (VZ5 v i) := jD (W := WZ5) h i
theorem lvZ5 (i : Nat) (h : ((Nat.ble 0 i && Nat.ble i 3) || (Nat.ble 5 i && Nat.ble i 6) || (Nat.ble 49 i && Nat.ble i 51)) = true) : BZ5 i = true := jl h
def WE5 (i : Nat) : Bool := (Nat.ble 5 i && Nat.ble i 6) || (Nat.ble 53 i && Nat.ble i 61)
noncomputable def VE5 (v : VF) : VF := fun i => match Nat.beq i 49 with
  | true => .agg #[junk, junk, junk]
  | false => match Nat.beq i 50 with
  | true => .agg #[junk, junk, junk, junk]
  | false => match Nat.beq i 51 with
  | true => .agg #[junk, junk, junk, junk]
  | false => match Nat.beq i 52 with
  | true => .agg #[junk, junk, junk]
  | false => match WE5 i with
  | true => junk
  | false => v i
def BE5 (i : Nat) : Bool := ((Nat.ble 0 i && Nat.ble i 4)) || WE5 i || Nat.beq i 49 || Nat.beq i 50 || Nat.beq i 51 || Nat.beq i 52
theorem VE5_dead {v : VF} (h : ∀ i, DeadV (v i)) (i : Nat) : DeadV (VE5 v i) := by
  unfold VE5
  split
  · exact ⟨rfl, fun _ => rfl, fun _ => rfl⟩
  split
  · exact ⟨rfl, fun _ => rfl, fun _ => rfl⟩
  split
  · exact ⟨rfl, fun _ => rfl, fun _ => rfl⟩
  split
  · exact ⟨rfl, fun _ => rfl, fun _ => rfl⟩
  split
  · exact DeadV.junk
  · exact h i
theorem lvE5 (i : Nat) (h : ((Nat.ble 0 i && Nat.ble i 4)) = true) : BE5 i = true := jl (jl (jl (jl (jl h))))
noncomputable def h5N (x : MX) (a b : OV) (h : Int) (e : Bool) : Nat → Option Ob := fun j => match j with
  | 0 => some (.fam x.F)
  | 1 => some (.cells (.lit a.l) 26)
  | 2 => some (.cells (.lit b.l) 26)
  | 3 => some (.cells (.lit [.int .u16 h, .bool e, .slice none 0 0]) 45)
  | _ => none
theorem h5N_ok (x : MX) (a b : OV) (h : Int) (e : Bool) : Go.Cln.RowsIn (h5N x a b h e) := by
  intro b' n' w' g' t h
  unfold h5N at h
  split at h <;> cases h
noncomputable def h5S (x : MX) (a b : OV) (h : Int) (e : Bool) (P m c : Nat) : Nat → Option Ob := fun j => match j with
  | 0 => some (.fam x.F)
  | 1 => some (.cells (.lit a.l) 26)
  | 2 => some (.cells (.lit b.l) 26)
  | 3 => some (.cells (.lit [.int .u16 h, .bool e, PB_ P m c]) 45)
  | _ => none
theorem h5S_ok (x : MX) (a b : OV) (h : Int) (e : Bool) (P m c : Nat) : Go.Cln.RowsIn (h5S x a b h e P m c) := by
  intro b' n' w' g' t h
  unfold h5S at h
  split at h <;> cases h
noncomputable def s5p (x : MX) (a b : OV) (v : VF) : St := ⟨tm5p v a b, [], Tr.rebuild (h6a x a b) 3, 3, 1, [], fun _ => false, True, []⟩
noncomputable def s5q (x : MX) (a b : OV) (v : VF) : St := ⟨tm5q v a b, [], Tr.rebuild (h6a x a b) 3, 3, 1, [], fun _ => false, True, []⟩
noncomputable def s5r (x : MX) (a b : OV) (u : Value) (v : VF) : St := ⟨tm5r v a b u, [], Tr.rebuild (h6a x a b) 3, 3, 1, [], fun _ => false, True, []⟩
noncomputable def s5sN (x : MX) (a b : OV) (h : Int) (e : Bool) (n : Int) (v : VF) : St := ⟨tm5s v a b n, [], Tr.rebuild (h5N x a b h e) 4, 4, 1, [], fun _ => false, True, []⟩
noncomputable def s5tN (x : MX) (a b : OV) (h : Int) (e : Bool) (n e1 e2 : Int) (v : VF) : St := ⟨tm5t v a b n e1 e2, [], Tr.rebuild (h5N x a b h e) 4, 4, 1, [], fun _ => false, True, []⟩
noncomputable def s5uN (x : MX) (a b : OV) (h : Int) (e : Bool) (n no : Int) (v : VF) : St := ⟨tm5u v a b n no, [], Tr.rebuild (h5N x a b h e) 4, 4, 1, [], fun _ => false, True, []⟩
noncomputable def s5AN (x : MX) (a b : OV) (h : Int) (e : Bool) (v : VF) : St := ⟨tm5A v a b, [], Tr.rebuild (h5N x a b h e) 4, 4, 1, [], fun _ => false, True, []⟩
noncomputable def s5ZN (x : MX) (a b : OV) (h : Int) (e : Bool) (g : Value) (v : VF) : St := ⟨tm5Z v a b g, [], Tr.rebuild (h5N x a b h e) 4, 4, 1, [], fun _ => false, True, []⟩
noncomputable def s5BN (x : MX) (a b : OV) (h : Int) (e : Bool) (g : Value) (v : VF) : St := ⟨tm5B v a b g, [], Tr.rebuild (h5N x a b h e) 4, 4, 1, [], fun _ => false, True, []⟩
noncomputable def s5YN (x : MX) (a b : OV) (h : Int) (e : Bool) (g k : Value) (v : VF) : St := ⟨tm5Y v a b g k, [], Tr.rebuild (h5N x a b h e) 4, 4, 1, [], fun _ => false, True, []⟩
noncomputable def s5eN (x : MX) (a b : OV) (h : Int) (e : Bool) (g : Bool) (v : VF) : St := ⟨tm5e v a b g, [], Tr.rebuild (h5N x a b h e) 4, 4, 1, [], fun _ => false, True, []⟩
noncomputable def s5sS (x : MX) (a b : OV) (h : Int) (e : Bool) (P m c : Nat) (n : Int) (v : VF) : St := ⟨tm5s v a b n, [], Tr.rebuild (h5S x a b h e P m c) 4, 4, 1, [], fun _ => false, True, []⟩
noncomputable def s5tS (x : MX) (a b : OV) (h : Int) (e : Bool) (P m c : Nat) (n e1 e2 : Int) (v : VF) : St := ⟨tm5t v a b n e1 e2, [], Tr.rebuild (h5S x a b h e P m c) 4, 4, 1, [], fun _ => false, True, []⟩
noncomputable def s5uS (x : MX) (a b : OV) (h : Int) (e : Bool) (P m c : Nat) (n no : Int) (v : VF) : St := ⟨tm5u v a b n no, [], Tr.rebuild (h5S x a b h e P m c) 4, 4, 1, [], fun _ => false, True, []⟩
noncomputable def s5AS (x : MX) (a b : OV) (h : Int) (e : Bool) (P m c : Nat) (v : VF) : St := ⟨tm5A v a b, [], Tr.rebuild (h5S x a b h e P m c) 4, 4, 1, [], fun _ => false, True, []⟩
noncomputable def s5ZS (x : MX) (a b : OV) (h : Int) (e : Bool) (P m c : Nat) (g : Value) (v : VF) : St := ⟨tm5Z v a b g, [], Tr.rebuild (h5S x a b h e P m c) 4, 4, 1, [], fun _ => false, True, []⟩
noncomputable def s5BS (x : MX) (a b : OV) (h : Int) (e : Bool) (P m c : Nat) (g : Value) (v : VF) : St := ⟨tm5B v a b g, [], Tr.rebuild (h5S x a b h e P m c) 4, 4, 1, [], fun _ => false, True, []⟩
noncomputable def s5YS (x : MX) (a b : OV) (h : Int) (e : Bool) (P m c : Nat) (g k : Value) (v : VF) : St := ⟨tm5Y v a b g k, [], Tr.rebuild (h5S x a b h e P m c) 4, 4, 1, [], fun _ => false, True, []⟩
noncomputable def s5eS (x : MX) (a b : OV) (h : Int) (e : Bool) (P m c : Nat) (g : Bool) (v : VF) : St := ⟨tm5e v a b g, [], Tr.rebuild (h5S x a b h e P m c) 4, 4, 1, [], fun _ => false, True, []⟩
theorem k5o0 (x : MX) (a b : OV) : ((mk Try.prog (KA x) 300).call 5 [a.v, b.v] (smSt 1 [some (.fam x.F)] [some true])).map (fun r => (r.1, r.2.obl)) = some (.bool true, ((True ∧ as6 x a) ∧ (!fewE x a) = true) ∧ (x.F = x.F ∧ True)) := by kernel_rfl
theorem k5o1 (x : MX) (a b : OV) : ((mk Try.prog (KA x) 300).call 5 [a.v, b.v] (smSt 1 [some (.fam x.F)] [some false, none, none, none, some true])).map (fun r => (r.1, r.2.obl)) = some (.bool true, ((((True ∧ as6 x a) ∧ (!fewE x a) = false) ∧ as6 x b) ∧ (!fewE x b) = true) ∧ (x.F = x.F ∧ True)) := by kernel_rfl
theorem k5d (x : MX) (a b : OV) : (gd5 (KA x) [2, 2] b5 (z5 x a b) [some false, none, none, none, some false]).map (fun r => (r.2, r.1.obl, seenInT BP5 r.1 (s5p x a b (VP5 vU)) [0, 1, 2])) = some (e5, (((True ∧ as6 x a) ∧ (!fewE x a) = false) ∧ as6 x b) ∧ (!fewE x b) = false, seenAsT BP5 (s5p x a b (VP5 vU)) [0, 1, 2] 3) := by kernel_rfl
theorem ok5d (x0 x : MX) (a b : OV) (v : VF) : picOkT BP5 (z5 x0 a b) (s5p x a b (VP5 v)) [0, 1, 2] = true := by kernel_rfl
theorem k5q (x : MX) (a b : OV) (v : VF) : (rs5 KN o5 [0, 1] (s5p x a b v) []).map (fun r => (r.obl, seenInT BN5 r (s5q x a b (VN5 v)) [0, 1, 2])) = some (True, seenAsT BN5 (s5q x a b (VN5 v)) [0, 1, 2] 3) := by kernel_rfl
theorem ok5q (x0 x : MX) (a b : OV) (v : VF) : picOkT BN5 (z5 x0 a b) (s5q x a b (VN5 v)) [0, 1, 2] = true := by kernel_rfl
theorem k5sN (x : MX) (a b : OV) (h : Int) (e : Bool) (n : Int) (v : VF) : (rs5 KN o5 [3, 4, 5, 6, 7, 8] (s5r x a b (.tuple #[.agg #[.int .u16 h, .bool e, .slice none 0 0], .int .i64 n]) v) []).map (fun r => (r.obl, seenInT BS5 r (s5sN x a b h e n (VS5 v)) [0, 1, 2, 3])) = some (True, seenAsT BS5 (s5sN x a b h e n (VS5 v)) [0, 1, 2, 3] 4) := by kernel_rfl
theorem ok5sN (x0 x : MX) (a b : OV) (h : Int) (e : Bool) (n : Int) (v : VF) : picOkT BS5 (z5 x0 a b) (s5sN x a b h e n (VS5 v)) [0, 1, 2, 3] = true := by kernel_rfl
theorem k5tN (x : MX) (a b : OV) (h : Int) (e : Bool) (n : Int) (v : VF) : (gd5 (KT13 x) [2, 3, 2] x5 (s5sN x a b h e n v) []).map (fun r => (r.2, r.1.obl, seenInT BT5 r.1 (s5tN x a b h e n (check13 x a) (check13 x b) (VT5 v)) [0, 1, 2, 3])) = some (c5, (True ∧ (x.F = x.F ∧ capOk x a.P a.n ∧ ∀ i, i < a.n → 0 ≤ x.CK a.P i ∧ x.CK a.P i ≤ 255)) ∧ (x.F = x.F ∧ capOk x b.P b.n ∧ ∀ i, i < b.n → 0 ≤ x.CK b.P i ∧ x.CK b.P i ≤ 255), seenAsT BT5 (s5tN x a b h e n (check13 x a) (check13 x b) (VT5 v)) [0, 1, 2, 3] 4) := by kernel_rfl
theorem ok5tN (x0 x : MX) (a b : OV) (h : Int) (e : Bool) (n e1 e2 : Int) (v : VF) : picOkT BT5 (z5 x0 a b) (s5tN x a b h e n e1 e2 (VT5 v)) [0, 1, 2, 3] = true := by kernel_rfl
theorem k5uaN (x : MX) (a b : OV) (h : Int) (e : Bool) (n e1 e2 : Int) (v : VF) : (go5 KN c5 (s5tN x a b h e n e1 e2 v) [some true]).map (fun r => (r.1, r.2.obl, seenInT BUa5 r.2 (s5uN x a b h e n e2 (VUa5 v)) [0, 1, 2, 3])) = some (.normal, True ∧ (e1 == 0) = true, seenAsT BUa5 (s5uN x a b h e n e2 (VUa5 v)) [0, 1, 2, 3] 4) := by kernel_rfl
theorem ok5uaN (x0 x : MX) (a b : OV) (h : Int) (e : Bool) (n e1 e2 : Int) (v : VF) : picOkT BUa5 (z5 x0 a b) (s5uN x a b h e n e2 (VUa5 v)) [0, 1, 2, 3] = true := by kernel_rfl
theorem k5ubN (x : MX) (a b : OV) (h : Int) (e : Bool) (n e1 e2 : Int) (v : VF) : (go5 KN c5 (s5tN x a b h e n e1 e2 v) [some false, none, none, some true]).map (fun r => (r.1, r.2.obl, seenInT BUb5 r.2 (s5uN x a b h e n e2 (VUb5 v)) [0, 1, 2, 3])) = some (.normal, (True ∧ (e1 == 0) = false) ∧ (e2 == 2) = true, seenAsT BUb5 (s5uN x a b h e n e2 (VUb5 v)) [0, 1, 2, 3] 4) := by kernel_rfl
theorem ok5ubN (x0 x : MX) (a b : OV) (h : Int) (e : Bool) (n e1 e2 : Int) (v : VF) : picOkT BUb5 (z5 x0 a b) (s5uN x a b h e n e2 (VUb5 v)) [0, 1, 2, 3] = true := by kernel_rfl
theorem k5ucN (x : MX) (a b : OV) (h : Int) (e : Bool) (n e1 e2 : Int) (v : VF) : (go5 KN c5 (s5tN x a b h e n e1 e2 v) [some false, none, none, some false]).map (fun r => (r.1, r.2.obl, seenInT BUc5 r.2 (s5uN x a b h e n e1 (VUc5 v)) [0, 1, 2, 3])) = some (.normal, (True ∧ (e1 == 0) = false) ∧ (e2 == 2) = false, seenAsT BUc5 (s5uN x a b h e n e1 (VUc5 v)) [0, 1, 2, 3] 4) := by kernel_rfl
theorem ok5ucN (x0 x : MX) (a b : OV) (h : Int) (e : Bool) (n e1 e2 : Int) (v : VF) : picOkT BUc5 (z5 x0 a b) (s5uN x a b h e n e1 (VUc5 v)) [0, 1, 2, 3] = true := by kernel_rfl
theorem k5wN (x : MX) (a b : OV) (h : Int) (e : Bool) (v : VF) : (gd5 KN [2] y5 (s5uN x a b h e 0 0 v) []).map (fun r => (r.2, r.1.obl, seenInT BW5 r.1 (s5uN x a b h e 0 0 (VW5 v)) [0, 1, 2, 3])) = some (w5, True, seenAsT BW5 (s5uN x a b h e 0 0 (VW5 v)) [0, 1, 2, 3] 4) := by kernel_rfl
theorem ok5wN (x0 x : MX) (a b : OV) (h : Int) (e : Bool) (v : VF) : picOkT BW5 (z5 x0 a b) (s5uN x a b h e 0 0 (VW5 v)) [0, 1, 2, 3] = true := by kernel_rfl
theorem k5AN0 (x : MX) (a b : OV) (h : Int) (e : Bool) (v : VF) : (rs5 KN p5 [1, 2] (s5uN x a b h e 0 0 v) []).map (fun r => (r.obl, seenInT BA5 r (s5AN x a b h e (VA5 v)) [0, 1, 2, 3])) = some (True, seenAsT BA5 (s5AN x a b h e (VA5 v)) [0, 1, 2, 3] 4) := by kernel_rfl
theorem ok5AN0 (x0 x : MX) (a b : OV) (h : Int) (e : Bool) (v : VF) : picOkT BA5 (z5 x0 a b) (s5AN x a b h e (VA5 v)) [0, 1, 2, 3] = true := by kernel_rfl
theorem k5AN1 (x : MX) (a b : OV) (h : Int) (e : Bool) (v : VF) : (rs5 KN p5 [2, 1] (s5uN x a b h e 0 0 v) []).map (fun r => (r.obl, seenInT BA5 r (s5AN x a b h e (VA5 v)) [0, 1, 2, 3])) = some (True, seenAsT BA5 (s5AN x a b h e (VA5 v)) [0, 1, 2, 3] 4) := by kernel_rfl
theorem ok5AN1 (x0 x : MX) (a b : OV) (h : Int) (e : Bool) (v : VF) : picOkT BA5 (z5 x0 a b) (s5AN x a b h e (VA5 v)) [0, 1, 2, 3] = true := by kernel_rfl
theorem k5ZN0 (x : MX) (a b : OV) (h : Int) (e : Bool) (v : VF) : (rs5 KN p5 [0, 1, 2] (s5uN x a b h e 0 0 v) []).map (fun r => (r.obl, seenInT BZ5 r (s5ZN x a b h e (.agg #[.int .u16 h, .bool e, .slice none 0 0]) (VZ5 v)) [0, 1, 2, 3])) = some (True, seenAsT BZ5 (s5ZN x a b h e (.agg #[.int .u16 h, .bool e, .slice none 0 0]) (VZ5 v)) [0, 1, 2, 3] 4) := by kernel_rfl
theorem ok5ZN0 (x0 x : MX) (a b : OV) (h : Int) (e : Bool) (v : VF) : picOkT BZ5 (z5 x0 a b) (s5ZN x a b h e (.agg #[.int .u16 h, .bool e, .slice none 0 0]) (VZ5 v)) [0, 1, 2, 3] = true := by kernel_rfl
theorem k5ZN1 (x : MX) (a b : OV) (h : Int) (e : Bool) (v : VF) : (rs5 KN p5 [0, 2, 1] (s5uN x a b h e 0 0 v) []).map (fun r => (r.obl, seenInT BZ5 r (s5ZN x a b h e (.agg #[.int .u16 h, .bool e, .slice none 0 0]) (VZ5 v)) [0, 1, 2, 3])) = some (True, seenAsT BZ5 (s5ZN x a b h e (.agg #[.int .u16 h, .bool e, .slice none 0 0]) (VZ5 v)) [0, 1, 2, 3] 4) := by kernel_rfl
theorem ok5ZN1 (x0 x : MX) (a b : OV) (h : Int) (e : Bool) (v : VF) : picOkT BZ5 (z5 x0 a b) (s5ZN x a b h e (.agg #[.int .u16 h, .bool e, .slice none 0 0]) (VZ5 v)) [0, 1, 2, 3] = true := by kernel_rfl
theorem k5ZN2 (x : MX) (a b : OV) (h : Int) (e : Bool) (v : VF) : (rs5 KN p5 [1, 0, 2] (s5uN x a b h e 0 0 v) []).map (fun r => (r.obl, seenInT BZ5 r (s5ZN x a b h e (.agg #[.int .u16 h, .bool e, .slice none 0 0]) (VZ5 v)) [0, 1, 2, 3])) = some (True, seenAsT BZ5 (s5ZN x a b h e (.agg #[.int .u16 h, .bool e, .slice none 0 0]) (VZ5 v)) [0, 1, 2, 3] 4) := by kernel_rfl
theorem ok5ZN2 (x0 x : MX) (a b : OV) (h : Int) (e : Bool) (v : VF) : picOkT BZ5 (z5 x0 a b) (s5ZN x a b h e (.agg #[.int .u16 h, .bool e, .slice none 0 0]) (VZ5 v)) [0, 1, 2, 3] = true := by kernel_rfl
theorem k5ZN3 (x : MX) (a b : OV) (h : Int) (e : Bool) (v : VF) : (rs5 KN p5 [1, 2, 0] (s5uN x a b h e 0 0 v) []).map (fun r => (r.obl, seenInT BZ5 r (s5ZN x a b h e (.agg #[.int .u16 h, .bool e, .slice none 0 0]) (VZ5 v)) [0, 1, 2, 3])) = some (True, seenAsT BZ5 (s5ZN x a b h e (.agg #[.int .u16 h, .bool e, .slice none 0 0]) (VZ5 v)) [0, 1, 2, 3] 4) := by kernel_rfl
theorem ok5ZN3 (x0 x : MX) (a b : OV) (h : Int) (e : Bool) (v : VF) : picOkT BZ5 (z5 x0 a b) (s5ZN x a b h e (.agg #[.int .u16 h, .bool e, .slice none 0 0]) (VZ5 v)) [0, 1, 2, 3] = true := by kernel_rfl
theorem k5ZN4 (x : MX) (a b : OV) (h : Int) (e : Bool) (v : VF) : (rs5 KN p5 [2, 0, 1] (s5uN x a b h e 0 0 v) []).map (fun r => (r.obl, seenInT BZ5 r (s5ZN x a b h e (.agg #[.int .u16 h, .bool e, .slice none 0 0]) (VZ5 v)) [0, 1, 2, 3])) = some (True, seenAsT BZ5 (s5ZN x a b h e (.agg #[.int .u16 h, .bool e, .slice none 0 0]) (VZ5 v)) [0, 1, 2, 3] 4) := by kernel_rfl
theorem ok5ZN4 (x0 x : MX) (a b : OV) (h : Int) (e : Bool) (v : VF) : picOkT BZ5 (z5 x0 a b) (s5ZN x a b h e (.agg #[.int .u16 h, .bool e, .slice none 0 0]) (VZ5 v)) [0, 1, 2, 3] = true := by kernel_rfl
theorem k5ZN5 (x : MX) (a b : OV) (h : Int) (e : Bool) (v : VF) : (rs5 KN p5 [2, 1, 0] (s5uN x a b h e 0 0 v) []).map (fun r => (r.obl, seenInT BZ5 r (s5ZN x a b h e (.agg #[.int .u16 h, .bool e, .slice none 0 0]) (VZ5 v)) [0, 1, 2, 3])) = some (True, seenAsT BZ5 (s5ZN x a b h e (.agg #[.int .u16 h, .bool e, .slice none 0 0]) (VZ5 v)) [0, 1, 2, 3] 4) := by kernel_rfl
theorem ok5ZN5 (x0 x : MX) (a b : OV) (h : Int) (e : Bool) (v : VF) : picOkT BZ5 (z5 x0 a b) (s5ZN x a b h e (.agg #[.int .u16 h, .bool e, .slice none 0 0]) (VZ5 v)) [0, 1, 2, 3] = true := by kernel_rfl
theorem k5sS (x : MX) (a b : OV) (h : Int) (e : Bool) (P m c : Nat) (n : Int) (v : VF) : (rs5 KN o5 [3, 4, 5, 6, 7, 8] (s5r x a b (.tuple #[.agg #[.int .u16 h, .bool e, PB_ P m c], .int .i64 n]) v) []).map (fun r => (r.obl, seenInT BS5 r (s5sS x a b h e P m c n (VS5 v)) [0, 1, 2, 3])) = some (True, seenAsT BS5 (s5sS x a b h e P m c n (VS5 v)) [0, 1, 2, 3] 4) := by kernel_rfl
theorem ok5sS (x0 x : MX) (a b : OV) (h : Int) (e : Bool) (P m c : Nat) (n : Int) (v : VF) : picOkT BS5 (z5 x0 a b) (s5sS x a b h e P m c n (VS5 v)) [0, 1, 2, 3] = true := by kernel_rfl
theorem k5tS (x : MX) (a b : OV) (h : Int) (e : Bool) (P m c : Nat) (n : Int) (v : VF) : (gd5 (KT13 x) [2, 3, 2] x5 (s5sS x a b h e P m c n v) []).map (fun r => (r.2, r.1.obl, seenInT BT5 r.1 (s5tS x a b h e P m c n (check13 x a) (check13 x b) (VT5 v)) [0, 1, 2, 3])) = some (c5, (True ∧ (x.F = x.F ∧ capOk x a.P a.n ∧ ∀ i, i < a.n → 0 ≤ x.CK a.P i ∧ x.CK a.P i ≤ 255)) ∧ (x.F = x.F ∧ capOk x b.P b.n ∧ ∀ i, i < b.n → 0 ≤ x.CK b.P i ∧ x.CK b.P i ≤ 255), seenAsT BT5 (s5tS x a b h e P m c n (check13 x a) (check13 x b) (VT5 v)) [0, 1, 2, 3] 4) := by kernel_rfl
theorem ok5tS (x0 x : MX) (a b : OV) (h : Int) (e : Bool) (P m c : Nat) (n e1 e2 : Int) (v : VF) : picOkT BT5 (z5 x0 a b) (s5tS x a b h e P m c n e1 e2 (VT5 v)) [0, 1, 2, 3] = true := by kernel_rfl
theorem k5uaS (x : MX) (a b : OV) (h : Int) (e : Bool) (P m c : Nat) (n e1 e2 : Int) (v : VF) : (go5 KN c5 (s5tS x a b h e P m c n e1 e2 v) [some true]).map (fun r => (r.1, r.2.obl, seenInT BUa5 r.2 (s5uS x a b h e P m c n e2 (VUa5 v)) [0, 1, 2, 3])) = some (.normal, True ∧ (e1 == 0) = true, seenAsT BUa5 (s5uS x a b h e P m c n e2 (VUa5 v)) [0, 1, 2, 3] 4) := by kernel_rfl
theorem ok5uaS (x0 x : MX) (a b : OV) (h : Int) (e : Bool) (P m c : Nat) (n e1 e2 : Int) (v : VF) : picOkT BUa5 (z5 x0 a b) (s5uS x a b h e P m c n e2 (VUa5 v)) [0, 1, 2, 3] = true := by kernel_rfl
theorem k5ubS (x : MX) (a b : OV) (h : Int) (e : Bool) (P m c : Nat) (n e1 e2 : Int) (v : VF) : (go5 KN c5 (s5tS x a b h e P m c n e1 e2 v) [some false, none, none, some true]).map (fun r => (r.1, r.2.obl, seenInT BUb5 r.2 (s5uS x a b h e P m c n e2 (VUb5 v)) [0, 1, 2, 3])) = some (.normal, (True ∧ (e1 == 0) = false) ∧ (e2 == 2) = true, seenAsT BUb5 (s5uS x a b h e P m c n e2 (VUb5 v)) [0, 1, 2, 3] 4) := by kernel_rfl
theorem ok5ubS (x0 x : MX) (a b : OV) (h : Int) (e : Bool) (P m c : Nat) (n e1 e2 : Int) (v : VF) : picOkT BUb5 (z5 x0 a b) (s5uS x a b h e P m c n e2 (VUb5 v)) [0, 1, 2, 3] = true := by kernel_rfl
theorem k5ucS (x : MX) (a b : OV) (h : Int) (e : Bool) (P m c : Nat) (n e1 e2 : Int) (v : VF) : (go5 KN c5 (s5tS x a b h e P m c n e1 e2 v) [some false, none, none, some false]).map (fun r => (r.1, r.2.obl, seenInT BUc5 r.2 (s5uS x a b h e P m c n e1 (VUc5 v)) [0, 1, 2, 3])) = some (.normal, (True ∧ (e1 == 0) = false) ∧ (e2 == 2) = false, seenAsT BUc5 (s5uS x a b h e P m c n e1 (VUc5 v)) [0, 1, 2, 3] 4) := by kernel_rfl
theorem ok5ucS (x0 x : MX) (a b : OV) (h : Int) (e : Bool) (P m c : Nat) (n e1 e2 : Int) (v : VF) : picOkT BUc5 (z5 x0 a b) (s5uS x a b h e P m c n e1 (VUc5 v)) [0, 1, 2, 3] = true := by kernel_rfl
theorem k5wS (x : MX) (a b : OV) (h : Int) (e : Bool) (P m c : Nat) (v : VF) : (gd5 KN [2] y5 (s5uS x a b h e P m c 0 0 v) []).map (fun r => (r.2, r.1.obl, seenInT BW5 r.1 (s5uS x a b h e P m c 0 0 (VW5 v)) [0, 1, 2, 3])) = some (w5, True, seenAsT BW5 (s5uS x a b h e P m c 0 0 (VW5 v)) [0, 1, 2, 3] 4) := by kernel_rfl
theorem ok5wS (x0 x : MX) (a b : OV) (h : Int) (e : Bool) (P m c : Nat) (v : VF) : picOkT BW5 (z5 x0 a b) (s5uS x a b h e P m c 0 0 (VW5 v)) [0, 1, 2, 3] = true := by kernel_rfl
theorem k5AS0 (x : MX) (a b : OV) (h : Int) (e : Bool) (P m c : Nat) (v : VF) : (rs5 KN p5 [1, 2] (s5uS x a b h e P m c 0 0 v) []).map (fun r => (r.obl, seenInT BA5 r (s5AS x a b h e P m c (VA5 v)) [0, 1, 2, 3])) = some (True, seenAsT BA5 (s5AS x a b h e P m c (VA5 v)) [0, 1, 2, 3] 4) := by kernel_rfl
theorem ok5AS0 (x0 x : MX) (a b : OV) (h : Int) (e : Bool) (P m c : Nat) (v : VF) : picOkT BA5 (z5 x0 a b) (s5AS x a b h e P m c (VA5 v)) [0, 1, 2, 3] = true := by kernel_rfl
theorem k5AS1 (x : MX) (a b : OV) (h : Int) (e : Bool) (P m c : Nat) (v : VF) : (rs5 KN p5 [2, 1] (s5uS x a b h e P m c 0 0 v) []).map (fun r => (r.obl, seenInT BA5 r (s5AS x a b h e P m c (VA5 v)) [0, 1, 2, 3])) = some (True, seenAsT BA5 (s5AS x a b h e P m c (VA5 v)) [0, 1, 2, 3] 4) := by kernel_rfl
theorem ok5AS1 (x0 x : MX) (a b : OV) (h : Int) (e : Bool) (P m c : Nat) (v : VF) : picOkT BA5 (z5 x0 a b) (s5AS x a b h e P m c (VA5 v)) [0, 1, 2, 3] = true := by kernel_rfl
theorem k5ZS0 (x : MX) (a b : OV) (h : Int) (e : Bool) (P m c : Nat) (v : VF) : (rs5 KN p5 [0, 1, 2] (s5uS x a b h e P m c 0 0 v) []).map (fun r => (r.obl, seenInT BZ5 r (s5ZS x a b h e P m c (.agg #[.int .u16 h, .bool e, PB_ P m c]) (VZ5 v)) [0, 1, 2, 3])) = some (True, seenAsT BZ5 (s5ZS x a b h e P m c (.agg #[.int .u16 h, .bool e, PB_ P m c]) (VZ5 v)) [0, 1, 2, 3] 4) := by kernel_rfl
theorem ok5ZS0 (x0 x : MX) (a b : OV) (h : Int) (e : Bool) (P m c : Nat) (v : VF) : picOkT BZ5 (z5 x0 a b) (s5ZS x a b h e P m c (.agg #[.int .u16 h, .bool e, PB_ P m c]) (VZ5 v)) [0, 1, 2, 3] = true := by kernel_rfl
theorem k5ZS1 (x : MX) (a b : OV) (h : Int) (e : Bool) (P m c : Nat) (v : VF) : (rs5 KN p5 [0, 2, 1] (s5uS x a b h e P m c 0 0 v) []).map (fun r => (r.obl, seenInT BZ5 r (s5ZS x a b h e P m c (.agg #[.int .u16 h, .bool e, PB_ P m c]) (VZ5 v)) [0, 1, 2, 3])) = some (True, seenAsT BZ5 (s5ZS x a b h e P m c (.agg #[.int .u16 h, .bool e, PB_ P m c]) (VZ5 v)) [0, 1, 2, 3] 4) := by kernel_rfl
theorem ok5ZS1 (x0 x : MX) (a b : OV) (h : Int) (e : Bool) (P m c : Nat) (v : VF) : picOkT BZ5 (z5 x0 a b) (s5ZS x a b h e P m c (.agg #[.int .u16 h, .bool e, PB_ P m c]) (VZ5 v)) [0, 1, 2, 3] = true := by kernel_rfl
theorem k5ZS2 (x : MX) (a b : OV) (h : Int) (e : Bool) (P m c : Nat) (v : VF) : (rs5 KN p5 [1, 0, 2] (s5uS x a b h e P m c 0 0 v) []).map (fun r => (r.obl, seenInT BZ5 r (s5ZS x a b h e P m c (.agg #[.int .u16 h, .bool e, PB_ P m c]) (VZ5 v)) [0, 1, 2, 3])) = some (True, seenAsT BZ5 (s5ZS x a b h e P m c (.agg #[.int .u16 h, .bool e, PB_ P m c]) (VZ5 v)) [0, 1, 2, 3] 4) := by kernel_rfl
theorem ok5ZS2 (x0 x : MX) (a b : OV) (h : Int) (e : Bool) (P m c : Nat) (v : VF) : picOkT BZ5 (z5 x0 a b) (s5ZS x a b h e P m c (.agg #[.int .u16 h, .bool e, PB_ P m c]) (VZ5 v)) [0, 1, 2, 3] = true := by kernel_rfl
theorem k5ZS3 (x : MX) (a b : OV) (h : Int) (e : Bool) (P m c : Nat) (v : VF) : (rs5 KN p5 [1, 2, 0] (s5uS x a b h e P m c 0 0 v) []).map (fun r => (r.obl, seenInT BZ5 r (s5ZS x a b h e P m c (.agg #[.int .u16 h, .bool e, PB_ P m c]) (VZ5 v)) [0, 1, 2, 3])) = some (True, seenAsT BZ5 (s5ZS x a b h e P m c (.agg #[.int .u16 h, .bool e, PB_ P m c]) (VZ5 v)) [0, 1, 2, 3] 4) := by kernel_rfl
theorem ok5ZS3 (x0 x : MX) (a b : OV) (h : Int) (e : Bool) (P m c : Nat) (v : VF) : picOkT BZ5 (z5 x0 a b) (s5ZS x a b h e P m c (.agg #[.int .u16 h, .bool e, PB_ P m c]) (VZ5 v)) [0, 1, 2, 3] = true := by kernel_rfl
theorem k5ZS4 (x : MX) (a b : OV) (h : Int) (e : Bool) (P m c : Nat) (v : VF) : (rs5 KN p5 [2, 0, 1] (s5uS x a b h e P m c 0 0 v) []).map (fun r => (r.obl, seenInT BZ5 r (s5ZS x a b h e P m c (.agg #[.int .u16 h, .bool e, PB_ P m c]) (VZ5 v)) [0, 1, 2, 3])) = some (True, seenAsT BZ5 (s5ZS x a b h e P m c (.agg #[.int .u16 h, .bool e, PB_ P m c]) (VZ5 v)) [0, 1, 2, 3] 4) := by kernel_rfl
theorem ok5ZS4 (x0 x : MX) (a b : OV) (h : Int) (e : Bool) (P m c : Nat) (v : VF) : picOkT BZ5 (z5 x0 a b) (s5ZS x a b h e P m c (.agg #[.int .u16 h, .bool e, PB_ P m c]) (VZ5 v)) [0, 1, 2, 3] = true := by kernel_rfl
theorem k5ZS5 (x : MX) (a b : OV) (h : Int) (e : Bool) (P m c : Nat) (v : VF) : (rs5 KN p5 [2, 1, 0] (s5uS x a b h e P m c 0 0 v) []).map (fun r => (r.obl, seenInT BZ5 r (s5ZS x a b h e P m c (.agg #[.int .u16 h, .bool e, PB_ P m c]) (VZ5 v)) [0, 1, 2, 3])) = some (True, seenAsT BZ5 (s5ZS x a b h e P m c (.agg #[.int .u16 h, .bool e, PB_ P m c]) (VZ5 v)) [0, 1, 2, 3] 4) := by kernel_rfl
theorem ok5ZS5 (x0 x : MX) (a b : OV) (h : Int) (e : Bool) (P m c : Nat) (v : VF) : picOkT BZ5 (z5 x0 a b) (s5ZS x a b h e P m c (.agg #[.int .u16 h, .bool e, PB_ P m c]) (VZ5 v)) [0, 1, 2, 3] = true := by kernel_rfl
theorem k5E2 (x : MX) (a b : OV) (v : VF) : (go5 (KA x) y5 (s5uN x a b 0 false 2 2 v) []).bind (fun r => (results1 Try.prog r.2 [.tmp 4]).map fun q => (r.1, q.2.obl, r.2.defers, oneOf q.1)) = some (.ret, True ∧ (x.F = x.F ∧ True), [], .bool true) := by kernel_rfl
theorem k5E3 (x : MX) (a b : OV) (v : VF) : (go5 (KA x) y5 (s5uN x a b 0 false 3 3 v) []).bind (fun r => (results1 Try.prog r.2 [.tmp 4]).map fun q => (r.1, q.2.obl, r.2.defers, oneOf q.1)) = some (.ret, True ∧ (x.F = x.F ∧ True), [], .bool true) := by kernel_rfl
theorem k5YN (x : MX) (a b : OV) (h : Int) (e : Bool) (v : VF) : (rs5 (KA x) p5 [4, 5, 6, 7, 8, 9, 10, 11, 12, 13] (s5YN x a b h e (.agg #[.int .u16 h, .bool e, .slice none 0 0]) (.agg #[.int .u16 h, .bool e, .slice none 0 0]) v) [some true, none, none, none, none, none, some true]).map (fun r => (r.obl, seenInT BE5 r (s5eN x a b h e true (VE5 v)) [0, 1, 2, 3])) = some ((((True ∧ (h == h) = true) ∧ (e == e) = true) ∧ (x.F = x.F ∧ True)), seenAsT BE5 (s5eN x a b h e true (VE5 v)) [0, 1, 2, 3] 6) := by kernel_rfl
theorem ok5YN (x0 x : MX) (a b : OV) (h : Int) (e : Bool) (v : VF) : picOkT BE5 (z5 x0 a b) (s5eN x a b h e true (VE5 v)) [0, 1, 2, 3] = true := by kernel_rfl
theorem k5BN (x : MX) (a b : OV) (h : Int) (e : Bool) (v : VF) : (rs5 (KA x) p5 [0, 4, 5, 6, 7, 8, 9, 10, 11, 12, 13] (s5BN x a b h e (.agg #[.int .u16 h, .bool e, .slice none 0 0]) v) [some true, none, none, none, none, none, some true]).map (fun r => (r.obl, seenInT BE5 r (s5eN x a b h e true (VE5 v)) [0, 1, 2, 3])) = some ((((True ∧ (h == h) = true) ∧ (e == e) = true) ∧ (x.F = x.F ∧ True)), seenAsT BE5 (s5eN x a b h e true (VE5 v)) [0, 1, 2, 3] 6) := by kernel_rfl
theorem ok5BN (x0 x : MX) (a b : OV) (h : Int) (e : Bool) (v : VF) : picOkT BE5 (z5 x0 a b) (s5eN x a b h e true (VE5 v)) [0, 1, 2, 3] = true := by kernel_rfl
theorem k5VN (x : MX) (a b : OV) (h : Int) (e : Bool) (v : VF) : (go5 KN v5 (s5eN x a b h e true v) []).bind (fun r => (results1 Try.prog r.2 [.tmp 4]).map fun q => (r.1, q.2.obl, r.2.defers, oneOf q.1)) = some (.ret, True, [], .bool true) := by kernel_rfl
theorem k5YS (x : MX) (a b : OV) (h : Int) (e : Bool) (P m c : Nat) (P2 c2 : Nat) (v : VF) : (rs5 (KA x) p5 [4, 5, 6, 7, 8, 9, 10, 11, 12, 13] (s5YS x a b h e P m c (.agg #[.int .u16 h, .bool e, PB_ P m c]) (.agg #[.int .u16 h, .bool e, PB_ P2 m c2]) v) [some true, none, none, none, none, none, some true, none, none, none, none, none, none, none, some true]).map (fun r => (r.obl, seenInT BE5 r (s5eS x a b h e P m c true (VE5 v)) [0, 1, 2, 3])) = some (((((((True ∧ (h == h) = true) ∧ (e == e) = true) ∧ (m = 0 ∨ 0 + m ≤ (x.D P).length)) ∧ (m = 0 ∨ 0 + m ≤ (x.D P2).length)) ∧ strQ (((x.D P).drop 0).take m) (((x.D P2).drop 0).take m) = true) ∧ (x.F = x.F ∧ True)), seenAsT BE5 (s5eS x a b h e P m c true (VE5 v)) [0, 1, 2, 3] 6) := by kernel_rfl
theorem ok5YS (x0 x : MX) (a b : OV) (h : Int) (e : Bool) (P m c : Nat) (P2 c2 : Nat) (v : VF) : picOkT BE5 (z5 x0 a b) (s5eS x a b h e P m c true (VE5 v)) [0, 1, 2, 3] = true := by kernel_rfl
theorem k5BS (x : MX) (a b : OV) (h : Int) (e : Bool) (P m c : Nat) (P2 c2 : Nat) (v : VF) : (rs5 (KA x) p5 [0, 4, 5, 6, 7, 8, 9, 10, 11, 12, 13] (s5BS x a b h e P m c (.agg #[.int .u16 h, .bool e, PB_ P2 m c2]) v) [some true, none, none, none, none, none, some true, none, none, none, none, none, none, none, some true]).map (fun r => (r.obl, seenInT BE5 r (s5eS x a b h e P m c true (VE5 v)) [0, 1, 2, 3])) = some (((((((True ∧ (h == h) = true) ∧ (e == e) = true) ∧ (m = 0 ∨ 0 + m ≤ (x.D P).length)) ∧ (m = 0 ∨ 0 + m ≤ (x.D P2).length)) ∧ strQ (((x.D P).drop 0).take m) (((x.D P2).drop 0).take m) = true) ∧ (x.F = x.F ∧ True)), seenAsT BE5 (s5eS x a b h e P m c true (VE5 v)) [0, 1, 2, 3] 6) := by kernel_rfl
theorem ok5BS (x0 x : MX) (a b : OV) (h : Int) (e : Bool) (P m c : Nat) (P2 c2 : Nat) (v : VF) : picOkT BE5 (z5 x0 a b) (s5eS x a b h e P m c true (VE5 v)) [0, 1, 2, 3] = true := by kernel_rfl
theorem k5VS (x : MX) (a b : OV) (h : Int) (e : Bool) (P m c : Nat) (v : VF) : (go5 KN v5 (s5eS x a b h e P m c true v) []).bind (fun r => (results1 Try.prog r.2 [.tmp 4]).map fun q => (r.1, q.2.obl, r.2.defers, oneOf q.1)) = some (.ret, True, [], .bool true) := by kernel_rfl
end
end ob
end Go.Proofs.Ytpfmilkddapfiaa
namespace Go.Proofs.Ytpfmilkddapfiaa
open Go.ChangeShapes Go.WideShapes Go.ChangeAt Go.RowKit Go.Cln
namespace ob
set_option linter.unusedVariables false
noncomputable section
theorem up5d (x : MX) (a b : OV) (ρ0 : Nat → PB) (W0 : World) (Q_ : Exit → St → Prop) : upW Try.prog none (z5 x a b) ρ0 W0 [2, 2] b5 Q_ = Q_ := by kernel_rfl
theorem up5t (x : MX) (a b : OV) (ρ0 : Nat → PB) (W0 : World) (Q_ : Exit → St → Prop) : upW Try.prog none (z5 x a b) ρ0 W0 [2, 3, 2] x5 Q_ = fun e s => (e = .normal ∧ StepW Try.prog none (z5 x a b) ρ0 W0 y5 s Q_) ∨ (e ≠ .normal ∧ Q_ e s) := by kernel_rfl
theorem up5w (x : MX) (a b : OV) (ρ0 : Nat → PB) (W0 : World) (Q_ : Exit → St → Prop) : upW Try.prog none (z5 x a b) ρ0 W0 [2] y5 Q_ = Q_ := by kernel_rfl
def Q5 : Exit → St → Prop := fun e s' => leaves? e = true ∧ s'.defers = [] ∧ ResV Try.prog [.tmp 4] (.bool true) s'
def okK5 (x : MX) (a : OV) : Prop := ∀ i, i < a.n → 0 ≤ x.CK a.P i ∧ x.CK a.P i ≤ 255
theorem okK5_keeps {x y : MX} {a : OV} (hk : Keeps x.F y.F) (hO : capOk x a.P a.n) (h : okK5 x a) : okK5 y a := fun i hi => by
  rw [(kp_cap hk hi hO.1).2.1]; exact h i hi
theorem check15_val (x : MX) (a : OV) : check15 x a = 0 ∨ check15 x a = 2 ∨ check15 x a = 3 := by
  unfold check15
  cases rightE x a
  · exact .inr (.inl rfl)
  · cases decide (nI (behE x a).length > 255)
    · exact .inl rfl
    · exact .inr (.inr rfl)
theorem no_eq {x : MX} {a b : OV} {n e1 e2 : Int} (hn : errE x a b = n) (h1 : e1 = check15 x a) (h2 : e2 = check15 x b) : (e1 = 0 ∨ e2 = 2 → e2 = n) ∧ (¬ e1 = 0 → ¬ e2 = 2 → e1 = n) := by
  subst h1
  subst h2
  subst hn
  unfold errE
  rcases check15_val x a with h | h | h <;> rcases check15_val x b with k | k | k <;> rw [h, k] <;> exact ⟨by decide, by decide⟩
theorem ok0 {x : MX} {a b : OV} (h : errE x a b = 0) : check15 x b = 0 := by
  unfold errE at h
  rcases check15_val x a with h1 | h1 | h1 <;> rcases check15_val x b with k | k | k <;> rw [h1, k] at h <;> first | exact k | exact absurd h (by decide)
theorem right_of {x : MX} {b : OV} (h : check15 x b = 0) : rightE x b = true := by
  unfold check15 at h
  cases hr : rightE x b with
  | true => rfl
  | false => rw [hr] at h; exact absurd (show (2 : Int) = 0 from h) (by decide)
theorem g5q0 (x : MX) (a b : OV) (v : VF) : (s5q x a b v).heap.get 0 = some (.fam x.F) := by kernel_rfl
theorem g5r0 (x : MX) (a b : OV) (u : Value) (v : VF) : (s5r x a b u v).heap.get 0 = some (.fam x.F) := by kernel_rfl
theorem set5r (a b : OV) (u : Value) (v : VF) : setL (tm5q v a b) 21 u = tm5r v a b u := by kernel_rfl
theorem set5B (a b : OV) (u : Value) (v : VF) : setL (tm5A v a b) 52 u = tm5B v a b u := by kernel_rfl
theorem set5Y (a b : OV) (g u : Value) (v : VF) : setL (tm5Z v a b g) 52 u = tm5Y v a b g u := by kernel_rfl
theorem h6a_rest (x y : MX) (a b : OV) (j : Nat) (hj : j ≠ 0) : h6a y a b j = h6a x a b j := by
  rcases j with _ | _ | _ | j
  · exact absurd rfl hj
  · rfl
  · rfl
  · rfl
theorem g5AN (x : MX) (a b : OV) (h : Int) (e : Bool) (v : VF) : (s5AN x a b h e v).heap.get 0 = some (.fam x.F) := by kernel_rfl
theorem g5BN (x : MX) (a b : OV) (h : Int) (e : Bool) (g : Value) (v : VF) : (s5BN x a b h e g v).heap.get 0 = some (.fam x.F) := by kernel_rfl
theorem g5ZN (x : MX) (a b : OV) (h : Int) (e : Bool) (g : Value) (v : VF) : (s5ZN x a b h e g v).heap.get 0 = some (.fam x.F) := by kernel_rfl
theorem g5YN (x : MX) (a b : OV) (h : Int) (e : Bool) (g u : Value) (v : VF) : (s5YN x a b h e g u v).heap.get 0 = some (.fam x.F) := by kernel_rfl
theorem num5N {x y : MX} {a b : OV} {h : Int} {e : Bool} {n : Int} {v : VF} {ρ0 : Nat → PB} {W0 : World} (hk : Keeps x.F y.F) (hA : capOk x a.P a.n) (hB : capOk x b.P b.n) (kA : okK5 x a) (kB : okK5 x b) (pA : 0 ≤ a.hold) (pB : 0 ≤ b.hold) (hn : errE x a b = n) (hv : ∀ j, DeadV (v j))
    (hq : ∀ v, (∀ j, DeadV (v j)) → StepW Try.prog none (z5 x a b) ρ0 W0 y5 (s5uN y a b h e n n v) Q5) : StepW Try.prog none (z5 x a b) ρ0 W0 x5 (s5sN y a b h e n v) Q5 := by
  refine StepW.downs pg (KT13_ok y) (k5tN y a b h e n v) ⟨⟨trivial, rfl, kp_capOk hk hA, okK5_keeps hk hA kA⟩, rfl, kp_capOk hk hB, okK5_keeps hk hB kB⟩ (tm5t_dead (VT5_dead hv) lvT5) (h5N_ok y a b _ _) rfl (ok5tN x y a b _ _ _ _ _ v) ?_
  rw [up5t]
  have e1 := check_eq hA hk pA
  have e2 := check_eq hB hk pB
  obtain ⟨q1, q2⟩ := no_eq hn e1 e2
  have hv2 := VT5_dead hv
  cases h1 : (check13 y a == 0) with
  | true =>
    refine ((StepG.stdT (s0 := z5 x a b) (rd := none) pg KN_ok (k5uaN y a b h e n _ _ _) ⟨trivial, h1⟩ (show 1 ≤ 4 by decide) (tm5u_dead (VUa5_dead hv2) lvUa5) (h5N_ok y a b _ _) rfl (ok5uaN x y a b _ _ _ (check13 y a) _ _)).at ρ0 W0).mono ?_
    rintro ex s ⟨rfl, rfl⟩
    refine .inl ⟨rfl, ?_⟩
    rw [q1 (.inl (by simpa using h1))]
    exact hq _ (VUa5_dead hv2)
  | false =>
  cases h2 : (check13 y b == 2) with
  | true =>
    refine ((StepG.stdT (s0 := z5 x a b) (rd := none) pg KN_ok (k5ubN y a b h e n _ _ _) ⟨⟨trivial, h1⟩, h2⟩ (show 1 ≤ 4 by decide) (tm5u_dead (VUb5_dead hv2) lvUb5) (h5N_ok y a b _ _) rfl (ok5ubN x y a b _ _ _ (check13 y a) _ _)).at ρ0 W0).mono ?_
    rintro ex s ⟨rfl, rfl⟩
    refine .inl ⟨rfl, ?_⟩
    rw [q1 (.inr (by simpa using h2))]
    exact hq _ (VUb5_dead hv2)
  | false =>
    refine ((StepG.stdT (s0 := z5 x a b) (rd := none) pg KN_ok (k5ucN y a b h e n _ _ _) ⟨⟨trivial, h1⟩, h2⟩ (show 1 ≤ 4 by decide) (tm5u_dead (VUc5_dead hv2) lvUc5) (h5N_ok y a b _ _) rfl (ok5ucN x y a b _ _ _ _ (check13 y b) _)).at ρ0 W0).mono ?_
    rintro ex s ⟨rfl, rfl⟩
    refine .inl ⟨rfl, ?_⟩
    rw [q2 (by simpa using h1) (by simpa using h2)]
    exact hq _ (VUc5_dead hv2)
theorem call5AN {x y : MX} {a b : OV} {h : Int} {e : Bool} {v : VF} {ρ0 : Nat → PB} {W0 : World} (hk : Keeps x.F y.F) (hA : capOk x a.P a.n) (hB : capOk x b.P b.n) (hr : rightE x b = true) (eh : lessH a b = h) (ee : (a.asn == b.asn) = e) (hl : accM x a b a.n = []) (hv : ∀ j, DeadV (v j)) : StepO Try.prog none (z5 x a b) ρ0 W0 p5 [3, 0, 4, 5, 6, 7, 8, 9, 10, 11, 12, 13] (s5AN y a b h e v) fun ex s => (ex = .normal ∧ StepW Try.prog none (z5 x a b) ρ0 W0 v5 s Q5) ∨ (ex ≠ .normal ∧ Q5 ex s) := by
  have hacc : accR y a b a.n = accM x a b a.n := acc_eq hA hB hk hr a.n (Nat.le_refl _)
  refine StepO.call' (F := y.F) (g := 22) (vs := [a.v, b.v]) (f := .func 22) (args := #[.tmp 50, .tmp 51]) (dst := some 52) pg (by kernel_rfl) trivial rfl rfl fn22 rfl (g5AN y a b _ _ _) rfl (meet22 (kp_capOk hk hA) (kp_capOk hk hB)) ?_
  rw [eh, ee]
  rintro F' v' hf (⟨hl2, rfl, rfl⟩ | ⟨hl2, _⟩)
  rotate_left
  · rw [hacc, hl] at hl2; exact absurd hl2 (Nat.lt_irrefl 0)
  refine ⟨s5BN y a b h e (.agg #[.int .u16 h, .bool e, .slice none 0 0]) v, ⟨rfl, rfl, rfl, rfl, rfl, (set5B a b _ _).symm, g5BN y a b _ _ _ _, fun _ _ => rfl⟩, ?_⟩
  refine StepO.run (l1 := [0, 4, 5, 6, 7, 8, 9, 10, 11, 12, 13]) (l2 := []) pg (KA_ok y) (k5BN y a b h e v) ⟨⟨⟨trivial, beq_self_eq_true h⟩, beq_self_eq_true e⟩, rfl, trivial⟩ (show 1 ≤ 4 by decide) (tm5e_dead (VE5_dead hv) lvE5) (h5N_ok y a b _ _) rfl (ok5BN x y a b _ _ _) ?_
  refine StepO.nil (.inl ⟨rfl, ?_⟩)
  refine ((StepG.ranV (s0 := z5 x a b) (rd := none) pg KN_ok (k5VN y a b h e _) trivial (show 1 ≤ 4 by decide)).at ρ0 W0).mono ?_
  rintro ex s ⟨rfl, h1, h2⟩
  exact ⟨rfl, h1, h2⟩
theorem call5ZN {x y : MX} {a b : OV} {h : Int} {e : Bool} {v : VF} {ρ0 : Nat → PB} {W0 : World} (hk : Keeps x.F y.F) (hA : capOk x a.P a.n) (hB : capOk x b.P b.n) (hr : rightE x b = true) (eh : lessH a b = h) (ee : (a.asn == b.asn) = e) (hl : accM x a b a.n = []) (hv : ∀ j, DeadV (v j)) : StepO Try.prog none (z5 x a b) ρ0 W0 p5 [3, 4, 5, 6, 7, 8, 9, 10, 11, 12, 13] (s5ZN y a b h e (.agg #[.int .u16 h, .bool e, .slice none 0 0]) v) fun ex s => (ex = .normal ∧ StepW Try.prog none (z5 x a b) ρ0 W0 v5 s Q5) ∨ (ex ≠ .normal ∧ Q5 ex s) := by
  have hacc : accR y a b a.n = accM x a b a.n := acc_eq hA hB hk hr a.n (Nat.le_refl _)
  refine StepO.call' (F := y.F) (g := 22) (vs := [a.v, b.v]) (f := .func 22) (args := #[.tmp 50, .tmp 51]) (dst := some 52) pg (by kernel_rfl) trivial rfl rfl fn22 rfl (g5ZN y a b _ _ _ _) rfl (meet22 (kp_capOk hk hA) (kp_capOk hk hB)) ?_
  rw [eh, ee]
  rintro F' v' hf (⟨hl2, rfl, rfl⟩ | ⟨hl2, _⟩)
  rotate_left
  · rw [hacc, hl] at hl2; exact absurd hl2 (Nat.lt_irrefl 0)
  refine ⟨s5YN y a b h e (.agg #[.int .u16 h, .bool e, .slice none 0 0]) (.agg #[.int .u16 h, .bool e, .slice none 0 0]) v, ⟨rfl, rfl, rfl, rfl, rfl, (set5Y a b _ _ _).symm, g5YN y a b _ _ _ _ _, fun _ _ => rfl⟩, ?_⟩
  refine StepO.run (l1 := [4, 5, 6, 7, 8, 9, 10, 11, 12, 13]) (l2 := []) pg (KA_ok y) (k5YN y a b h e v) ⟨⟨⟨trivial, beq_self_eq_true h⟩, beq_self_eq_true e⟩, rfl, trivial⟩ (show 1 ≤ 4 by decide) (tm5e_dead (VE5_dead hv) lvE5) (h5N_ok y a b _ _) rfl (ok5YN x y a b _ _ _) ?_
  refine StepO.nil (.inl ⟨rfl, ?_⟩)
  refine ((StepG.ranV (s0 := z5 x a b) (rd := none) pg KN_ok (k5VN y a b h e _) trivial (show 1 ≤ 4 by decide)).at ρ0 W0).mono ?_
  rintro ex s ⟨rfl, h1, h2⟩
  exact ⟨rfl, h1, h2⟩
theorem end5N {x y : MX} {a b : OV} {h : Int} {e : Bool} {v : VF} {ρ0 : Nat → PB} {W0 : World} (hk : Keeps x.F y.F) (hA : capOk x a.P a.n) (hB : capOk x b.P b.n) (hr : rightE x b = true) (eh : lessH a b = h) (ee : (a.asn == b.asn) = e) (hl : accM x a b a.n = []) (hv : ∀ j, DeadV (v j)) : StepW Try.prog none (z5 x a b) ρ0 W0 y5 (s5uN y a b h e 0 0 v) Q5 := by
  refine StepW.downs pg KN_ok (k5wN y a b h e v) trivial (tm5u_dead (VW5_dead hv) lvW5) (h5N_ok y a b _ _) rfl (ok5wN x y a b _ _ v) ?_
  rw [up5w, w5_eq]
  have hv2 := VW5_dead hv
  refine StepW.seq (StepW.regionD mixed all5 fun l hl' => ?_)
  simp only [List.mem_cons, List.not_mem_nil, or_false] at hl'
  rcases hl' with rfl | rfl | rfl | rfl | rfl | rfl | rfl | rfl
  · exact StepO.run (l1 := [0, 1, 2]) (l2 := [3, 4, 5, 6, 7, 8, 9, 10, 11, 12, 13]) pg KN_ok (k5ZN0 y a b h e _) trivial (show 1 ≤ 4 by decide) (tm5Z_dead (VZ5_dead hv2) lvZ5) (h5N_ok y a b _ _) rfl (ok5ZN0 x y a b _ _ _) (call5ZN hk hA hB hr eh ee hl (VZ5_dead hv2))
  · exact StepO.run (l1 := [0, 2, 1]) (l2 := [3, 4, 5, 6, 7, 8, 9, 10, 11, 12, 13]) pg KN_ok (k5ZN1 y a b h e _) trivial (show 1 ≤ 4 by decide) (tm5Z_dead (VZ5_dead hv2) lvZ5) (h5N_ok y a b _ _) rfl (ok5ZN1 x y a b _ _ _) (call5ZN hk hA hB hr eh ee hl (VZ5_dead hv2))
  · exact StepO.run (l1 := [1, 0, 2]) (l2 := [3, 4, 5, 6, 7, 8, 9, 10, 11, 12, 13]) pg KN_ok (k5ZN2 y a b h e _) trivial (show 1 ≤ 4 by decide) (tm5Z_dead (VZ5_dead hv2) lvZ5) (h5N_ok y a b _ _) rfl (ok5ZN2 x y a b _ _ _) (call5ZN hk hA hB hr eh ee hl (VZ5_dead hv2))
  · exact StepO.run (l1 := [1, 2, 0]) (l2 := [3, 4, 5, 6, 7, 8, 9, 10, 11, 12, 13]) pg KN_ok (k5ZN3 y a b h e _) trivial (show 1 ≤ 4 by decide) (tm5Z_dead (VZ5_dead hv2) lvZ5) (h5N_ok y a b _ _) rfl (ok5ZN3 x y a b _ _ _) (call5ZN hk hA hB hr eh ee hl (VZ5_dead hv2))
  · exact StepO.run (l1 := [1, 2]) (l2 := [3, 0, 4, 5, 6, 7, 8, 9, 10, 11, 12, 13]) pg KN_ok (k5AN0 y a b h e _) trivial (show 1 ≤ 4 by decide) (tm5A_dead (VA5_dead hv2) lvA5) (h5N_ok y a b _ _) rfl (ok5AN0 x y a b _ _ _) (call5AN hk hA hB hr eh ee hl (VA5_dead hv2))
  · exact StepO.run (l1 := [2, 0, 1]) (l2 := [3, 4, 5, 6, 7, 8, 9, 10, 11, 12, 13]) pg KN_ok (k5ZN4 y a b h e _) trivial (show 1 ≤ 4 by decide) (tm5Z_dead (VZ5_dead hv2) lvZ5) (h5N_ok y a b _ _) rfl (ok5ZN4 x y a b _ _ _) (call5ZN hk hA hB hr eh ee hl (VZ5_dead hv2))
  · exact StepO.run (l1 := [2, 1, 0]) (l2 := [3, 4, 5, 6, 7, 8, 9, 10, 11, 12, 13]) pg KN_ok (k5ZN5 y a b h e _) trivial (show 1 ≤ 4 by decide) (tm5Z_dead (VZ5_dead hv2) lvZ5) (h5N_ok y a b _ _) rfl (ok5ZN5 x y a b _ _ _) (call5ZN hk hA hB hr eh ee hl (VZ5_dead hv2))
  · exact StepO.run (l1 := [2, 1]) (l2 := [3, 0, 4, 5, 6, 7, 8, 9, 10, 11, 12, 13]) pg KN_ok (k5AN1 y a b h e _) trivial (show 1 ≤ 4 by decide) (tm5A_dead (VA5_dead hv2) lvA5) (h5N_ok y a b _ _) rfl (ok5AN1 x y a b _ _ _) (call5AN hk hA hB hr eh ee hl (VA5_dead hv2))
theorem g5AS (x : MX) (a b : OV) (h : Int) (e : Bool) (P m c : Nat) (v : VF) : (s5AS x a b h e P m c v).heap.get 0 = some (.fam x.F) := by kernel_rfl
theorem g5BS (x : MX) (a b : OV) (h : Int) (e : Bool) (P m c : Nat) (g : Value) (v : VF) : (s5BS x a b h e P m c g v).heap.get 0 = some (.fam x.F) := by kernel_rfl
theorem g5ZS (x : MX) (a b : OV) (h : Int) (e : Bool) (P m c : Nat) (g : Value) (v : VF) : (s5ZS x a b h e P m c g v).heap.get 0 = some (.fam x.F) := by kernel_rfl
theorem g5YS (x : MX) (a b : OV) (h : Int) (e : Bool) (P m c : Nat) (g u : Value) (v : VF) : (s5YS x a b h e P m c g u v).heap.get 0 = some (.fam x.F) := by kernel_rfl
theorem h5S_rest (x y : MX) (a b : OV) (h : Int) (e : Bool) (P m c : Nat) (j : Nat) (hj : j ≠ 0) : h5S y a b h e P m c j = h5S x a b h e P m c j := by
  rcases j with _ | _ | _ | _ | j
  · exact absurd rfl hj
  · rfl
  · rfl
  · rfl
  · rfl
theorem num5S {x y : MX} {a b : OV} {h : Int} {e : Bool} {P m c : Nat} {n : Int} {v : VF} {ρ0 : Nat → PB} {W0 : World} (hk : Keeps x.F y.F) (hA : capOk x a.P a.n) (hB : capOk x b.P b.n) (kA : okK5 x a) (kB : okK5 x b) (pA : 0 ≤ a.hold) (pB : 0 ≤ b.hold) (hn : errE x a b = n) (hv : ∀ j, DeadV (v j))
    (hq : ∀ v, (∀ j, DeadV (v j)) → StepW Try.prog none (z5 x a b) ρ0 W0 y5 (s5uS y a b h e P m c n n v) Q5) : StepW Try.prog none (z5 x a b) ρ0 W0 x5 (s5sS y a b h e P m c n v) Q5 := by
  refine StepW.downs pg (KT13_ok y) (k5tS y a b h e P m c n v) ⟨⟨trivial, rfl, kp_capOk hk hA, okK5_keeps hk hA kA⟩, rfl, kp_capOk hk hB, okK5_keeps hk hB kB⟩ (tm5t_dead (VT5_dead hv) lvT5) (h5S_ok y a b _ _ _ _ _) rfl (ok5tS x y a b _ _ _ _ _ _ _ _ v) ?_
  rw [up5t]
  have e1 := check_eq hA hk pA
  have e2 := check_eq hB hk pB
  obtain ⟨q1, q2⟩ := no_eq hn e1 e2
  have hv2 := VT5_dead hv
  cases h1 : (check13 y a == 0) with
  | true =>
    refine ((StepG.stdT (s0 := z5 x a b) (rd := none) pg KN_ok (k5uaS y a b h e P m c n _ _ _) ⟨trivial, h1⟩ (show 1 ≤ 4 by decide) (tm5u_dead (VUa5_dead hv2) lvUa5) (h5S_ok y a b _ _ _ _ _) rfl (ok5uaS x y a b _ _ _ _ _ _ (check13 y a) _ _)).at ρ0 W0).mono ?_
    rintro ex s ⟨rfl, rfl⟩
    refine .inl ⟨rfl, ?_⟩
    rw [q1 (.inl (by simpa using h1))]
    exact hq _ (VUa5_dead hv2)
  | false =>
  cases h2 : (check13 y b == 2) with
  | true =>
    refine ((StepG.stdT (s0 := z5 x a b) (rd := none) pg KN_ok (k5ubS y a b h e P m c n _ _ _) ⟨⟨trivial, h1⟩, h2⟩ (show 1 ≤ 4 by decide) (tm5u_dead (VUb5_dead hv2) lvUb5) (h5S_ok y a b _ _ _ _ _) rfl (ok5ubS x y a b _ _ _ _ _ _ (check13 y a) _ _)).at ρ0 W0).mono ?_
    rintro ex s ⟨rfl, rfl⟩
    refine .inl ⟨rfl, ?_⟩
    rw [q1 (.inr (by simpa using h2))]
    exact hq _ (VUb5_dead hv2)
  | false =>
    refine ((StepG.stdT (s0 := z5 x a b) (rd := none) pg KN_ok (k5ucS y a b h e P m c n _ _ _) ⟨⟨trivial, h1⟩, h2⟩ (show 1 ≤ 4 by decide) (tm5u_dead (VUc5_dead hv2) lvUc5) (h5S_ok y a b _ _ _ _ _) rfl (ok5ucS x y a b _ _ _ _ _ _ _ (check13 y b) _)).at ρ0 W0).mono ?_
    rintro ex s ⟨rfl, rfl⟩
    refine .inl ⟨rfl, ?_⟩
    rw [q2 (by simpa using h1) (by simpa using h2)]
    exact hq _ (VUc5_dead hv2)
theorem call5AS {x y : MX} {a b : OV} {h : Int} {e : Bool} {P m c : Nat} {v : VF} {ρ0 : Nat → PB} {W0 : World} (hk : Keeps x.F y.F) (hA : capOk x a.P a.n) (hB : capOk x b.P b.n) (hr : rightE x b = true) (eh : lessH a b = h) (ee : (a.asn == b.asn) = e) (hl : 0 < (accM x a b a.n).length) (hm : m = (accM x a b a.n).length) (hP : y.D P = accM x a b a.n) (hv : ∀ j, DeadV (v j)) : StepO Try.prog none (z5 x a b) ρ0 W0 p5 [3, 0, 4, 5, 6, 7, 8, 9, 10, 11, 12, 13] (s5AS y a b h e P m c v) fun ex s => (ex = .normal ∧ StepW Try.prog none (z5 x a b) ρ0 W0 v5 s Q5) ∨ (ex ≠ .normal ∧ Q5 ex s) := by
  have hacc : accR y a b a.n = accM x a b a.n := acc_eq hA hB hk hr a.n (Nat.le_refl _)
  refine StepO.call' (F := y.F) (g := 22) (vs := [a.v, b.v]) (f := .func 22) (args := #[.tmp 50, .tmp 51]) (dst := some 52) pg (by kernel_rfl) trivial rfl rfl fn22 rfl (g5AS y a b _ _ _ _ _ _) rfl (meet22 (kp_capOk hk hA) (kp_capOk hk hB)) ?_
  rw [eh, ee]
  rintro F' v' hf (⟨hl2, _⟩ | ⟨hl2, z, P2, c2, rfl, rfl, hk2, hP2⟩)
  · rw [hacc] at hl2; rw [hl2] at hl; exact absurd hl (Nat.lt_irrefl 0)
  rw [hacc] at hP2 ⊢
  rw [← hm]
  have hzP : z.D P = accM x a b a.n := by rw [kp_byt hk2 (by rw [hP]; exact hl)]; exact hP
  refine ⟨s5BS z a b h e P m c (.agg #[.int .u16 h, .bool e, PB_ P2 m c2]) v, ⟨rfl, rfl, rfl, rfl, rfl, (set5B a b _ _).symm, g5BS z a b _ _ _ _ _ _ _, fun j hj => getr (by decide) (h5S_rest y z a b _ _ _ _ _) j hj⟩, ?_⟩
  refine StepO.run (l1 := [0, 4, 5, 6, 7, 8, 9, 10, 11, 12, 13]) (l2 := []) pg (KA_ok z) (k5BS z a b h e P m c P2 c2 v) ⟨⟨⟨⟨⟨⟨trivial, beq_self_eq_true h⟩, beq_self_eq_true e⟩, .inr (by rw [hzP, hm]; omega)⟩, .inr (by rw [hP2, hm]; omega)⟩, by rw [hzP, hP2]; exact strQ_self _⟩, rfl, trivial⟩ (show 1 ≤ 4 by decide) (tm5e_dead (VE5_dead hv) lvE5) (h5S_ok z a b _ _ _ _ _) rfl (ok5BS x z a b _ _ _ _ _ 0 0 _) ?_
  refine StepO.nil (.inl ⟨rfl, ?_⟩)
  refine ((StepG.ranV (s0 := z5 x a b) (rd := none) pg KN_ok (k5VS z a b h e P m c _) trivial (show 1 ≤ 4 by decide)).at ρ0 W0).mono ?_
  rintro ex s ⟨rfl, h1, h2⟩
  exact ⟨rfl, h1, h2⟩
theorem call5ZS {x y : MX} {a b : OV} {h : Int} {e : Bool} {P m c : Nat} {v : VF} {ρ0 : Nat → PB} {W0 : World} (hk : Keeps x.F y.F) (hA : capOk x a.P a.n) (hB : capOk x b.P b.n) (hr : rightE x b = true) (eh : lessH a b = h) (ee : (a.asn == b.asn) = e) (hl : 0 < (accM x a b a.n).length) (hm : m = (accM x a b a.n).length) (hP : y.D P = accM x a b a.n) (hv : ∀ j, DeadV (v j)) : StepO Try.prog none (z5 x a b) ρ0 W0 p5 [3, 4, 5, 6, 7, 8, 9, 10, 11, 12, 13] (s5ZS y a b h e P m c (.agg #[.int .u16 h, .bool e, PB_ P m c]) v) fun ex s => (ex = .normal ∧ StepW Try.prog none (z5 x a b) ρ0 W0 v5 s Q5) ∨ (ex ≠ .normal ∧ Q5 ex s) := by
  have hacc : accR y a b a.n = accM x a b a.n := acc_eq hA hB hk hr a.n (Nat.le_refl _)
  refine StepO.call' (F := y.F) (g := 22) (vs := [a.v, b.v]) (f := .func 22) (args := #[.tmp 50, .tmp 51]) (dst := some 52) pg (by kernel_rfl) trivial rfl rfl fn22 rfl (g5ZS y a b _ _ _ _ _ _ _) rfl (meet22 (kp_capOk hk hA) (kp_capOk hk hB)) ?_
  rw [eh, ee]
  rintro F' v' hf (⟨hl2, _⟩ | ⟨hl2, z, P2, c2, rfl, rfl, hk2, hP2⟩)
  · rw [hacc] at hl2; rw [hl2] at hl; exact absurd hl (Nat.lt_irrefl 0)
  rw [hacc] at hP2 ⊢
  rw [← hm]
  have hzP : z.D P = accM x a b a.n := by rw [kp_byt hk2 (by rw [hP]; exact hl)]; exact hP
  refine ⟨s5YS z a b h e P m c (.agg #[.int .u16 h, .bool e, PB_ P m c]) (.agg #[.int .u16 h, .bool e, PB_ P2 m c2]) v, ⟨rfl, rfl, rfl, rfl, rfl, (set5Y a b _ _ _).symm, g5YS z a b _ _ _ _ _ _ _ _, fun j hj => getr (by decide) (h5S_rest y z a b _ _ _ _ _) j hj⟩, ?_⟩
  refine StepO.run (l1 := [4, 5, 6, 7, 8, 9, 10, 11, 12, 13]) (l2 := []) pg (KA_ok z) (k5YS z a b h e P m c P2 c2 v) ⟨⟨⟨⟨⟨⟨trivial, beq_self_eq_true h⟩, beq_self_eq_true e⟩, .inr (by rw [hzP, hm]; omega)⟩, .inr (by rw [hP2, hm]; omega)⟩, by rw [hzP, hP2]; exact strQ_self _⟩, rfl, trivial⟩ (show 1 ≤ 4 by decide) (tm5e_dead (VE5_dead hv) lvE5) (h5S_ok z a b _ _ _ _ _) rfl (ok5YS x z a b _ _ _ _ _ 0 0 _) ?_
  refine StepO.nil (.inl ⟨rfl, ?_⟩)
  refine ((StepG.ranV (s0 := z5 x a b) (rd := none) pg KN_ok (k5VS z a b h e P m c _) trivial (show 1 ≤ 4 by decide)).at ρ0 W0).mono ?_
  rintro ex s ⟨rfl, h1, h2⟩
  exact ⟨rfl, h1, h2⟩
theorem end5S {x y : MX} {a b : OV} {h : Int} {e : Bool} {P m c : Nat} {v : VF} {ρ0 : Nat → PB} {W0 : World} (hk : Keeps x.F y.F) (hA : capOk x a.P a.n) (hB : capOk x b.P b.n) (hr : rightE x b = true) (eh : lessH a b = h) (ee : (a.asn == b.asn) = e) (hl : 0 < (accM x a b a.n).length) (hm : m = (accM x a b a.n).length) (hP : y.D P = accM x a b a.n) (hv : ∀ j, DeadV (v j)) : StepW Try.prog none (z5 x a b) ρ0 W0 y5 (s5uS y a b h e P m c 0 0 v) Q5 := by
  refine StepW.downs pg KN_ok (k5wS y a b h e P m c v) trivial (tm5u_dead (VW5_dead hv) lvW5) (h5S_ok y a b _ _ _ _ _) rfl (ok5wS x y a b _ _ _ _ _ v) ?_
  rw [up5w, w5_eq]
  have hv2 := VW5_dead hv
  refine StepW.seq (StepW.regionD mixed all5 fun l hl' => ?_)
  simp only [List.mem_cons, List.not_mem_nil, or_false] at hl'
  rcases hl' with rfl | rfl | rfl | rfl | rfl | rfl | rfl | rfl
  · exact StepO.run (l1 := [0, 1, 2]) (l2 := [3, 4, 5, 6, 7, 8, 9, 10, 11, 12, 13]) pg KN_ok (k5ZS0 y a b h e P m c _) trivial (show 1 ≤ 4 by decide) (tm5Z_dead (VZ5_dead hv2) lvZ5) (h5S_ok y a b _ _ _ _ _) rfl (ok5ZS0 x y a b _ _ _ _ _ _) (call5ZS hk hA hB hr eh ee hl hm hP (VZ5_dead hv2))
  · exact StepO.run (l1 := [0, 2, 1]) (l2 := [3, 4, 5, 6, 7, 8, 9, 10, 11, 12, 13]) pg KN_ok (k5ZS1 y a b h e P m c _) trivial (show 1 ≤ 4 by decide) (tm5Z_dead (VZ5_dead hv2) lvZ5) (h5S_ok y a b _ _ _ _ _) rfl (ok5ZS1 x y a b _ _ _ _ _ _) (call5ZS hk hA hB hr eh ee hl hm hP (VZ5_dead hv2))
  · exact StepO.run (l1 := [1, 0, 2]) (l2 := [3, 4, 5, 6, 7, 8, 9, 10, 11, 12, 13]) pg KN_ok (k5ZS2 y a b h e P m c _) trivial (show 1 ≤ 4 by decide) (tm5Z_dead (VZ5_dead hv2) lvZ5) (h5S_ok y a b _ _ _ _ _) rfl (ok5ZS2 x y a b _ _ _ _ _ _) (call5ZS hk hA hB hr eh ee hl hm hP (VZ5_dead hv2))
  · exact StepO.run (l1 := [1, 2, 0]) (l2 := [3, 4, 5, 6, 7, 8, 9, 10, 11, 12, 13]) pg KN_ok (k5ZS3 y a b h e P m c _) trivial (show 1 ≤ 4 by decide) (tm5Z_dead (VZ5_dead hv2) lvZ5) (h5S_ok y a b _ _ _ _ _) rfl (ok5ZS3 x y a b _ _ _ _ _ _) (call5ZS hk hA hB hr eh ee hl hm hP (VZ5_dead hv2))
  · exact StepO.run (l1 := [1, 2]) (l2 := [3, 0, 4, 5, 6, 7, 8, 9, 10, 11, 12, 13]) pg KN_ok (k5AS0 y a b h e P m c _) trivial (show 1 ≤ 4 by decide) (tm5A_dead (VA5_dead hv2) lvA5) (h5S_ok y a b _ _ _ _ _) rfl (ok5AS0 x y a b _ _ _ _ _ _) (call5AS hk hA hB hr eh ee hl hm hP (VA5_dead hv2))
  · exact StepO.run (l1 := [2, 0, 1]) (l2 := [3, 4, 5, 6, 7, 8, 9, 10, 11, 12, 13]) pg KN_ok (k5ZS4 y a b h e P m c _) trivial (show 1 ≤ 4 by decide) (tm5Z_dead (VZ5_dead hv2) lvZ5) (h5S_ok y a b _ _ _ _ _) rfl (ok5ZS4 x y a b _ _ _ _ _ _) (call5ZS hk hA hB hr eh ee hl hm hP (VZ5_dead hv2))
  · exact StepO.run (l1 := [2, 1, 0]) (l2 := [3, 4, 5, 6, 7, 8, 9, 10, 11, 12, 13]) pg KN_ok (k5ZS5 y a b h e P m c _) trivial (show 1 ≤ 4 by decide) (tm5Z_dead (VZ5_dead hv2) lvZ5) (h5S_ok y a b _ _ _ _ _) rfl (ok5ZS5 x y a b _ _ _ _ _ _) (call5ZS hk hA hB hr eh ee hl hm hP (VZ5_dead hv2))
  · exact StepO.run (l1 := [2, 1]) (l2 := [3, 0, 4, 5, 6, 7, 8, 9, 10, 11, 12, 13]) pg KN_ok (k5AS1 y a b h e P m c _) trivial (show 1 ≤ 4 by decide) (tm5A_dead (VA5_dead hv2) lvA5) (h5S_ok y a b _ _ _ _ _) rfl (ok5AS1 x y a b _ _ _ _ _ _) (call5AS hk hA hB hr eh ee hl hm hP (VA5_dead hv2))
theorem rd5 {x : MX} {a b : OV} (ha : a.n ≤ x.CN a.P ∧ a.n ≤ 9223372036854775807 ∧ ∀ i, i < a.n → x.CM a.P i ≤ (x.D (x.CQ a.P i)).length) (hb : b.n ≤ x.CN b.P ∧ b.n ≤ 9223372036854775807 ∧ ∀ i, i < b.n → x.CM b.P i ≤ (x.D (x.CQ b.P i)).length) (kA : okK5 x a) (kB : okK5 x b) (pA : 0 ≤ a.hold) (pB : 0 ≤ b.hold) : Rd Try.prog x.F 5 [a.v, b.v] (.bool true) := by
  have A1 : as6 x a := ⟨rfl, ha.1, ha.2.1⟩
  have B1 : as6 x b := ⟨rfl, hb.1, hb.2.1⟩
  cases f1 : fewE x a with
  | false => exact Rd.run pg (KA_ok x) (k5o0 x a b) ⟨⟨⟨trivial, A1⟩, by rw [f1]; rfl⟩, rfl, trivial⟩ rfl
  | true =>
  cases f2 : fewE x b with
  | false => exact Rd.run pg (KA_ok x) (k5o1 x a b) ⟨⟨⟨⟨⟨trivial, A1⟩, by rw [f1]; rfl⟩, B1⟩, by rw [f2]; rfl⟩, rfl, trivial⟩ rfl
  | true =>
  have hA := few_ok f1 ha.1 ha.2.2
  have hB := few_ok f2 hb.1 hb.2.2
  cases hf : Try.prog.funcs[5]? with
  | none => have := fn5; rw [hf] at this; cases this
  | some fn =>
  have hfn := fn5
  rw [hf] at hfn
  simp only [Option.map_some, Option.some.injEq, Prod.mk.injEq] at hfn
  obtain ⟨h1, h2, h3⟩ := hfn
  refine Rd.ofG hf h1 h2 rfl ?_
  rw [h3]
  show StepG Try.prog none (z5 x a b) b5 (z5 x a b) Q5
  refine StepW.all fun ρ0 W0 _ => ?_
  refine StepW.downs pg (KA_ok x) (k5d x a b) ⟨⟨⟨⟨trivial, A1⟩, by rw [f1]; rfl⟩, B1⟩, by rw [f2]; rfl⟩ (tm5p_dead (VP5_dead vU_dead) lvP5) (h6a_ok x a b) rfl (ok5d x x a b vU) ?_
  rw [up5d, e5_eq]
  have hv := VP5_dead vU_dead
  refine StepW.seq (StepW.region ?_)
  rw [o5_eq]
  refine StepO.run pg KN_ok (k5q x a b _) trivial (show 1 ≤ 3 by decide) (tm5q_dead (VN5_dead hv) lvN5) (h6a_ok x a b) rfl (ok5q x x a b _) ?_
  have hv2 := VN5_dead hv
  refine StepO.call' (F := x.F) (g := 20) (vs := [a.v, b.v]) (f := .func 20) (args := #[.tmp 19, .tmp 20]) (dst := some 21) pg (by kernel_rfl) trivial rfl rfl fn20 rfl (g5q0 x a b _) rfl (meet20 hA hB) ?_
  rintro F' v hf' ⟨u, rfl, hE, hO⟩
  by_cases h0 : errE x a b = 0
  · rcases hO h0 with ⟨hl, rfl, rfl⟩ | ⟨hl, y, P, c, rfl, rfl, hk, hP⟩
    · refine ⟨s5r x a b (.tuple #[.agg #[.int .u16 (lessH a b), .bool (a.asn == b.asn), .slice none 0 0], .int .i64 (errE x a b)]) (VN5 (VP5 vU)), ⟨rfl, rfl, rfl, rfl, rfl, (set5r a b _ _).symm, g5r0 x a b _ _, fun _ _ => rfl⟩, ?_⟩
      refine StepO.run pg KN_ok (k5sN x a b _ _ _ _) trivial (show 1 ≤ 3 by decide) (tm5s_dead (VS5_dead hv2) lvS5) (h5N_ok x a b _ _) rfl (ok5sN x x a b _ _ _ _) ?_
      refine StepO.nil (.inl ⟨rfl, ?_⟩)
      refine num5N (Keeps.refl _) hA hB kA kB pA pB rfl (VS5_dead hv2) fun v hv => ?_
      rw [h0]
      exact end5N (Keeps.refl _) hA hB (right_of (ok0 h0)) rfl rfl hl hv
    · refine ⟨s5r y a b (.tuple #[.agg #[.int .u16 (lessH a b), .bool (a.asn == b.asn), PB_ P (accM x a b a.n).length c], .int .i64 (errE x a b)]) (VN5 (VP5 vU)), ⟨rfl, rfl, rfl, rfl, rfl, (set5r a b _ _).symm, g5r0 y a b _ _, fun j hj => getr (by decide) (h6a_rest x y a b) j hj⟩, ?_⟩
      refine StepO.run pg KN_ok (k5sS y a b _ _ P _ c _ _) trivial (show 1 ≤ 3 by decide) (tm5s_dead (VS5_dead hv2) lvS5) (h5S_ok y a b _ _ _ _ _) rfl (ok5sS x y a b _ _ _ _ _ _ _) ?_
      refine StepO.nil (.inl ⟨rfl, ?_⟩)
      refine num5S hk hA hB kA kB pA pB rfl (VS5_dead hv2) fun v hv => ?_
      rw [h0]
      exact end5S hk hA hB (right_of (ok0 h0)) rfl rfl hl rfl hP hv
  · rcases hE h0 with ⟨_, rfl, rfl⟩ | ⟨hl, _⟩
    rotate_left
    · exact absurd hl (Nat.lt_irrefl 0)
    refine ⟨s5r x a b (.tuple #[.agg #[.int .u16 0, .bool false, .slice none 0 0], .int .i64 (errE x a b)]) (VN5 (VP5 vU)), ⟨rfl, rfl, rfl, rfl, rfl, (set5r a b _ _).symm, g5r0 x a b _ _, fun _ _ => rfl⟩, ?_⟩
    refine StepO.run pg KN_ok (k5sN x a b _ _ _ _) trivial (show 1 ≤ 3 by decide) (tm5s_dead (VS5_dead hv2) lvS5) (h5N_ok x a b _ _) rfl (ok5sN x x a b _ _ _ _) ?_
    refine StepO.nil (.inl ⟨rfl, ?_⟩)
    refine num5N (Keeps.refl _) hA hB kA kB pA pB rfl (VS5_dead hv2) fun v hv => ?_
    have h23 : errE x a b = 2 ∨ errE x a b = 3 := by
      unfold errE at h0 ⊢
      rcases check15_val x a with h1 | h1 | h1 <;> rcases check15_val x b with k | k | k <;> rw [h1, k] at h0 ⊢ <;> first | exact .inl rfl | exact .inr rfl | exact absurd rfl h0
    rcases h23 with h | h
    · rw [h]
      refine ((StepG.ranV (s0 := z5 x a b) (rd := none) pg (KA_ok x) (k5E2 x a b v) ⟨trivial, rfl, trivial⟩ (show 1 ≤ 4 by decide)).at ρ0 W0).mono ?_
      rintro ex s ⟨rfl, h1, h2⟩
      exact ⟨rfl, h1, h2⟩
    · rw [h]
      refine ((StepG.ranV (s0 := z5 x a b) (rd := none) pg (KA_ok x) (k5E3 x a b v) ⟨trivial, rfl, trivial⟩ (show 1 ≤ 4 by decide)).at ρ0 W0).mono ?_
      rintro ex s ⟨rfl, h1, h2⟩
      exact ⟨rfl, h1, h2⟩
end
end ob
end Go.Proofs.Ytpfmilkddapfiaa
namespace Go.Proofs.Ytpfmilkddapfiaa
open Go.ChangeShapes Go.WideShapes Go.ChangeAt Go.RowKit Go.Cln
namespace ob
set_option linter.unusedVariables false
noncomputable section
theorem rangeK {B : Nat} {W : World} {s h i : Int} {v : Value} (t : FCv W 8 (.list shCap) v) : okK5 (xW B W) (oW s h i v) := fun j hj => by
  have := (FCv.cell (n := 7) t hj (j := 0) (q := .int .u8) rfl (w := 2) rfl).num.2
  exact this
theorem rangeH {W : World} {n : Nat} {h : Int} (t : FCv W n (.int .u16) (.int .u16 h)) : 0 ≤ h := t.num.2.1
theorem lawM {B : Nat} (hB : maxLen ≤ B) {W : World} {s1 h1 i1 s2 h2 i2 : Int} {v1 v2 : Value}
    (z0 : ∀ (j : Nat) (q : FC), OPEN[j]? = some q → ∃ u : Value, ([.int .u32 s1, .int .u16 h1, .int .u32 i1, v1] : List Value)[j]? = some u ∧ FCv W 8 q u)
    (z1 : ∀ (j : Nat) (q : FC), OPEN[j]? = some q → ∃ u : Value, ([.int .u32 s2, .int .u16 h2, .int .u32 i2, v2] : List Value)[j]? = some u ∧ FCv W 8 q u) :
    Calls Try.prog 5 #[.agg #[.int .u32 s1, .int .u16 h1, .int .u32 i1, v1], .agg #[.int .u32 s2, .int .u16 h2, .int .u32 i2, v2]] W fun e w' => e = .returned (.bool true) ∧ Go.RowKit.Below W.heap.size W w' := by
  obtain ⟨u1, e1, t1⟩ := z0 3 _ rfl
  cases e1
  obtain ⟨u2, e2, t2⟩ := z1 3 _ rfl
  cases e2
  obtain ⟨u3, e3, t3⟩ := z0 1 _ rfl
  cases e3
  obtain ⟨u4, e4, t4⟩ := z1 1 _ rfl
  cases e4
  have hs := (famX B W).hs []
  exact rd5 (rawW (s := s1) (h := h1) (i := i1) hB t1) (rawW (s := s2) (h := h2) (i := i2) hB t2) (rangeK t1) (rangeK t2) (rangeH t3) (rangeH t4) (fun _ => ⟨0, 0, 0⟩) W [.agg #[.int .u32 s1, .int .u16 h1, .int .u32 i1, v1], .agg #[.int .u32 s2, .int .u16 h2, .int .u32 i2, v2]] hs (Go.Cln.VL.cons (vrO t1) (Go.Cln.VL.cons (vrO t2) Go.Cln.VL.nil))
theorem lawMW {W : World} {s1 h1 i1 s2 h2 i2 : Int} {v1 v2 : Value}
    (z0 : ∀ (j : Nat) (q : FC), OPEN[j]? = some q → ∃ u : Value, ([.int .u32 s1, .int .u16 h1, .int .u32 i1, v1] : List Value)[j]? = some u ∧ FCv W 8 q u)
    (z1 : ∀ (j : Nat) (q : FC), OPEN[j]? = some q → ∃ u : Value, ([.int .u32 s2, .int .u16 h2, .int .u32 i2, v2] : List Value)[j]? = some u ∧ FCv W 8 q u) :
    Calls Try.prog 5 #[.agg #[.int .u32 s1, .int .u16 h1, .int .u32 i1, v1], .agg #[.int .u32 s2, .int .u16 h2, .int .u32 i2, v2]] W fun e w' => e = .returned (.bool true) ∧ Go.RowKit.Below W.heap.size W w' :=
  lawM (Nat.le_refl _) z0 z1
end
end ob
end Go.Proofs.Ytpfmilkddapfiaa
