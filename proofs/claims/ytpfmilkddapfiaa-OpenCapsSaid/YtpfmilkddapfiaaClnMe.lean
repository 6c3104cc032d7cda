/- Read off the code by the clean reading. -/
import Derived.Test.YtpfmilkddapfiaaClnMd
import Derived.Test.YtpfmilkddapfiaaClnQd
set_option linter.unusedVariables false
set_option linter.unusedSimpArgs false
set_option linter.deprecated false
set_option maxRecDepth 100000
namespace Go.Proofs.Ytpfmilkddapfiaa
open Go.ChangeShapes Go.WideShapes Go.ChangeAt Go.RowKit Go.Cln
namespace ob
set_option linter.unusedVariables false
noncomputable section
theorem runLoopW {P : Program} {rd : Option Nat} {s0 : St} {ρ0 : Nat → PB} {w0 : World} {c : Code} {id N : Nat} {I : Nat → St → Prop} {J : St → Prop}
    (h : ∀ i s, i < N → I i s → StepW P rd s0 ρ0 w0 c s fun e s' => e = .normal ∧ I (i + 1) s') (hx : ∀ s, I N s → StepW P rd s0 ρ0 w0 c s fun e s' => e = .exit id ∧ J s') {s : St} (h0 : I 0 s) : StepW P rd s0 ρ0 w0 (.loop c) s fun e s' => e = .exit id ∧ J s' := by
  refine StepW.loop (fun q s => ∃ i, q = N - i ∧ i ≤ N ∧ I i s) ?_ N s ⟨0, by omega, Nat.zero_le _, h0⟩
  rintro q s ⟨i, rfl, hi, hI⟩
  by_cases e : i = N
  · subst e
    refine (hx s hI).mono ?_
    rintro e s' ⟨rfl, hj⟩
    exact .inr ⟨(by intro h; cases h), rfl, hj⟩
  · refine (h i s (by omega) hI).mono ?_
    rintro e s' ⟨rfl, hj⟩
    exact .inl ⟨rfl, N - (i + 1), by omega, i + 1, rfl, by omega, hj⟩
structure Got (y : MX) (a b d : OV) : Prop where
  hA : capOk y a.P a.n
  hB : capOk y b.P b.n
  hD : capOk y d.P d.n
  n : d.n = a.n
  al : Alike y d.P a.P a.n
  e1 : openE y d a = true
  e2 : openE y a d = true
def Q6 : Exit → St → Prop := fun e s' => leaves? e = true ∧ s'.defers = [] ∧ ResV Try.prog [.tmp 6] (.bool true) s'
theorem pE_of {x : MX} {a b d : OV} (g : Got x a b d) : pE x a b d := ⟨⟨⟨⟨⟨⟨⟨⟨⟨⟨⟨⟨⟨⟨⟨⟨⟨⟨⟨trivial, ⟨rfl, g.hD, g.hA⟩⟩, g.e1⟩, g.e1⟩, g.e1⟩, g.e1⟩, g.e1⟩, ⟨rfl, g.hA, g.hB⟩⟩, g.e1⟩, ⟨rfl, g.hA, g.hB⟩⟩, g.e1⟩, g.e1⟩, (by simp)⟩, (by simp)⟩, (by simp)⟩, ⟨rfl, g.hA, g.hD⟩⟩, (by simp)⟩, g.e2⟩, ⟨rfl, trivial⟩⟩, g.e2⟩
theorem pR_of {y : MX} {a b d : OV} {w : Int} {i : Nat} {b' : Bool} (g : Got y a b d) (hi : i < a.n) (hb : (y.CK a.P i == w) = b') : pRN y a w i b' := by
  obtain ⟨p1, p2, _⟩ := g.hA
  exact ⟨⟨⟨⟨⟨trivial, decide_eq_true (by unfold nI; omega)⟩, by unfold nI; omega⟩, by omega⟩, by rw [ix2_eq]; exact hb⟩, by rw [IntKind.wrap_i64]; unfold nI; omega⟩
theorem endN {x y : MX} {a b d : OV} {w : Int} {j : Nat} {v : VF} {ρ0 : Nat → PB} {W0 : World} (g : Got y a b d) : StepW Try.prog none (z6l x a b w) ρ0 W0 x11 (sEN y a b d w j v) Q6 := by
  refine ((StepG.ranV (s0 := z6l x a b w) (rd := none) pg (KE_ok y) (kEN y a b d w j v) (pE_of g) (show 1 ≤ 4 by decide)).at ρ0 W0).mono ?_
  rintro e s ⟨rfl, h1, h2⟩
  exact ⟨rfl, h1, h2⟩
theorem midN {x y : MX} {a b d : OV} {w : Int} {i : Nat} {v : VF} {ρ0 : Nat → PB} {W0 : World} (g : Got y a b d) (hv : ∀ j, DeadV (v j)) : StepW Try.prog none (z6l x a b w) ρ0 W0 x9 (sDN y a b d w i v) Q6 := by
  refine StepW.downs pg KN_ok (kPN y a b d w i v) trivial (tmEN_dead (d := d) (VEN_dead hv) lvEN) (h6c_ok y a b d) rfl (okPN x y a b d w i v) ?_
  rw [upPN]
  refine (runLoopW (id := 2) (N := 0) (I := fun j s => ∃ v', (∀ j, DeadV (v' j)) ∧ s = sEN y a b d w 0 v') (J := fun s => ∃ v', s = sEN y a b d w 0 v') (fun i s hi => absurd hi (Nat.not_lt_zero i)) ?_ ⟨VEN v, VEN_dead hv, rfl⟩).mono ?_
  · rintro s ⟨v', hv, rfl⟩
    refine ((StepG.stdT (s0 := z6l x a b w) (rd := none) pg KN_ok (kHN y a b d w v') trivial (show 1 ≤ 4 by decide) (tmEN_dead (d := d) (VHN_dead hv) lvHN) (h6c_ok y a b d) rfl (okHN x y a b d w v')).at ρ0 W0).mono ?_
    rintro e s ⟨rfl, rfl⟩
    exact ⟨rfl, VHN v', rfl⟩
  · rintro e s ⟨rfl, v', rfl⟩
    exact .inl ⟨rfl, endN g⟩
theorem restN {x y : MX} {a b d : OV} {w : Int} {ρ0 : Nat → PB} {W0 : World} (g : Got y a b d) (hw : whereI (isntC y w d.P) d.n = -1) (hne : ∀ j, j < a.n → ¬ y.CK a.P j = w) : StepW Try.prog none (z6l x a b w) ρ0 W0 x6 (q6c y a b d (w3 a b w)) Q6 := by
  refine StepW.downs pg (KC1_ok y (-1)) (kDN y a b d w) ⟨trivial, rfl, g.hD, hw⟩ (tmDN_dead (d := d) (VDN_dead vU_dead) lvDN) (h6c_ok y a b d) rfl (okDN x y a b d w) ?_
  rw [upDN]
  refine (runLoopW (id := 0) (N := a.n) (I := fun i s => ∃ v, (∀ j, DeadV (v j)) ∧ s = sDN y a b d w i v) (J := fun s => ∃ v, (∀ j, DeadV (v j)) ∧ s = sDN y a b d w a.n v) ?_ ?_ ⟨VDN vU, VDN_dead vU_dead, rfl⟩).mono ?_
  · rintro i s hi ⟨v, hv, rfl⟩
    refine ((StepG.stdT (s0 := z6l x a b w) (rd := none) pg KN_ok (kRN y a b d w i v) (pR_of g hi (by simpa using hne i hi)) (show 1 ≤ 4 by decide) (tmDN_dead (d := d) (VRN_dead hv) lvRN) (h6c_ok y a b d) rfl (okRN x y a b d w (i + 1) v)).at ρ0 W0).mono ?_
    rintro e s ⟨rfl, rfl⟩
    exact ⟨rfl, VRN v, VRN_dead hv, rfl⟩
  · rintro s ⟨v, hv, rfl⟩
    refine ((StepG.stdT (s0 := z6l x a b w) (rd := none) pg KN_ok (kXN y a b d w a.n v) ⟨trivial, decide_eq_false (by omega)⟩ (show 1 ≤ 4 by decide) (tmDN_dead (d := d) (VXN_dead hv) lvXN) (h6c_ok y a b d) rfl (okXN x y a b d w a.n v)).at ρ0 W0).mono ?_
    rintro e s ⟨rfl, rfl⟩
    exact ⟨rfl, VXN v, VXN_dead hv, rfl⟩
  · rintro e s ⟨rfl, v, hv, rfl⟩
    exact .inl ⟨rfl, midN g hv⟩
theorem endZ {x y : MX} {a b d : OV} {w : Int} {k : Nat} {j : Nat} {v : VF} {ρ0 : Nat → PB} {W0 : World} (g : Got y a b d) : StepW Try.prog none (z6l x a b w) ρ0 W0 x11 (sEZ y a b d w k j v) Q6 := by
  refine ((StepG.ranV (s0 := z6l x a b w) (rd := none) pg (KE_ok y) (kEZ y a b d w k j v) (pE_of g) (show 1 ≤ 4 by decide)).at ρ0 W0).mono ?_
  rintro e s ⟨rfl, h1, h2⟩
  exact ⟨rfl, h1, h2⟩
theorem midZ {x y : MX} {a b d : OV} {w : Int} {k : Nat} {v : VF} {ρ0 : Nat → PB} {W0 : World} (g : Got y a b d) (hv : ∀ j, DeadV (v j)) (hp : pPZ y a k 0 []) : StepW Try.prog none (z6l x a b w) ρ0 W0 x9 (sFZ y a b d w k v) Q6 := by
  refine StepW.downs pg KN_ok (kPZ y a b d w k v) hp (tmEZ_dead (k := k) (d := d) (VEZ_dead hv) lvEZ) (h6c_ok y a b d) rfl (okPZ x y a b d w k v) ?_
  rw [upPZ]
  refine (runLoopW (id := 2) (N := 0) (I := fun j s => ∃ v', (∀ j, DeadV (v' j)) ∧ s = sEZ y a b d w k 0 v') (J := fun s => ∃ v', s = sEZ y a b d w k 0 v') (fun i s hi => absurd hi (Nat.not_lt_zero i)) ?_ ⟨VEZ v, VEZ_dead hv, rfl⟩).mono ?_
  · rintro s ⟨v', hv, rfl⟩
    refine ((StepG.stdT (s0 := z6l x a b w) (rd := none) pg KN_ok (kHZ y a b d w k v') trivial (show 1 ≤ 4 by decide) (tmEZ_dead (k := k) (d := d) (VHZ_dead hv) lvHZ) (h6c_ok y a b d) rfl (okHZ x y a b d w k v')).at ρ0 W0).mono ?_
    rintro e s ⟨rfl, rfl⟩
    exact ⟨rfl, VHZ v', rfl⟩
  · rintro e s ⟨rfl, v', rfl⟩
    exact .inl ⟨rfl, endZ g⟩
theorem loopZ {x y : MX} {a b d : OV} {w : Int} {k : Nat} {v0 : VF} {ρ0 : Nat → PB} {W0 : World} (g : Got y a b d) (hv0 : ∀ j, DeadV (v0 j)) (hk : k < a.n) (hkw : y.CK a.P k = w) (hne : ∀ j, j < k → ¬ y.CK a.P j = w) (hp : pPZ y a k 0 []) : StepW Try.prog none (z6l x a b w) ρ0 W0 (.loop m6) (sDZ y a b d w k 0 v0) fun e s => (fun e s => (e = .normal ∧ StepW Try.prog none (z6l x a b w) ρ0 W0 x9 s Q6) ∨ (e ≠ .normal ∧ Q6 e s)) (blockOut 0 e) s := by
  refine (runLoopW (id := 0) (N := k + 1) (I := fun i s => (i ≤ k ∧ ∃ v, (∀ j, DeadV (v j)) ∧ s = sDZ y a b d w k i v) ∨ (i = k + 1 ∧ ∃ v, (∀ j, DeadV (v j)) ∧ s = sFZ y a b d w k v)) (J := fun s => ∃ v, (∀ j, DeadV (v j)) ∧ s = sFZ y a b d w k v) ?_ ?_ (.inl ⟨Nat.zero_le _, v0, hv0, rfl⟩)).mono ?_
  · rintro i s hi (⟨h1, v, hv, rfl⟩ | ⟨h1, _⟩)
    · by_cases e : i = k
      · subst e
        refine ((StepG.stdT (s0 := z6l x a b w) (rd := none) pg KN_ok (kMZ y a b d w i v) (pR_of g hk (by rw [hkw]; simp)) (show 1 ≤ 4 by decide) (tmFZ_dead (d := d) (VMZ_dead hv) lvMZ) (h6c_ok y a b d) rfl (okMZ x y a b d w i v)).at ρ0 W0).mono ?_
        rintro e s ⟨rfl, rfl⟩
        exact ⟨rfl, .inr ⟨rfl, VMZ v, VMZ_dead hv, rfl⟩⟩
      · refine ((StepG.stdT (s0 := z6l x a b w) (rd := none) pg KN_ok (kRZ y a b d w k i v) (pR_of g (by omega) (by simpa using hne i (by omega))) (show 1 ≤ 4 by decide) (tmDZ_dead (k := k) (d := d) (VRZ_dead hv) lvRZ) (h6c_ok y a b d) rfl (okRZ x y a b d w k (i + 1) v)).at ρ0 W0).mono ?_
        rintro e s ⟨rfl, rfl⟩
        exact ⟨rfl, .inl ⟨by omega, VRZ v, VRZ_dead hv, rfl⟩⟩
    · omega
  · rintro s (⟨h1, _⟩ | ⟨_, v, hv, rfl⟩)
    · omega
    · by_cases e : k + 1 < a.n
      · refine ((StepG.stdT (s0 := z6l x a b w) (rd := none) pg KN_ok (kYZ y a b d w k v) ⟨trivial, decide_eq_true (by unfold nI; omega)⟩ (show 1 ≤ 4 by decide) (tmFZ_dead (d := d) (VYZ_dead hv) lvYZ) (h6c_ok y a b d) rfl (okYZ x y a b d w k v)).at ρ0 W0).mono ?_
        rintro e s ⟨rfl, rfl⟩
        exact ⟨rfl, VYZ v, VYZ_dead hv, rfl⟩
      · refine ((StepG.stdT (s0 := z6l x a b w) (rd := none) pg KN_ok (kQZ y a b d w k v) ⟨trivial, decide_eq_false (by unfold nI; omega)⟩ (show 1 ≤ 4 by decide) (tmFZ_dead (d := d) (VQZ_dead hv) lvQZ) (h6c_ok y a b d) rfl (okQZ x y a b d w k v)).at ρ0 W0).mono ?_
        rintro e s ⟨rfl, rfl⟩
        exact ⟨rfl, VQZ v, VQZ_dead hv, rfl⟩
  · rintro e s ⟨rfl, v, hv, rfl⟩
    exact .inl ⟨rfl, midZ g hv hp⟩
theorem endS {x y : MX} {a b d : OV} {w : Int} {k m : Nat} {M : List Int} {j : Nat} {v : VF} {ρ0 : Nat → PB} {W0 : World} (g : Got y a b d) : StepW Try.prog none (z6l x a b w) ρ0 W0 x11 (sES y a b d w k m M j v) Q6 := by
  refine ((StepG.ranV (s0 := z6l x a b w) (rd := none) pg (KE_ok y) (kES y a b d w k m M j v) (pE_of g) (show 1 ≤ 5 by decide)).at ρ0 W0).mono ?_
  rintro e s ⟨rfl, h1, h2⟩
  exact ⟨rfl, h1, h2⟩
theorem midS {x y : MX} {a b d : OV} {w : Int} {k m : Nat} {M : List Int} {v : VF} {ρ0 : Nat → PB} {W0 : World} (g : Got y a b d) (hv : ∀ j, DeadV (v j)) (hp : pPS y a k m M) (hm : m = M.length ∧ m ≤ 1000000000) : StepW Try.prog none (z6l x a b w) ρ0 W0 x9 (sFS y a b d w k m M v) Q6 := by
  refine StepW.downs pg KN_ok (kPS y a b d w k m M v) hp (tmES_dead (k := k) (M := M) (d := d) (VES_dead hv) lvES) (h6s_ok y a b d M) rfl (okPS x y a b d w k m M v) ?_
  rw [upPS]
  refine (runLoopW (id := 2) (N := m) (I := fun j s => ∃ M' v', M'.length = m ∧ (∀ j, DeadV (v' j)) ∧ s = sES y a b d w k m M' j v') (J := fun s => ∃ M' v', s = sES y a b d w k m M' m v') ?_ ?_ ⟨M, VES v, hm.1.symm, VES_dead hv, rfl⟩).mono ?_
  · rintro j s hj ⟨M', v', hl, hv, rfl⟩
    have h9 := hm.2
    refine ((StepG.stdT (s0 := z6l x a b w) (rd := none) pg KN_ok (kGS y a b d w k m M' j v') ?_ (show 1 ≤ 5 by decide) (tmES_dead (d := d) (k := k) (M := M') (VGS_dead hv) lvGS) (h6s_ok y a b d (stp M' j)) rfl (okGS x y a b d w k m (stp M' j) (j + 1) v')).at ρ0 W0).mono ?_
    · have e1 : (nI j).toNat = j := by unfold nI; simp
      exact ⟨⟨⟨⟨⟨⟨trivial, decide_eq_true (by unfold nI; omega)⟩, by unfold nI; omega⟩, by rw [e1]; omega⟩, by unfold nI; omega⟩, by rw [e1]; omega⟩, by rw [IntKind.wrap_i64]; unfold nI; omega⟩
    · rintro e s ⟨rfl, rfl⟩
      exact ⟨rfl, stp M' j, VGS v', by unfold stp; rw [List.length_set]; exact hl, VGS_dead hv, rfl⟩
  · rintro s ⟨M', v', hl, hv, rfl⟩
    refine ((StepG.stdT (s0 := z6l x a b w) (rd := none) pg KN_ok (kHS y a b d w k m M' m v') ⟨trivial, decide_eq_false (by omega)⟩ (show 1 ≤ 5 by decide) (tmES_dead (d := d) (k := k) (M := M') (VHS_dead hv) lvHS) (h6s_ok y a b d M') rfl (okHS x y a b d w k m M' m v')).at ρ0 W0).mono ?_
    rintro e s ⟨rfl, rfl⟩
    exact ⟨rfl, M', VHS v', rfl⟩
  · rintro e s ⟨rfl, M', v', rfl⟩
    exact .inl ⟨rfl, endS g⟩
theorem loopS {x y : MX} {a b d : OV} {w : Int} {k m : Nat} {M : List Int} {v0 : VF} {ρ0 : Nat → PB} {W0 : World} (g : Got y a b d) (hv0 : ∀ j, DeadV (v0 j)) (hk : k < a.n) (hkw : y.CK a.P k = w) (hne : ∀ j, j < k → ¬ y.CK a.P j = w) (hp : pPS y a k m M) (hm : m = M.length ∧ m ≤ 1000000000) : StepW Try.prog none (z6l x a b w) ρ0 W0 (.loop m6) (sDS y a b d w k m M 0 v0) fun e s => (fun e s => (e = .normal ∧ StepW Try.prog none (z6l x a b w) ρ0 W0 x9 s Q6) ∨ (e ≠ .normal ∧ Q6 e s)) (blockOut 0 e) s := by
  refine (runLoopW (id := 0) (N := k + 1) (I := fun i s => (i ≤ k ∧ ∃ v, (∀ j, DeadV (v j)) ∧ s = sDS y a b d w k m M i v) ∨ (i = k + 1 ∧ ∃ v, (∀ j, DeadV (v j)) ∧ s = sFS y a b d w k m M v)) (J := fun s => ∃ v, (∀ j, DeadV (v j)) ∧ s = sFS y a b d w k m M v) ?_ ?_ (.inl ⟨Nat.zero_le _, v0, hv0, rfl⟩)).mono ?_
  · rintro i s hi (⟨h1, v, hv, rfl⟩ | ⟨h1, _⟩)
    · by_cases e : i = k
      · subst e
        refine ((StepG.stdT (s0 := z6l x a b w) (rd := none) pg KN_ok (kMS y a b d w i m M v) (pR_of g hk (by rw [hkw]; simp)) (show 1 ≤ 5 by decide) (tmFS_dead (M := M) (d := d) (VMS_dead hv) lvMS) (h6s_ok y a b d M) rfl (okMS x y a b d w i m M v)).at ρ0 W0).mono ?_
        rintro e s ⟨rfl, rfl⟩
        exact ⟨rfl, .inr ⟨rfl, VMS v, VMS_dead hv, rfl⟩⟩
      · refine ((StepG.stdT (s0 := z6l x a b w) (rd := none) pg KN_ok (kRS y a b d w k m M i v) (pR_of g (by omega) (by simpa using hne i (by omega))) (show 1 ≤ 5 by decide) (tmDS_dead (k := k) (M := M) (d := d) (VRS_dead hv) lvRS) (h6s_ok y a b d M) rfl (okRS x y a b d w k m M (i + 1) v)).at ρ0 W0).mono ?_
        rintro e s ⟨rfl, rfl⟩
        exact ⟨rfl, .inl ⟨by omega, VRS v, VRS_dead hv, rfl⟩⟩
    · omega
  · rintro s (⟨h1, _⟩ | ⟨_, v, hv, rfl⟩)
    · omega
    · by_cases e : k + 1 < a.n
      · refine ((StepG.stdT (s0 := z6l x a b w) (rd := none) pg KN_ok (kYS y a b d w k m M v) ⟨trivial, decide_eq_true (by unfold nI; omega)⟩ (show 1 ≤ 5 by decide) (tmFS_dead (M := M) (d := d) (VYS_dead hv) lvYS) (h6s_ok y a b d M) rfl (okYS x y a b d w k m M v)).at ρ0 W0).mono ?_
        rintro e s ⟨rfl, rfl⟩
        exact ⟨rfl, VYS v, VYS_dead hv, rfl⟩
      · refine ((StepG.stdT (s0 := z6l x a b w) (rd := none) pg KN_ok (kQS y a b d w k m M v) ⟨trivial, decide_eq_false (by unfold nI; omega)⟩ (show 1 ≤ 5 by decide) (tmFS_dead (M := M) (d := d) (VQS_dead hv) lvQS) (h6s_ok y a b d M) rfl (okQS x y a b d w k m M v)).at ρ0 W0).mono ?_
        rintro e s ⟨rfl, rfl⟩
        exact ⟨rfl, VQS v, VQS_dead hv, rfl⟩
  · rintro e s ⟨rfl, v, hv, rfl⟩
    exact .inl ⟨rfl, midS g hv hp hm⟩
theorem strQ_self (l : List Int) : strQ l l = true := beqB_self _
theorem restZ {x y : MX} {a b d : OV} {w : Int} {k : Nat} {ρ0 : Nat → PB} {W0 : World} (g : Got y a b d) (hk : k < a.n) (hw : whereI (isntC y w d.P) d.n = nI k) (hkw : y.CK a.P k = w) (hne : ∀ j, j < k → ¬ y.CK a.P j = w) (hm : y.CM d.P k = 0) : StepW Try.prog none (z6l x a b w) ρ0 W0 x6 (q6c y a b d (w3 a b w)) Q6 := by
  obtain ⟨p1, p2, p3⟩ := g.hA
  have hm2 : y.CM a.P k = 0 := by rw [← g.al.m k hk]; exact hm
  rw [x6_eq]
  refine StepW.seq ?_
  rw [r4_eq]
  refine StepW.region ?_
  rw [o4_eq]
  refine StepO.run pg KN_ok (k4a y a b d w) trivial (show 1 ≤ 4 by decide) (deadT_at _) (h6c_ok y a b d) rfl (ok4a x y a b d w) ?_
  refine StepO.call' (F := y.F) (g := 23) (vs := [d.v, .int .u8 w]) (f := .func 23) (args := #[.tmp 25, .tmp 26]) (dst := some 27) pg (by kernel_rfl) trivial rfl rfl fn23 rfl (gq6c y a b d _) rfl (cap0 g.hD (by rw [g.n]; exact hk) hw hm) ?_
  rintro F' v hf ⟨rfl, rfl⟩
  refine ⟨(q6c y a b d (w3a a b d w)).set (some 27) (.tuple #[PB_ 0 0 0, .bool true]), ⟨rfl, rfl, rfl, rfl, rfl, rfl, gq6c y a b d _, fun _ _ => rfl⟩, ?_⟩
  refine StepO.run pg KN_ok (k4b y a b d w) trivial (show 1 ≤ 4 by decide) (deadT_at _) (h6c_ok y a b d) rfl (ok4b x y a b d w) ?_
  refine StepO.nil (.inl ⟨rfl, ?_⟩)
  refine StepW.downs pg KN_ok (kDZ y a b d w k) trivial (tmDZ_dead (d := d) (k := k) (VDZ_dead vU_dead) lvDZ) (h6c_ok y a b d) rfl (okDZ x y a b d w k) ?_
  rw [upDZ]
  refine loopZ g (VDZ_dead vU_dead) hk hkw hne ?_
  have e0 : (!strQ (((y.D 0).drop 0).take 0) (rowK y a.P k)) = false := by
    unfold rowK
    rw [ix3_eq, hm2, List.take_zero, List.take_zero, strQ_self]; rfl
  exact ⟨⟨⟨⟨⟨⟨⟨⟨⟨trivial, .inl rfl⟩, by unfold nI; omega⟩, by omega⟩, .inl (by rw [ix3_eq]; exact hm2)⟩, e0⟩, e0⟩, e0⟩, e0⟩, e0⟩
theorem restS {x y : MX} {a b d : OV} {w : Int} {k : Nat} {ρ0 : Nat → PB} {W0 : World} (g : Got y a b d) (hk : k < a.n) (hw : whereI (isntC y w d.P) d.n = nI k) (hkw : y.CK a.P k = w) (hne : ∀ j, j < k → ¬ y.CK a.P j = w) (hm : 0 < y.CM d.P k) : StepW Try.prog none (z6l x a b w) ρ0 W0 x6 (q6c y a b d (w3 a b w)) Q6 := by
  obtain ⟨p1, p2, p3⟩ := g.hA
  obtain ⟨q1, q2, q3⟩ := g.hD
  have hkd : k < d.n := by rw [g.n]; exact hk
  obtain ⟨b1, b2⟩ := q3 k hkd
  obtain ⟨c1, c2⟩ := p3 k hk
  have em := g.al.m k hk
  have ee := g.al.eq k hk
  have e3 := ix3_eq k
  refine StepW.downs pg (KC1_ok y (nI k)) (kDS y a b d w k) ?_ (tmDS_dead (d := d) (k := k) (M := rowK y d.P k) (VDS_dead vU_dead) lvDS) (h6s_ok y a b d _) rfl (okDS x y a b d w k) ?_
  · refine ⟨⟨⟨⟨⟨⟨trivial, rfl, ⟨q1, q2, q3⟩, hw⟩, by unfold nI; omega⟩, by omega⟩, ?_⟩, ?_⟩, ?_⟩
    · rw [e3]; exact .inl hm
    · rw [e3]; exact decide_eq_false (by omega)
    · rw [e3]; unfold mostBytes; exact ⟨.inr (by omega), Nat.le_refl _, by omega, by omega⟩
  rw [upDS]
  have hl : (rowK y d.P k).length = 0 + y.CM d.P (ix3 k) := by
    unfold rowK; rw [e3, List.drop_zero, List.length_take]; omega
  have er : (rowK y d.P k).drop 0 = rowK y a.P k := by
    unfold rowK; rw [e3, List.drop_zero, List.drop_zero, List.drop_zero]; exact ee
  have e0 : (!strQ (((rowK y d.P k).drop 0).take (0 + y.CM d.P (ix3 k))) (rowK y a.P k)) = false := by
    rw [List.take_of_length_le (by rw [List.drop_zero, hl]; exact Nat.le_refl _), er, strQ_self]; rfl
  refine loopS g (VDS_dead vU_dead) hk hkw hne ?_ ⟨hl.symm, by rw [e3]; omega⟩
  exact ⟨⟨⟨⟨⟨⟨⟨⟨⟨trivial, by rw [hl]; omega⟩, by unfold nI; omega⟩, by omega⟩, by rw [e3]; exact .inr (by omega)⟩, e0⟩, e0⟩, e0⟩, e0⟩, e0⟩
theorem rd6 {x : MX} {a b : OV} {w : Int} (ha : a.n ≤ x.CN a.P ∧ a.n ≤ 9223372036854775807 ∧ ∀ i, i < a.n → x.CM a.P i ≤ (x.D (x.CQ a.P i)).length) (hb : b.n ≤ x.CN b.P ∧ b.n ≤ 9223372036854775807 ∧ ∀ i, i < b.n → x.CM b.P i ≤ (x.D (x.CQ b.P i)).length) : Rd Try.prog x.F 6 [a.v, b.v, .int .u8 w] (.bool true) := by
  have A1 : as6 x a := ⟨rfl, ha.1, ha.2.1⟩
  have B1 : as6 x b := ⟨rfl, hb.1, hb.2.1⟩
  cases f1 : fewE x a with
  | false => exact Rd.run pg (KA_ok x) (k6o0 x a b w) ⟨⟨⟨trivial, A1⟩, by rw [f1]; rfl⟩, rfl, trivial⟩ rfl
  | true =>
  cases f2 : fewE x b with
  | false => exact Rd.run pg (KA_ok x) (k6o1 x a b w) ⟨⟨⟨⟨⟨trivial, A1⟩, by rw [f1]; rfl⟩, B1⟩, by rw [f2]; rfl⟩, rfl, trivial⟩ rfl
  | true =>
  have hA := few_ok f1 ha.1 ha.2.2
  have hB := few_ok f2 hb.1 hb.2.2
  cases hf : Try.prog.funcs[6]? with
  | none => have := fn6; rw [hf] at this; cases this
  | some fn =>
  have hfn := fn6
  rw [hf] at hfn
  simp only [Option.map_some, Option.some.injEq, Prod.mk.injEq] at hfn
  obtain ⟨h1, h2, h3⟩ := hfn
  refine Rd.ofG hf h1 h2 rfl ?_
  rw [h3]
  show StepG Try.prog none (z6l x a b w) b6 (z6l x a b w) Q6
  refine StepW.all fun ρ0 W0 _ => ?_
  refine StepW.downs pg (KA_ok x) (k6d x a b w) ⟨⟨⟨⟨trivial, A1⟩, by rw [f1]; rfl⟩, B1⟩, by rw [f2]; rfl⟩ (deadT_at _) (h6a_ok x a b) rfl (ok6d x a b w) ?_
  rw [up6d, e6_eq]
  refine StepW.seq (StepW.region ?_)
  rw [o6_eq]
  refine StepO.run pg KN_ok (k6r0 x a b w) trivial (show 1 ≤ 3 by decide) (deadT_at _) (h6a_ok x a b) rfl (ok6r0 x a b w) ?_
  refine StepO.call' (F := x.F) (g := 11) (vs := [a.v]) (f := .func 11) (args := #[.tmp 22]) (dst := some 23) pg (by kernel_rfl) trivial rfl rfl fn11 rfl (gq6a x a b _) rfl (lent11 hA) ?_
  rintro F' v hf ⟨y, P, c, rfl, rfl, hk, hs⟩
  refine ⟨q6a y a b (w2 a b ⟨a.asn, a.hold, a.id, P, a.n, c⟩ w), ⟨rfl, rfl, rfl, rfl, rfl, (set6 x a b ⟨a.asn, a.hold, a.id, P, a.n, c⟩ w).symm, gq6a y a b _, fun j hj => ?_⟩, ?_⟩
  · unfold q6a
    show (Tr.rebuild _ _).get j = (Tr.rebuild _ _).get j
    rw [Tr.get_rebuild _ _ _ (by decide), Tr.get_rebuild _ _ _ (by decide)]
    split
    · rcases j with _ | _ | _ | j
      · exact absurd rfl hj
      · rfl
      · rfl
      · rfl
    · rfl
  refine StepO.run pg KN_ok (k6r1 y a b ⟨a.asn, a.hold, a.id, P, a.n, c⟩ w) trivial (show 1 ≤ 3 by decide) (deadT_at _) (h6c_ok y a b _) rfl (ok6r1 x y a b _ w) ?_
  refine StepO.nil (.inl ⟨rfl, ?_⟩)
  have al : Alike y P a.P a.n := hs.alike hk hA
  have ⟨e1, e2⟩ := openE_of (y := y) (a := a) (d := ⟨a.asn, a.hold, a.id, P, a.n, c⟩) rfl rfl rfl rfl al
  have g : Got y a b ⟨a.asn, a.hold, a.id, P, a.n, c⟩ := ⟨kp_capOk hk hA, kp_capOk hk hB, hs.capOk hA, rfl, al, e1, e2⟩
  rcases whereI_alike (w := w) al with hw | ⟨k, hkn, hw, hkw, hne⟩
  · exact restN g hw (where_not al hw)
  · rcases Nat.eq_zero_or_pos (y.CM P k) with h0 | h0
    · exact restZ g hkn hw hkw hne h0
    · exact restS g hkn hw hkw hne h0
end
end ob
end Go.Proofs.Ytpfmilkddapfiaa
namespace Go.Proofs.Ytpfmilkddapfiaa
open Go.ChangeShapes Go.WideShapes Go.ChangeAt Go.RowKit Go.Cln
namespace ob
set_option linter.unusedVariables false
noncomputable section
def shCap : List FC := [.int .u8, .list [.int .u8]]
def OPEN : List FC := [.int .u32, .int .u16, .int .u32, .list shCap]
noncomputable def xW (B : Nat) (W : World) : MX where
  D := worldK .u8 W
  CN P := lead (okRows W shCap P) B
  CK P i := iV (cW W P (i * 2 + 0))
  CQ P i := rowQ (cW W P (i * 2 + 1))
  CM P i := rowM (cW W P (i * 2 + 1))
  CC P i := rowC (cW W P (i * 2 + 1))
theorem famX (B : Nat) (W : World) : FamOk W (xW B W).F := by
  intro g P i v hv
  unfold MX.F at hv
  split at hv
  · exact famInts (k := .u8) hv
  · refine famRows (sh := shCap) (sg := 1000) (w := 2) (n := B) (g := (xW B W).cap P) rfl rfl (fun i j v h => ?_) hv
    rcases j with _ | _ | j
    · cases h; exact ⟨_, rfl, rfl⟩
    · cases h; exact ⟨_, rfl, rfl⟩
    · cases h
def oW (s h i : Int) (v : Value) : OV := ⟨s, h, i, rowQ v, rowM v, rowC v⟩
theorem rawW {B : Nat} (hB : maxLen ≤ B) {W : World} {s h i : Int} {v : Value} (t : FCv W 8 (.list shCap) v) : (oW s h i v).n ≤ (xW B W).CN (oW s h i v).P ∧ (oW s h i v).n ≤ 9223372036854775807 ∧ ∀ j, j < (oW s h i v).n → (xW B W).CM (oW s h i v).P j ≤ ((xW B W).D ((xW B W).CQ (oW s h i v).P j)).length := by
  refine ⟨lenRows (n := 7) hB t, ?_, fun j hj => ?_⟩
  · have hl := t.le
    have : maxLen = 9223372036854775807 := rfl
    unfold oW
    show rowM v ≤ _
    rw [← this]; exact hl
  · exact FCv.nums (n := 5) (FCv.cell (n := 7) t hj (j := 1) (q := .list [.int .u8]) rfl (w := 2) rfl)
theorem vrO {B : Nat} {W : World} {s h i : Int} {v : Value} {ρ : Nat → PB} (t : FCv W 8 (.list shCap) v) : VR (Dm (smSt 1 [some (.fam (xW B W).F)] [])) ρ (oW s h i v).v (.agg #[.int .u32 s, .int .u16 h, .int .u32 i, v]) := by
  have d0 := fam_dm (F := (xW B W).F) (orc := [])
  refine .agg rfl fun j u w hu hw => ?_
  have hu : (oW s h i v).l[j]? = some u := hu
  have hw : ([.int .u32 s, .int .u16 h, .int .u32 i, v] : List Value)[j]? = some w := hw
  rcases j with _ | _ | _ | _ | j
  · cases hu; cases hw; exact .same rfl
  · cases hu; cases hw; exact .same rfl
  · cases hu; cases hw; exact .same rfl
  · cases hu; cases hw; exact .abs d0 rfl (FCv.abs (n := 8) t)
  · cases hu
theorem lawB {B : Nat} (hB : maxLen ≤ B) {W : World} {s1 h1 i1 s2 h2 i2 k : Int} {v1 v2 : Value}
    (z0 : ∀ (j : Nat) (q : FC), OPEN[j]? = some q → ∃ u : Value, ([.int .u32 s1, .int .u16 h1, .int .u32 i1, v1] : List Value)[j]? = some u ∧ FCv W 8 q u)
    (z1 : ∀ (j : Nat) (q : FC), OPEN[j]? = some q → ∃ u : Value, ([.int .u32 s2, .int .u16 h2, .int .u32 i2, v2] : List Value)[j]? = some u ∧ FCv W 8 q u) :
    Calls Try.prog 6 #[.agg #[.int .u32 s1, .int .u16 h1, .int .u32 i1, v1], .agg #[.int .u32 s2, .int .u16 h2, .int .u32 i2, v2], .int .u8 k] W fun e w' => e = .returned (.bool true) ∧ Go.RowKit.Below W.heap.size W w' := by
  obtain ⟨u1, e1, t1⟩ := z0 3 _ rfl
  cases e1
  obtain ⟨u2, e2, t2⟩ := z1 3 _ rfl
  cases e2
  have hs := (famX B W).hs []
  exact rd6 (w := k) (rawW (s := s1) (h := h1) (i := i1) hB t1) (rawW (s := s2) (h := h2) (i := i2) hB t2) (fun _ => ⟨0, 0, 0⟩) W [.agg #[.int .u32 s1, .int .u16 h1, .int .u32 i1, v1], .agg #[.int .u32 s2, .int .u16 h2, .int .u32 i2, v2], .int .u8 k] hs (Go.Cln.VL.cons (vrO t1) (Go.Cln.VL.cons (vrO t2) (Go.Cln.VL.cons (.of_flat rfl) Go.Cln.VL.nil)))
theorem lawW {W : World} {s1 h1 i1 s2 h2 i2 k : Int} {v1 v2 : Value}
    (z0 : ∀ (j : Nat) (q : FC), OPEN[j]? = some q → ∃ u : Value, ([.int .u32 s1, .int .u16 h1, .int .u32 i1, v1] : List Value)[j]? = some u ∧ FCv W 8 q u)
    (z1 : ∀ (j : Nat) (q : FC), OPEN[j]? = some q → ∃ u : Value, ([.int .u32 s2, .int .u16 h2, .int .u32 i2, v2] : List Value)[j]? = some u ∧ FCv W 8 q u) :
    Calls Try.prog 6 #[.agg #[.int .u32 s1, .int .u16 h1, .int .u32 i1, v1], .agg #[.int .u32 s2, .int .u16 h2, .int .u32 i2, v2], .int .u8 k] W fun e w' => e = .returned (.bool true) ∧ Go.RowKit.Below W.heap.size W w' :=
  lawB (Nat.le_refl _) z0 z1
end
end ob
end Go.Proofs.Ytpfmilkddapfiaa
