/- Read off the code by the clean reading. -/
import Derived.Test.YtkcngffpnnlmeaaClnEl
import Derived.Test.YtkcngffpnnlmeaaClnEn
set_option linter.unusedVariables false
set_option linter.unusedSimpArgs false
set_option linter.deprecated false
set_option maxRecDepth 100000
namespace Go.Proofs.Ytkcngffpnnlmeaa
open Go.ChangeShapes Go.WideShapes Go.ChangeAt Go.RowKit Go.Cln
namespace ae
set_option linter.unusedVariables false
noncomputable section
def Z16 : LV := R16 fun _ => 0
def kRw (K : List Int) : LV := R16 (keyOf K)
def eL (T : CT) (K : List Int) : LV := R16 (T.mkb (R176 (T.ks (kRw K))) Z16)
def eR (T : CT) (K : List Int) : LV := R16 (T.rm K Z16)
def p10 (T : CT) (K : List Int) : Prop := ((((True ∧ 0 + 16 ≤ K.length) ∧ (T = CT0 ∧ T.bs (kRw K))) ∧ T = CT0) ∧ (T = CT0 ∧ T.bs (eL T K))) ∧ (T = CT0 ∧ T.bs (R16 (T.db (eL T K))))
def p12 (T : CT) (K : List Int) : Prop := ((True ∧ (T = CT0 ∧ T.bk K)) ∧ T = CT0) ∧ T = CT0
def hKn (n : Nat) (K : List Int) : List (Option Ob) := hK K ++ List.replicate n none
theorem runB10 (T : CT) (K : List Int) (c : Nat) : ((mk Try.prog (KCm T) 200).call 10 [.slice (some ⟨0, 0, none⟩) 16 c] (smSt 1 (hK K) [none, none, some true])).map (fun r => (r.1, r.2.obl, r.2.next, keepL (true :: List.replicate 93 false) r.2.heap.get 0)) = some (.tuple #[row16 (T.db (eL T K)), row16 (T.db (R16 (T.db (eL T K)))), .int .i64 0], p10 T K, (hKn 93 K).length, hKn 93 K) := by kernel_rfl
theorem runB12 (T : CT) (K : List Int) (c : Nat) : ((mk Try.prog (KCm T) 200).call 12 [.slice (some ⟨0, 0, none⟩) 16 c] (smSt 1 (hK K) [])).map (fun r => (r.1, r.2.obl, r.2.next, keepL (true :: List.replicate 73 false) r.2.heap.get 0)) = some (.tuple #[row16 (T.db (R16 (T.rm ((K.drop 0).take 16) Z16))), row16 (T.db (R16 (T.db (R16 (T.rm ((K.drop 0).take 16) Z16)))))], p12 T ((K.drop 0).take 16), (hKn 73 K).length, hKn 73 K) := by kernel_rfl
end
end ae
end Go.Proofs.Ytkcngffpnnlmeaa
namespace Go.Proofs.Ytkcngffpnnlmeaa
open Go.ChangeShapes Go.WideShapes Go.ChangeAt Go.RowKit Go.Cln
namespace ae
set_option linter.unusedVariables false
noncomputable section
theorem subF_congr {B : List Int} {s s' : Nat → Int} (h : ∀ j, j < 16 → s j = s' j) {j : Nat} (hj : j < 16) : subF B s j = subF B s' j := by unfold subF; rw [h j hj]
theorem shi_congr {s s' : Nat → Int} (h : ∀ j, j < 16 → s j = s' j) (j : Nat) : shiF s j = shiF s' j := by unfold shiF; rw [h _ (by omega)]
theorem mix_congr {s s' : Nat → Int} (h : ∀ j, j < 16 → s j = s' j) {j : Nat} (hj : j < 16) : mixF s j = mixF s' j := by
  unfold mixF
  rw [h j hj, h _ (by omega), h _ (by omega), h _ (by omega), h _ (by omega), h _ (by omega)]
theorem stF_congr {B : List Int} {ks ks' b b' : Nat → Int} (hk : ∀ j, j < 176 → ks j = ks' j) (hb : ∀ j, j < 16 → b j = b' j) : ∀ n, n ≤ 9 → ∀ j, j < 16 → stF B ks b n j = stF B ks' b' n j
  | 0, _, j, hj => by
    show xr8 (b j) (ks (16 * 0 + j)) = xr8 (b' j) (ks' (16 * 0 + j))
    rw [hb j hj, hk _ (by omega)]
  | n + 1, hn, j, hj => by
    show xr8 (mixF (shiF (subF B (stF B ks b n))) j) (ks (16 * (n + 1) + j)) = xr8 (mixF (shiF (subF B (stF B ks' b' n))) j) (ks' (16 * (n + 1) + j))
    rw [hk _ (by omega), mix_congr (fun j _ => shi_congr (fun j hj => subF_congr (stF_congr hk hb n (by omega)) hj) j) hj]
theorem mkF_congr {B : List Int} {ks ks' b b' : Nat → Int} (hk : ∀ j, j < 176 → ks j = ks' j) (hb : ∀ j, j < 16 → b j = b' j) : ∀ j, j < 16 → mkF B ks b j = mkF B ks' b' j := fun j hj => by
  show xr8 (shiF (subF B (stF B ks b 9)) j) (ks (16 * 10 + j)) = xr8 (shiF (subF B (stF B ks' b' 9)) j) (ks' (16 * 10 + j))
  rw [hk _ (by omega), shi_congr (fun j hj => subF_congr (stF_congr hk hb 9 (by omega)) hj) j]
theorem at176 {f : Nat → Int} {j : Nat} (h : j < 176) : intAt (R176 f) j = f j := intAt_row h
theorem kr_congr {B : List Int} {k k' : Nat → Int} (h : ∀ j, j < 16 → k j = k' j) : ∀ n, ∀ j, j < 16 → kr B k n j = kr B k' n j
  | 0, j, hj => h j hj
  | n + 1, j, hj => by
    have ih := kr_congr (B := B) h n
    have hc : ∀ c r, c < 4 → r < 4 → col B (pw n) (kr B k n) c r = col B (pw n) (kr B k' n) c r := by
      intro c
      induction c with
      | zero =>
        intro r _ hr
        show X8 (kc B (pw n) (kr B k n) r) (kr B k n r) = X8 (kc B (pw n) (kr B k' n) r) (kr B k' n r)
        have hx : ∀ j, j < 16 → bx B (kr B k n) j = bx B (kr B k' n) j := fun j hj => by unfold bx; rw [ih j hj]
        have hk : kc B (pw n) (kr B k n) r = kc B (pw n) (kr B k' n) r := by
          unfold kc
          split
          · rw [hx 13 (by decide)]
          · exact hx 14 (by decide)
          · exact hx 15 (by decide)
          · exact hx 12 (by decide)
        rw [hk, ih r (by omega)]
      | succ c ihc =>
        intro r hc hr
        show X8 (col B (pw n) (kr B k n) c r) (kr B k n (4 * (c + 1) + r)) = X8 (col B (pw n) (kr B k' n) c r) (kr B k' n (4 * (c + 1) + r))
        rw [ihc r (by omega) hr, ih _ (by omega)]
    exact hc _ _ (by omega) (by omega)
theorem ksF_congr {B : List Int} {k k' : Nat → Int} (h : ∀ j, j < 16 → k j = k' j) (j : Nat) : ksF B k j = ksF B k' j := kr_congr h _ _ (by omega)
/-- a block, made with a key -/
def enc (K : List Int) (x : Nat → Int) : Nat → Int := mkF BOX (ksF BOX (keyOf K)) x
def fst (K : List Int) : Nat → Int := dF (enc K fun _ => 0)
def snd (K : List Int) : Nat → Int := dF (fst K)
theorem rT_congr {b b' : Nat → Int} (h : ∀ j, j < 16 → b j = b' j) {j : Nat} (hj : j < 16) : dF b j = dF b' j := by
  unfold dF rT rF rD
  rw [h 0 (by decide), h j hj]
  split
  · split
    · rw [h (j + 1) (by omega)]
    · rfl
  · split
    · rw [h (j + 1) (by omega)]
    · rfl
theorem db_at (f : Nat → Int) : R16 (dF (intAt (R16 f))) = R16 (dF f) := R16_congr fun j hj => rT_congr (fun j hj => at16 hj) hj
theorem eL_eq (K : List Int) : eL CT0 K = R16 (enc K fun _ => 0) := by
  show R16 (mkF BOX (intAt (R176 (ksF BOX (intAt (R16 (keyOf K)))))) (intAt (R16 fun _ => 0))) = _
  refine R16_congr fun j hj => ?_
  refine mkF_congr (fun j hj => ?_) (fun j hj => at16 hj) j hj
  rw [at176 hj, ksF_congr (fun j hj => at16 hj)]
theorem rm_at (K : List Int) (x : Nat → Int) : R16 (CT0.rm K (R16 x)) = R16 (enc K x) := by
  show R16 (mkF BOX (ksF BOX (keyOf K)) (intAt (R16 x))) = _
  exact R16_congr fun j hj => mkF_congr (fun _ _ => rfl) (fun j hj => at16 hj) j hj
theorem row_of {f g : Nat → Int} (h : R16 f = R16 g) : row16 f = row16 g := congrArg (fun l : LV => Value.agg l.toArray) h
theorem enc_in (K : List Int) (x : Nat → Int) : B16 (enc K x) := mkF_in _ _ _
theorem bs_at {f : Nat → Int} (h : B16 f) : CT0.bs (R16 f) := fun j hj => by rw [at16 hj]; exact h j hj
def OkK (K : List Int) : Prop := K.length = 16 ∧ B16 (keyOf K)
theorem take16 {K : List Int} (h : OkK K) : (K.drop 0).take 16 = K := List.take_of_length_le (by rw [List.drop_zero, h.1]; exact Nat.le_refl _)
theorem blocks_ok (K : List Int) (c : Nat) (h : OkK K) : CallOk Try.prog 10 [.slice (some ⟨0, 0, none⟩) 16 c] (smSt 1 (hK K) []) (.tuple #[row16 (fst K), row16 (snd K), .int .i64 0]) (smSt 1 (hKn 93 K) []) := by
  have := frame_by pg (KCm_ok CT0) _ (runB10 CT0 K c) ⟨⟨⟨⟨⟨trivial, by rw [h.1]; decide⟩, rfl, bs_at h.2⟩, rfl⟩, rfl, by rw [eL_eq]; exact bs_at (enc_in _ _)⟩, rfl, bs_at dF_in⟩ (by rfl) rfl
  have e1 : row16 (CT0.db (eL CT0 K)) = row16 (fst K) := row_of (by rw [eL_eq]; exact db_at _)
  have e2 : row16 (CT0.db (R16 (CT0.db (eL CT0 K)))) = row16 (snd K) := row_of (by
    rw [eL_eq]
    show R16 (dF (intAt (R16 (dF (intAt (R16 (enc K fun _ => 0))))))) = _
    rw [db_at (enc K fun _ => 0), db_at]; rfl)
  rw [e1, e2] at this; exact this
theorem rblocks_ok (K : List Int) (c : Nat) (h : OkK K) : CallOk Try.prog 12 [.slice (some ⟨0, 0, none⟩) 16 c] (smSt 1 (hK K) []) (.tuple #[row16 (fst K), row16 (snd K)]) (smSt 1 (hKn 73 K) []) := by
  have := frame_by pg (KCm_ok CT0) _ (runB12 CT0 K c) (by rw [take16 h]; exact ⟨⟨⟨trivial, rfl, h⟩, rfl⟩, rfl⟩) (by rfl) rfl
  rw [take16 h] at this
  have e1 : row16 (CT0.db (R16 (CT0.rm K Z16))) = row16 (fst K) := row_of (by
    show R16 (dF (intAt (R16 (CT0.rm K (R16 fun _ => 0))))) = _
    rw [rm_at, db_at]; rfl)
  have e2 : row16 (CT0.db (R16 (CT0.db (R16 (CT0.rm K Z16))))) = row16 (snd K) := row_of (by
    show R16 (dF (intAt (R16 (dF (intAt (R16 (CT0.rm K (R16 fun _ => 0)))))))) = _
    rw [rm_at, db_at (enc K fun _ => 0), db_at]; rfl)
  rw [e1, e2] at this; exact this
end
end ae
end Go.Proofs.Ytkcngffpnnlmeaa
