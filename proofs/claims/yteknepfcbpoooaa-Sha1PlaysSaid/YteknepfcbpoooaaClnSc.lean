/- Read off the code by the clean reading. -/
import Derived.Test.YteknepfcbpoooaaClnRa
import Derived.Test.YteknepfcbpoooaaClnSa
import Derived.Test.YteknepfcbpoooaaClnQc
set_option linter.unusedVariables false
set_option linter.unusedSimpArgs false
set_option linter.deprecated false
set_option maxRecDepth 100000
namespace Go.Proofs.Yteknepfcbpoooaa
open Go.ChangeShapes Go.WideShapes Go.ChangeAt Go.RowKit Go.Cln
namespace hx
open hc
set_option linter.unusedVariables false
noncomputable section
def Byt (L : List Int) : Prop := ∀ x ∈ L, 0 ≤ x ∧ x < 256
def ch (M : List Int) : Nat → Int := fun j => M.getD j 0
def blkC (R : BF) (s : sw.N5) (M : List Int) : sw.N5 := R s (ch (M.take 64))
def fold (R : BF) (s : sw.N5) : Nat → List Int → sw.N5
  | 0, _ => s
  | k + 1, M => fold R (blkC R s M) k (M.drop 64)
theorem getD_at {l : List Int} {i : Nat} (h : i < l.length) : l.getD i 0 = l[i] := by rw [List.getD_eq_getElem?_getD, List.getElem?_eq_getElem h]; rfl
theorem byt_getD {L : List Int} (h : Byt L) (i : Nat) : 0 ≤ L.getD i 0 ∧ L.getD i 0 < 256 := by
  by_cases hi : i < L.length
  · rw [getD_at hi]; exact h _ (List.getElem_mem _)
  · rw [List.getD_eq_getElem?_getD, List.getElem?_eq_none (by omega)]; decide
theorem byt_take {L : List Int} (h : Byt L) (n : Nat) : Byt (L.take n) := fun x hx => h x (List.mem_of_mem_take hx)
theorem byt_drop {L : List Int} (h : Byt L) (n : Nat) : Byt (L.drop n) := fun x hx => h x (List.mem_of_mem_drop hx)
theorem byt_app {L M : List Int} (h : Byt L) (g : Byt M) : Byt (L ++ M) := fun x hx => by
  rcases List.mem_append.1 hx with h1 | h1
  · exact h x h1
  · exact g x h1
theorem add_ok (x y : sw.N5) : sw.ok5 (sw.add5 x y) := ⟨sw.w32_in _, sw.w32_in _, sw.w32_in _, sw.w32_in _, sw.w32_in _⟩
theorem blkR_ok (s : sw.N5) (b : Nat → Int) : sw.ok5 (sw.blkR s b) := add_ok _ _
theorem fold_ok {R : BF} (hR : ∀ s b, sw.ok5 (R s b)) {s : sw.N5} (h : sw.ok5 s) : ∀ (k : Nat) (M : List Int), sw.ok5 (fold R s k M)
  | 0, _ => h
  | k + 1, M => fold_ok hR (hR s _) k _
theorem fold_app {R : BF} : ∀ (k : Nat) (s : sw.N5) (M N : List Int), 64 * k ≤ M.length → fold R s k (M ++ N) = fold R s k M
  | 0, _, _, _, _ => rfl
  | k + 1, s, M, N, h => by
    simp only [fold]
    have e1 : blkC R s (M ++ N) = blkC R s M := by unfold blkC; rw [List.take_append_of_le_length (by omega)]
    rw [e1, List.drop_append_of_le_length (by omega)]
    exact fold_app k _ _ _ (by rw [List.length_drop]; omega)
theorem fold_last {R : BF} : ∀ (k : Nat) (s : sw.N5) (M : List Int), fold R s (k + 1) M = blkC R (fold R s k M) (M.drop (64 * k))
  | 0, _, _ => rfl
  | k + 1, s, M => by
    show fold R (blkC R s M) (k + 1) (M.drop 64) = blkC R (fold R (blkC R s M) k (M.drop 64)) _
    rw [fold_last k]
    congr 1
    rw [List.drop_drop]; congr 1; omega
structure Sem (R : BF) (F : sw.N5) (b : Nat → Int) (rn : Int) (s : sw.N5) (M : List Int) : Prop where
  rn : rn = ((M.length % 64 : Nat) : Int)
  s : s = fold R F (M.length / 64) M
  b : ∀ j, j < M.length % 64 → b j = M.getD (64 * (M.length / 64) + j) 0
theorem getD_app1 {M X : List Int} {i : Nat} (h : i < M.length) : (M ++ X).getD i 0 = M.getD i 0 := by
  rw [List.getD_eq_getElem?_getD, List.getD_eq_getElem?_getD, List.getElem?_append_left h]
theorem getD_app2 {M X : List Int} {i : Nat} (h : M.length ≤ i) : (M ++ X).getD i 0 = X.getD (i - M.length) 0 := by
  rw [List.getD_eq_getElem?_getD, List.getD_eq_getElem?_getD, List.getElem?_append_right h]
theorem nb_at {L : List Int} {po pl : Nat} {b : Nat → Int} {rn : Int} (j : Nat) :
    nb L po pl b rn j = if rn.toNat ≤ j ∧ j < rn.toNat + mm rn pl then ((L.drop po).take (mm rn pl)).getD (j - rn.toNat) 0 else b j := by
  unfold nb
  simp only [Nat.zero_add, Nat.mul_one]
theorem blk_full {s : sw.N5} (hs : sw.ok5 s) {f : Nat → Int} {X : List Int} (hX : Byt X) (h : ∀ j, j < 64 → f j = X.getD j 0) : sw.blk s (intAt (rowV .u8 64 f)) = blkC sw.blkR s X := by
  show _ = sw.blkR s (ch (X.take 64))
  refine sw.blk_eq (b := f) hs (fun j hj => by rw [h j hj]; exact byt_getD hX j) (fun j hj => ?_) fun j hj => ?_
  · exact intAt_row hj
  · rw [h j hj]; unfold ch
    rw [List.getD_eq_getElem?_getD, List.getElem?_take, if_pos hj, ← List.getD_eq_getElem?_getD]
def Agree (B R : BF) : Prop := (∀ s b, sw.ok5 (R s b)) ∧ ∀ (s : sw.N5) (f : Nat → Int) (X : List Int), sw.ok5 s → Byt X → (∀ j, j < 64 → f j = X.getD j 0) → B s (intAt (rowV .u8 64 f)) = blkC R s X
theorem agree : Agree sw.blk sw.blkR := ⟨blkR_ok, fun s f X h1 h2 h3 => blk_full h1 h2 h3⟩
theorem sem_full {B R : BF} (hA : Agree B R) {F : sw.N5} (hF : sw.ok5 F) {L : List Int} (hL : Byt L) {po pl : Nat} {b : Nat → Int} {rn : Int} {s : sw.N5} {M : List Int} (hM : Byt M) (h : Sem R F b rn s M) (hpl : po + pl ≤ L.length) (hf : 64 ≤ rn.toNat + pl) :
    Sem R F (nb L po pl b rn) 0 (B s (intAt (rowV .u8 64 (nb L po pl b rn)))) (M ++ (L.drop po).take (mm rn pl)) := by
  obtain ⟨h1, h2, h3⟩ := h
  obtain ⟨m1, m2, m3⟩ := mm_le rn pl
  have hr : rn.toNat = M.length % 64 := by omega
  have hx : ((L.drop po).take (mm rn pl)).length = mm rn pl := by rw [List.length_take, List.length_drop]; omega
  have hlen : (M ++ (L.drop po).take (mm rn pl)).length = 64 * (M.length / 64 + 1) := by rw [List.length_append, hx]; omega
  refine ⟨?_, ?_, fun j hj => ?_⟩
  · rw [hlen]; omega
  · rw [hlen, show 64 * (M.length / 64 + 1) / 64 = M.length / 64 + 1 by omega, fold_last, fold_app _ _ _ _ (by omega), ← h2, List.drop_append_of_le_length (by omega)]
    refine hA.2 _ _ _ (by rw [h2]; exact fold_ok hA.1 hF _ _) (byt_app (byt_drop hM _) (byt_take (byt_drop hL _) _)) fun j hj => ?_
    have hd : (M.drop (64 * (M.length / 64))).length = rn.toNat := by rw [List.length_drop]; omega
    rw [nb_at]
    by_cases hj2 : j < rn.toNat
    · rw [if_neg (by omega), getD_app1 (by omega), h3 j (by omega)]
      rw [List.getD_eq_getElem?_getD, List.getD_eq_getElem?_getD, List.getElem?_drop]
    · rw [if_pos (by omega), getD_app2 (by omega), hd]
  · rw [hlen] at hj; omega
theorem take_split {l : List Int} {m n : Nat} (h : m ≤ n) : l.take m ++ (l.drop m).take (n - m) = l.take n := by
  conv => rhs; rw [← List.take_append_drop m (l.take n)]
  rw [List.take_take, Nat.min_eq_left h, List.drop_take]
theorem ab_sem {B R : BF} (hA : Agree B R) {F : sw.N5} (hF : sw.ok5 F) {L : List Int} (hL : Byt L) : ∀ (f po pl : Nat) (b : Nat → Int) (rn : Int) (s : sw.N5) (M : List Int), pl ≤ f → po + pl ≤ L.length → Byt M → Sem R F b rn s M →
    Sem R F (ab B L f po pl b rn s).1 (ab B L f po pl b rn s).2.1 (ab B L f po pl b rn s).2.2 (M ++ (L.drop po).take pl)
  | f, po, 0, b, rn, s, M, _, _, _, h => by
    rw [ab_zero]; simpa using h
  | 0, po, pl + 1, b, rn, s, M, h, _, _, _ => by omega
  | f + 1, po, pl + 1, b, rn, s, M, hf, hl, hM, h => by
    have hr : rn.toNat = M.length % 64 := by have := h.rn; omega
    obtain ⟨m1, m2, m3⟩ := mm_le rn (pl + 1)
    by_cases hp : rn.toNat + (pl + 1) < 64
    · rw [ab_part (by omega) hf hp]
      have hm : mm rn (pl + 1) = pl + 1 := by omega
      have hx : ((L.drop po).take (pl + 1)).length = pl + 1 := by rw [List.length_take, List.length_drop]; omega
      obtain ⟨h1, h2, h3⟩ := h
      have hlen : (M ++ (L.drop po).take (pl + 1)).length = M.length + (pl + 1) := by rw [List.length_append, hx]
      have hq : (M.length + (pl + 1)) / 64 = M.length / 64 := by omega
      refine ⟨?_, ?_, fun j hj => ?_⟩
      · rw [hlen]; simp only; omega
      · rw [hlen, hq, fold_app _ _ _ _ (by omega)]; exact h2
      · rw [hlen] at hj
        simp only
        rw [nb_at, hm, hlen, hq]
        by_cases hj2 : j < rn.toNat
        · rw [if_neg (by omega), getD_app1 (by omega), h3 j (by omega)]
        · rw [if_pos (by omega), getD_app2 (by omega)]; congr 1; omega
    · rw [ab_full (by omega) hp]
      have h' := sem_full hA hF hL hM h hl (by omega)
      have := ab_sem hA hF hL f (po + mm rn (pl + 1)) (pl + 1 - mm rn (pl + 1)) _ _ _ _ (by omega) (by omega) (byt_app hM (byt_take (byt_drop hL _) _)) h'
      rw [List.append_assoc, ← List.drop_drop, take_split m1] at this
      exact this
end
end hx
end Go.Proofs.Yteknepfcbpoooaa
namespace Go.Proofs.Yteknepfcbpoooaa
open Go.ChangeShapes Go.WideShapes Go.ChangeAt Go.RowKit Go.Cln
namespace hy
open hc hx
set_option linter.unusedVariables false
noncomputable section
def hO (b : Nat → Int) (rn : Int) (s : sw.N5) (sz : Int) : Ob := .cells (.lit (rowV .u8 64 b ++ (.int .i64 rn :: (s.row ++ [.int .i64 sz, .bool true])))) 73
def hH (b : Nat → Int) (rn : Int) (s : sw.N5) (sz : Int) : List (Option Ob) := [some (hO b rn s sz)]
def KB (B : BF) : Given := { Given.calls (FB B) with fits := true }
end
end hy
end Go.Proofs.Yteknepfcbpoooaa
namespace Go.Proofs.Yteknepfcbpoooaa
open Go.ChangeShapes Go.WideShapes Go.ChangeAt Go.RowKit Go.Cln
namespace hy
open hc hx
set_option linter.unusedVariables false
noncomputable section
def sh8 (n : Int) : Nat → Int
  | 0 => n
  | j + 1 => (sh8 n j).fdiv (2 ^ 8)
def by8 (n : Int) (j : Nat) : Int := IntKind.u8.wrap (sh8 n j)
def be4 (w : Int) : List Int := [by8 w 3, by8 w 2, by8 w 1, by8 w 0]
def be8 (w : Int) : List Int := [by8 w 7, by8 w 6, by8 w 5, by8 w 4, by8 w 3, by8 w 2, by8 w 1, by8 w 0]
def oI (l : List Int) : Ob := .cells (.ints .u8 l) 5
def vI (l : List Int) : List Value := l.map (Value.int .u8)
theorem run34 (w : Int) : ((mk Try.prog Given.nothing 200).call 34 [.int .u32 w, .int .i64 4] (smSt 0 [] [])).map (fun r => (r.1, r.2.obl, r.2.next, keepL [true] r.2.heap.get 0)) =
    some (.slice (some ⟨0, 0, none⟩) 4 4, True, [some (Ob.cells (.lit (vI (be4 w))) 5)].length, [some (Ob.cells (.lit (vI (be4 w))) 5)]) := by kernel_rfl
theorem run31 (w : Int) : ((mk Try.prog Given.nothing 200).call 31 [.int .u64 w, .int .i64 8] (smSt 0 [] [])).map (fun r => (r.1, r.2.obl, r.2.next, keepL [true] r.2.heap.get 0)) =
    some (.slice (some ⟨0, 0, none⟩) 8 8, True, [some (Ob.cells (.lit (vI (be8 w))) 5)].length, [some (Ob.cells (.lit (vI (be8 w))) 5)]) := by kernel_rfl
def F34 (f : FuncId) (args : List Value) (s : St) : Option Inst := if f == 34 then match args with
  | [.int .u32 w, .int .i64 n] => if n = 4 then some ⟨[], 0, [], [.int .u32 w, .int .i64 4], .slice (some ⟨0, 0, none⟩) 4 4, [some (Ob.cells (.lit (vI (be4 w))) 5)], True⟩ else none
  | _ => none else if f == 31 then match args with
  | [.int .u64 w, .int .i64 n] => if n = 8 then some ⟨[], 0, [], [.int .u64 w, .int .i64 8], .slice (some ⟨0, 0, none⟩) 8 8, [some (Ob.cells (.lit (vI (be8 w))) 5)], True⟩ else none
  | _ => none else none
theorem F34_ok (f : FuncId) (args : List Value) (s : St) (i : Inst) (h : F34 f args s = some i) : Fits s i args ∧ (i.ask → CallOk Try.prog f i.args i.s0 i.val i.s1) := by
  unfold F34 at h
  split at h
  · rename_i hf
    have hf' : f = 34 := by simpa using hf
    subst hf'
    split at h
    · split at h
      · rename_i w n hn
        subst hn
        cases h
        exact ⟨⟨rfl, fun j p ob hp ho => by simp at hp⟩, fun _ => frame_by sw.pg (GivenOk.nothing _) [true] (run34 w) trivial rfl rfl⟩
      · cases h
    · cases h
  · split at h
    · rename_i hf
      have hf' : f = 31 := by simpa using hf
      subst hf'
      split at h
      · split at h
        · rename_i w n hn
          subst hn
          cases h
          exact ⟨⟨rfl, fun j p ob hp ho => by simp at hp⟩, fun _ => frame_by sw.pg (GivenOk.nothing _) [true] (run31 w) trivial rfl rfl⟩
        · cases h
      · cases h
    · cases h
def KT : Given := { Given.frames Given.nothing F34 with fits := true }
theorem KT_ok : GivenOk Try.prog KT := frames_fits ((GivenOk.nothing _).frames F34_ok) true
def rT (n : Int) (o : List (Option Bool)) : Option (Value × St) := (mk Try.prog KT 300).call 18 [.int .i64 n] (smSt 0 [] o)
end
end hy
end Go.Proofs.Yteknepfcbpoooaa
namespace Go.Proofs.Yteknepfcbpoooaa
open Go.ChangeShapes Go.WideShapes Go.ChangeAt Go.RowKit Go.Cln
namespace hy
open hc hx
set_option linter.unusedVariables false
noncomputable section
def nz (n : Int) : Int := 1 + (64 - (n + 1 + 8).tmod 64).tmod 64
def TZ (n : Int) : List Int := (List.replicate (nz n + 8).toNat (0 : Int)).set 0 128
def TL (n : Int) : List Int := layI (TZ n) (0 + (nz n).toNat) (be8 (n * 8))
def oT : List (Option Bool) := [some false, none, none, some false, some true, some true, some true, some true, some true, some true, some true, some true, some true, some true, some true, some true]
def pT (n : Int) : Prop := (((((((((((((((True ∧ decide (n < 0) = false) ∧ decide (1152921504606846976 < n) = false) ∧ IntKind.i64.wrap (n + 1) = n + 1) ∧ IntKind.i64.wrap (n + 1 + 8) = n + 1 + 8) ∧ IntKind.i64.wrap (64 - (n + 1 + 8).tmod 64) = 64 - (n + 1 + 8).tmod 64) ∧ IntKind.i64.wrap (nz n) = nz n) ∧ IntKind.i64.wrap (nz n) = nz n) ∧ IntKind.i64.wrap (nz n + 8) = nz n + 8) ∧
  (0 ≤ nz n ∧ nz n ≤ nz n + 8 ∧ (nI 1) * (nz n + 8) ≤ 35184372088832 ∧ nz n + 8 ≤ 35184372088832)) ∧ ((0 : Int) ≤ 0 ∧ 0 < nI (nz n).toNat)) ∧ 1 ≤ (List.replicate (nz n + 8).toNat (0 : Int)).length) ∧ IntKind.u64.wrap n = n) ∧ IntKind.u64.wrap (n * 8) = n * 8) ∧ True) ∧ decide ((nz n).toNat + 8 ≤ (nz n + 8).toNat) = true) ∧ (8 ≤ 8 ∧ 0 + (nz n).toNat + 8 ≤ (TZ n).length)
theorem runT (n : Int) : (rT n oT).map (fun r => (r.1, r.2.obl, r.2.next, keepL [true, false] r.2.heap.get 0)) =
    some (.tuple #[.slice (some ⟨0, 0, none⟩) ((nz n).toNat + 8) (nz n + 8).toNat, .int .i64 0], pT n, [some (oI (TL n)), none].length, [some (oI (TL n)), none]) := by kernel_rfl
def tl (n : Nat) : Nat := 9 + (64 - (n + 9) % 64) % 64
def T (n : Nat) : List Int := 128 :: (List.replicate (tl n - 9) 0 ++ be8 ((n : Int) * 8))
theorem tl_b (n : Nat) : 9 ≤ tl n ∧ tl n ≤ 72 ∧ (n + tl n) % 64 = 0 := by unfold tl; omega
theorem T_len (n : Nat) : (T n).length = tl n := by
  have := tl_b n
  unfold T be8
  simp only [List.length_cons, List.length_append, List.length_replicate, List.length_nil]; omega
theorem nz_eq (n : Nat) : nz (n : Int) = ((tl n - 8 : Nat) : Int) := by
  unfold nz tl
  have h1 : ((n : Int) + 1 + 8).tmod 64 = ((n : Int) + 1 + 8) % 64 := Int.tmod_eq_emod_of_nonneg (by omega)
  have h2 : (64 - ((n : Int) + 1 + 8) % 64).tmod 64 = (64 - ((n : Int) + 1 + 8) % 64) % 64 := Int.tmod_eq_emod_of_nonneg (by omega)
  rw [h1, h2]; omega
theorem TL_eq (n : Nat) : TL (n : Int) = T n := by
  have hb := tl_b n
  unfold TL TZ T
  have e1 : (nz (n : Int) + 8).toNat = tl n := by rw [nz_eq]; omega
  have e2 : (nz (n : Int)).toNat = tl n - 8 := by rw [nz_eq]; omega
  rw [e1, e2, Nat.zero_add]
  have e3 : (List.replicate (tl n) (0 : Int)).set 0 128 = (128 :: List.replicate (tl n - 9) 0) ++ (List.replicate 8 0 ++ []) := by
    obtain ⟨k, hk⟩ : ∃ k, tl n = (k + 8) + 1 := ⟨tl n - 9, by omega⟩
    rw [hk, List.append_nil, List.cons_append, ← rep_split, List.replicate_succ, List.set_cons_zero]
    simp
  rw [e3, layI_mid (by simp; omega) (by simp [be8]), List.append_nil, List.cons_append]
theorem tail_ok (n : Nat) (h : n ≤ 1152921504606846976) : CallOk Try.prog 18 [.int .i64 (n : Int)] (smSt 0 [] []) (.tuple #[.slice (some ⟨0, 0, none⟩) (tl n) (tl n), .int .i64 0]) (smSt 0 [some (oI (T n)), none] []) := by
  have hb := tl_b n
  have := frame_by sw.pg KT_ok [true, false] (runT (n : Int)) ?_ rfl rfl
  · rw [TL_eq, nz_eq] at this
    rw [show ((tl n - 8 : Nat) : Int).toNat + 8 = tl n by omega, show (((tl n - 8 : Nat) : Int) + 8).toNat = tl n by omega] at this
    exact this
  · have e0 := nz_eq n
    unfold pT TZ
    simp only [List.length_set, List.length_replicate]
    rw [e0, Int.tmod_eq_emod_of_nonneg (by omega)]
    repeat' apply And.intro
    all_goals first | trivial | omega | (simp only [nI, decide_eq_true_eq, decide_eq_false_iff_not, IntKind.wrap_i64, IntKind.wrap_u64]; omega)
def F18 (f : FuncId) (args : List Value) (s : St) : Option Inst := if f == 18 then match args with
  | [.int .i64 (.ofNat n)] => some ⟨[], 0, [], [.int .i64 (n : Int)], .tuple #[.slice (some ⟨0, 0, none⟩) (tl n) (tl n), .int .i64 0], [some (oI (T n)), none], n ≤ 1152921504606846976⟩
  | _ => none else none
theorem F18_ok (f : FuncId) (args : List Value) (s : St) (i : Inst) (h : F18 f args s = some i) : Fits s i args ∧ (i.ask → CallOk Try.prog f i.args i.s0 i.val i.s1) := by
  unfold F18 at h
  split at h
  · rename_i hf
    have hf' : f = 18 := by simpa using hf
    subst hf'
    split at h
    · cases h
      exact ⟨⟨rfl, fun j p ob hp ho => by simp at hp⟩, fun ha => tail_ok _ ha⟩
    · cases h
  · cases h
end
end hy
end Go.Proofs.Yteknepfcbpoooaa
namespace Go.Proofs.Yteknepfcbpoooaa
open Go.ChangeShapes Go.WideShapes Go.ChangeAt Go.RowKit Go.Cln
namespace hy
open hc hx
set_option linter.unusedVariables false
noncomputable section
def FSq (f : FuncId) (args : List Value) (s : St) : Option Inst := match F18 f args s with
  | some i => some i
  | none => F34 f args s
theorem FS_ok (f : FuncId) (args : List Value) (s : St) (i : Inst) (h : FSq f args s = some i) : Fits s i args ∧ (i.ask → CallOk Try.prog f i.args i.s0 i.val i.s1) := by
  unfold FSq at h
  split at h
  · rename_i j h1
    cases h; exact F18_ok f args s _ h1
  · exact F34_ok f args s _ h
def KS (B : BF) : Given := { Given.frames (Given.calls (FB B)) FSq with fits := true }
theorem KS_ok : GivenOk Try.prog (KS sw.blk) := frames_fits (F_eq.frames FS_ok) true
def rSum (B : BF) (b : Nat → Int) (rn : Int) (s : sw.N5) (sz : Nat) (o : List (Option Bool)) : Option (Value × St) := (mk Try.prog (KS B) 300).call 23 [.pointer (some ⟨0, 0, none⟩)] (smSt 1 (hH b rn s (sz : Int)) o)
end
end hy
end Go.Proofs.Yteknepfcbpoooaa
namespace Go.Proofs.Yteknepfcbpoooaa
open Go.ChangeShapes Go.WideShapes Go.ChangeAt Go.RowKit Go.Cln
namespace hy
open hc hx
set_option linter.unusedVariables false
noncomputable section
def cR (L : List Int) (po pl pc : Nat) (rn : Int) (p : Prop) : Prop := (((((p ∧ decide ((pl : Int) > 0) = true) ∧ (0 ≤ ((64 : Nat) : Int) ∧ ((64 : Nat) : Int) ≤ ((64 : Nat) : Int) ∧ 0 ≤ rn ∧ rn ≤ ((64 : Nat) : Int))) ∧ (po + mm rn pl ≤ L.length ∧ 0 ≤ 0 + rn.toNat * 1 ∧ 0 + rn.toNat * 1 + mm rn pl ≤ 64)) ∧
  (0 ≤ (pl : Int) ∧ (pl : Int) ≤ (pc : Int) ∧ 0 ≤ ((mm rn pl : Nat) : Int) ∧ ((mm rn pl : Nat) : Int) ≤ (pl : Int))) ∧ IntKind.i64.wrap (rn + ((mm rn pl : Nat) : Int)) = rn + ((mm rn pl : Nat) : Int)) ∧ decide (rn + ((mm rn pl : Nat) : Int) < 64) = false
def po' (rn : Int) (po pl : Nat) : Nat := po + ((mm rn pl : Nat) : Int).toNat * 1
def pl' (rn : Int) (pl : Nat) : Nat := (pl : Int).toNat - ((mm rn pl : Nat) : Int).toNat
def pc' (rn : Int) (pl pc : Nat) : Nat := pc - ((mm rn pl : Nat) : Int).toNat
def tail5 (p : Prop) : Prop := ((((p ∧ True) ∧ True) ∧ True) ∧ True) ∧ True
def ot1 (X : sw.N5) : List Int := be4 X.a ++ (be4 X.b ++ (be4 X.c ++ (be4 X.d ++ be4 X.e)))
def outV (X : sw.N5) : Value := .agg (vI (ot1 X)).toArray
def s1 (B : BF) (L : List Int) (po pl : Nat) (b : Nat → Int) (rn : Int) (s : sw.N5) : sw.N5 := B s (intAt (rowV .u8 64 (nb L po pl b rn)))
def oS1 : List (Option Bool) := [none, none, none, none, none, none, none, none, none, some true, some true, some true, some true, some false, none, some false]
def oS2 : List (Option Bool) := [none, none, none, none, none, none, none, none, none, some true, some true, some true, some true, some false, none, some true, some true, some true, some true, some false, none, some false]
def ksS (k : Nat) : List Bool := true :: List.replicate k false
def hpS (b : Nat → Int) (rn : Int) (s : sw.N5) (sz : Int) (k : Nat) : List (Option Ob) := some (hO b rn s sz) :: List.replicate k none
theorem runS1 (B : BF) (b : Nat → Int) (rn : Int) (s : sw.N5) (sz : Nat) : (rSum B b rn s sz oS1).map (fun r => (r.1, r.2.obl, r.2.next, keepL (ksS 16) r.2.heap.get 0)) =
    some (outV (s1 B (T sz) 0 (tl sz) b rn s), tail5 (cR (T sz) 0 (tl sz) (tl sz) rn (True ∧ sz ≤ 1152921504606846976) ∧ decide (((pl' rn (tl sz) : Nat) : Int) > 0) = false), (hpS b rn s sz 16).length, hpS b rn s sz 16) := by kernel_rfl
theorem runS2 (B : BF) (b : Nat → Int) (rn : Int) (s : sw.N5) (sz : Nat) : (rSum B b rn s sz oS2).map (fun r => (r.1, r.2.obl, r.2.next, keepL (ksS 17) r.2.heap.get 0)) =
    some (outV (s1 B (T sz) (po' rn 0 (tl sz)) (pl' rn (tl sz)) (nb (T sz) 0 (tl sz) b rn) 0 (s1 B (T sz) 0 (tl sz) b rn s)),
      tail5 (cR (T sz) (po' rn 0 (tl sz)) (pl' rn (tl sz)) (pc' rn (tl sz) (tl sz)) 0 (cR (T sz) 0 (tl sz) (tl sz) rn (True ∧ sz ≤ 1152921504606846976)) ∧ decide (((pl' 0 (pl' rn (tl sz)) : Nat) : Int) > 0) = false), (hpS b rn s sz 17).length, hpS b rn s sz 17) := by kernel_rfl
theorem cR_of {L : List Int} {po pl pc : Nat} {rn : Int} {p : Prop} (hp : p) (h0 : 0 ≤ rn) (h1 : rn < 64) (h2 : po + pl ≤ L.length) (h3 : pl ≤ pc) (h4 : 0 < pl) (h5 : ¬ rn.toNat + pl < 64) : cR L po pl pc rn p := by
  obtain ⟨m1, m2, m3⟩ := mm_le rn pl
  unfold cR
  refine ⟨⟨⟨⟨⟨⟨hp, by rw [decide_eq_true_eq]; omega⟩, by omega⟩, by omega⟩, by omega⟩, by rw [IntKind.wrap_i64]; omega⟩, ?_⟩
  rw [decide_eq_false_iff_not]; omega
theorem sum_ok (b : Nat → Int) (rn : Int) (s : sw.N5) (sz : Nat) (h : sz ≤ 1152921504606846976) (hr : rn = ((sz % 64 : Nat) : Int)) :
    ∃ k, CallOk Try.prog 23 [.pointer (some ⟨0, 0, none⟩)] (smSt 1 (hH b rn s (sz : Int)) []) (outV (ab sw.blk (T sz) (tl sz) 0 (tl sz) b rn s).2.2) (smSt 1 (hpS b rn s sz k) []) ∧ (k = 16 ∧ sz % 64 < 56 ∨ k = 17 ∧ ¬ sz % 64 < 56) := by
  obtain ⟨t1, t2, t3⟩ := tl_b sz
  have ht : tl sz + sz % 64 = 64 ∧ sz % 64 < 56 ∨ tl sz + sz % 64 = 128 ∧ ¬ sz % 64 < 56 := by unfold tl; omega
  obtain ⟨m1, m2, m3⟩ := mm_le rn (tl sz)
  have hlen := T_len sz
  have hf : ¬ rn.toNat + tl sz < 64 := by omega
  have c1 : cR (T sz) 0 (tl sz) (tl sz) rn (True ∧ sz ≤ 1152921504606846976) := cR_of ⟨trivial, h⟩ (by omega) (by omega) (by omega) (by omega) (by omega) hf
  rcases ht with ⟨ht, hk⟩ | ⟨ht, hk⟩
  · refine ⟨16, ?_, .inl ⟨rfl, hk⟩⟩
    have := frame_by sw.pg KS_ok _ (runS1 sw.blk b rn s sz) ⟨⟨⟨⟨⟨⟨c1, ?_⟩, trivial⟩, trivial⟩, trivial⟩, trivial⟩, trivial⟩ (by rfl) rfl
    · have e : (ab sw.blk (T sz) (tl sz) 0 (tl sz) b rn s).2.2 = s1 sw.blk (T sz) 0 (tl sz) b rn s := by
        obtain ⟨f, hfe⟩ : ∃ f, tl sz = f + 1 := ⟨tl sz - 1, by omega⟩
        rw [show ab sw.blk (T sz) (tl sz) 0 (tl sz) b rn s = ab sw.blk (T sz) (f + 1) 0 (tl sz) b rn s by rw [hfe], ab_full (by omega) hf, show tl sz - mm rn (tl sz) = 0 by omega, ab_zero]
        rfl
      rw [e]; exact this
    · rw [decide_eq_false_iff_not]; unfold pl'; omega
  · refine ⟨17, ?_, .inr ⟨rfl, hk⟩⟩
    obtain ⟨n1, n2, n3⟩ := mm_le 0 (tl sz - mm rn (tl sz))
    obtain ⟨e1, e2, e3⟩ := nx_eq rn 0 (tl sz) (tl sz)
    have c2 : cR (T sz) (po' rn 0 (tl sz)) (pl' rn (tl sz)) (pc' rn (tl sz) (tl sz)) 0 (cR (T sz) 0 (tl sz) (tl sz) rn (True ∧ sz ≤ 1152921504606846976)) := by
      unfold po' pl' pc'
      rw [e1, e2, e3]
      exact cR_of c1 (by omega) (by omega) (by omega) (by omega) (by omega) (by simp; omega)
    have := frame_by sw.pg KS_ok _ (runS2 sw.blk b rn s sz) ⟨⟨⟨⟨⟨⟨c2, ?_⟩, trivial⟩, trivial⟩, trivial⟩, trivial⟩, trivial⟩ (by rfl) rfl
    · have e : (ab sw.blk (T sz) (tl sz) 0 (tl sz) b rn s).2.2 = s1 sw.blk (T sz) (po' rn 0 (tl sz)) (pl' rn (tl sz)) (nb (T sz) 0 (tl sz) b rn) 0 (s1 sw.blk (T sz) 0 (tl sz) b rn s) := by
        obtain ⟨f, hfe⟩ : ∃ f, tl sz = f + 2 := ⟨tl sz - 2, by omega⟩
        rw [show ab sw.blk (T sz) (tl sz) 0 (tl sz) b rn s = ab sw.blk (T sz) (f + 1 + 1) 0 (tl sz) b rn s by rw [hfe], ab_full (by omega) hf, ab_full (by omega) (by simp; omega), show tl sz - mm rn (tl sz) - mm 0 (tl sz - mm rn (tl sz)) = 0 by omega, ab_zero]
        unfold po' pl'
        rw [e1, e2]
        rfl
      rw [e]; exact this
    · rw [decide_eq_false_iff_not]; unfold pl'
      rw [e2]
      omega
end
end hy
end Go.Proofs.Yteknepfcbpoooaa
