/- Read off the code by the clean reading. -/
import Derived.Test.YteknepfcbpoooaaClnQc
import Derived.Test.YteknepfcbpoooaaClnWa
import Derived.IntWalk
import Derived.Test.YteknepfcbpoooaaClnRa
set_option linter.unusedVariables false
set_option linter.unusedSimpArgs false
set_option linter.deprecated false
set_option maxRecDepth 100000
namespace Go.Proofs.Yteknepfcbpoooaa
open Go.ChangeShapes Go.WideShapes Go.ChangeAt Go.RowKit Go.Cln
namespace hc
set_option linter.unusedVariables false
noncomputable section
abbrev BF := sw.N5 → (Nat → Int) → sw.N5
abbrev N5 := sw.N5
noncomputable def FB (B : BF) (f : FuncId) (args : List Value) : Option Value := if f == 14 then match args with
  | [.agg s, .agg x] => if (s.toList.length = 5 ∧ s.toList.all (isKind .u32) = true) ∧ x.toList.length = 64 ∧ x.toList.all (isKind .u8) = true then some (.agg (B (sw.n5L s.toList) (intAt x.toList)).row.toArray) else none
  | _ => none else none
noncomputable def body : Code := loopB Try.prog 40 1
noncomputable def mm (rn : Int) (pl : Nat) : Nat := Nat.min pl (64 - rn.toNat)
noncomputable def nb (L : List Int) (po pl : Nat) (b : Nat → Int) (rn : Int) : Nat → Int := fun j => if 0 + rn.toNat * 1 ≤ j ∧ j < 0 + rn.toNat * 1 + mm rn pl then (List.take (mm rn pl) (List.drop po L)).getD (j - (0 + rn.toNat * 1)) 0 else b j
noncomputable def ab (B : BF) (L : List Int) : Nat → Nat → Nat → (Nat → Int) → Int → sw.N5 → (Nat → Int) × Int × sw.N5
  | 0, po, pl, b, rn, s => (b, rn, s)
  | k + 1, po, pl, b, rn, s => if pl = 0 then (b, rn, s) else if rn.toNat + pl < 64 then (nb L po pl b rn, rn + (pl : Int), s)
    else ab B L k (po + mm rn pl) (pl - mm rn pl) (nb L po pl b rn) 0 (B s (intAt (rowV .u8 64 (nb L po pl b rn))))
theorem F_eq : GivenOk Try.prog (Given.calls (FB sw.blk)) := sw.F14_ok
theorem mm_le (rn : Int) (pl : Nat) : mm rn pl ≤ pl ∧ mm rn pl ≤ 64 - rn.toNat ∧ (mm rn pl = pl ∨ mm rn pl = 64 - rn.toNat) := by
  unfold mm
  have : Nat.min pl (64 - rn.toNat) = min pl (64 - rn.toNat) := rfl
  rw [this]; omega
theorem nx_eq (rn : Int) (po pl pc : Nat) : po + ((mm rn pl : Nat) : Int).toNat * 1 = po + mm rn pl ∧ (pl : Int).toNat - ((mm rn pl : Nat) : Int).toNat = pl - mm rn pl ∧ pc - ((mm rn pl : Nat) : Int).toNat = pc - mm rn pl := by
  refine ⟨by omega, by omega, by omega⟩
theorem ab_zero (B : BF) (L : List Int) (f po : Nat) (b : Nat → Int) (rn : Int) (s : sw.N5) : ab B L f po 0 b rn s = (b, rn, s) := by
  cases f with
  | zero => rfl
  | succ f => simp [ab]
theorem ab_part {B : BF} {L : List Int} {f po pl : Nat} {b : Nat → Int} {rn : Int} {s : sw.N5} (h0 : 0 < pl) (hf : pl ≤ f) (h : rn.toNat + pl < 64) : ab B L f po pl b rn s = (nb L po pl b rn, rn + (pl : Int), s) := by
  cases f with
  | zero => omega
  | succ f => simp only [ab]; rw [if_neg (by omega), if_pos h]
theorem ab_full {B : BF} {L : List Int} {f po pl : Nat} {b : Nat → Int} {rn : Int} {s : sw.N5} (h0 : 0 < pl) (h : ¬ rn.toNat + pl < 64) : ab B L (f + 1) po pl b rn s = ab B L f (po + mm rn pl) (pl - mm rn pl) (nb L po pl b rn) 0 (B s (intAt (rowV .u8 64 (nb L po pl b rn)))) := by
  simp only [ab]; rw [if_neg (by omega), if_neg h]
theorem ab_fuel {B : BF} {L : List Int} : ∀ (f f' po pl : Nat) (b : Nat → Int) (rn : Int) (s : sw.N5), rn < 64 → pl ≤ f → pl ≤ f' → ab B L f po pl b rn s = ab B L f' po pl b rn s
  | f, f', po, 0, b, rn, s, _, _, _ => by rw [ab_zero, ab_zero]
  | 0, f', po, pl + 1, b, rn, s, _, h, _ => by omega
  | f + 1, 0, po, pl + 1, b, rn, s, _, _, h => by omega
  | f + 1, f' + 1, po, pl + 1, b, rn, s, hr, h1, h2 => by
    by_cases h : rn.toNat + (pl + 1) < 64
    · rw [ab_part (by omega) h1 h, ab_part (by omega) h2 h]
    · rw [ab_full (by omega) h, ab_full (by omega) h]
      obtain ⟨m1, m2, m3⟩ := mm_le rn (pl + 1)
      exact ab_fuel f f' _ _ _ 0 _ (by omega) (by omega) (by omega)
theorem ab_next {B : BF} {L : List Int} {f g po pl : Nat} {b : Nat → Int} {rn : Int} {s : sw.N5} (hr : rn < 64) (h0 : 0 < pl) (h : ¬ rn.toNat + pl < 64) (hf : pl ≤ f) (hg : pl - mm rn pl ≤ g) : ab B L g (po + mm rn pl) (pl - mm rn pl) (nb L po pl b rn) 0 (B s (intAt (rowV .u8 64 (nb L po pl b rn)))) = ab B L f po pl b rn s := by
  obtain ⟨m1, m2, m3⟩ := mm_le rn pl
  cases f with
  | zero => omega
  | succ f => rw [ab_full h0 h]; exact ab_fuel g f _ _ _ 0 _ (by omega) hg (by omega)
end
end hc
end Go.Proofs.Yteknepfcbpoooaa
namespace Go.Proofs.Yteknepfcbpoooaa
open Go.ChangeShapes Go.WideShapes Go.ChangeAt Go.RowKit Go.Cln
namespace hx
open hc
set_option linter.unusedVariables false
noncomputable section
def Byt (L : List Int) : Prop := ∀ x ∈ L, 0 ≤ x ∧ x < 256
def ch (M : List Int) : Nat → Int := fun j => M.getD j 0
def blkC (R : BF) (s : sw.N5) (M : List Int) : sw.N5 := R s (ch (M.take 64))
def fold (R : BF) (s : sw.N5) : Nat → List Int → sw.N5
  | 0, _ => s
  | k + 1, M => fold R (blkC R s M) k (M.drop 64)
theorem getD_at {l : List Int} {i : Nat} (h : i < l.length) : l.getD i 0 = l[i] := by rw [List.getD_eq_getElem?_getD, List.getElem?_eq_getElem h]; rfl
theorem byt_getD {L : List Int} (h : Byt L) (i : Nat) : 0 ≤ L.getD i 0 ∧ L.getD i 0 < 256 := by
  by_cases hi : i < L.length
  · rw [getD_at hi]; exact h _ (List.getElem_mem _)
  · rw [List.getD_eq_getElem?_getD, List.getElem?_eq_none (by omega)]; decide
theorem byt_take {L : List Int} (h : Byt L) (n : Nat) : Byt (L.take n) := fun x hx => h x (List.mem_of_mem_take hx)
theorem byt_drop {L : List Int} (h : Byt L) (n : Nat) : Byt (L.drop n) := fun x hx => h x (List.mem_of_mem_drop hx)
theorem byt_app {L M : List Int} (h : Byt L) (g : Byt M) : Byt (L ++ M) := fun x hx => by
  rcases List.mem_append.1 hx with h1 | h1
  · exact h x h1
  · exact g x h1
theorem add_ok (x y : sw.N5) : sw.ok5 (sw.add5 x y) := ⟨sw.w32_in _, sw.w32_in _, sw.w32_in _, sw.w32_in _, sw.w32_in _⟩
theorem blkR_ok (s : sw.N5) (b : Nat → Int) : sw.ok5 (sw.blkR s b) := add_ok _ _
theorem fold_ok {R : BF} (hR : ∀ s b, sw.ok5 (R s b)) {s : sw.N5} (h : sw.ok5 s) : ∀ (k : Nat) (M : List Int), sw.ok5 (fold R s k M)
  | 0, _ => h
  | k + 1, M => fold_ok hR (hR s _) k _
theorem fold_app {R : BF} : ∀ (k : Nat) (s : sw.N5) (M N : List Int), 64 * k ≤ M.length → fold R s k (M ++ N) = fold R s k M
  | 0, _, _, _, _ => rfl
  | k + 1, s, M, N, h => by
    simp only [fold]
    have e1 : blkC R s (M ++ N) = blkC R s M := by unfold blkC; rw [List.take_append_of_le_length (by omega)]
    rw [e1, List.drop_append_of_le_length (by omega)]
    exact fold_app k _ _ _ (by rw [List.length_drop]; omega)
theorem fold_last {R : BF} : ∀ (k : Nat) (s : sw.N5) (M : List Int), fold R s (k + 1) M = blkC R (fold R s k M) (M.drop (64 * k))
  | 0, _, _ => rfl
  | k + 1, s, M => by
    show fold R (blkC R s M) (k + 1) (M.drop 64) = blkC R (fold R (blkC R s M) k (M.drop 64)) _
    rw [fold_last k]
    congr 1
    rw [List.drop_drop]; congr 1; omega
structure Sem (R : BF) (F : sw.N5) (b : Nat → Int) (rn : Int) (s : sw.N5) (M : List Int) : Prop where
  rn : rn = ((M.length % 64 : Nat) : Int)
  s : s = fold R F (M.length / 64) M
  b : ∀ j, j < M.length % 64 → b j = M.getD (64 * (M.length / 64) + j) 0
theorem getD_app1 {M X : List Int} {i : Nat} (h : i < M.length) : (M ++ X).getD i 0 = M.getD i 0 := by
  rw [List.getD_eq_getElem?_getD, List.getD_eq_getElem?_getD, List.getElem?_append_left h]
theorem getD_app2 {M X : List Int} {i : Nat} (h : M.length ≤ i) : (M ++ X).getD i 0 = X.getD (i - M.length) 0 := by
  rw [List.getD_eq_getElem?_getD, List.getD_eq_getElem?_getD, List.getElem?_append_right h]
theorem nb_at {L : List Int} {po pl : Nat} {b : Nat → Int} {rn : Int} (j : Nat) :
    nb L po pl b rn j = if rn.toNat ≤ j ∧ j < rn.toNat + mm rn pl then ((L.drop po).take (mm rn pl)).getD (j - rn.toNat) 0 else b j := by
  unfold nb
  simp only [Nat.zero_add, Nat.mul_one]
theorem blk_full {s : sw.N5} (hs : sw.ok5 s) {f : Nat → Int} {X : List Int} (hX : Byt X) (h : ∀ j, j < 64 → f j = X.getD j 0) : sw.blk s (intAt (rowV .u8 64 f)) = blkC sw.blkR s X := by
  show _ = sw.blkR s (ch (X.take 64))
  refine sw.blk_eq (b := f) hs (fun j hj => by rw [h j hj]; exact byt_getD hX j) (fun j hj => ?_) fun j hj => ?_
  · exact intAt_row hj
  · rw [h j hj]; unfold ch
    rw [List.getD_eq_getElem?_getD, List.getElem?_take, if_pos hj, ← List.getD_eq_getElem?_getD]
def Agree (B R : BF) : Prop := (∀ s b, sw.ok5 (R s b)) ∧ ∀ (s : sw.N5) (f : Nat → Int) (X : List Int), sw.ok5 s → Byt X → (∀ j, j < 64 → f j = X.getD j 0) → B s (intAt (rowV .u8 64 f)) = blkC R s X
theorem agree : Agree sw.blk sw.blkR := ⟨blkR_ok, fun s f X h1 h2 h3 => blk_full h1 h2 h3⟩
theorem sem_full {B R : BF} (hA : Agree B R) {F : sw.N5} (hF : sw.ok5 F) {L : List Int} (hL : Byt L) {po pl : Nat} {b : Nat → Int} {rn : Int} {s : sw.N5} {M : List Int} (hM : Byt M) (h : Sem R F b rn s M) (hpl : po + pl ≤ L.length) (hf : 64 ≤ rn.toNat + pl) :
    Sem R F (nb L po pl b rn) 0 (B s (intAt (rowV .u8 64 (nb L po pl b rn)))) (M ++ (L.drop po).take (mm rn pl)) := by
  obtain ⟨h1, h2, h3⟩ := h
  obtain ⟨m1, m2, m3⟩ := mm_le rn pl
  have hr : rn.toNat = M.length % 64 := by omega
  have hx : ((L.drop po).take (mm rn pl)).length = mm rn pl := by rw [List.length_take, List.length_drop]; omega
  have hlen : (M ++ (L.drop po).take (mm rn pl)).length = 64 * (M.length / 64 + 1) := by rw [List.length_append, hx]; omega
  refine ⟨?_, ?_, fun j hj => ?_⟩
  · rw [hlen]; omega
  · rw [hlen, show 64 * (M.length / 64 + 1) / 64 = M.length / 64 + 1 by omega, fold_last, fold_app _ _ _ _ (by omega), ← h2, List.drop_append_of_le_length (by omega)]
    refine hA.2 _ _ _ (by rw [h2]; exact fold_ok hA.1 hF _ _) (byt_app (byt_drop hM _) (byt_take (byt_drop hL _) _)) fun j hj => ?_
    have hd : (M.drop (64 * (M.length / 64))).length = rn.toNat := by rw [List.length_drop]; omega
    rw [nb_at]
    by_cases hj2 : j < rn.toNat
    · rw [if_neg (by omega), getD_app1 (by omega), h3 j (by omega)]
      rw [List.getD_eq_getElem?_getD, List.getD_eq_getElem?_getD, List.getElem?_drop]
    · rw [if_pos (by omega), getD_app2 (by omega), hd]
  · rw [hlen] at hj; omega
theorem take_split {l : List Int} {m n : Nat} (h : m ≤ n) : l.take m ++ (l.drop m).take (n - m) = l.take n := by
  conv => rhs; rw [← List.take_append_drop m (l.take n)]
  rw [List.take_take, Nat.min_eq_left h, List.drop_take]
theorem ab_sem {B R : BF} (hA : Agree B R) {F : sw.N5} (hF : sw.ok5 F) {L : List Int} (hL : Byt L) : ∀ (f po pl : Nat) (b : Nat → Int) (rn : Int) (s : sw.N5) (M : List Int), pl ≤ f → po + pl ≤ L.length → Byt M → Sem R F b rn s M →
    Sem R F (ab B L f po pl b rn s).1 (ab B L f po pl b rn s).2.1 (ab B L f po pl b rn s).2.2 (M ++ (L.drop po).take pl)
  | f, po, 0, b, rn, s, M, _, _, _, h => by
    rw [ab_zero]; simpa using h
  | 0, po, pl + 1, b, rn, s, M, h, _, _, _ => by omega
  | f + 1, po, pl + 1, b, rn, s, M, hf, hl, hM, h => by
    have hr : rn.toNat = M.length % 64 := by have := h.rn; omega
    obtain ⟨m1, m2, m3⟩ := mm_le rn (pl + 1)
    by_cases hp : rn.toNat + (pl + 1) < 64
    · rw [ab_part (by omega) hf hp]
      have hm : mm rn (pl + 1) = pl + 1 := by omega
      have hx : ((L.drop po).take (pl + 1)).length = pl + 1 := by rw [List.length_take, List.length_drop]; omega
      obtain ⟨h1, h2, h3⟩ := h
      have hlen : (M ++ (L.drop po).take (pl + 1)).length = M.length + (pl + 1) := by rw [List.length_append, hx]
      have hq : (M.length + (pl + 1)) / 64 = M.length / 64 := by omega
      refine ⟨?_, ?_, fun j hj => ?_⟩
      · rw [hlen]; simp only; omega
      · rw [hlen, hq, fold_app _ _ _ _ (by omega)]; exact h2
      · rw [hlen] at hj
        simp only
        rw [nb_at, hm, hlen, hq]
        by_cases hj2 : j < rn.toNat
        · rw [if_neg (by omega), getD_app1 (by omega), h3 j (by omega)]
        · rw [if_pos (by omega), getD_app2 (by omega)]; congr 1; omega
    · rw [ab_full (by omega) hp]
      have h' := sem_full hA hF hL hM h hl (by omega)
      have := ab_sem hA hF hL f (po + mm rn (pl + 1)) (pl + 1 - mm rn (pl + 1)) _ _ _ _ (by omega) (by omega) (byt_app hM (byt_take (byt_drop hL _) _)) h'
      rw [List.append_assoc, ← List.drop_drop, take_split m1] at this
      exact this
end
end hx
end Go.Proofs.Yteknepfcbpoooaa
namespace Go.Proofs.Yteknepfcbpoooaa
open Go.ChangeShapes Go.WideShapes Go.ChangeAt Go.RowKit Go.Cln
namespace hy
open hc hx
set_option linter.unusedVariables false
noncomputable section
def hO (b : Nat → Int) (rn : Int) (s : sw.N5) (sz : Int) : Ob := .cells (.lit (rowV .u8 64 b ++ (.int .i64 rn :: (s.row ++ [.int .i64 sz, .bool true])))) 73
def hH (b : Nat → Int) (rn : Int) (s : sw.N5) (sz : Int) : List (Option Ob) := [some (hO b rn s sz)]
def KB (B : BF) : Given := { Given.calls (FB B) with fits := true }
end
end hy
end Go.Proofs.Yteknepfcbpoooaa
namespace Go.Proofs.Yteknepfcbpoooaa
open Go.ChangeShapes Go.WideShapes Go.ChangeAt Go.RowKit Go.Cln
namespace hy
open hc hx
set_option linter.unusedVariables false
noncomputable section
def sh8 (n : Int) : Nat → Int
  | 0 => n
  | j + 1 => (sh8 n j).fdiv (2 ^ 8)
def by8 (n : Int) (j : Nat) : Int := IntKind.u8.wrap (sh8 n j)
def be4 (w : Int) : List Int := [by8 w 3, by8 w 2, by8 w 1, by8 w 0]
def be8 (w : Int) : List Int := [by8 w 7, by8 w 6, by8 w 5, by8 w 4, by8 w 3, by8 w 2, by8 w 1, by8 w 0]
def oI (l : List Int) : Ob := .cells (.ints .u8 l) 5
def vI (l : List Int) : List Value := l.map (Value.int .u8)
theorem run34 (w : Int) : ((mk Try.prog Given.nothing 200).call 34 [.int .u32 w, .int .i64 4] (smSt 0 [] [])).map (fun r => (r.1, r.2.obl, r.2.next, keepL [true] r.2.heap.get 0)) =
    some (.slice (some ⟨0, 0, none⟩) 4 4, True, [some (Ob.cells (.lit (vI (be4 w))) 5)].length, [some (Ob.cells (.lit (vI (be4 w))) 5)]) := by kernel_rfl
theorem run31 (w : Int) : ((mk Try.prog Given.nothing 200).call 31 [.int .u64 w, .int .i64 8] (smSt 0 [] [])).map (fun r => (r.1, r.2.obl, r.2.next, keepL [true] r.2.heap.get 0)) =
    some (.slice (some ⟨0, 0, none⟩) 8 8, True, [some (Ob.cells (.lit (vI (be8 w))) 5)].length, [some (Ob.cells (.lit (vI (be8 w))) 5)]) := by kernel_rfl
def F34 (f : FuncId) (args : List Value) (s : St) : Option Inst := if f == 34 then match args with
  | [.int .u32 w, .int .i64 n] => if n = 4 then some ⟨[], 0, [], [.int .u32 w, .int .i64 4], .slice (some ⟨0, 0, none⟩) 4 4, [some (Ob.cells (.lit (vI (be4 w))) 5)], True⟩ else none
  | _ => none else if f == 31 then match args with
  | [.int .u64 w, .int .i64 n] => if n = 8 then some ⟨[], 0, [], [.int .u64 w, .int .i64 8], .slice (some ⟨0, 0, none⟩) 8 8, [some (Ob.cells (.lit (vI (be8 w))) 5)], True⟩ else none
  | _ => none else none
theorem F34_ok (f : FuncId) (args : List Value) (s : St) (i : Inst) (h : F34 f args s = some i) : Fits s i args ∧ (i.ask → CallOk Try.prog f i.args i.s0 i.val i.s1) := by
  unfold F34 at h
  split at h
  · rename_i hf
    have hf' : f = 34 := by simpa using hf
    subst hf'
    split at h
    · split at h
      · rename_i w n hn
        subst hn
        cases h
        exact ⟨⟨rfl, fun j p ob hp ho => by simp at hp⟩, fun _ => frame_by sw.pg (GivenOk.nothing _) [true] (run34 w) trivial rfl rfl⟩
      · cases h
    · cases h
  · split at h
    · rename_i hf
      have hf' : f = 31 := by simpa using hf
      subst hf'
      split at h
      · split at h
        · rename_i w n hn
          subst hn
          cases h
          exact ⟨⟨rfl, fun j p ob hp ho => by simp at hp⟩, fun _ => frame_by sw.pg (GivenOk.nothing _) [true] (run31 w) trivial rfl rfl⟩
        · cases h
      · cases h
    · cases h
def KT : Given := { Given.frames Given.nothing F34 with fits := true }
theorem KT_ok : GivenOk Try.prog KT := frames_fits ((GivenOk.nothing _).frames F34_ok) true
def rT (n : Int) (o : List (Option Bool)) : Option (Value × St) := (mk Try.prog KT 300).call 18 [.int .i64 n] (smSt 0 [] o)
end
end hy
end Go.Proofs.Yteknepfcbpoooaa
namespace Go.Proofs.Yteknepfcbpoooaa
open Go.ChangeShapes Go.WideShapes Go.ChangeAt Go.RowKit Go.Cln
namespace hy
open hc hx
set_option linter.unusedVariables false
noncomputable section
def nz (n : Int) : Int := 1 + (64 - (n + 1 + 8).tmod 64).tmod 64
def TZ (n : Int) : List Int := (List.replicate (nz n + 8).toNat (0 : Int)).set 0 128
def TL (n : Int) : List Int := layI (TZ n) (0 + (nz n).toNat) (be8 (n * 8))
def oT : List (Option Bool) := [some false, none, none, some false, some true, some true, some true, some true, some true, some true, some true, some true, some true, some true, some true, some true]
def pT (n : Int) : Prop := (((((((((((((((True ∧ decide (n < 0) = false) ∧ decide (1152921504606846976 < n) = false) ∧ IntKind.i64.wrap (n + 1) = n + 1) ∧ IntKind.i64.wrap (n + 1 + 8) = n + 1 + 8) ∧ IntKind.i64.wrap (64 - (n + 1 + 8).tmod 64) = 64 - (n + 1 + 8).tmod 64) ∧ IntKind.i64.wrap (nz n) = nz n) ∧ IntKind.i64.wrap (nz n) = nz n) ∧ IntKind.i64.wrap (nz n + 8) = nz n + 8) ∧
  (0 ≤ nz n ∧ nz n ≤ nz n + 8 ∧ (nI 1) * (nz n + 8) ≤ 35184372088832 ∧ nz n + 8 ≤ 35184372088832)) ∧ ((0 : Int) ≤ 0 ∧ 0 < nI (nz n).toNat)) ∧ 1 ≤ (List.replicate (nz n + 8).toNat (0 : Int)).length) ∧ IntKind.u64.wrap n = n) ∧ IntKind.u64.wrap (n * 8) = n * 8) ∧ True) ∧ decide ((nz n).toNat + 8 ≤ (nz n + 8).toNat) = true) ∧ (8 ≤ 8 ∧ 0 + (nz n).toNat + 8 ≤ (TZ n).length)
theorem runT (n : Int) : (rT n oT).map (fun r => (r.1, r.2.obl, r.2.next, keepL [true, false] r.2.heap.get 0)) =
    some (.tuple #[.slice (some ⟨0, 0, none⟩) ((nz n).toNat + 8) (nz n + 8).toNat, .int .i64 0], pT n, [some (oI (TL n)), none].length, [some (oI (TL n)), none]) := by kernel_rfl
def tl (n : Nat) : Nat := 9 + (64 - (n + 9) % 64) % 64
def T (n : Nat) : List Int := 128 :: (List.replicate (tl n - 9) 0 ++ be8 ((n : Int) * 8))
theorem tl_b (n : Nat) : 9 ≤ tl n ∧ tl n ≤ 72 ∧ (n + tl n) % 64 = 0 := by unfold tl; omega
theorem T_len (n : Nat) : (T n).length = tl n := by
  have := tl_b n
  unfold T be8
  simp only [List.length_cons, List.length_append, List.length_replicate, List.length_nil]; omega
theorem nz_eq (n : Nat) : nz (n : Int) = ((tl n - 8 : Nat) : Int) := by
  unfold nz tl
  have h1 : ((n : Int) + 1 + 8).tmod 64 = ((n : Int) + 1 + 8) % 64 := Int.tmod_eq_emod_of_nonneg (by omega)
  have h2 : (64 - ((n : Int) + 1 + 8) % 64).tmod 64 = (64 - ((n : Int) + 1 + 8) % 64) % 64 := Int.tmod_eq_emod_of_nonneg (by omega)
  rw [h1, h2]; omega
theorem TL_eq (n : Nat) : TL (n : Int) = T n := by
  have hb := tl_b n
  unfold TL TZ T
  have e1 : (nz (n : Int) + 8).toNat = tl n := by rw [nz_eq]; omega
  have e2 : (nz (n : Int)).toNat = tl n - 8 := by rw [nz_eq]; omega
  rw [e1, e2, Nat.zero_add]
  have e3 : (List.replicate (tl n) (0 : Int)).set 0 128 = (128 :: List.replicate (tl n - 9) 0) ++ (List.replicate 8 0 ++ []) := by
    obtain ⟨k, hk⟩ : ∃ k, tl n = (k + 8) + 1 := ⟨tl n - 9, by omega⟩
    rw [hk, List.append_nil, List.cons_append, ← rep_split, List.replicate_succ, List.set_cons_zero]
    simp
  rw [e3, layI_mid (by simp; omega) (by simp [be8]), List.append_nil, List.cons_append]
theorem tail_ok (n : Nat) (h : n ≤ 1152921504606846976) : CallOk Try.prog 18 [.int .i64 (n : Int)] (smSt 0 [] []) (.tuple #[.slice (some ⟨0, 0, none⟩) (tl n) (tl n), .int .i64 0]) (smSt 0 [some (oI (T n)), none] []) := by
  have hb := tl_b n
  have := frame_by sw.pg KT_ok [true, false] (runT (n : Int)) ?_ rfl rfl
  · rw [TL_eq, nz_eq] at this
    rw [show ((tl n - 8 : Nat) : Int).toNat + 8 = tl n by omega, show (((tl n - 8 : Nat) : Int) + 8).toNat = tl n by omega] at this
    exact this
  · have e0 := nz_eq n
    unfold pT TZ
    simp only [List.length_set, List.length_replicate]
    rw [e0, Int.tmod_eq_emod_of_nonneg (by omega)]
    repeat' apply And.intro
    all_goals first | trivial | omega | (simp only [nI, decide_eq_true_eq, decide_eq_false_iff_not, IntKind.wrap_i64, IntKind.wrap_u64]; omega)
def F18 (f : FuncId) (args : List Value) (s : St) : Option Inst := if f == 18 then match args with
  | [.int .i64 (.ofNat n)] => some ⟨[], 0, [], [.int .i64 (n : Int)], .tuple #[.slice (some ⟨0, 0, none⟩) (tl n) (tl n), .int .i64 0], [some (oI (T n)), none], n ≤ 1152921504606846976⟩
  | _ => none else none
theorem F18_ok (f : FuncId) (args : List Value) (s : St) (i : Inst) (h : F18 f args s = some i) : Fits s i args ∧ (i.ask → CallOk Try.prog f i.args i.s0 i.val i.s1) := by
  unfold F18 at h
  split at h
  · rename_i hf
    have hf' : f = 18 := by simpa using hf
    subst hf'
    split at h
    · cases h
      exact ⟨⟨rfl, fun j p ob hp ho => by simp at hp⟩, fun ha => tail_ok _ ha⟩
    · cases h
  · cases h
end
end hy
end Go.Proofs.Yteknepfcbpoooaa
namespace Go.Proofs.Yteknepfcbpoooaa
open Go.ChangeShapes Go.WideShapes Go.ChangeAt Go.RowKit Go.Cln
namespace hy
open hc hx
set_option linter.unusedVariables false
noncomputable section
def FSq (f : FuncId) (args : List Value) (s : St) : Option Inst := match F18 f args s with
  | some i => some i
  | none => F34 f args s
theorem FS_ok (f : FuncId) (args : List Value) (s : St) (i : Inst) (h : FSq f args s = some i) : Fits s i args ∧ (i.ask → CallOk Try.prog f i.args i.s0 i.val i.s1) := by
  unfold FSq at h
  split at h
  · rename_i j h1
    cases h; exact F18_ok f args s _ h1
  · exact F34_ok f args s _ h
def KS (B : BF) : Given := { Given.frames (Given.calls (FB B)) FSq with fits := true }
theorem KS_ok : GivenOk Try.prog (KS sw.blk) := frames_fits (F_eq.frames FS_ok) true
def rSum (B : BF) (b : Nat → Int) (rn : Int) (s : sw.N5) (sz : Nat) (o : List (Option Bool)) : Option (Value × St) := (mk Try.prog (KS B) 300).call 23 [.pointer (some ⟨0, 0, none⟩)] (smSt 1 (hH b rn s (sz : Int)) o)
end
end hy
end Go.Proofs.Yteknepfcbpoooaa
namespace Go.Proofs.Yteknepfcbpoooaa
open Go.ChangeShapes Go.WideShapes Go.ChangeAt Go.RowKit Go.Cln
namespace hy
open hc hx
set_option linter.unusedVariables false
noncomputable section
def cR (L : List Int) (po pl pc : Nat) (rn : Int) (p : Prop) : Prop := (((((p ∧ decide ((pl : Int) > 0) = true) ∧ (0 ≤ ((64 : Nat) : Int) ∧ ((64 : Nat) : Int) ≤ ((64 : Nat) : Int) ∧ 0 ≤ rn ∧ rn ≤ ((64 : Nat) : Int))) ∧ (po + mm rn pl ≤ L.length ∧ 0 ≤ 0 + rn.toNat * 1 ∧ 0 + rn.toNat * 1 + mm rn pl ≤ 64)) ∧
  (0 ≤ (pl : Int) ∧ (pl : Int) ≤ (pc : Int) ∧ 0 ≤ ((mm rn pl : Nat) : Int) ∧ ((mm rn pl : Nat) : Int) ≤ (pl : Int))) ∧ IntKind.i64.wrap (rn + ((mm rn pl : Nat) : Int)) = rn + ((mm rn pl : Nat) : Int)) ∧ decide (rn + ((mm rn pl : Nat) : Int) < 64) = false
def po' (rn : Int) (po pl : Nat) : Nat := po + ((mm rn pl : Nat) : Int).toNat * 1
def pl' (rn : Int) (pl : Nat) : Nat := (pl : Int).toNat - ((mm rn pl : Nat) : Int).toNat
def pc' (rn : Int) (pl pc : Nat) : Nat := pc - ((mm rn pl : Nat) : Int).toNat
def tail5 (p : Prop) : Prop := ((((p ∧ True) ∧ True) ∧ True) ∧ True) ∧ True
def ot1 (X : sw.N5) : List Int := be4 X.a ++ (be4 X.b ++ (be4 X.c ++ (be4 X.d ++ be4 X.e)))
def outV (X : sw.N5) : Value := .agg (vI (ot1 X)).toArray
def s1 (B : BF) (L : List Int) (po pl : Nat) (b : Nat → Int) (rn : Int) (s : sw.N5) : sw.N5 := B s (intAt (rowV .u8 64 (nb L po pl b rn)))
def oS1 : List (Option Bool) := [none, none, none, none, none, none, none, none, none, some true, some true, some true, some true, some false, none, some false]
def oS2 : List (Option Bool) := [none, none, none, none, none, none, none, none, none, some true, some true, some true, some true, some false, none, some true, some true, some true, some true, some false, none, some false]
def ksS (k : Nat) : List Bool := true :: List.replicate k false
def hpS (b : Nat → Int) (rn : Int) (s : sw.N5) (sz : Int) (k : Nat) : List (Option Ob) := some (hO b rn s sz) :: List.replicate k none
theorem runS1 (B : BF) (b : Nat → Int) (rn : Int) (s : sw.N5) (sz : Nat) : (rSum B b rn s sz oS1).map (fun r => (r.1, r.2.obl, r.2.next, keepL (ksS 16) r.2.heap.get 0)) =
    some (outV (s1 B (T sz) 0 (tl sz) b rn s), tail5 (cR (T sz) 0 (tl sz) (tl sz) rn (True ∧ sz ≤ 1152921504606846976) ∧ decide (((pl' rn (tl sz) : Nat) : Int) > 0) = false), (hpS b rn s sz 16).length, hpS b rn s sz 16) := by kernel_rfl
theorem runS2 (B : BF) (b : Nat → Int) (rn : Int) (s : sw.N5) (sz : Nat) : (rSum B b rn s sz oS2).map (fun r => (r.1, r.2.obl, r.2.next, keepL (ksS 17) r.2.heap.get 0)) =
    some (outV (s1 B (T sz) (po' rn 0 (tl sz)) (pl' rn (tl sz)) (nb (T sz) 0 (tl sz) b rn) 0 (s1 B (T sz) 0 (tl sz) b rn s)),
      tail5 (cR (T sz) (po' rn 0 (tl sz)) (pl' rn (tl sz)) (pc' rn (tl sz) (tl sz)) 0 (cR (T sz) 0 (tl sz) (tl sz) rn (True ∧ sz ≤ 1152921504606846976)) ∧ decide (((pl' 0 (pl' rn (tl sz)) : Nat) : Int) > 0) = false), (hpS b rn s sz 17).length, hpS b rn s sz 17) := by kernel_rfl
theorem cR_of {L : List Int} {po pl pc : Nat} {rn : Int} {p : Prop} (hp : p) (h0 : 0 ≤ rn) (h1 : rn < 64) (h2 : po + pl ≤ L.length) (h3 : pl ≤ pc) (h4 : 0 < pl) (h5 : ¬ rn.toNat + pl < 64) : cR L po pl pc rn p := by
  obtain ⟨m1, m2, m3⟩ := mm_le rn pl
  unfold cR
  refine ⟨⟨⟨⟨⟨⟨hp, by rw [decide_eq_true_eq]; omega⟩, by omega⟩, by omega⟩, by omega⟩, by rw [IntKind.wrap_i64]; omega⟩, ?_⟩
  rw [decide_eq_false_iff_not]; omega
theorem sum_ok (b : Nat → Int) (rn : Int) (s : sw.N5) (sz : Nat) (h : sz ≤ 1152921504606846976) (hr : rn = ((sz % 64 : Nat) : Int)) :
    ∃ k, CallOk Try.prog 23 [.pointer (some ⟨0, 0, none⟩)] (smSt 1 (hH b rn s (sz : Int)) []) (outV (ab sw.blk (T sz) (tl sz) 0 (tl sz) b rn s).2.2) (smSt 1 (hpS b rn s sz k) []) ∧ (k = 16 ∧ sz % 64 < 56 ∨ k = 17 ∧ ¬ sz % 64 < 56) := by
  obtain ⟨t1, t2, t3⟩ := tl_b sz
  have ht : tl sz + sz % 64 = 64 ∧ sz % 64 < 56 ∨ tl sz + sz % 64 = 128 ∧ ¬ sz % 64 < 56 := by unfold tl; omega
  obtain ⟨m1, m2, m3⟩ := mm_le rn (tl sz)
  have hlen := T_len sz
  have hf : ¬ rn.toNat + tl sz < 64 := by omega
  have c1 : cR (T sz) 0 (tl sz) (tl sz) rn (True ∧ sz ≤ 1152921504606846976) := cR_of ⟨trivial, h⟩ (by omega) (by omega) (by omega) (by omega) (by omega) hf
  rcases ht with ⟨ht, hk⟩ | ⟨ht, hk⟩
  · refine ⟨16, ?_, .inl ⟨rfl, hk⟩⟩
    have := frame_by sw.pg KS_ok _ (runS1 sw.blk b rn s sz) ⟨⟨⟨⟨⟨⟨c1, ?_⟩, trivial⟩, trivial⟩, trivial⟩, trivial⟩, trivial⟩ (by rfl) rfl
    · have e : (ab sw.blk (T sz) (tl sz) 0 (tl sz) b rn s).2.2 = s1 sw.blk (T sz) 0 (tl sz) b rn s := by
        obtain ⟨f, hfe⟩ : ∃ f, tl sz = f + 1 := ⟨tl sz - 1, by omega⟩
        rw [show ab sw.blk (T sz) (tl sz) 0 (tl sz) b rn s = ab sw.blk (T sz) (f + 1) 0 (tl sz) b rn s by rw [hfe], ab_full (by omega) hf, show tl sz - mm rn (tl sz) = 0 by omega, ab_zero]
        rfl
      rw [e]; exact this
    · rw [decide_eq_false_iff_not]; unfold pl'; omega
  · refine ⟨17, ?_, .inr ⟨rfl, hk⟩⟩
    obtain ⟨n1, n2, n3⟩ := mm_le 0 (tl sz - mm rn (tl sz))
    obtain ⟨e1, e2, e3⟩ := nx_eq rn 0 (tl sz) (tl sz)
    have c2 : cR (T sz) (po' rn 0 (tl sz)) (pl' rn (tl sz)) (pc' rn (tl sz) (tl sz)) 0 (cR (T sz) 0 (tl sz) (tl sz) rn (True ∧ sz ≤ 1152921504606846976)) := by
      unfold po' pl' pc'
      rw [e1, e2, e3]
      exact cR_of c1 (by omega) (by omega) (by omega) (by omega) (by omega) (by simp; omega)
    have := frame_by sw.pg KS_ok _ (runS2 sw.blk b rn s sz) ⟨⟨⟨⟨⟨⟨c2, ?_⟩, trivial⟩, trivial⟩, trivial⟩, trivial⟩, trivial⟩ (by rfl) rfl
    · have e : (ab sw.blk (T sz) (tl sz) 0 (tl sz) b rn s).2.2 = s1 sw.blk (T sz) (po' rn 0 (tl sz)) (pl' rn (tl sz)) (nb (T sz) 0 (tl sz) b rn) 0 (s1 sw.blk (T sz) 0 (tl sz) b rn s) := by
        obtain ⟨f, hfe⟩ : ∃ f, tl sz = f + 2 := ⟨tl sz - 2, by omega⟩
        rw [show ab sw.blk (T sz) (tl sz) 0 (tl sz) b rn s = ab sw.blk (T sz) (f + 1 + 1) 0 (tl sz) b rn s by rw [hfe], ab_full (by omega) hf, ab_full (by omega) (by simp; omega), show tl sz - mm rn (tl sz) - mm 0 (tl sz - mm rn (tl sz)) = 0 by omega, ab_zero]
        unfold po' pl'
        rw [e1, e2]
        rfl
      rw [e]; exact this
    · rw [decide_eq_false_iff_not]; unfold pl'
      rw [e2]
      omega
end
end hy
end Go.Proofs.Yteknepfcbpoooaa
namespace Go.Proofs.Yteknepfcbpoooaa
open Go.ChangeShapes Go.WideShapes Go.ChangeAt Go.RowKit Go.Cln
namespace hw
set_option linter.unusedVariables false
noncomputable section
open hc
noncomputable def EH (L : List Int) (o n c po pl pc : Nat) (b : Nat → Int) (rn : Int) (s : sw.N5) (sz z0 z1 z2 : Int) : Nat → Option Ob := fun i => match i with
  | 0 => some (.cells (.ints .u8 L) 5)
  | 1 => some (.cells (.lit (rowV .u8 64 b ++ (.int .i64 rn :: (s.row ++ [.int .i64 sz, .bool true])))) 73)
  | 2 => some (.cells (.lit ([.pointer (some ⟨1, 0, none⟩)])) 47)
  | 3 => some (.cells (.lit ([.slice (some ⟨0, o, none⟩) n c])) 22)
  | 4 => some (.cells (.lit ([.pointer (some ⟨1, 0, none⟩)])) 80)
  | 5 => some (.cells (.lit ([.slice (some ⟨3, 0, none⟩) 1 1])) 27)
  | 6 => some (.marks)
  | 7 => some (.loop ⟨.ready, none, [.pointer (some ⟨1, 0, none⟩), .slice (some ⟨0, o, none⟩) n c, .pointer (some ⟨2, 0, none⟩), undef, .int .i64 0, undef, .pointer (some ⟨1, 0, none⟩), .bool false, .pointer (some ⟨1, 0, none⟩), .pointer (some ⟨1, 0, none⟩), .pointer (some ⟨1, 70, none⟩), .int .i64 z0, .slice (some ⟨0, o, none⟩) n c, .int .i64 z1, .int .i64 z2, .pointer (some ⟨1, 0, none⟩), .pointer (some ⟨1, 70, none⟩), .pointer (some ⟨1, 0, none⟩), .pointer (some ⟨1, 0, none⟩), .pointer (some ⟨1, 0, none⟩), .slice (some ⟨0, o, none⟩) n c, .slice (some ⟨3, 0, none⟩) 1 1, .func (.func 40) #[] #[.pointer (some ⟨5, 0, none⟩), .pointer (some ⟨4, 0, none⟩)]] ++ U 10, #[23], (rngAt Try.prog 22 0).2.1, (rngAt Try.prog 22 0).2.2, 6⟩)
  | _ => none
noncomputable def E (L : List Int) (o n c po pl pc : Nat) (b : Nat → Int) (rn : Int) (s : sw.N5) (sz z0 z1 z2 : Int) : St := ⟨[.func (.yield 7) #[] #[], .pointer (some ⟨5, 0, none⟩), .pointer (some ⟨4, 0, none⟩), undef, undef, .slice (some ⟨0, po, none⟩) pl pc, undef, .slice (some ⟨3, 0, none⟩) 1 1, .int .i64 1, .int .i64 0, .bool true, .pointer (some ⟨3, 0, none⟩), .slice (some ⟨0, o, none⟩) n c] ++ U 40, [], Tr.rebuild (EH L o n c po pl pc b rn s sz z0 z1 z2) 8, 8, 1, [], fun _ => false, True, []⟩
noncomputable def RH (L : List Int) (o n c po pl pc : Nat) (b : Nat → Int) (rn : Int) (s : sw.N5) (sz z0 z1 z2 : Int) : Nat → Option Ob := fun i => match i with
  | 0 => some (.cells (.ints .u8 L) 5)
  | 1 => some (.cells (.lit (rowV .u8 64 b ++ (.int .i64 rn :: (s.row ++ [.int .i64 sz, .bool true])))) 73)
  | 2 => some (.cells (.lit ([.pointer (some ⟨1, 0, none⟩)])) 47)
  | 3 => some (.cells (.lit ([.slice (some ⟨0, o, none⟩) n c])) 22)
  | 4 => some (.cells (.lit ([.pointer (some ⟨1, 0, none⟩)])) 80)
  | 5 => some (.cells (.lit ([.slice (some ⟨3, 0, none⟩) 1 1])) 27)
  | 6 => some (.marks)
  | 7 => some (.loop ⟨.ready, none, [.pointer (some ⟨1, 0, none⟩), .slice (some ⟨0, o, none⟩) n c, .pointer (some ⟨2, 0, none⟩), undef, .int .i64 0, undef, .pointer (some ⟨1, 0, none⟩), .bool false, .pointer (some ⟨1, 0, none⟩), .pointer (some ⟨1, 0, none⟩), .pointer (some ⟨1, 70, none⟩), .int .i64 z0, .slice (some ⟨0, o, none⟩) n c, .int .i64 z1, .int .i64 z2, .pointer (some ⟨1, 0, none⟩), .pointer (some ⟨1, 70, none⟩), .pointer (some ⟨1, 0, none⟩), .pointer (some ⟨1, 0, none⟩), .pointer (some ⟨1, 0, none⟩), .slice (some ⟨0, o, none⟩) n c, .slice (some ⟨3, 0, none⟩) 1 1, .func (.func 40) #[] #[.pointer (some ⟨5, 0, none⟩), .pointer (some ⟨4, 0, none⟩)]] ++ U 10, #[23], (rngAt Try.prog 22 0).2.1, (rngAt Try.prog 22 0).2.2, 6⟩)
  | _ => none
noncomputable def R (L : List Int) (o n c po pl pc : Nat) (b : Nat → Int) (rn : Int) (s : sw.N5) (sz z0 z1 z2 : Int) : St := ⟨[.func (.yield 7) #[] #[], .pointer (some ⟨5, 0, none⟩), .pointer (some ⟨4, 0, none⟩), undef, undef, .slice (some ⟨0, po, none⟩) pl pc, junk, .slice (some ⟨3, 0, none⟩) 1 1, .int .i64 1, .int .i64 0, .bool true, .pointer (some ⟨3, 0, none⟩), .slice (some ⟨0, o, none⟩) n c, junk, junk, .bool true, .pointer (some ⟨1, 0, none⟩), .pointer (some ⟨1, 0, none⟩), .pointer (some ⟨1, 0, none⟩), .pointer (some ⟨1, 0, none⟩), .pointer (some ⟨1, 0, none⟩), .pointer (some ⟨1, 64, none⟩)] ++ J 7 ++ [.pointer (some ⟨1, 0, none⟩), .pointer (some ⟨1, 0, none⟩), .pointer (some ⟨1, 64, none⟩)] ++ J 3 ++ [.pointer (some ⟨1, 0, none⟩), .pointer (some ⟨1, 64, none⟩), .pointer (some ⟨1, 0, none⟩), .pointer (some ⟨1, 0, none⟩), .pointer (some ⟨1, 64, none⟩), junk, .bool false, .pointer (some ⟨1, 0, none⟩), .pointer (some ⟨1, 0, none⟩), .pointer (some ⟨1, 64, none⟩), .func (.yield 7) #[] #[], .pointer (some ⟨1, 0, none⟩), .pointer (some ⟨1, 0, none⟩), .pointer (some ⟨1, 0, none⟩), .agg #[junk, junk, junk, junk, junk, junk, junk, junk, junk, junk, junk, junk, junk, junk, junk, junk, junk, junk, junk, junk, junk, junk, junk, junk, junk, junk, junk, junk, junk, junk, junk, junk, junk, junk, junk, junk, junk, junk, junk, junk, junk, junk, junk, junk, junk, junk, junk, junk, junk, junk, junk, junk, junk, junk, junk, junk, junk, junk, junk, junk, junk, junk, junk, junk], .bool true, .bool false, undef], [], Tr.rebuild (RH L o n c po pl pc b rn s sz z0 z1 z2) 8, 8, 1, [], fun _ => false, True, []⟩
noncomputable def XH (L : List Int) (o n c : Nat) (b : Nat → Int) (rn : Int) (s : sw.N5) (sz z0 z1 z2 : Int) : Nat → Option Ob := fun i => match i with
  | 0 => some (.cells (.ints .u8 L) 5)
  | 1 => some (.cells (.lit (rowV .u8 64 b ++ (.int .i64 rn :: (s.row ++ [.int .i64 sz, .bool true])))) 73)
  | 2 => some (.cells (.lit ([.pointer (some ⟨1, 0, none⟩)])) 47)
  | 3 => some (.cells (.lit ([.slice (some ⟨0, o, none⟩) n c])) 22)
  | 4 => some (.cells (.lit ([.pointer (some ⟨1, 0, none⟩)])) 80)
  | 5 => some (.cells (.lit ([.slice (some ⟨3, 0, none⟩) 1 1])) 27)
  | 6 => some (.marks)
  | 7 => some (.loop ⟨.ready, none, [.pointer (some ⟨1, 0, none⟩), .slice (some ⟨0, o, none⟩) n c, .pointer (some ⟨2, 0, none⟩), undef, .int .i64 0, undef, .pointer (some ⟨1, 0, none⟩), .bool false, .pointer (some ⟨1, 0, none⟩), .pointer (some ⟨1, 0, none⟩), .pointer (some ⟨1, 70, none⟩), .int .i64 z0, .slice (some ⟨0, o, none⟩) n c, .int .i64 z1, .int .i64 z2, .pointer (some ⟨1, 0, none⟩), .pointer (some ⟨1, 70, none⟩), .pointer (some ⟨1, 0, none⟩), .pointer (some ⟨1, 0, none⟩), .pointer (some ⟨1, 0, none⟩), .slice (some ⟨0, o, none⟩) n c, .slice (some ⟨3, 0, none⟩) 1 1, .func (.func 40) #[] #[.pointer (some ⟨5, 0, none⟩), .pointer (some ⟨4, 0, none⟩)]] ++ U 10, #[23], (rngAt Try.prog 22 0).2.1, (rngAt Try.prog 22 0).2.2, 6⟩)
  | _ => none
noncomputable def X (L : List Int) (o n c : Nat) (b : Nat → Int) (rn : Int) (s : sw.N5) (sz z0 z1 z2 : Int) : St := ⟨[.func (.yield 7) #[] #[], .pointer (some ⟨5, 0, none⟩), .pointer (some ⟨4, 0, none⟩), undef, undef, junk, junk, .slice (some ⟨3, 0, none⟩) 1 1, .int .i64 1, .int .i64 0, .bool true, .pointer (some ⟨3, 0, none⟩), .slice (some ⟨0, o, none⟩) n c, junk, junk, junk, .pointer (some ⟨1, 0, none⟩), .pointer (some ⟨1, 0, none⟩), .pointer (some ⟨1, 0, none⟩), .pointer (some ⟨1, 0, none⟩), .pointer (some ⟨1, 0, none⟩), .pointer (some ⟨1, 64, none⟩)] ++ J 7 ++ [.pointer (some ⟨1, 0, none⟩), .pointer (some ⟨1, 0, none⟩), .pointer (some ⟨1, 64, none⟩)] ++ J 3 ++ [.pointer (some ⟨1, 0, none⟩), .pointer (some ⟨1, 64, none⟩), .pointer (some ⟨1, 0, none⟩), .pointer (some ⟨1, 0, none⟩), .pointer (some ⟨1, 64, none⟩), junk, junk, .pointer (some ⟨1, 0, none⟩), .pointer (some ⟨1, 0, none⟩), .pointer (some ⟨1, 64, none⟩), .func (.yield 7) #[] #[], .pointer (some ⟨1, 0, none⟩), .pointer (some ⟨1, 0, none⟩), .pointer (some ⟨1, 0, none⟩), .agg #[junk, junk, junk, junk, junk, junk, junk, junk, junk, junk, junk, junk, junk, junk, junk, junk, junk, junk, junk, junk, junk, junk, junk, junk, junk, junk, junk, junk, junk, junk, junk, junk, junk, junk, junk, junk, junk, junk, junk, junk, junk, junk, junk, junk, junk, junk, junk, junk, junk, junk, junk, junk, junk, junk, junk, junk, junk, junk, junk, junk, junk, junk, junk, junk], .bool true, .bool false, undef], [], Tr.rebuild (XH L o n c b rn s sz z0 z1 z2) 8, 8, 1, [], fun _ => false, True, []⟩
noncomputable def pR (L : List Int) (po pl pc : Nat) (rn : Int) (e : Bool) : Prop := ((((True ∧ decide ((pl : Int) > 0) = true) ∧ (0 ≤ ((64 : Nat) : Int) ∧ ((64 : Nat) : Int) ≤ ((64 : Nat) : Int) ∧ 0 ≤ rn ∧ rn ≤ ((64 : Nat) : Int))) ∧ (po + mm rn pl ≤ L.length ∧ 0 ≤ 0 + rn.toNat * 1 ∧ 0 + rn.toNat * 1 + mm rn pl ≤ 64)) ∧ (0 ≤ (pl : Int) ∧ (pl : Int) ≤ (pc : Int) ∧ 0 ≤ ((mm rn pl : Nat) : Int) ∧ ((mm rn pl : Nat) : Int) ≤ (pl : Int))) ∧ decide (IntKind.i64.wrap (rn + ((mm rn pl : Nat) : Int)) < 64) = e
theorem kE (B : BF) (L : List Int) (o n c po pl pc : Nat) (b : Nat → Int) (rn : Int) (s : sw.N5) (sz z0 z1 z2 : Int) (rd : Option Nat) : ((mk Try.prog (Given.calls (FB B)) 200).code 40 rd body { E L o n c po pl pc b rn s sz z0 z1 z2 with obl := True, orc := [some true, some true, some true, some false] }).map (fun r => (r.1, r.2.obl, seenIn r.2 (R L o n c (po + ((mm rn pl : Nat) : Int).toNat * 1) ((pl : Int).toNat - ((mm rn pl : Nat) : Int).toNat) (pc - ((mm rn pl : Nat) : Int).toNat) (nb L po pl b rn) 0 (B s (intAt (rowV .u8 64 (nb L po pl b rn)))) sz z0 z1 z2) [])) = some (.normal, pR L po pl pc rn false, seenAs (R L o n c (po + ((mm rn pl : Nat) : Int).toNat * 1) ((pl : Int).toNat - ((mm rn pl : Nat) : Int).toNat) (pc - ((mm rn pl : Nat) : Int).toNat) (nb L po pl b rn) 0 (B s (intAt (rowV .u8 64 (nb L po pl b rn)))) sz z0 z1 z2) [] 9) := by kernel_rfl
theorem kR (B : BF) (L : List Int) (o n c po pl pc : Nat) (b : Nat → Int) (rn : Int) (s : sw.N5) (sz z0 z1 z2 : Int) (rd : Option Nat) : ((mk Try.prog (Given.calls (FB B)) 200).code 40 rd body { R L o n c po pl pc b rn s sz z0 z1 z2 with obl := True, orc := [some true, some true, some true, some false] }).map (fun r => (r.1, r.2.obl, seenIn r.2 (R L o n c (po + ((mm rn pl : Nat) : Int).toNat * 1) ((pl : Int).toNat - ((mm rn pl : Nat) : Int).toNat) (pc - ((mm rn pl : Nat) : Int).toNat) (nb L po pl b rn) 0 (B s (intAt (rowV .u8 64 (nb L po pl b rn)))) sz z0 z1 z2) [])) = some (.normal, pR L po pl pc rn false, seenAs (R L o n c (po + ((mm rn pl : Nat) : Int).toNat * 1) ((pl : Int).toNat - ((mm rn pl : Nat) : Int).toNat) (pc - ((mm rn pl : Nat) : Int).toNat) (nb L po pl b rn) 0 (B s (intAt (rowV .u8 64 (nb L po pl b rn)))) sz z0 z1 z2) [] 9) := by kernel_rfl
theorem kP (B : BF) (L : List Int) (o n c po pl pc : Nat) (b : Nat → Int) (rn : Int) (s : sw.N5) (sz z0 z1 z2 : Int) (rd : Option Nat) : ((mk Try.prog (Given.calls (FB B)) 200).code 40 rd body { R L o n c po pl pc b rn s sz z0 z1 z2 with obl := True, orc := [some true, some true, some true, some true] }).map (fun r => (r.1, r.2.obl, seenIn r.2 (X L o n c (nb L po pl b rn) (IntKind.i64.wrap (rn + ((mm rn pl : Nat) : Int))) s sz z0 z1 z2) [])) = some (.exit 2, pR L po pl pc rn true, seenAs (X L o n c (nb L po pl b rn) (IntKind.i64.wrap (rn + ((mm rn pl : Nat) : Int))) s sz z0 z1 z2) [] 8) := by kernel_rfl
theorem kX (B : BF) (L : List Int) (o n c po pl pc : Nat) (b : Nat → Int) (rn : Int) (s : sw.N5) (sz z0 z1 z2 : Int) (rd : Option Nat) : ((mk Try.prog (Given.calls (FB B)) 200).code 40 rd body { R L o n c po pl pc b rn s sz z0 z1 z2 with obl := True, orc := [some false] }).map (fun r => (r.1, r.2.obl, seenIn r.2 (X L o n c b rn s sz z0 z1 z2) [])) = some (.exit 2, True ∧ decide ((pl : Int) > 0) = false, seenAs (X L o n c b rn s sz z0 z1 z2) [] 8) := by kernel_rfl
end
end hw
end Go.Proofs.Yteknepfcbpoooaa
namespace Go.Proofs.Yteknepfcbpoooaa
open Go.ChangeShapes Go.WideShapes Go.ChangeAt Go.RowKit Go.Cln
namespace hw
open hc
set_option linter.unusedVariables false
noncomputable section
theorem pR_of {L : List Int} {po pl pc : Nat} {rn : Int} {e : Bool} (h0 : 0 ≤ rn) (h1 : rn < 64) (h2 : po + pl ≤ L.length) (h3 : pl ≤ pc) (h4 : 0 < pl) (h5 : (rn.toNat + pl < 64) = (e = true)) : pR L po pl pc rn e := by
  obtain ⟨m1, m2, m3⟩ := mm_le rn pl
  unfold pR
  refine ⟨⟨⟨⟨⟨trivial, by rw [decide_eq_true_eq]; omega⟩, by omega⟩, by omega⟩, by omega⟩, ?_⟩
  have ew : IntKind.i64.wrap (rn + ((mm rn pl : Nat) : Int)) = rn + ((mm rn pl : Nat) : Int) := by rw [IntKind.wrap_i64]; omega
  rw [ew]
  cases e with
  | true => have : rn.toNat + pl < 64 := by rw [h5]
            rw [decide_eq_true_eq]; omega
  | false => have : ¬ rn.toNat + pl < 64 := by rw [h5]; simp
             rw [decide_eq_false_iff_not]; omega
theorem stE0 (L : List Int) (o n c po pl pc : Nat) (b : Nat → Int) (rn : Int) (s : sw.N5) (sz z0 z1 z2 : Int)  (rd : Option Nat) (hp : pR L po pl pc rn false) :
    Step Try.prog rd (E L o n c po pl pc b rn s sz z0 z1 z2) body (E L o n c po pl pc b rn s sz z0 z1 z2) (fun e t => e = .normal ∧ t = R L o n c (po + ((mm rn pl : Nat) : Int).toNat * 1) ((pl : Int).toNat - ((mm rn pl : Nat) : Int).toNat) (pc - ((mm rn pl : Nat) : Int).toNat) (nb L po pl b rn) 0 (sw.blk s (intAt (rowV .u8 64 (nb L po pl b rn)))) sz z0 z1 z2) :=
  Step.std sw.pg F_eq (kE sw.blk L o n c po pl pc b rn s sz z0 z1 z2 rd) hp (Nat.le_refl _) (g := RH L o n c (po + ((mm rn pl : Nat) : Int).toNat * 1) ((pl : Int).toNat - ((mm rn pl : Nat) : Int).toNat) (pc - ((mm rn pl : Nat) : Int).toNat) (nb L po pl b rn) 0 (sw.blk s (intAt (rowV .u8 64 (nb L po pl b rn)))) sz z0 z1 z2) rfl (by kernel_rfl)
theorem stR0 (L : List Int) (o n c po pl pc : Nat) (b : Nat → Int) (rn : Int) (s : sw.N5) (sz z0 z1 z2 : Int) (po0 pl0 pc0 : Nat) (b0 : Nat → Int) (rn0 : Int) (s0 : sw.N5) (rd : Option Nat) (hp : pR L po pl pc rn false) :
    Step Try.prog rd (E L o n c po0 pl0 pc0 b0 rn0 s0 sz z0 z1 z2) body (R L o n c po pl pc b rn s sz z0 z1 z2) (fun e t => e = .normal ∧ t = R L o n c (po + ((mm rn pl : Nat) : Int).toNat * 1) ((pl : Int).toNat - ((mm rn pl : Nat) : Int).toNat) (pc - ((mm rn pl : Nat) : Int).toNat) (nb L po pl b rn) 0 (sw.blk s (intAt (rowV .u8 64 (nb L po pl b rn)))) sz z0 z1 z2) :=
  Step.std sw.pg F_eq (kR sw.blk L o n c po pl pc b rn s sz z0 z1 z2 rd) hp (Nat.le_refl _) (g := RH L o n c (po + ((mm rn pl : Nat) : Int).toNat * 1) ((pl : Int).toNat - ((mm rn pl : Nat) : Int).toNat) (pc - ((mm rn pl : Nat) : Int).toNat) (nb L po pl b rn) 0 (sw.blk s (intAt (rowV .u8 64 (nb L po pl b rn)))) sz z0 z1 z2) rfl (by kernel_rfl)
theorem stP0 (L : List Int) (o n c po pl pc : Nat) (b : Nat → Int) (rn : Int) (s : sw.N5) (sz z0 z1 z2 : Int) (po0 pl0 pc0 : Nat) (b0 : Nat → Int) (rn0 : Int) (s0 : sw.N5) (rd : Option Nat) (hp : pR L po pl pc rn true) :
    Step Try.prog rd (E L o n c po0 pl0 pc0 b0 rn0 s0 sz z0 z1 z2) body (R L o n c po pl pc b rn s sz z0 z1 z2) (fun e t => e = .exit 2 ∧ t = X L o n c (nb L po pl b rn) (IntKind.i64.wrap (rn + ((mm rn pl : Nat) : Int))) s sz z0 z1 z2) :=
  Step.std sw.pg F_eq (kP sw.blk L o n c po pl pc b rn s sz z0 z1 z2 rd) hp (Nat.le_refl _) (g := XH L o n c (nb L po pl b rn) (IntKind.i64.wrap (rn + ((mm rn pl : Nat) : Int))) s sz z0 z1 z2) rfl (by kernel_rfl)
theorem stX (L : List Int) (o n c po pl pc : Nat) (b : Nat → Int) (rn : Int) (s : sw.N5) (sz z0 z1 z2 : Int) (po0 pl0 pc0 : Nat) (b0 : Nat → Int) (rn0 : Int) (s0 : sw.N5) (rd : Option Nat) (hp : True ∧ decide ((pl : Int) > 0) = false) :
    Step Try.prog rd (E L o n c po0 pl0 pc0 b0 rn0 s0 sz z0 z1 z2) body (R L o n c po pl pc b rn s sz z0 z1 z2) (fun e t => e = .exit 2 ∧ t = X L o n c b rn s sz z0 z1 z2) :=
  Step.std sw.pg F_eq (kX sw.blk L o n c po pl pc b rn s sz z0 z1 z2 rd) hp (Nat.le_refl _) (g := XH L o n c b rn s sz z0 z1 z2) rfl (by kernel_rfl)
theorem loopW (L : List Int) (o n c po pl pc : Nat) (b : Nat → Int) (rn : Int) (s : sw.N5) (sz z0 z1 z2 : Int) (rd : Option Nat) (h0 : 0 ≤ rn) (h1 : rn < 64) (h2 : po + pl ≤ L.length) (h3 : pl ≤ pc) (h5 : 64 ≤ rn.toNat + pl) :
    CodeOk Try.prog rd (.loop body) (E L o n c po pl pc b rn s sz z0 z1 z2) (.exit 2) (X L o n c (ab sw.blk L pl po pl b rn s).1 (ab sw.blk L pl po pl b rn s).2.1 (ab sw.blk L pl po pl b rn s).2.2 sz z0 z1 z2) := by
  refine CodeOk.of_step (Step.loop (fun k t => (k = pl ∧ t = E L o n c po pl pc b rn s sz z0 z1 z2) ∨ ∃ (po' pl' pc' : Nat) (b' : Nat → Int) (s' : sw.N5), k = pl' ∧ pl' < pl ∧ pl' ≤ pc' ∧ po' + pl' ≤ L.length ∧ t = R L o n c po' pl' pc' b' 0 s' sz z0 z1 z2 ∧ (∀ f, pl' ≤ f → ab sw.blk L f po' pl' b' 0 s' = ab sw.blk L pl po pl b rn s)) ?_ pl _ (.inl ⟨rfl, rfl⟩))
  rintro k t (⟨rfl, rfl⟩ | ⟨po', pl', pc', b', s', rfl, g1, g2, g3, rfl, g4⟩)
  · refine (stE0 L o n c po k pc b rn s sz z0 z1 z2 rd (pR_of h0 h1 h2 h3 (by omega) (by simp; omega))).mono ?_
    rintro e t ⟨rfl, rfl⟩
    obtain ⟨m1, m2, m3⟩ := mm_le rn k
    obtain ⟨e1, e2, e3⟩ := nx_eq rn po k pc
    exact .inl ⟨rfl, k - mm rn k, by omega, .inr ⟨po + mm rn k, k - mm rn k, pc - mm rn k, _, _, rfl, by omega, by omega, by omega, by rw [e1, e2, e3], fun f hf => ab_next h1 (by omega) (by omega) (Nat.le_refl _) hf⟩⟩
  · by_cases hz : k = 0
    · subst hz
      refine (stX L o n c po' 0 pc' b' 0 s' sz z0 z1 z2 po pl pc b rn s rd ⟨trivial, by simp⟩).mono ?_
      rintro e t ⟨rfl, rfl⟩
      refine .inr ⟨(by intro x; cases x), rfl, ?_⟩
      rw [← g4 0 (by omega), ab_zero]
    · by_cases hp : (0 : Int).toNat + k < 64
      · refine (stP0 L o n c po' k pc' b' 0 s' sz z0 z1 z2 po pl pc b rn s rd (pR_of (by omega) (by omega) g3 g2 (by omega) (by simp at hp ⊢; omega))).mono ?_
        rintro e t ⟨rfl, rfl⟩
        refine .inr ⟨(by intro x; cases x), rfl, ?_⟩
        rw [← g4 k (by omega), ab_part (by omega) (Nat.le_refl _) hp]
        obtain ⟨m1, m2, m3⟩ := mm_le 0 k
        have ew : IntKind.i64.wrap ((0 : Int) + ((mm 0 k : Nat) : Int)) = 0 + (k : Int) := by rw [IntKind.wrap_i64]; omega
        rw [ew]
      · refine (stR0 L o n c po' k pc' b' 0 s' sz z0 z1 z2 po pl pc b rn s rd (pR_of (by omega) (by omega) g3 g2 (by omega) (by simp at hp ⊢; omega))).mono ?_
        rintro e t ⟨rfl, rfl⟩
        obtain ⟨m1, m2, m3⟩ := mm_le 0 k
        obtain ⟨e1, e2, e3⟩ := nx_eq 0 po' k pc'
        exact .inl ⟨rfl, k - mm 0 k, by omega, .inr ⟨po' + mm 0 k, k - mm 0 k, pc' - mm 0 k, _, _, rfl, by omega, by omega, by omega, by rw [e1, e2, e3], fun f hf => (ab_next (by omega) (by omega) hp (Nat.le_refl _) hf).trans (g4 k (Nat.le_refl _))⟩⟩
end
end hw
end Go.Proofs.Yteknepfcbpoooaa
namespace Go.Proofs.Yteknepfcbpoooaa
open Go.ChangeShapes Go.WideShapes Go.ChangeAt Go.RowKit Go.Cln
namespace hw
open hc
set_option linter.unusedVariables false
noncomputable section
noncomputable def askW (X : St) (f : FuncId) (c : Code) (S : St) : Option Ask2 := if f == 40 then match getL S.tmps 5 with
  | .slice (some _) _ _ => some ⟨⟨[], [], [], []⟩, .exit 2, fun _ => X⟩
  | _ => none else none
theorem wC (L : List Int) (o n c : Nat) (b : Nat → Int) (rn : Int) (s : sw.N5) (sz : Int) (b1 : Nat → Int) (rn1 : Int) (s1 : sw.N5) : ((mk Try.prog (Given.asking2 Given.nothing Try.prog (askW (X L o n c b1 rn1 s1 (IntKind.i64.wrap (sz + (n : Int))) sz (n : Int) (IntKind.i64.wrap (sz + (n : Int)))))) 200).call 22 [.pointer (some ⟨1, 0, none⟩), .slice (some ⟨0, o, none⟩) n c] (smSt 1 [some (Ob.cells (.ints .u8 L) 5), some (Ob.cells (.lit (rowV .u8 64 b ++ (.int .i64 rn :: ((s).row ++ [.int .i64 sz, .bool true])))) 73)] [])).map (fun r => (r.1, r.2.obl, r.2.next, keepL [true, true, false, false, false, false, false, false] r.2.heap.get 0)) = some (.int .i64 0, True ∧ (∀ rd, CodeOk Try.prog rd (.loop body) (E L o n c o n c b rn s (IntKind.i64.wrap (sz + (n : Int))) sz (n : Int) (IntKind.i64.wrap (sz + (n : Int)))) (.exit 2) (X L o n c b1 rn1 s1 (IntKind.i64.wrap (sz + (n : Int))) sz (n : Int) (IntKind.i64.wrap (sz + (n : Int))))), (some (Ob.cells (.ints .u8 L) 5) :: some (Ob.cells (.lit (rowV .u8 64 b1 ++ (.int .i64 rn1 :: ((s1).row ++ [.int .i64 (IntKind.i64.wrap (sz + (n : Int))), .bool true])))) 73) :: List.replicate 6 none).length, (some (Ob.cells (.ints .u8 L) 5) :: some (Ob.cells (.lit (rowV .u8 64 b1 ++ (.int .i64 rn1 :: ((s1).row ++ [.int .i64 (IntKind.i64.wrap (sz + (n : Int))), .bool true])))) 73) :: List.replicate 6 none)) := by kernel_rfl
theorem wA (L : List Int) (o n c : Nat) (b : Nat → Int) (rn : Int) (s : sw.N5) (sz : Int) : ((mk Try.prog Given.nothing 200).call 22 [.pointer (some ⟨1, 0, none⟩), .slice (some ⟨0, o, none⟩) n c] (smSt 1 [some (Ob.cells (.ints .u8 L) 5), some (Ob.cells (.lit (rowV .u8 64 b ++ (.int .i64 rn :: ((s).row ++ [.int .i64 sz, .bool true])))) 73)] [none, none, none, none, none, none, none, none, none, some false])).map (fun r => (r.1, r.2.obl, r.2.next, keepL [true, true, false, false, false, false, false, false] r.2.heap.get 0)) = some (.int .i64 0, True ∧ decide ((n : Int) > 0) = false, (some (Ob.cells (.ints .u8 L) 5) :: some (Ob.cells (.lit (rowV .u8 64 b ++ (.int .i64 rn :: ((s).row ++ [.int .i64 (IntKind.i64.wrap (sz + (n : Int))), .bool true])))) 73) :: List.replicate 6 none).length, (some (Ob.cells (.ints .u8 L) 5) :: some (Ob.cells (.lit (rowV .u8 64 b ++ (.int .i64 rn :: ((s).row ++ [.int .i64 (IntKind.i64.wrap (sz + (n : Int))), .bool true])))) 73) :: List.replicate 6 none)) := by kernel_rfl
theorem wB (L : List Int) (o n c : Nat) (b : Nat → Int) (rn : Int) (s : sw.N5) (sz : Int) : ((mk Try.prog Given.nothing 200).call 22 [.pointer (some ⟨1, 0, none⟩), .slice (some ⟨0, o, none⟩) n c] (smSt 1 [some (Ob.cells (.ints .u8 L) 5), some (Ob.cells (.lit (rowV .u8 64 b ++ (.int .i64 rn :: ((s).row ++ [.int .i64 sz, .bool true])))) 73)] [none, none, none, none, none, none, none, none, none, some true, some true, some true, some true])).map (fun r => (r.1, r.2.obl, r.2.next, keepL [true, true, false, false, false, false, false, false] r.2.heap.get 0)) = some (.int .i64 0, pR L o n c rn true, (some (Ob.cells (.ints .u8 L) 5) :: some (Ob.cells (.lit (rowV .u8 64 (nb L o n b rn) ++ (.int .i64 (IntKind.i64.wrap (rn + ((mm rn n : Nat) : Int))) :: ((s).row ++ [.int .i64 (IntKind.i64.wrap (sz + (n : Int))), .bool true])))) 73) :: List.replicate 6 none).length, (some (Ob.cells (.ints .u8 L) 5) :: some (Ob.cells (.lit (rowV .u8 64 (nb L o n b rn) ++ (.int .i64 (IntKind.i64.wrap (rn + ((mm rn n : Nat) : Int))) :: ((s).row ++ [.int .i64 (IntKind.i64.wrap (sz + (n : Int))), .bool true])))) 73) :: List.replicate 6 none)) := by kernel_rfl
theorem wr_ok (L : List Int) (o n c : Nat) (b : Nat → Int) (rn : Int) (s : sw.N5) (sz : Int) (h0 : 0 ≤ rn) (h1 : rn < 64) (h2 : o + n ≤ L.length) (h3 : n ≤ c) : CallOk Try.prog 22 [.pointer (some ⟨1, 0, none⟩), .slice (some ⟨0, o, none⟩) n c] (smSt 1 [some (Ob.cells (.ints .u8 L) 5), some (Ob.cells (.lit (rowV .u8 64 b ++ (.int .i64 rn :: ((s).row ++ [.int .i64 sz, .bool true])))) 73)] []) (.int .i64 0) (smSt 1 (some (Ob.cells (.ints .u8 L) 5) :: some (Ob.cells (.lit (rowV .u8 64 (ab sw.blk L n o n b rn s).1 ++ (.int .i64 (ab sw.blk L n o n b rn s).2.1 :: (((ab sw.blk L n o n b rn s).2.2).row ++ [.int .i64 (IntKind.i64.wrap (sz + (n : Int))), .bool true])))) 73) :: List.replicate 6 none) []) := by
  by_cases hz : n = 0
  · subst hz
    rw [ab_zero]
    exact frame_by sw.pg (GivenOk.nothing _) _ (wA L o 0 c b rn s sz) ⟨trivial, by simp⟩ (by rfl) rfl
  · by_cases hp : rn.toNat + n < 64
    · have := frame_by sw.pg (GivenOk.nothing _) _ (wB L o n c b rn s sz) (pR_of h0 h1 h2 h3 (by omega) (by simp [hp])) (by rfl) rfl
      obtain ⟨m1, m2, m3⟩ := mm_le rn n
      have ew : IntKind.i64.wrap (rn + ((mm rn n : Nat) : Int)) = rn + (n : Int) := by rw [IntKind.wrap_i64]; omega
      rw [ew] at this
      rw [ab_part (by omega) (Nat.le_refl _) hp]; exact this
    · exact frame_by sw.pg (GivenOk.asking2 (GivenOk.nothing _) _) _ (wC L o n c b rn s sz _ _ _) ⟨trivial, fun rd => loopW L o n c o n c b rn s _ _ _ _ rd h0 h1 h2 h3 (by omega)⟩ (by rfl) rfl
end
end hw
end Go.Proofs.Yteknepfcbpoooaa
namespace Go.Proofs.Yteknepfcbpoooaa
open Go.ChangeShapes Go.WideShapes Go.ChangeAt Go.RowKit Go.Cln
namespace hv
set_option linter.unusedVariables false
noncomputable section
open hc
noncomputable def EH (L : List Int) (o n c po pl pc : Nat) (b : Nat → Int) (rn : Int) (s : sw.N5) (sz z0 z1 z2 : Int) : Nat → Option Ob := fun i => match i with
  | 0 => some (.cells (.ints .u8 L) 5)
  | 1 => some (.cells (.lit (rowV .u8 64 b ++ (.int .i64 rn :: (s.row ++ [.int .i64 sz, .bool true])))) 73)
  | 2 => some (.cells (.lit ([.pointer (some ⟨1, 0, none⟩)])) 47)
  | 3 => some (.cells (.lit ([.slice (some ⟨0, o, some 1⟩) n c])) 22)
  | 4 => some (.cells (.lit ([.pointer (some ⟨1, 0, none⟩)])) 80)
  | 5 => some (.cells (.lit ([.slice (some ⟨3, 0, none⟩) 1 1])) 27)
  | 6 => some (.marks)
  | 7 => some (.loop ⟨.ready, none, [.pointer (some ⟨1, 0, none⟩), .slice (some ⟨0, o, some 1⟩) n c, .pointer (some ⟨2, 0, none⟩), undef, .int .i64 0, undef, .pointer (some ⟨1, 0, none⟩), .bool false, .pointer (some ⟨1, 0, none⟩), .pointer (some ⟨1, 0, none⟩), .pointer (some ⟨1, 70, none⟩), .int .i64 z0, .slice (some ⟨0, o, some 1⟩) n c, .int .i64 z1, .int .i64 z2, .pointer (some ⟨1, 0, none⟩), .pointer (some ⟨1, 70, none⟩), .pointer (some ⟨1, 0, none⟩), .pointer (some ⟨1, 0, none⟩), .pointer (some ⟨1, 0, none⟩), .slice (some ⟨0, o, some 1⟩) n c, .slice (some ⟨3, 0, none⟩) 1 1, .func (.func 40) #[] #[.pointer (some ⟨5, 0, none⟩), .pointer (some ⟨4, 0, none⟩)]] ++ U 10, #[23], (rngAt Try.prog 22 0).2.1, (rngAt Try.prog 22 0).2.2, 6⟩)
  | _ => none
noncomputable def E (L : List Int) (o n c po pl pc : Nat) (b : Nat → Int) (rn : Int) (s : sw.N5) (sz z0 z1 z2 : Int) : St := ⟨[.func (.yield 7) #[] #[], .pointer (some ⟨5, 0, none⟩), .pointer (some ⟨4, 0, none⟩), undef, undef, .slice (some ⟨0, po, some 1⟩) pl pc, undef, .slice (some ⟨3, 0, none⟩) 1 1, .int .i64 1, .int .i64 0, .bool true, .pointer (some ⟨3, 0, none⟩), .slice (some ⟨0, o, some 1⟩) n c] ++ U 40, [], Tr.rebuild (EH L o n c po pl pc b rn s sz z0 z1 z2) 8, 8, 1, [], fun _ => false, True, []⟩
noncomputable def RH (L : List Int) (o n c po pl pc : Nat) (b : Nat → Int) (rn : Int) (s : sw.N5) (sz z0 z1 z2 : Int) : Nat → Option Ob := fun i => match i with
  | 0 => some (.cells (.ints .u8 L) 5)
  | 1 => some (.cells (.lit (rowV .u8 64 b ++ (.int .i64 rn :: (s.row ++ [.int .i64 sz, .bool true])))) 73)
  | 2 => some (.cells (.lit ([.pointer (some ⟨1, 0, none⟩)])) 47)
  | 3 => some (.cells (.lit ([.slice (some ⟨0, o, some 1⟩) n c])) 22)
  | 4 => some (.cells (.lit ([.pointer (some ⟨1, 0, none⟩)])) 80)
  | 5 => some (.cells (.lit ([.slice (some ⟨3, 0, none⟩) 1 1])) 27)
  | 6 => some (.marks)
  | 7 => some (.loop ⟨.ready, none, [.pointer (some ⟨1, 0, none⟩), .slice (some ⟨0, o, some 1⟩) n c, .pointer (some ⟨2, 0, none⟩), undef, .int .i64 0, undef, .pointer (some ⟨1, 0, none⟩), .bool false, .pointer (some ⟨1, 0, none⟩), .pointer (some ⟨1, 0, none⟩), .pointer (some ⟨1, 70, none⟩), .int .i64 z0, .slice (some ⟨0, o, some 1⟩) n c, .int .i64 z1, .int .i64 z2, .pointer (some ⟨1, 0, none⟩), .pointer (some ⟨1, 70, none⟩), .pointer (some ⟨1, 0, none⟩), .pointer (some ⟨1, 0, none⟩), .pointer (some ⟨1, 0, none⟩), .slice (some ⟨0, o, some 1⟩) n c, .slice (some ⟨3, 0, none⟩) 1 1, .func (.func 40) #[] #[.pointer (some ⟨5, 0, none⟩), .pointer (some ⟨4, 0, none⟩)]] ++ U 10, #[23], (rngAt Try.prog 22 0).2.1, (rngAt Try.prog 22 0).2.2, 6⟩)
  | _ => none
noncomputable def R (L : List Int) (o n c po pl pc : Nat) (b : Nat → Int) (rn : Int) (s : sw.N5) (sz z0 z1 z2 : Int) : St := ⟨[.func (.yield 7) #[] #[], .pointer (some ⟨5, 0, none⟩), .pointer (some ⟨4, 0, none⟩), undef, undef, .slice (some ⟨0, po, some 1⟩) pl pc, junk, .slice (some ⟨3, 0, none⟩) 1 1, .int .i64 1, .int .i64 0, .bool true, .pointer (some ⟨3, 0, none⟩), .slice (some ⟨0, o, some 1⟩) n c, junk, junk, .bool true, .pointer (some ⟨1, 0, none⟩), .pointer (some ⟨1, 0, none⟩), .pointer (some ⟨1, 0, none⟩), .pointer (some ⟨1, 0, none⟩), .pointer (some ⟨1, 0, none⟩), .pointer (some ⟨1, 64, none⟩)] ++ J 7 ++ [.pointer (some ⟨1, 0, none⟩), .pointer (some ⟨1, 0, none⟩), .pointer (some ⟨1, 64, none⟩)] ++ J 3 ++ [.pointer (some ⟨1, 0, none⟩), .pointer (some ⟨1, 64, none⟩), .pointer (some ⟨1, 0, none⟩), .pointer (some ⟨1, 0, none⟩), .pointer (some ⟨1, 64, none⟩), junk, .bool false, .pointer (some ⟨1, 0, none⟩), .pointer (some ⟨1, 0, none⟩), .pointer (some ⟨1, 64, none⟩), .func (.yield 7) #[] #[], .pointer (some ⟨1, 0, none⟩), .pointer (some ⟨1, 0, none⟩), .pointer (some ⟨1, 0, none⟩), .agg #[junk, junk, junk, junk, junk, junk, junk, junk, junk, junk, junk, junk, junk, junk, junk, junk, junk, junk, junk, junk, junk, junk, junk, junk, junk, junk, junk, junk, junk, junk, junk, junk, junk, junk, junk, junk, junk, junk, junk, junk, junk, junk, junk, junk, junk, junk, junk, junk, junk, junk, junk, junk, junk, junk, junk, junk, junk, junk, junk, junk, junk, junk, junk, junk], .bool true, .bool false, undef], [], Tr.rebuild (RH L o n c po pl pc b rn s sz z0 z1 z2) 8, 8, 1, [], fun _ => false, True, []⟩
noncomputable def XH (L : List Int) (o n c : Nat) (b : Nat → Int) (rn : Int) (s : sw.N5) (sz z0 z1 z2 : Int) : Nat → Option Ob := fun i => match i with
  | 0 => some (.cells (.ints .u8 L) 5)
  | 1 => some (.cells (.lit (rowV .u8 64 b ++ (.int .i64 rn :: (s.row ++ [.int .i64 sz, .bool true])))) 73)
  | 2 => some (.cells (.lit ([.pointer (some ⟨1, 0, none⟩)])) 47)
  | 3 => some (.cells (.lit ([.slice (some ⟨0, o, some 1⟩) n c])) 22)
  | 4 => some (.cells (.lit ([.pointer (some ⟨1, 0, none⟩)])) 80)
  | 5 => some (.cells (.lit ([.slice (some ⟨3, 0, none⟩) 1 1])) 27)
  | 6 => some (.marks)
  | 7 => some (.loop ⟨.ready, none, [.pointer (some ⟨1, 0, none⟩), .slice (some ⟨0, o, some 1⟩) n c, .pointer (some ⟨2, 0, none⟩), undef, .int .i64 0, undef, .pointer (some ⟨1, 0, none⟩), .bool false, .pointer (some ⟨1, 0, none⟩), .pointer (some ⟨1, 0, none⟩), .pointer (some ⟨1, 70, none⟩), .int .i64 z0, .slice (some ⟨0, o, some 1⟩) n c, .int .i64 z1, .int .i64 z2, .pointer (some ⟨1, 0, none⟩), .pointer (some ⟨1, 70, none⟩), .pointer (some ⟨1, 0, none⟩), .pointer (some ⟨1, 0, none⟩), .pointer (some ⟨1, 0, none⟩), .slice (some ⟨0, o, some 1⟩) n c, .slice (some ⟨3, 0, none⟩) 1 1, .func (.func 40) #[] #[.pointer (some ⟨5, 0, none⟩), .pointer (some ⟨4, 0, none⟩)]] ++ U 10, #[23], (rngAt Try.prog 22 0).2.1, (rngAt Try.prog 22 0).2.2, 6⟩)
  | _ => none
noncomputable def X (L : List Int) (o n c : Nat) (b : Nat → Int) (rn : Int) (s : sw.N5) (sz z0 z1 z2 : Int) : St := ⟨[.func (.yield 7) #[] #[], .pointer (some ⟨5, 0, none⟩), .pointer (some ⟨4, 0, none⟩), undef, undef, junk, junk, .slice (some ⟨3, 0, none⟩) 1 1, .int .i64 1, .int .i64 0, .bool true, .pointer (some ⟨3, 0, none⟩), .slice (some ⟨0, o, some 1⟩) n c, junk, junk, junk, .pointer (some ⟨1, 0, none⟩), .pointer (some ⟨1, 0, none⟩), .pointer (some ⟨1, 0, none⟩), .pointer (some ⟨1, 0, none⟩), .pointer (some ⟨1, 0, none⟩), .pointer (some ⟨1, 64, none⟩)] ++ J 7 ++ [.pointer (some ⟨1, 0, none⟩), .pointer (some ⟨1, 0, none⟩), .pointer (some ⟨1, 64, none⟩)] ++ J 3 ++ [.pointer (some ⟨1, 0, none⟩), .pointer (some ⟨1, 64, none⟩), .pointer (some ⟨1, 0, none⟩), .pointer (some ⟨1, 0, none⟩), .pointer (some ⟨1, 64, none⟩), junk, junk, .pointer (some ⟨1, 0, none⟩), .pointer (some ⟨1, 0, none⟩), .pointer (some ⟨1, 64, none⟩), .func (.yield 7) #[] #[], .pointer (some ⟨1, 0, none⟩), .pointer (some ⟨1, 0, none⟩), .pointer (some ⟨1, 0, none⟩), .agg #[junk, junk, junk, junk, junk, junk, junk, junk, junk, junk, junk, junk, junk, junk, junk, junk, junk, junk, junk, junk, junk, junk, junk, junk, junk, junk, junk, junk, junk, junk, junk, junk, junk, junk, junk, junk, junk, junk, junk, junk, junk, junk, junk, junk, junk, junk, junk, junk, junk, junk, junk, junk, junk, junk, junk, junk, junk, junk, junk, junk, junk, junk, junk, junk], .bool true, .bool false, undef], [], Tr.rebuild (XH L o n c b rn s sz z0 z1 z2) 8, 8, 1, [], fun _ => false, True, []⟩
noncomputable def pR (L : List Int) (po pl pc : Nat) (rn : Int) (e : Bool) : Prop := ((((True ∧ decide ((pl : Int) > 0) = true) ∧ (0 ≤ ((64 : Nat) : Int) ∧ ((64 : Nat) : Int) ≤ ((64 : Nat) : Int) ∧ 0 ≤ rn ∧ rn ≤ ((64 : Nat) : Int))) ∧ (po + mm rn pl ≤ L.length ∧ 0 ≤ 0 + rn.toNat * 1 ∧ 0 + rn.toNat * 1 + mm rn pl ≤ 64)) ∧ (0 ≤ (pl : Int) ∧ (pl : Int) ≤ (pc : Int) ∧ 0 ≤ ((mm rn pl : Nat) : Int) ∧ ((mm rn pl : Nat) : Int) ≤ (pl : Int))) ∧ decide (IntKind.i64.wrap (rn + ((mm rn pl : Nat) : Int)) < 64) = e
theorem kE (B : BF) (L : List Int) (o n c po pl pc : Nat) (b : Nat → Int) (rn : Int) (s : sw.N5) (sz z0 z1 z2 : Int) (rd : Option Nat) : ((mk Try.prog (Given.calls (FB B)) 200).code 40 rd body { E L o n c po pl pc b rn s sz z0 z1 z2 with obl := True, orc := [some true, some true, some true, some false] }).map (fun r => (r.1, r.2.obl, seenIn r.2 (R L o n c (po + ((mm rn pl : Nat) : Int).toNat * 1) ((pl : Int).toNat - ((mm rn pl : Nat) : Int).toNat) (pc - ((mm rn pl : Nat) : Int).toNat) (nb L po pl b rn) 0 (B s (intAt (rowV .u8 64 (nb L po pl b rn)))) sz z0 z1 z2) [])) = some (.normal, pR L po pl pc rn false, seenAs (R L o n c (po + ((mm rn pl : Nat) : Int).toNat * 1) ((pl : Int).toNat - ((mm rn pl : Nat) : Int).toNat) (pc - ((mm rn pl : Nat) : Int).toNat) (nb L po pl b rn) 0 (B s (intAt (rowV .u8 64 (nb L po pl b rn)))) sz z0 z1 z2) [] 9) := by kernel_rfl
theorem kR (B : BF) (L : List Int) (o n c po pl pc : Nat) (b : Nat → Int) (rn : Int) (s : sw.N5) (sz z0 z1 z2 : Int) (rd : Option Nat) : ((mk Try.prog (Given.calls (FB B)) 200).code 40 rd body { R L o n c po pl pc b rn s sz z0 z1 z2 with obl := True, orc := [some true, some true, some true, some false] }).map (fun r => (r.1, r.2.obl, seenIn r.2 (R L o n c (po + ((mm rn pl : Nat) : Int).toNat * 1) ((pl : Int).toNat - ((mm rn pl : Nat) : Int).toNat) (pc - ((mm rn pl : Nat) : Int).toNat) (nb L po pl b rn) 0 (B s (intAt (rowV .u8 64 (nb L po pl b rn)))) sz z0 z1 z2) [])) = some (.normal, pR L po pl pc rn false, seenAs (R L o n c (po + ((mm rn pl : Nat) : Int).toNat * 1) ((pl : Int).toNat - ((mm rn pl : Nat) : Int).toNat) (pc - ((mm rn pl : Nat) : Int).toNat) (nb L po pl b rn) 0 (B s (intAt (rowV .u8 64 (nb L po pl b rn)))) sz z0 z1 z2) [] 9) := by kernel_rfl
theorem kP (B : BF) (L : List Int) (o n c po pl pc : Nat) (b : Nat → Int) (rn : Int) (s : sw.N5) (sz z0 z1 z2 : Int) (rd : Option Nat) : ((mk Try.prog (Given.calls (FB B)) 200).code 40 rd body { R L o n c po pl pc b rn s sz z0 z1 z2 with obl := True, orc := [some true, some true, some true, some true] }).map (fun r => (r.1, r.2.obl, seenIn r.2 (X L o n c (nb L po pl b rn) (IntKind.i64.wrap (rn + ((mm rn pl : Nat) : Int))) s sz z0 z1 z2) [])) = some (.exit 2, pR L po pl pc rn true, seenAs (X L o n c (nb L po pl b rn) (IntKind.i64.wrap (rn + ((mm rn pl : Nat) : Int))) s sz z0 z1 z2) [] 8) := by kernel_rfl
theorem kX (B : BF) (L : List Int) (o n c po pl pc : Nat) (b : Nat → Int) (rn : Int) (s : sw.N5) (sz z0 z1 z2 : Int) (rd : Option Nat) : ((mk Try.prog (Given.calls (FB B)) 200).code 40 rd body { R L o n c po pl pc b rn s sz z0 z1 z2 with obl := True, orc := [some false] }).map (fun r => (r.1, r.2.obl, seenIn r.2 (X L o n c b rn s sz z0 z1 z2) [])) = some (.exit 2, True ∧ decide ((pl : Int) > 0) = false, seenAs (X L o n c b rn s sz z0 z1 z2) [] 8) := by kernel_rfl
end
end hv
end Go.Proofs.Yteknepfcbpoooaa
namespace Go.Proofs.Yteknepfcbpoooaa
open Go.ChangeShapes Go.WideShapes Go.ChangeAt Go.RowKit Go.Cln
namespace hv
open hc
set_option linter.unusedVariables false
noncomputable section
theorem pR_of {L : List Int} {po pl pc : Nat} {rn : Int} {e : Bool} (h0 : 0 ≤ rn) (h1 : rn < 64) (h2 : po + pl ≤ L.length) (h3 : pl ≤ pc) (h4 : 0 < pl) (h5 : (rn.toNat + pl < 64) = (e = true)) : pR L po pl pc rn e := by
  obtain ⟨m1, m2, m3⟩ := mm_le rn pl
  unfold pR
  refine ⟨⟨⟨⟨⟨trivial, by rw [decide_eq_true_eq]; omega⟩, by omega⟩, by omega⟩, by omega⟩, ?_⟩
  have ew : IntKind.i64.wrap (rn + ((mm rn pl : Nat) : Int)) = rn + ((mm rn pl : Nat) : Int) := by rw [IntKind.wrap_i64]; omega
  rw [ew]
  cases e with
  | true => have : rn.toNat + pl < 64 := by rw [h5]
            rw [decide_eq_true_eq]; omega
  | false => have : ¬ rn.toNat + pl < 64 := by rw [h5]; simp
             rw [decide_eq_false_iff_not]; omega
theorem stE0 (L : List Int) (o n c po pl pc : Nat) (b : Nat → Int) (rn : Int) (s : sw.N5) (sz z0 z1 z2 : Int)  (rd : Option Nat) (hp : pR L po pl pc rn false) :
    Step Try.prog rd (E L o n c po pl pc b rn s sz z0 z1 z2) body (E L o n c po pl pc b rn s sz z0 z1 z2) (fun e t => e = .normal ∧ t = R L o n c (po + ((mm rn pl : Nat) : Int).toNat * 1) ((pl : Int).toNat - ((mm rn pl : Nat) : Int).toNat) (pc - ((mm rn pl : Nat) : Int).toNat) (nb L po pl b rn) 0 (sw.blk s (intAt (rowV .u8 64 (nb L po pl b rn)))) sz z0 z1 z2) :=
  Step.std sw.pg F_eq (kE sw.blk L o n c po pl pc b rn s sz z0 z1 z2 rd) hp (Nat.le_refl _) (g := RH L o n c (po + ((mm rn pl : Nat) : Int).toNat * 1) ((pl : Int).toNat - ((mm rn pl : Nat) : Int).toNat) (pc - ((mm rn pl : Nat) : Int).toNat) (nb L po pl b rn) 0 (sw.blk s (intAt (rowV .u8 64 (nb L po pl b rn)))) sz z0 z1 z2) rfl (by kernel_rfl)
theorem stR0 (L : List Int) (o n c po pl pc : Nat) (b : Nat → Int) (rn : Int) (s : sw.N5) (sz z0 z1 z2 : Int) (po0 pl0 pc0 : Nat) (b0 : Nat → Int) (rn0 : Int) (s0 : sw.N5) (rd : Option Nat) (hp : pR L po pl pc rn false) :
    Step Try.prog rd (E L o n c po0 pl0 pc0 b0 rn0 s0 sz z0 z1 z2) body (R L o n c po pl pc b rn s sz z0 z1 z2) (fun e t => e = .normal ∧ t = R L o n c (po + ((mm rn pl : Nat) : Int).toNat * 1) ((pl : Int).toNat - ((mm rn pl : Nat) : Int).toNat) (pc - ((mm rn pl : Nat) : Int).toNat) (nb L po pl b rn) 0 (sw.blk s (intAt (rowV .u8 64 (nb L po pl b rn)))) sz z0 z1 z2) :=
  Step.std sw.pg F_eq (kR sw.blk L o n c po pl pc b rn s sz z0 z1 z2 rd) hp (Nat.le_refl _) (g := RH L o n c (po + ((mm rn pl : Nat) : Int).toNat * 1) ((pl : Int).toNat - ((mm rn pl : Nat) : Int).toNat) (pc - ((mm rn pl : Nat) : Int).toNat) (nb L po pl b rn) 0 (sw.blk s (intAt (rowV .u8 64 (nb L po pl b rn)))) sz z0 z1 z2) rfl (by kernel_rfl)
theorem stP0 (L : List Int) (o n c po pl pc : Nat) (b : Nat → Int) (rn : Int) (s : sw.N5) (sz z0 z1 z2 : Int) (po0 pl0 pc0 : Nat) (b0 : Nat → Int) (rn0 : Int) (s0 : sw.N5) (rd : Option Nat) (hp : pR L po pl pc rn true) :
    Step Try.prog rd (E L o n c po0 pl0 pc0 b0 rn0 s0 sz z0 z1 z2) body (R L o n c po pl pc b rn s sz z0 z1 z2) (fun e t => e = .exit 2 ∧ t = X L o n c (nb L po pl b rn) (IntKind.i64.wrap (rn + ((mm rn pl : Nat) : Int))) s sz z0 z1 z2) :=
  Step.std sw.pg F_eq (kP sw.blk L o n c po pl pc b rn s sz z0 z1 z2 rd) hp (Nat.le_refl _) (g := XH L o n c (nb L po pl b rn) (IntKind.i64.wrap (rn + ((mm rn pl : Nat) : Int))) s sz z0 z1 z2) rfl (by kernel_rfl)
theorem stX (L : List Int) (o n c po pl pc : Nat) (b : Nat → Int) (rn : Int) (s : sw.N5) (sz z0 z1 z2 : Int) (po0 pl0 pc0 : Nat) (b0 : Nat → Int) (rn0 : Int) (s0 : sw.N5) (rd : Option Nat) (hp : True ∧ decide ((pl : Int) > 0) = false) :
    Step Try.prog rd (E L o n c po0 pl0 pc0 b0 rn0 s0 sz z0 z1 z2) body (R L o n c po pl pc b rn s sz z0 z1 z2) (fun e t => e = .exit 2 ∧ t = X L o n c b rn s sz z0 z1 z2) :=
  Step.std sw.pg F_eq (kX sw.blk L o n c po pl pc b rn s sz z0 z1 z2 rd) hp (Nat.le_refl _) (g := XH L o n c b rn s sz z0 z1 z2) rfl (by kernel_rfl)
theorem loopW (L : List Int) (o n c po pl pc : Nat) (b : Nat → Int) (rn : Int) (s : sw.N5) (sz z0 z1 z2 : Int) (rd : Option Nat) (h0 : 0 ≤ rn) (h1 : rn < 64) (h2 : po + pl ≤ L.length) (h3 : pl ≤ pc) (h5 : 64 ≤ rn.toNat + pl) :
    CodeOk Try.prog rd (.loop body) (E L o n c po pl pc b rn s sz z0 z1 z2) (.exit 2) (X L o n c (ab sw.blk L pl po pl b rn s).1 (ab sw.blk L pl po pl b rn s).2.1 (ab sw.blk L pl po pl b rn s).2.2 sz z0 z1 z2) := by
  refine CodeOk.of_step (Step.loop (fun k t => (k = pl ∧ t = E L o n c po pl pc b rn s sz z0 z1 z2) ∨ ∃ (po' pl' pc' : Nat) (b' : Nat → Int) (s' : sw.N5), k = pl' ∧ pl' < pl ∧ pl' ≤ pc' ∧ po' + pl' ≤ L.length ∧ t = R L o n c po' pl' pc' b' 0 s' sz z0 z1 z2 ∧ (∀ f, pl' ≤ f → ab sw.blk L f po' pl' b' 0 s' = ab sw.blk L pl po pl b rn s)) ?_ pl _ (.inl ⟨rfl, rfl⟩))
  rintro k t (⟨rfl, rfl⟩ | ⟨po', pl', pc', b', s', rfl, g1, g2, g3, rfl, g4⟩)
  · refine (stE0 L o n c po k pc b rn s sz z0 z1 z2 rd (pR_of h0 h1 h2 h3 (by omega) (by simp; omega))).mono ?_
    rintro e t ⟨rfl, rfl⟩
    obtain ⟨m1, m2, m3⟩ := mm_le rn k
    obtain ⟨e1, e2, e3⟩ := nx_eq rn po k pc
    exact .inl ⟨rfl, k - mm rn k, by omega, .inr ⟨po + mm rn k, k - mm rn k, pc - mm rn k, _, _, rfl, by omega, by omega, by omega, by rw [e1, e2, e3], fun f hf => ab_next h1 (by omega) (by omega) (Nat.le_refl _) hf⟩⟩
  · by_cases hz : k = 0
    · subst hz
      refine (stX L o n c po' 0 pc' b' 0 s' sz z0 z1 z2 po pl pc b rn s rd ⟨trivial, by simp⟩).mono ?_
      rintro e t ⟨rfl, rfl⟩
      refine .inr ⟨(by intro x; cases x), rfl, ?_⟩
      rw [← g4 0 (by omega), ab_zero]
    · by_cases hp : (0 : Int).toNat + k < 64
      · refine (stP0 L o n c po' k pc' b' 0 s' sz z0 z1 z2 po pl pc b rn s rd (pR_of (by omega) (by omega) g3 g2 (by omega) (by simp at hp ⊢; omega))).mono ?_
        rintro e t ⟨rfl, rfl⟩
        refine .inr ⟨(by intro x; cases x), rfl, ?_⟩
        rw [← g4 k (by omega), ab_part (by omega) (Nat.le_refl _) hp]
        obtain ⟨m1, m2, m3⟩ := mm_le 0 k
        have ew : IntKind.i64.wrap ((0 : Int) + ((mm 0 k : Nat) : Int)) = 0 + (k : Int) := by rw [IntKind.wrap_i64]; omega
        rw [ew]
      · refine (stR0 L o n c po' k pc' b' 0 s' sz z0 z1 z2 po pl pc b rn s rd (pR_of (by omega) (by omega) g3 g2 (by omega) (by simp at hp ⊢; omega))).mono ?_
        rintro e t ⟨rfl, rfl⟩
        obtain ⟨m1, m2, m3⟩ := mm_le 0 k
        obtain ⟨e1, e2, e3⟩ := nx_eq 0 po' k pc'
        exact .inl ⟨rfl, k - mm 0 k, by omega, .inr ⟨po' + mm 0 k, k - mm 0 k, pc' - mm 0 k, _, _, rfl, by omega, by omega, by omega, by rw [e1, e2, e3], fun f hf => (ab_next (by omega) (by omega) hp (Nat.le_refl _) hf).trans (g4 k (Nat.le_refl _))⟩⟩
end
end hv
end Go.Proofs.Yteknepfcbpoooaa
namespace Go.Proofs.Yteknepfcbpoooaa
open Go.ChangeShapes Go.WideShapes Go.ChangeAt Go.RowKit Go.Cln
namespace hv
open hc
set_option linter.unusedVariables false
noncomputable section
noncomputable def askW (X : St) (f : FuncId) (c : Code) (S : St) : Option Ask2 := if f == 40 then match getL S.tmps 5 with
  | .slice (some _) _ _ => some ⟨⟨[], [], [], []⟩, .exit 2, fun _ => X⟩
  | _ => none else none
theorem wC (L : List Int) (o n c : Nat) (b : Nat → Int) (rn : Int) (s : sw.N5) (sz : Int) (b1 : Nat → Int) (rn1 : Int) (s1 : sw.N5) : ((mk Try.prog (Given.asking2 Given.nothing Try.prog (askW (X L o n c b1 rn1 s1 (IntKind.i64.wrap (sz + (n : Int))) sz (n : Int) (IntKind.i64.wrap (sz + (n : Int)))))) 200).call 22 [.pointer (some ⟨1, 0, none⟩), .slice (some ⟨0, o, (some 1)⟩) n c] (smSt 1 [some (Ob.cells (.ints .u8 L) 5), some (Ob.cells (.lit (rowV .u8 64 b ++ (.int .i64 rn :: ((s).row ++ [.int .i64 sz, .bool true])))) 73)] [])).map (fun r => (r.1, r.2.obl, r.2.next, keepL [true, true, false, false, false, false, false, false] r.2.heap.get 0)) = some (.int .i64 0, True ∧ (∀ rd, CodeOk Try.prog rd (.loop body) (E L o n c o n c b rn s (IntKind.i64.wrap (sz + (n : Int))) sz (n : Int) (IntKind.i64.wrap (sz + (n : Int)))) (.exit 2) (X L o n c b1 rn1 s1 (IntKind.i64.wrap (sz + (n : Int))) sz (n : Int) (IntKind.i64.wrap (sz + (n : Int))))), (some (Ob.cells (.ints .u8 L) 5) :: some (Ob.cells (.lit (rowV .u8 64 b1 ++ (.int .i64 rn1 :: ((s1).row ++ [.int .i64 (IntKind.i64.wrap (sz + (n : Int))), .bool true])))) 73) :: List.replicate 6 none).length, (some (Ob.cells (.ints .u8 L) 5) :: some (Ob.cells (.lit (rowV .u8 64 b1 ++ (.int .i64 rn1 :: ((s1).row ++ [.int .i64 (IntKind.i64.wrap (sz + (n : Int))), .bool true])))) 73) :: List.replicate 6 none)) := by kernel_rfl
theorem wA (L : List Int) (o n c : Nat) (b : Nat → Int) (rn : Int) (s : sw.N5) (sz : Int) : ((mk Try.prog Given.nothing 200).call 22 [.pointer (some ⟨1, 0, none⟩), .slice (some ⟨0, o, (some 1)⟩) n c] (smSt 1 [some (Ob.cells (.ints .u8 L) 5), some (Ob.cells (.lit (rowV .u8 64 b ++ (.int .i64 rn :: ((s).row ++ [.int .i64 sz, .bool true])))) 73)] [none, none, none, none, none, none, none, none, none, some false])).map (fun r => (r.1, r.2.obl, r.2.next, keepL [true, true, false, false, false, false, false, false] r.2.heap.get 0)) = some (.int .i64 0, True ∧ decide ((n : Int) > 0) = false, (some (Ob.cells (.ints .u8 L) 5) :: some (Ob.cells (.lit (rowV .u8 64 b ++ (.int .i64 rn :: ((s).row ++ [.int .i64 (IntKind.i64.wrap (sz + (n : Int))), .bool true])))) 73) :: List.replicate 6 none).length, (some (Ob.cells (.ints .u8 L) 5) :: some (Ob.cells (.lit (rowV .u8 64 b ++ (.int .i64 rn :: ((s).row ++ [.int .i64 (IntKind.i64.wrap (sz + (n : Int))), .bool true])))) 73) :: List.replicate 6 none)) := by kernel_rfl
theorem wB (L : List Int) (o n c : Nat) (b : Nat → Int) (rn : Int) (s : sw.N5) (sz : Int) : ((mk Try.prog Given.nothing 200).call 22 [.pointer (some ⟨1, 0, none⟩), .slice (some ⟨0, o, (some 1)⟩) n c] (smSt 1 [some (Ob.cells (.ints .u8 L) 5), some (Ob.cells (.lit (rowV .u8 64 b ++ (.int .i64 rn :: ((s).row ++ [.int .i64 sz, .bool true])))) 73)] [none, none, none, none, none, none, none, none, none, some true, some true, some true, some true])).map (fun r => (r.1, r.2.obl, r.2.next, keepL [true, true, false, false, false, false, false, false] r.2.heap.get 0)) = some (.int .i64 0, pR L o n c rn true, (some (Ob.cells (.ints .u8 L) 5) :: some (Ob.cells (.lit (rowV .u8 64 (nb L o n b rn) ++ (.int .i64 (IntKind.i64.wrap (rn + ((mm rn n : Nat) : Int))) :: ((s).row ++ [.int .i64 (IntKind.i64.wrap (sz + (n : Int))), .bool true])))) 73) :: List.replicate 6 none).length, (some (Ob.cells (.ints .u8 L) 5) :: some (Ob.cells (.lit (rowV .u8 64 (nb L o n b rn) ++ (.int .i64 (IntKind.i64.wrap (rn + ((mm rn n : Nat) : Int))) :: ((s).row ++ [.int .i64 (IntKind.i64.wrap (sz + (n : Int))), .bool true])))) 73) :: List.replicate 6 none)) := by kernel_rfl
theorem wr_ok (L : List Int) (o n c : Nat) (b : Nat → Int) (rn : Int) (s : sw.N5) (sz : Int) (h0 : 0 ≤ rn) (h1 : rn < 64) (h2 : o + n ≤ L.length) (h3 : n ≤ c) : CallOk Try.prog 22 [.pointer (some ⟨1, 0, none⟩), .slice (some ⟨0, o, (some 1)⟩) n c] (smSt 1 [some (Ob.cells (.ints .u8 L) 5), some (Ob.cells (.lit (rowV .u8 64 b ++ (.int .i64 rn :: ((s).row ++ [.int .i64 sz, .bool true])))) 73)] []) (.int .i64 0) (smSt 1 (some (Ob.cells (.ints .u8 L) 5) :: some (Ob.cells (.lit (rowV .u8 64 (ab sw.blk L n o n b rn s).1 ++ (.int .i64 (ab sw.blk L n o n b rn s).2.1 :: (((ab sw.blk L n o n b rn s).2.2).row ++ [.int .i64 (IntKind.i64.wrap (sz + (n : Int))), .bool true])))) 73) :: List.replicate 6 none) []) := by
  by_cases hz : n = 0
  · subst hz
    rw [ab_zero]
    exact frame_by sw.pg (GivenOk.nothing _) _ (wA L o 0 c b rn s sz) ⟨trivial, by simp⟩ (by rfl) rfl
  · by_cases hp : rn.toNat + n < 64
    · have := frame_by sw.pg (GivenOk.nothing _) _ (wB L o n c b rn s sz) (pR_of h0 h1 h2 h3 (by omega) (by simp [hp])) (by rfl) rfl
      obtain ⟨m1, m2, m3⟩ := mm_le rn n
      have ew : IntKind.i64.wrap (rn + ((mm rn n : Nat) : Int)) = rn + (n : Int) := by rw [IntKind.wrap_i64]; omega
      rw [ew] at this
      rw [ab_part (by omega) (Nat.le_refl _) hp]; exact this
    · exact frame_by sw.pg (GivenOk.asking2 (GivenOk.nothing _) _) _ (wC L o n c b rn s sz _ _ _) ⟨trivial, fun rd => loopW L o n c o n c b rn s _ _ _ _ rd h0 h1 h2 h3 (by omega)⟩ (by rfl) rfl
end
end hv
end Go.Proofs.Yteknepfcbpoooaa
namespace Go.Proofs.Yteknepfcbpoooaa
open Go.ChangeShapes Go.WideShapes Go.ChangeAt Go.RowKit Go.Cln
namespace hz
open hc hx hy
set_option linter.unusedVariables false
noncomputable section
structure HS where
  b : Nat → Int
  rn : Int
  s : sw.N5
def cH (h : HS) (sz : Int) : List Value := rowV .u8 64 h.b ++ (.int .i64 h.rn :: (h.s.row ++ [.int .i64 sz, .bool true]))
def okH (l : List Value) : Bool := l.length == 72 && (l.take 64).all (isKind .u8) && ((l.drop 64).take 1).all (isKind .i64) && ((l.drop 65).take 5).all (isKind .u32) && ((l.drop 70).take 1).all (isKind .i64) && (match l.drop 71 with | [.bool true] => true | _ => false)
def hOf (l : List Value) : HS := ⟨intAt l, intAt l 64, sw.n5L ((l.drop 65).take 5)⟩
theorem row_eq {k : IntKind} {n : Nat} {f g : Nat → Int} (h : ∀ j, j < n → f j = g j) : rowV k n f = rowV k n g := by
  unfold rowV
  rw [famList_eq, famList_eq]
  refine List.map_congr_left fun j hj => ?_
  have := List.mem_range.1 hj
  simp only [Nat.zero_add]
  rw [h j this]
theorem okH_eq {l : List Value} (h : okH l = true) : l = cH (hOf l) (intAt l 70) := by
  unfold okH at h
  simp only [Bool.and_eq_true, beq_iff_eq] at h
  obtain ⟨⟨⟨⟨⟨h1, h2⟩, h3⟩, h4⟩, h5⟩, h6⟩ := h
  have at_ : ∀ (a n : Nat) (i : Nat), i < n → a + n ≤ 72 → ((l.drop a).take n)[i]? = l[a + i]? := fun a n i hi _ => by
    rw [List.getElem?_take, if_pos hi, List.getElem?_drop]
  have iA : ∀ (a n i : Nat), i < n → a + n ≤ 72 → intAt ((l.drop a).take n) i = intAt l (a + i) := fun a n i hi hb => by
    unfold intAt
    rw [getL_eq, getL_eq, List.getD_eq_getElem?_getD, List.getD_eq_getElem?_getD, at_ a n i hi hb]
  have e1 : l.take 64 = rowV .u8 64 (intAt l) := by
    rw [← rowV_of (k := .u8) (n := 64) (by rw [List.length_take]; omega) h2]
    refine row_eq fun j hj => ?_
    have := iA 0 64 j hj (by omega)
    simpa using this
  have e2 : (l.drop 64).take 1 = [.int .i64 (intAt l 64)] := by
    have := rowV_of (k := .i64) (n := 1) (by rw [List.length_take, List.length_drop]; omega) h3
    rw [← this]
    show [Value.int .i64 (intAt ((l.drop 64).take 1) 0)] = _
    rw [iA 64 1 0 (by omega) (by omega)]
  have e3 : (l.drop 65).take 5 = (sw.n5L ((l.drop 65).take 5)).row := (sw.n5L_row (by rw [List.length_take, List.length_drop]; omega) h4).symm
  have e4 : (l.drop 70).take 1 = [.int .i64 (intAt l 70)] := by
    have := rowV_of (k := .i64) (n := 1) (by rw [List.length_take, List.length_drop]; omega) h5
    rw [← this]
    show [Value.int .i64 (intAt ((l.drop 70).take 1) 0)] = _
    rw [iA 70 1 0 (by omega) (by omega)]
  have e5 : l.drop 71 = [.bool true] := by
    split at h6
    · rename_i h; exact h
    · cases h6
  have s1 : l = l.take 64 ++ ((l.drop 64).take 1 ++ ((l.drop 65).take 5 ++ ((l.drop 70).take 1 ++ l.drop 71))) := by
    have a1 := (List.take_append_drop 64 l).symm
    have a2 := (List.take_append_drop 1 (l.drop 64)).symm
    have a3 := (List.take_append_drop 5 (l.drop 65)).symm
    have a4 := (List.take_append_drop 1 (l.drop 70)).symm
    rw [List.drop_drop] at a2 a3 a4
    rw [show 64 + 1 = 65 from rfl] at a2
    rw [show 65 + 5 = 70 from rfl] at a3
    rw [show 70 + 1 = 71 from rfl] at a4
    rw [← a4, ← a3, ← a2, ← a1]
  conv => lhs; rw [s1, e1, e2, e3, e4, e5]
  rfl
theorem flat_row (k : IntKind) (n : Nat) (f : Nat → Int) : (rowV k n f).all flat0 = true := by
  unfold rowV
  rw [famList_eq, List.all_eq_true]
  intro x hx
  obtain ⟨j, _, rfl⟩ := List.mem_map.1 hx
  rfl
theorem cH_flat (h : HS) (sz : Int) : (cH h sz).all flat0 = true := by
  unfold cH
  rw [List.all_append, flat_row]; rfl
def objH (h : HS) (sz : Int) : Ob := .cells (.lit (cH h sz)) 73
def AB (L : List Int) (h : HS) : HS := ⟨(ab sw.blk L L.length 0 L.length h.b h.rn h.s).1, (ab sw.blk L L.length 0 L.length h.b h.rn h.s).2.1, (ab sw.blk L L.length 0 L.length h.b h.rn h.s).2.2⟩
theorem wr (L : List Int) (n c : Nat) (g : Option Nat) (hg : g = none ∨ g = some 1) (h : HS) (sz : Int) (h0 : 0 ≤ h.rn) (h1 : h.rn < 64) (h2 : n = L.length) (h3 : n ≤ c) :
    CallOk Try.prog 22 [.pointer (some ⟨1, 0, none⟩), .slice (some ⟨0, 0, g⟩) n c] (smSt 1 [some (Ob.cells (.ints .u8 L) 5), some (objH h sz)] []) (.int .i64 0)
      (smSt 1 (some (Ob.cells (.ints .u8 L) 5) :: some (objH (AB L h) (IntKind.i64.wrap (sz + (n : Int)))) :: List.replicate 6 none) []) := by
  subst h2
  rcases hg with rfl | rfl
  · exact hw.wr_ok L 0 L.length c h.b h.rn h.s sz h0 h1 (by omega) h3
  · exact hv.wr_ok L 0 L.length c h.b h.rn h.s sz h0 h1 (by omega) h3
def gOk : Option Nat → Bool
  | none => true
  | some g => g == 1
def F22 (A : List Int → HS → HS) (f : FuncId) (args : List Value) (s : St) : Option Inst := if f == 22 then match args with
  | [.pointer (some ⟨p, 0, none⟩), .slice (some ⟨b, o, g⟩) n c] => match s.heap.get p with
    | some (.cells (.lit l) _) => match s.heap.get b with
      | some (.cells (.ints .u8 L) _) => if okH l = true ∧ gOk g = true then
          some ⟨[(b, o), (p, 0)], 1, [some (Ob.cells (.ints .u8 ((L.drop o).take n)) 5), some (.cells (.lit l) 73)], [.pointer (some ⟨1, 0, none⟩), .slice (some ⟨0, 0, g⟩) n c], .int .i64 0,
            some (Ob.cells (.ints .u8 ((L.drop o).take n)) 5) :: some (objH (A ((L.drop o).take n) (hOf l)) (IntKind.i64.wrap (intAt l 70 + (n : Int)))) :: List.replicate 6 none, A = AB ∧ 0 ≤ intAt l 64 ∧ intAt l 64 < 64 ∧ n = ((L.drop o).take n).length ∧ n ≤ c⟩
        else none
      | _ => none
    | _ => none
  | _ => none else none
def DS (h : HS) (m : Nat) : sw.N5 := (ab sw.blk (T m) (tl m) 0 (tl m) h.b h.rn h.s).2.2
theorem sm (h : HS) (sz : Int) (h0 : 0 ≤ sz) (h1 : sz ≤ 1152921504606846976) (hr : h.rn = ((sz.toNat % 64 : Nat) : Int)) :
    CallOk Try.prog 23 [.pointer (some ⟨0, 0, none⟩)] (smSt 1 [some (objH h sz)] []) (outV (DS h sz.toNat)) (smSt 1 (some (objH h sz) :: List.replicate 17 none) []) := by
  obtain ⟨m, rfl⟩ : ∃ m : Nat, sz = (m : Int) := ⟨sz.toNat, by omega⟩
  simp only [Int.toNat_natCast] at *
  obtain ⟨k, g, hk⟩ := sum_ok h.b h.rn h.s m (by omega) hr
  rcases hk with ⟨rfl, _⟩ | ⟨rfl, _⟩
  · have := g.pad 1 (by simp [hpS]) (by simp [hH]) (by simp [hH, hpS])
    exact this
  · exact g
def F23 (D : HS → Nat → sw.N5) (f : FuncId) (args : List Value) (s : St) : Option Inst := if f == 23 then match args with
  | [.pointer (some ⟨p, 0, none⟩)] => match s.heap.get p with
    | some (.cells (.lit l) _) => if okH l = true then
        some ⟨[(p, 0)], 1, [some (.cells (.lit l) 73)], [.pointer (some ⟨0, 0, none⟩)], outV (D (hOf l) (intAt l 70).toNat), some (.cells (.lit l) 73) :: List.replicate 17 none,
          D = DS ∧ 0 ≤ intAt l 70 ∧ intAt l 70 ≤ 1152921504606846976 ∧ intAt l 64 = (((intAt l 70).toNat % 64 : Nat) : Int)⟩
      else none
    | _ => none
  | _ => none else none
theorem F23_ok (D : HS → Nat → sw.N5) (f : FuncId) (args : List Value) (s : St) (i : Inst) (h : F23 D f args s = some i) : Fits s i args ∧ (i.ask → CallOk Try.prog f i.args i.s0 i.val i.s1) := by
  unfold F23 at h
  split at h
  · rename_i hf
    have hf' : f = 23 := by simpa using hf
    subst hf'
    split at h
    · rename_i p
      split at h
      · rename_i l tp hp
        split at h
        · rename_i hok
          cases h
          have hl := okH_eq hok
          refine ⟨⟨rfl, fun j pp ob h1 h2 => ?_⟩, fun ha => ?_⟩
          · rcases j with _ | j
            · simp only [List.getElem?_cons_zero, Option.some.injEq] at h1
              subst h1
              simp only [List.getElem?_cons_zero, Option.some.injEq] at h2
              subst h2
              exact ⟨_, hp, fit_flat (fun x v hx => by rw [Nat.zero_add]; exact hx) (by rw [hl]; exact cH_flat _ _)⟩
            · simp at h1
          · obtain ⟨rfl, q1, q2, q3⟩ := ha
            have := sm (hOf l) (intAt l 70) q1 q2 q3
            unfold objH at this
            rw [← hl] at this
            exact this
        · cases h
      · cases h
    · cases h
  · cases h
end
end hz
end Go.Proofs.Yteknepfcbpoooaa
namespace Go.Proofs.Yteknepfcbpoooaa
open Go.ChangeShapes Go.WideShapes Go.ChangeAt Go.RowKit Go.Cln
namespace hz
open hc hx hy
set_option linter.unusedVariables false
noncomputable section
def F0 : sw.N5 := ⟨1732584193, 4023233417, 2562383102, 271733878, 3285377520⟩
theorem F0_ok : sw.ok5 F0 := by unfold sw.ok5 F0; decide
def shaN (M : List Int) : sw.N5 := fold sw.blkR F0 ((M.length + tl M.length) / 64) (M ++ T M.length)
def SemH (h : HS) (M : List Int) : Prop := hx.Sem sw.blkR F0 h.b h.rn h.s M
theorem byt_T (m : Nat) : Byt (T m) := fun x hx => by
  unfold T be8 at hx
  rcases List.mem_cons.1 hx with rfl | hx
  · decide
  · rcases List.mem_append.1 hx with hx | hx
    · rw [(List.mem_replicate.1 hx).2]; decide
    · have key : ∀ j, 0 ≤ by8 ((m : Int) * 8) j ∧ by8 ((m : Int) * 8) j < 256 := fun j => by unfold by8; rw [IntKind.wrap_u8]; omega
      simp only [List.mem_cons, List.not_mem_nil, or_false] at hx
      rcases hx with rfl | rfl | rfl | rfl | rfl | rfl | rfl | rfl <;> exact key _
theorem SemH.rn {h : HS} {M : List Int} (k : SemH h M) : h.rn = ((M.length % 64 : Nat) : Int) := hx.Sem.rn k
theorem SemH.AB {h : HS} {M L : List Int} (k : SemH h M) (hM : Byt M) (hL : Byt L) : SemH (AB L h) (M ++ L) := by
  have := ab_sem agree F0_ok hL L.length 0 L.length h.b h.rn h.s M (Nat.le_refl _) (by omega) hM k
  rw [List.drop_zero, List.take_length] at this
  exact this
theorem SemH.DS {h : HS} {M : List Int} (k : SemH h M) (hM : Byt M) : DS h M.length = shaN M := by
  have := ab_sem agree F0_ok (byt_T M.length) (tl M.length) 0 (tl M.length) h.b h.rn h.s M (Nat.le_refl _) (by rw [T_len]; omega) hM k
  have e := this.s
  rw [List.drop_zero, List.take_of_length_le (by rw [T_len]; exact Nat.le_refl _)] at e
  unfold hz.DS
  rw [e, List.length_append, T_len]; rfl
theorem cH_at {h : HS} {sz : Int} {j : Nat} (hj : j < 64) : intAt (cH h sz) j = h.b j := by
  unfold cH intAt
  rw [getL_eq, List.getD_eq_getElem?_getD, List.getElem?_append_left (by rw [show (rowV .u8 64 h.b).length = 64 from by unfold rowV; rw [famList_eq]; simp]; exact hj)]
  have := intAt_row (k := .u8) (n := 64) (g := h.b) hj
  unfold intAt at this
  rw [getL_eq, List.getD_eq_getElem?_getD] at this
  exact this
theorem SemH.cells {h : HS} {M : List Int} (k : SemH h M) (sz : Int) : SemH (hOf (cH h sz)) M := by
  obtain ⟨h1, h2, h3⟩ := k
  refine ⟨h1, h2, fun j hj => ?_⟩
  rw [← h3 j hj]
  exact cH_at (by omega)
def l0 : List Value := rowV .u8 64 (fun _ => 0) ++ (.int .i64 0 :: (F0.row ++ [.int .i64 0, .bool true]))
theorem SemH.zero : SemH (hOf l0) [] := ⟨rfl, rfl, fun j hj => by simp at hj⟩
def FH (A : List Int → HS → HS) (D : HS → Nat → sw.N5) (f : FuncId) (args : List Value) (s : St) : Option Inst := match F22 A f args s with
  | some i => some i
  | none => F23 D f args s
def KH (A : List Int → HS → HS) (D : HS → Nat → sw.N5) : Given := Given.frames Given.nothing (FH A D)
def hB (L : List Int) : List (Option Ob) := [some (Ob.cells (.ints .u8 L) 5)]
def r11 (A : List Int → HS → HS) (D : HS → Nat → sw.N5) (L : List Int) (n c : Nat) (g : Option Nat) (o : List (Option Bool)) : Option (Value × St) := (mk Try.prog (KH A D) 300).call 11 [.slice (some ⟨0, 0, g⟩) n c] (smSt 1 (hB L) o)
end
end hz
end Go.Proofs.Yteknepfcbpoooaa
namespace Go.Proofs.Yteknepfcbpoooaa
open Go.ChangeShapes Go.WideShapes Go.ChangeAt Go.RowKit Go.Cln
namespace hz
open hc hx hy
set_option linter.unusedVariables false
noncomputable section
def w1 (n : Nat) : Int := IntKind.i64.wrap (intAt l0 70 + (n : Int))
def h1 (A : List Int → HS → HS) (L : List Int) (n : Nat) : HS := A ((L.drop 0).take n) (hOf l0)
def out11 (L : List Int) : List (Option Ob) := some (Ob.cells (.ints .u8 L) 5) :: List.replicate 28 none
end
end hz
end Go.Proofs.Yteknepfcbpoooaa
