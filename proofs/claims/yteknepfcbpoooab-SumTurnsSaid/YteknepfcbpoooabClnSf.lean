/- Read off the code by the clean reading. -/
import Derived.Test.YteknepfcbpoooabClnSe
set_option linter.unusedVariables false
set_option linter.unusedSimpArgs false
set_option linter.deprecated false
set_option maxRecDepth 100000
namespace Go.Proofs.Yteknepfcbpoooab
open Go.ChangeShapes Go.WideShapes Go.ChangeAt Go.RowKit Go.Cln
namespace st
open sd
set_option linter.unusedVariables false
noncomputable section
def fr0 : Frm2 := ⟨[], [], [], []⟩
def s1 (La : List Int) (n : Nat) : Int × Int × Bool := sr.scan La n 0 0 0 false
def s2 (La Lb : List Int) (n m : Nat) : Int × Int × Bool := sr.scan Lb m 0 (s1 La n).1 (s1 La n).2.1 (s1 La n).2.2
def ask (k0 k1 : Option (St)) (f : FuncId) (c : Code) (S : St) : Option Ask2 := if f == 43 then match getL S.tmps 13, getL S.tmps 9 with
  | .slice (some _) _ _, .int _ k => (if k == 0 then k0 else k1).bind fun X => some ⟨fr0, .exit 2, fun _ => X⟩
  | _, _ => none else none
def K2 (k0 k1 : Option St) : Given := Given.frames (Given.asking2 Given.nothing Try.prog (ask k0 k1)) F33
theorem K2_ok (k0 k1 : Option St) : GivenOk Try.prog (K2 k0 k1) := K33 (GivenOk.asking2 (GivenOk.nothing _) _)
def hNN (La Lb : List Int) (n c m d : Nat) (g h : Option Nat) : List (Option Ob) := [some (.cells (.lit [.slice none 0 0, .slice none 0 0]) 23)]
theorem runNN (La Lb : List Int) (n c m d : Nat) (g h : Option Nat) : ((mk Try.prog (K2 (none) (none)) 200).call 12 [.slice (some ⟨0, 0, none⟩) 2 2] (smSt 1 (hNN La Lb n c m d g h) [])).map (fun r => (r.1, r.2.obl, r.2.next, keepL ([true] ++ List.replicate 12 false) r.2.heap.get 0)) =
    some (.int .u16 (sc.car 0), True ∧ ((0 : Int) ≤ 0 ∧ (0 : Int) < 18446744073709551616), (hNN La Lb n c m d g h ++ nones 12).length, hNN La Lb n c m d g h ++ nones 12) := by kernel_rfl
def hNZ (La Lb : List Int) (n c m d : Nat) (g h : Option Nat) : List (Option Ob) := [none, some (.cells (.lit [.slice none 0 0, .slice (some ⟨0, 0, h⟩) 0 d]) 23)]
theorem runNZ (La Lb : List Int) (n c m d : Nat) (g h : Option Nat) : ((mk Try.prog (K2 (none) (none)) 200).call 12 [.slice (some ⟨1, 0, none⟩) 2 2] (smSt 2 (hNZ La Lb n c m d g h) [])).map (fun r => (r.1, r.2.obl, r.2.next, keepL ([false, true] ++ List.replicate 12 false) r.2.heap.get 0)) =
    some (.int .u16 (sc.car 0), True ∧ ((0 : Int) ≤ 0 ∧ (0 : Int) < 18446744073709551616), (hNZ La Lb n c m d g h ++ nones 12).length, hNZ La Lb n c m d g h ++ nones 12) := by kernel_rfl
def hNF (La Lb : List Int) (n c m d : Nat) (g h : Option Nat) : List (Option Ob) := [some (.cells (.ints .u8 Lb) 5), some (.cells (.lit [.slice none 0 0, .slice (some ⟨0, 0, h⟩) m d]) 23)]
theorem runNF (La Lb : List Int) (n c m d : Nat) (g h : Option Nat) : ((mk Try.prog (K2 (none) (some (b1.X La Lb n c m d g h (s1 Lb m).1 (s1 Lb m).2.1 (s1 Lb m).2.2 m))) 200).call 12 [.slice (some ⟨1, 0, none⟩) 2 2] (smSt 2 (hNF La Lb n c m d g h) [none, none, none, none, none, none, some false])).map (fun r => (r.1, r.2.obl, r.2.next, keepL ([true, true] ++ List.replicate 12 false) r.2.heap.get 0)) =
    some (.int .u16 (sc.car (s1 Lb m).1), ((True ∧ ∀ rd, CodeOk Try.prog rd (.loop sr.bodyI) (b1.E La Lb n c m d g h 0 0 false 0) (.exit 2) (b1.X La Lb n c m d g h (s1 Lb m).1 (s1 Lb m).2.1 (s1 Lb m).2.2 m)) ∧ (s1 Lb m).2.2 = false) ∧ (0 ≤ (s1 Lb m).1 ∧ (s1 Lb m).1 < 18446744073709551616), (hNF La Lb n c m d g h ++ nones 12).length, hNF La Lb n c m d g h ++ nones 12) := by kernel_rfl
def hZN (La Lb : List Int) (n c m d : Nat) (g h : Option Nat) : List (Option Ob) := [none, some (.cells (.lit [.slice (some ⟨0, 0, g⟩) 0 c, .slice none 0 0]) 23)]
theorem runZN (La Lb : List Int) (n c m d : Nat) (g h : Option Nat) : ((mk Try.prog (K2 (none) (none)) 200).call 12 [.slice (some ⟨1, 0, none⟩) 2 2] (smSt 2 (hZN La Lb n c m d g h) [])).map (fun r => (r.1, r.2.obl, r.2.next, keepL ([false, true] ++ List.replicate 12 false) r.2.heap.get 0)) =
    some (.int .u16 (sc.car 0), True ∧ ((0 : Int) ≤ 0 ∧ (0 : Int) < 18446744073709551616), (hZN La Lb n c m d g h ++ nones 12).length, hZN La Lb n c m d g h ++ nones 12) := by kernel_rfl
def hZZ (La Lb : List Int) (n c m d : Nat) (g h : Option Nat) : List (Option Ob) := [none, none, some (.cells (.lit [.slice (some ⟨0, 0, g⟩) 0 c, .slice (some ⟨1, 0, h⟩) 0 d]) 23)]
theorem runZZ (La Lb : List Int) (n c m d : Nat) (g h : Option Nat) : ((mk Try.prog (K2 (none) (none)) 200).call 12 [.slice (some ⟨2, 0, none⟩) 2 2] (smSt 3 (hZZ La Lb n c m d g h) [])).map (fun r => (r.1, r.2.obl, r.2.next, keepL ([false, false, true] ++ List.replicate 12 false) r.2.heap.get 0)) =
    some (.int .u16 (sc.car 0), True ∧ ((0 : Int) ≤ 0 ∧ (0 : Int) < 18446744073709551616), (hZZ La Lb n c m d g h ++ nones 12).length, hZZ La Lb n c m d g h ++ nones 12) := by kernel_rfl
def hZF (La Lb : List Int) (n c m d : Nat) (g h : Option Nat) : List (Option Ob) := [none, some (.cells (.ints .u8 Lb) 5), some (.cells (.lit [.slice (some ⟨0, 0, g⟩) 0 c, .slice (some ⟨1, 0, h⟩) m d]) 23)]
theorem runZF (La Lb : List Int) (n c m d : Nat) (g h : Option Nat) : ((mk Try.prog (K2 (none) (some (b2.X La Lb n c m d g h (s1 Lb m).1 (s1 Lb m).2.1 (s1 Lb m).2.2 m))) 200).call 12 [.slice (some ⟨2, 0, none⟩) 2 2] (smSt 3 (hZF La Lb n c m d g h) [none, none, none, none, none, none, some false])).map (fun r => (r.1, r.2.obl, r.2.next, keepL ([false, true, true] ++ List.replicate 12 false) r.2.heap.get 0)) =
    some (.int .u16 (sc.car (s1 Lb m).1), ((True ∧ ∀ rd, CodeOk Try.prog rd (.loop sr.bodyI) (b2.E La Lb n c m d g h 0 0 false 0) (.exit 2) (b2.X La Lb n c m d g h (s1 Lb m).1 (s1 Lb m).2.1 (s1 Lb m).2.2 m)) ∧ (s1 Lb m).2.2 = false) ∧ (0 ≤ (s1 Lb m).1 ∧ (s1 Lb m).1 < 18446744073709551616), (hZF La Lb n c m d g h ++ nones 12).length, hZF La Lb n c m d g h ++ nones 12) := by kernel_rfl
def hFN (La Lb : List Int) (n c m d : Nat) (g h : Option Nat) : List (Option Ob) := [some (.cells (.ints .u8 La) 5), some (.cells (.lit [.slice (some ⟨0, 0, g⟩) n c, .slice none 0 0]) 23)]
theorem runFN (La Lb : List Int) (n c m d : Nat) (g h : Option Nat) : ((mk Try.prog (K2 (some (a1.X La Lb n c m d g h (s1 La n).1 (s1 La n).2.1 (s1 La n).2.2 n)) (none)) 200).call 12 [.slice (some ⟨1, 0, none⟩) 2 2] (smSt 2 (hFN La Lb n c m d g h) [none, none, none, none, none, none, some false])).map (fun r => (r.1, r.2.obl, r.2.next, keepL ([true, true] ++ List.replicate 12 false) r.2.heap.get 0)) =
    some (.int .u16 (sc.car (s1 La n).1), ((True ∧ ∀ rd, CodeOk Try.prog rd (.loop sr.bodyI) (a1.E La Lb n c m d g h 0 0 false 0) (.exit 2) (a1.X La Lb n c m d g h (s1 La n).1 (s1 La n).2.1 (s1 La n).2.2 n)) ∧ (s1 La n).2.2 = false) ∧ (0 ≤ (s1 La n).1 ∧ (s1 La n).1 < 18446744073709551616), (hFN La Lb n c m d g h ++ nones 12).length, hFN La Lb n c m d g h ++ nones 12) := by kernel_rfl
def hFZ (La Lb : List Int) (n c m d : Nat) (g h : Option Nat) : List (Option Ob) := [some (.cells (.ints .u8 La) 5), none, some (.cells (.lit [.slice (some ⟨0, 0, g⟩) n c, .slice (some ⟨1, 0, h⟩) 0 d]) 23)]
theorem runFZ (La Lb : List Int) (n c m d : Nat) (g h : Option Nat) : ((mk Try.prog (K2 (some (a3.X La Lb n c m d g h (s1 La n).1 (s1 La n).2.1 (s1 La n).2.2 n)) (none)) 200).call 12 [.slice (some ⟨2, 0, none⟩) 2 2] (smSt 3 (hFZ La Lb n c m d g h) [none, none, none, none, none, none, some false])).map (fun r => (r.1, r.2.obl, r.2.next, keepL ([true, false, true] ++ List.replicate 12 false) r.2.heap.get 0)) =
    some (.int .u16 (sc.car (s1 La n).1), ((True ∧ ∀ rd, CodeOk Try.prog rd (.loop sr.bodyI) (a3.E La Lb n c m d g h 0 0 false 0) (.exit 2) (a3.X La Lb n c m d g h (s1 La n).1 (s1 La n).2.1 (s1 La n).2.2 n)) ∧ (s1 La n).2.2 = false) ∧ (0 ≤ (s1 La n).1 ∧ (s1 La n).1 < 18446744073709551616), (hFZ La Lb n c m d g h ++ nones 12).length, hFZ La Lb n c m d g h ++ nones 12) := by kernel_rfl
def hFF (La Lb : List Int) (n c m d : Nat) (g h : Option Nat) : List (Option Ob) := [some (.cells (.ints .u8 La) 5), some (.cells (.ints .u8 Lb) 5), some (.cells (.lit [.slice (some ⟨0, 0, g⟩) n c, .slice (some ⟨1, 0, h⟩) m d]) 23)]
theorem runFF (La Lb : List Int) (n c m d : Nat) (g h : Option Nat) : ((mk Try.prog (K2 (some (a2.X La Lb n c m d g h (s1 La n).1 (s1 La n).2.1 (s1 La n).2.2 n)) (some (b3.X La Lb n c m d g h (s2 La Lb n m).1 (s2 La Lb n m).2.1 (s2 La Lb n m).2.2 m))) 200).call 12 [.slice (some ⟨2, 0, none⟩) 2 2] (smSt 3 (hFF La Lb n c m d g h) [none, none, none, none, none, some false])).map (fun r => (r.1, r.2.obl, r.2.next, keepL ([true, true, true] ++ List.replicate 12 false) r.2.heap.get 0)) =
    some (.int .u16 (sc.car (s2 La Lb n m).1), (((True ∧ ∀ rd, CodeOk Try.prog rd (.loop sr.bodyI) (a2.E La Lb n c m d g h 0 0 false 0) (.exit 2) (a2.X La Lb n c m d g h (s1 La n).1 (s1 La n).2.1 (s1 La n).2.2 n)) ∧ ∀ rd, CodeOk Try.prog rd (.loop sr.bodyI) (b3.E La Lb n c m d g h (s1 La n).1 (s1 La n).2.1 (s1 La n).2.2 0) (.exit 2) (b3.X La Lb n c m d g h (s2 La Lb n m).1 (s2 La Lb n m).2.1 (s2 La Lb n m).2.2 m)) ∧ (s2 La Lb n m).2.2 = false) ∧ (0 ≤ (s2 La Lb n m).1 ∧ (s2 La Lb n m).1 < 18446744073709551616), (hFF La Lb n c m d g h ++ nones 12).length, hFF La Lb n c m d g h ++ nones 12) := by kernel_rfl
def hN (c : Nat) (g : Option Nat) : List (Option Ob) := [some (.cells (.lit [.slice none 0 0]) 23)]
theorem runN (c : Nat) (g : Option Nat) : ((mk Try.prog (K2 none none) 200).call 12 [.slice (some ⟨0, 0, none⟩) 1 1] (smSt 1 (hN c g) [])).map (fun r => (r.1, r.2.obl, r.2.next, keepL ([true] ++ List.replicate 12 false) r.2.heap.get 0)) =
    some (.int .u16 (sc.car 0), True ∧ ((0 : Int) ≤ 0 ∧ (0 : Int) < 18446744073709551616), (hN c g ++ nones 12).length, hN c g ++ nones 12) := by kernel_rfl
def hZ (c : Nat) (g : Option Nat) : List (Option Ob) := [none, some (.cells (.lit [.slice (some ⟨0, 0, g⟩) 0 c]) 23)]
theorem runZ (c : Nat) (g : Option Nat) : ((mk Try.prog (K2 none none) 200).call 12 [.slice (some ⟨1, 0, none⟩) 1 1] (smSt 2 (hZ c g) [])).map (fun r => (r.1, r.2.obl, r.2.next, keepL ([false, true] ++ List.replicate 12 false) r.2.heap.get 0)) =
    some (.int .u16 (sc.car 0), True ∧ ((0 : Int) ≤ 0 ∧ (0 : Int) < 18446744073709551616), (hZ c g ++ nones 12).length, hZ c g ++ nones 12) := by kernel_rfl
end
end st
end Go.Proofs.Yteknepfcbpoooab
namespace Go.Proofs.Yteknepfcbpoooab
open Go.ChangeShapes Go.WideShapes Go.ChangeAt Go.RowKit Go.Cln
namespace st
open sd se.rr
set_option linter.unusedVariables false
noncomputable section
theorem scan_par (L : List Int) : ∀ (k i : Nat) (tot hi : Int) (al : Bool), k % 2 = 0 → (sr.scan L k i tot hi al).2.2 = al
  | 0, _, _, _, _, _ => rfl
  | 1, _, _, _, _, h => by simp at h
  | k + 2, i, tot, hi, false, h => by simp only [sr.scan]; exact scan_par L k (i + 1 + 1) _ _ false (by omega)
  | k + 2, i, tot, hi, true, h => by simp only [sr.scan]; exact scan_par L k (i + 1 + 1) _ _ true (by omega)
structure Full (L : List Int) (n : Nat) : Prop where
  byt : Byt L
  pos : 0 < n
  len : n = L.length
  even : n % 2 = 0
  big : n ≤ 1099511627776
theorem full_scan {L : List Int} {n : Nat} (h : Full L n) (tot hi : Int) (h0 : 0 ≤ tot) (h1 : tot ≤ 72057594037927936) : (sr.scan L n 0 tot hi false).2.2 = false ∧ (sr.scan L n 0 tot hi false).1 = tot + wsum L := by
  obtain ⟨h2, h3, h4, h5, h6⟩ := h
  have e := scan_par L n 0 tot hi false h5
  obtain ⟨_, q, _⟩ := (scan_eq h2 n 0 (by omega) tot h0 (by omega)).1 hi
  refine ⟨e, ?_⟩
  rw [q e, List.drop_zero, h4, List.take_length]
theorem full_b {L : List Int} {n : Nat} (h : Full L n) : 0 ≤ wsum L ∧ wsum L ≤ 72057594037927936 := by
  have := wsum_bound L h.byt
  have := h.len; have := h.big
  omega
theorem s1_ok {L : List Int} {n : Nat} (h : Full L n) : (s1 L n).2.2 = false ∧ (s1 L n).1 = wsum L := by
  obtain ⟨a, b⟩ := full_scan h 0 0 (by omega) (by omega)
  exact ⟨a, by unfold s1; omega⟩
theorem s2_ok {La Lb : List Int} {n m : Nat} (h : Full La n) (k : Full Lb m) : (s2 La Lb n m).2.2 = false ∧ (s2 La Lb n m).1 = wsum La + wsum Lb := by
  obtain ⟨a, b⟩ := s1_ok h
  have hb := full_b h
  unfold s2
  rw [a, b]
  exact full_scan k _ _ hb.1 hb.2
theorem rawNN (La Lb : List Int) (n c m d : Nat) (g h : Option Nat) : CallOk Try.prog 12 [.slice (some ⟨0, 0, none⟩) 2 2] (smSt 1 (hNN La Lb n c m d g h) []) (.int .u16 (sc.car (0))) (smSt 1 (hNN La Lb n c m d g h ++ nones 12) []) := by
  exact frame_by sr.pg (K2_ok _ _) _ (runNN La Lb n c m d g h) ⟨trivial, by omega⟩ rfl rfl
theorem rawNZ (La Lb : List Int) (n c m d : Nat) (g h : Option Nat) : CallOk Try.prog 12 [.slice (some ⟨1, 0, none⟩) 2 2] (smSt 2 (hNZ La Lb n c m d g h) []) (.int .u16 (sc.car (0))) (smSt 2 (hNZ La Lb n c m d g h ++ nones 12) []) := by
  exact frame_by sr.pg (K2_ok _ _) _ (runNZ La Lb n c m d g h) ⟨trivial, by omega⟩ rfl rfl
theorem rawNF (La Lb : List Int) (n c m d : Nat) (g h : Option Nat) (hb : Full Lb m) : CallOk Try.prog 12 [.slice (some ⟨1, 0, none⟩) 2 2] (smSt 2 (hNF La Lb n c m d g h) []) (.int .u16 (sc.car (wsum Lb))) (smSt 2 (hNF La Lb n c m d g h ++ nones 12) []) := by
  obtain ⟨p1, p2⟩ := s1_ok hb
  have bb1 := full_b hb
  have := frame_by sr.pg (K2_ok _ _) _ (runNF La Lb n c m d g h) ⟨⟨⟨trivial, (fun rd => b1.loopI La Lb n c m d g h 0 0 false rd hb.pos (by have := hb.len; omega) (by have := hb.big; omega))⟩, p1⟩, by rw [p2]; omega⟩ rfl rfl
  rw [p2] at this; exact this
theorem rawZN (La Lb : List Int) (n c m d : Nat) (g h : Option Nat) : CallOk Try.prog 12 [.slice (some ⟨1, 0, none⟩) 2 2] (smSt 2 (hZN La Lb n c m d g h) []) (.int .u16 (sc.car (0))) (smSt 2 (hZN La Lb n c m d g h ++ nones 12) []) := by
  exact frame_by sr.pg (K2_ok _ _) _ (runZN La Lb n c m d g h) ⟨trivial, by omega⟩ rfl rfl
theorem rawZZ (La Lb : List Int) (n c m d : Nat) (g h : Option Nat) : CallOk Try.prog 12 [.slice (some ⟨2, 0, none⟩) 2 2] (smSt 3 (hZZ La Lb n c m d g h) []) (.int .u16 (sc.car (0))) (smSt 3 (hZZ La Lb n c m d g h ++ nones 12) []) := by
  exact frame_by sr.pg (K2_ok _ _) _ (runZZ La Lb n c m d g h) ⟨trivial, by omega⟩ rfl rfl
theorem rawZF (La Lb : List Int) (n c m d : Nat) (g h : Option Nat) (hb : Full Lb m) : CallOk Try.prog 12 [.slice (some ⟨2, 0, none⟩) 2 2] (smSt 3 (hZF La Lb n c m d g h) []) (.int .u16 (sc.car (wsum Lb))) (smSt 3 (hZF La Lb n c m d g h ++ nones 12) []) := by
  obtain ⟨p1, p2⟩ := s1_ok hb
  have bb1 := full_b hb
  have := frame_by sr.pg (K2_ok _ _) _ (runZF La Lb n c m d g h) ⟨⟨⟨trivial, (fun rd => b2.loopI La Lb n c m d g h 0 0 false rd hb.pos (by have := hb.len; omega) (by have := hb.big; omega))⟩, p1⟩, by rw [p2]; omega⟩ rfl rfl
  rw [p2] at this; exact this
theorem rawFN (La Lb : List Int) (n c m d : Nat) (g h : Option Nat) (ha : Full La n) : CallOk Try.prog 12 [.slice (some ⟨1, 0, none⟩) 2 2] (smSt 2 (hFN La Lb n c m d g h) []) (.int .u16 (sc.car (wsum La))) (smSt 2 (hFN La Lb n c m d g h ++ nones 12) []) := by
  obtain ⟨p1, p2⟩ := s1_ok ha
  have bb1 := full_b ha
  have := frame_by sr.pg (K2_ok _ _) _ (runFN La Lb n c m d g h) ⟨⟨⟨trivial, (fun rd => a1.loopI La Lb n c m d g h 0 0 false rd ha.pos (by have := ha.len; omega) (by have := ha.big; omega))⟩, p1⟩, by rw [p2]; omega⟩ rfl rfl
  rw [p2] at this; exact this
theorem rawFZ (La Lb : List Int) (n c m d : Nat) (g h : Option Nat) (ha : Full La n) : CallOk Try.prog 12 [.slice (some ⟨2, 0, none⟩) 2 2] (smSt 3 (hFZ La Lb n c m d g h) []) (.int .u16 (sc.car (wsum La))) (smSt 3 (hFZ La Lb n c m d g h ++ nones 12) []) := by
  obtain ⟨p1, p2⟩ := s1_ok ha
  have bb1 := full_b ha
  have := frame_by sr.pg (K2_ok _ _) _ (runFZ La Lb n c m d g h) ⟨⟨⟨trivial, (fun rd => a3.loopI La Lb n c m d g h 0 0 false rd ha.pos (by have := ha.len; omega) (by have := ha.big; omega))⟩, p1⟩, by rw [p2]; omega⟩ rfl rfl
  rw [p2] at this; exact this
theorem rawFF (La Lb : List Int) (n c m d : Nat) (g h : Option Nat) (ha : Full La n) (hb : Full Lb m) : CallOk Try.prog 12 [.slice (some ⟨2, 0, none⟩) 2 2] (smSt 3 (hFF La Lb n c m d g h) []) (.int .u16 (sc.car (wsum La + wsum Lb))) (smSt 3 (hFF La Lb n c m d g h ++ nones 12) []) := by
  obtain ⟨p1, p2⟩ := s1_ok ha
  obtain ⟨q1, q2⟩ := s2_ok ha hb
  have bb1 := full_b ha
  have bb2 := full_b hb
  have := frame_by sr.pg (K2_ok _ _) _ (runFF La Lb n c m d g h) ⟨⟨⟨⟨trivial, (fun rd => a2.loopI La Lb n c m d g h 0 0 false rd ha.pos (by have := ha.len; omega) (by have := ha.big; omega))⟩, (fun rd => b3.loopI La Lb n c m d g h (s1 La n).1 (s1 La n).2.1 (s1 La n).2.2 rd hb.pos (by have := hb.len; omega) (by have := hb.big; omega))⟩, q1⟩, by rw [q2]; omega⟩ rfl rfl
  rw [q2] at this; exact this
theorem rawN (c : Nat) (g : Option Nat) : CallOk Try.prog 12 [.slice (some ⟨0, 0, none⟩) 1 1] (smSt 1 (hN c g) []) (.int .u16 (sc.car 0)) (smSt 1 (hN c g ++ nones 12) []) :=
  frame_by sr.pg (K2_ok _ _) _ (runN c g) ⟨trivial, by omega⟩ rfl rfl
theorem rawZ (c : Nat) (g : Option Nat) : CallOk Try.prog 12 [.slice (some ⟨1, 0, none⟩) 1 1] (smSt 2 (hZ c g) []) (.int .u16 (sc.car 0)) (smSt 2 (hZ c g ++ nones 12) []) :=
  frame_by sr.pg (K2_ok _ _) _ (runZ c g) ⟨trivial, by omega⟩ rfl rfl
theorem fit_two {L : List Value} {V0 V1 v0 v1 : Value} {e k : Nat} {ν δ : Nat → Nat} (h0 : L[e]? = some V0) (h1 : L[e + 1]? = some V1) (e0 : V0 = mv ν δ v0) (e1 : V1 = mv ν δ v1) (o0 : okN k v0 = true) (o1 : okN k v1 = true) :
    ∀ (x : Nat) (v : Value), (Cells.lit [v0, v1]).get x = some v → ∃ V, (Cells.lit L).get (e + x) = some V ∧ V = mv ν δ v ∧ okN k v = true := fun x v hv => by
  rcases x with _ | _ | x
  · simp only [Cells.get, List.getElem?_cons_zero, Option.some.injEq] at hv
    subst hv; exact ⟨V0, h0, e0, o0⟩
  · simp only [Cells.get, Nat.zero_add, List.getElem?_cons_succ, List.getElem?_cons_zero, Option.some.injEq] at hv
    subst hv; exact ⟨V1, h1, e1, o1⟩
  · simp [Cells.get] at hv
inductive PK where
  | nil
  | emp (b o : Nat) (g : Option Nat) (n c : Nat)
  | full (b o : Nat) (g : Option Nat) (n c : Nat) (l : List Int)
def rdP (s : St) (v : Option Value) (orc : List (Option Bool)) : Option (PK × List (Option Bool)) := match v with
  | some (.slice none 0 0) => some (.nil, orc)
  | some (.slice (some ⟨b, o, g⟩) n c) => match orc with
    | some false :: r => some (.emp b o g n c, r)
    | some true :: r => match s.heap.get b with
      | some (.cells (.ints .u8 l) _) => some (.full b o g n c l, r)
      | _ => none
    | _ => none
  | _ => none
/-- what is known of a part that was read -/
def Rd (s : St) (v : Option Value) : PK → Prop
  | .nil => v = some (.slice none 0 0)
  | .emp b o g n c => v = some (.slice (some ⟨b, o, g⟩) n c)
  | .full b o g n c l => v = some (.slice (some ⟨b, o, g⟩) n c) ∧ ∃ t, s.heap.get b = some (.cells (.ints .u8 l) t)
theorem rdP_ok {s : St} {v : Option Value} {orc r : List (Option Bool)} {k : PK} (h : rdP s v orc = some (k, r)) : Rd s v k := by
  unfold rdP at h
  split at h
  · cases h; rfl
  · split at h
    · cases h; rfl
    · split at h
      · rename_i hb; cases h; exact ⟨rfl, _, hb⟩
      · cases h
    · cases h
  · cases h
def cut (l : List Int) (o n : Nat) : List Int := (l.drop o).take n
def two (p q : Nat) (x y : PK) : Inst := match x, y with
  | .nil, .nil => ⟨[(p, q)], 1, [some (.cells (.lit [.slice none 0 0, .slice none 0 0]) 23)], [.slice (some ⟨0, 0, none⟩) 2 2], .int .u16 (sc.car (0)), [some (.cells (.lit [.slice none 0 0, .slice none 0 0]) 23)] ++ nones 12, True⟩
  | .nil, .emp bb ob gb nb cb => ⟨[(bb, ob), (p, q)], 2, [none, some (.cells (.lit [.slice none 0 0, .slice (some ⟨0, 0, gb⟩) nb cb]) 23)], [.slice (some ⟨1, 0, none⟩) 2 2], .int .u16 (sc.car (0)), [none, some (.cells (.lit [.slice none 0 0, .slice (some ⟨0, 0, gb⟩) nb cb]) 23)] ++ nones 12, nb = 0 ∧ True⟩
  | .nil, .full bb ob gb nb cb lb => ⟨[(bb, ob), (p, q)], 2, [some (.cells (.ints .u8 (cut lb ob nb)) 5), some (.cells (.lit [.slice none 0 0, .slice (some ⟨0, 0, gb⟩) nb cb]) 23)], [.slice (some ⟨1, 0, none⟩) 2 2], .int .u16 (sc.car (wsum (cut lb ob nb))), [some (.cells (.ints .u8 (cut lb ob nb)) 5), some (.cells (.lit [.slice none 0 0, .slice (some ⟨0, 0, gb⟩) nb cb]) 23)] ++ nones 12, Full (cut lb ob nb) nb ∧ True⟩
  | .emp ba oa ga na ca, .nil => ⟨[(ba, oa), (p, q)], 2, [none, some (.cells (.lit [.slice (some ⟨0, 0, ga⟩) na ca, .slice none 0 0]) 23)], [.slice (some ⟨1, 0, none⟩) 2 2], .int .u16 (sc.car (0)), [none, some (.cells (.lit [.slice (some ⟨0, 0, ga⟩) na ca, .slice none 0 0]) 23)] ++ nones 12, na = 0 ∧ True⟩
  | .emp ba oa ga na ca, .emp bb ob gb nb cb => ⟨[(ba, oa), (bb, ob), (p, q)], 3, [none, none, some (.cells (.lit [.slice (some ⟨0, 0, ga⟩) na ca, .slice (some ⟨1, 0, gb⟩) nb cb]) 23)], [.slice (some ⟨2, 0, none⟩) 2 2], .int .u16 (sc.car (0)), [none, none, some (.cells (.lit [.slice (some ⟨0, 0, ga⟩) na ca, .slice (some ⟨1, 0, gb⟩) nb cb]) 23)] ++ nones 12, na = 0 ∧ nb = 0 ∧ True⟩
  | .emp ba oa ga na ca, .full bb ob gb nb cb lb => ⟨[(ba, oa), (bb, ob), (p, q)], 3, [none, some (.cells (.ints .u8 (cut lb ob nb)) 5), some (.cells (.lit [.slice (some ⟨0, 0, ga⟩) na ca, .slice (some ⟨1, 0, gb⟩) nb cb]) 23)], [.slice (some ⟨2, 0, none⟩) 2 2], .int .u16 (sc.car (wsum (cut lb ob nb))), [none, some (.cells (.ints .u8 (cut lb ob nb)) 5), some (.cells (.lit [.slice (some ⟨0, 0, ga⟩) na ca, .slice (some ⟨1, 0, gb⟩) nb cb]) 23)] ++ nones 12, na = 0 ∧ Full (cut lb ob nb) nb ∧ True⟩
  | .full ba oa ga na ca la, .nil => ⟨[(ba, oa), (p, q)], 2, [some (.cells (.ints .u8 (cut la oa na)) 5), some (.cells (.lit [.slice (some ⟨0, 0, ga⟩) na ca, .slice none 0 0]) 23)], [.slice (some ⟨1, 0, none⟩) 2 2], .int .u16 (sc.car (wsum (cut la oa na))), [some (.cells (.ints .u8 (cut la oa na)) 5), some (.cells (.lit [.slice (some ⟨0, 0, ga⟩) na ca, .slice none 0 0]) 23)] ++ nones 12, Full (cut la oa na) na ∧ True⟩
  | .full ba oa ga na ca la, .emp bb ob gb nb cb => ⟨[(ba, oa), (bb, ob), (p, q)], 3, [some (.cells (.ints .u8 (cut la oa na)) 5), none, some (.cells (.lit [.slice (some ⟨0, 0, ga⟩) na ca, .slice (some ⟨1, 0, gb⟩) nb cb]) 23)], [.slice (some ⟨2, 0, none⟩) 2 2], .int .u16 (sc.car (wsum (cut la oa na))), [some (.cells (.ints .u8 (cut la oa na)) 5), none, some (.cells (.lit [.slice (some ⟨0, 0, ga⟩) na ca, .slice (some ⟨1, 0, gb⟩) nb cb]) 23)] ++ nones 12, Full (cut la oa na) na ∧ nb = 0 ∧ True⟩
  | .full ba oa ga na ca la, .full bb ob gb nb cb lb => ⟨[(ba, oa), (bb, ob), (p, q)], 3, [some (.cells (.ints .u8 (cut la oa na)) 5), some (.cells (.ints .u8 (cut lb ob nb)) 5), some (.cells (.lit [.slice (some ⟨0, 0, ga⟩) na ca, .slice (some ⟨1, 0, gb⟩) nb cb]) 23)], [.slice (some ⟨2, 0, none⟩) 2 2], .int .u16 (sc.car (wsum (cut la oa na) + wsum (cut lb ob nb))), [some (.cells (.ints .u8 (cut la oa na)) 5), some (.cells (.ints .u8 (cut lb ob nb)) 5), some (.cells (.lit [.slice (some ⟨0, 0, ga⟩) na ca, .slice (some ⟨1, 0, gb⟩) nb cb]) 23)] ++ nones 12, Full (cut la oa na) na ∧ Full (cut lb ob nb) nb ∧ True⟩
theorem two_ok {s : St} {p q : Nat} {lp : List Value} {tp : TypeId} {x y : PK} (hp : s.heap.get p = some (.cells (.lit lp) tp)) (hx : Rd s lp[q]? x) (hy : Rd s lp[q + 1]? y) :
    Fits s (two p q x y) [.slice (some ⟨p, q, none⟩) 2 2] ∧ ((two p q x y).ask → CallOk Try.prog 12 (two p q x y).args (two p q x y).s0 (two p q x y).val (two p q x y).s1) := by
  match x, y, hx, hy with
  | .nil, .nil, hx, hy =>
    refine ⟨⟨?_, fun j pp ob h1 h2 => ?_⟩, fun hask => ?_⟩
    · show [Value.slice (some ⟨p, q, none⟩) 2 2] = [Value.slice (some ⟨p, addO q 0, none⟩) 2 2]
      rw [addO_eq]; rfl
    · rcases j with _ | j
      · simp only [two, List.getElem?_cons_zero, Option.some.injEq] at h1 h2
        subst h1; subst h2
        refine ⟨_, hp, fit_two hx hy ?_ ?_ rfl rfl⟩
        · rfl
        · rfl
      · simp [two] at h1
    · exact rawNN [] [] 0 0 0 0 none none
  | .nil, .emp bb ob gb nb cb, hx, hy =>
    refine ⟨⟨?_, fun j pp ob h1 h2 => ?_⟩, fun hask => ?_⟩
    · show [Value.slice (some ⟨p, q, none⟩) 2 2] = [Value.slice (some ⟨p, addO q 0, none⟩) 2 2]
      rw [addO_eq]; rfl
    · rcases j with _ | _ | j
      · simp only [two, List.getElem?_cons_zero, Option.some.injEq] at h1 h2
        cases h2
      · simp only [two, Nat.zero_add, List.getElem?_cons_succ, List.getElem?_cons_zero, Option.some.injEq] at h1 h2
        subst h1; subst h2
        refine ⟨_, hp, fit_two hx hy ?_ ?_ rfl rfl⟩
        · rfl
        · show Value.slice (some ⟨bb, ob, gb⟩) nb cb = .slice (some ⟨bb, addO ob 0, gb⟩) nb cb
          rw [addO_eq]; rfl
      · simp [two] at h1
    · obtain ⟨rfl, _⟩ := hask
      exact rawNZ [] [] 0 0 0 cb none gb
  | .nil, .full bb ob gb nb cb lb, hx, hy =>
    obtain ⟨hy, tb, hbb⟩ := hy
    refine ⟨⟨?_, fun j pp ob h1 h2 => ?_⟩, fun hask => ?_⟩
    · show [Value.slice (some ⟨p, q, none⟩) 2 2] = [Value.slice (some ⟨p, addO q 0, none⟩) 2 2]
      rw [addO_eq]; rfl
    · rcases j with _ | _ | j
      · simp only [two, List.getElem?_cons_zero, Option.some.injEq] at h1 h2
        subst h1; subst h2
        exact ⟨_, hbb, fit_ints⟩
      · simp only [two, Nat.zero_add, List.getElem?_cons_succ, List.getElem?_cons_zero, Option.some.injEq] at h1 h2
        subst h1; subst h2
        refine ⟨_, hp, fit_two hx hy ?_ ?_ rfl rfl⟩
        · rfl
        · show Value.slice (some ⟨bb, ob, gb⟩) nb cb = .slice (some ⟨bb, addO ob 0, gb⟩) nb cb
          rw [addO_eq]; rfl
      · simp [two] at h1
    · obtain ⟨fb, _⟩ := hask
      exact rawNF [] (cut lb ob nb) 0 0 nb cb none gb fb
  | .emp ba oa ga na ca, .nil, hx, hy =>
    refine ⟨⟨?_, fun j pp ob h1 h2 => ?_⟩, fun hask => ?_⟩
    · show [Value.slice (some ⟨p, q, none⟩) 2 2] = [Value.slice (some ⟨p, addO q 0, none⟩) 2 2]
      rw [addO_eq]; rfl
    · rcases j with _ | _ | j
      · simp only [two, List.getElem?_cons_zero, Option.some.injEq] at h1 h2
        cases h2
      · simp only [two, Nat.zero_add, List.getElem?_cons_succ, List.getElem?_cons_zero, Option.some.injEq] at h1 h2
        subst h1; subst h2
        refine ⟨_, hp, fit_two hx hy ?_ ?_ rfl rfl⟩
        · show Value.slice (some ⟨ba, oa, ga⟩) na ca = .slice (some ⟨ba, addO oa 0, ga⟩) na ca
          rw [addO_eq]; rfl
        · rfl
      · simp [two] at h1
    · obtain ⟨rfl, _⟩ := hask
      exact rawZN [] [] 0 ca 0 0 ga none
  | .emp ba oa ga na ca, .emp bb ob gb nb cb, hx, hy =>
    refine ⟨⟨?_, fun j pp ob h1 h2 => ?_⟩, fun hask => ?_⟩
    · show [Value.slice (some ⟨p, q, none⟩) 2 2] = [Value.slice (some ⟨p, addO q 0, none⟩) 2 2]
      rw [addO_eq]; rfl
    · rcases j with _ | _ | _ | j
      · simp only [two, List.getElem?_cons_zero, Option.some.injEq] at h1 h2
        cases h2
      · simp only [two, Nat.zero_add, List.getElem?_cons_succ, List.getElem?_cons_zero, Option.some.injEq] at h1 h2
        cases h2
      · simp only [two, Nat.zero_add, List.getElem?_cons_succ, List.getElem?_cons_zero, Option.some.injEq] at h1 h2
        subst h1; subst h2
        refine ⟨_, hp, fit_two hx hy ?_ ?_ rfl rfl⟩
        · show Value.slice (some ⟨ba, oa, ga⟩) na ca = .slice (some ⟨ba, addO oa 0, ga⟩) na ca
          rw [addO_eq]; rfl
        · show Value.slice (some ⟨bb, ob, gb⟩) nb cb = .slice (some ⟨bb, addO ob 0, gb⟩) nb cb
          rw [addO_eq]; rfl
      · simp [two] at h1
    · obtain ⟨rfl, rfl, _⟩ := hask
      exact rawZZ [] [] 0 ca 0 cb ga gb
  | .emp ba oa ga na ca, .full bb ob gb nb cb lb, hx, hy =>
    obtain ⟨hy, tb, hbb⟩ := hy
    refine ⟨⟨?_, fun j pp ob h1 h2 => ?_⟩, fun hask => ?_⟩
    · show [Value.slice (some ⟨p, q, none⟩) 2 2] = [Value.slice (some ⟨p, addO q 0, none⟩) 2 2]
      rw [addO_eq]; rfl
    · rcases j with _ | _ | _ | j
      · simp only [two, List.getElem?_cons_zero, Option.some.injEq] at h1 h2
        cases h2
      · simp only [two, Nat.zero_add, List.getElem?_cons_succ, List.getElem?_cons_zero, Option.some.injEq] at h1 h2
        subst h1; subst h2
        exact ⟨_, hbb, fit_ints⟩
      · simp only [two, Nat.zero_add, List.getElem?_cons_succ, List.getElem?_cons_zero, Option.some.injEq] at h1 h2
        subst h1; subst h2
        refine ⟨_, hp, fit_two hx hy ?_ ?_ rfl rfl⟩
        · show Value.slice (some ⟨ba, oa, ga⟩) na ca = .slice (some ⟨ba, addO oa 0, ga⟩) na ca
          rw [addO_eq]; rfl
        · show Value.slice (some ⟨bb, ob, gb⟩) nb cb = .slice (some ⟨bb, addO ob 0, gb⟩) nb cb
          rw [addO_eq]; rfl
      · simp [two] at h1
    · obtain ⟨rfl, fb, _⟩ := hask
      exact rawZF [] (cut lb ob nb) 0 ca nb cb ga gb fb
  | .full ba oa ga na ca la, .nil, hx, hy =>
    obtain ⟨hx, ta, hba⟩ := hx
    refine ⟨⟨?_, fun j pp ob h1 h2 => ?_⟩, fun hask => ?_⟩
    · show [Value.slice (some ⟨p, q, none⟩) 2 2] = [Value.slice (some ⟨p, addO q 0, none⟩) 2 2]
      rw [addO_eq]; rfl
    · rcases j with _ | _ | j
      · simp only [two, List.getElem?_cons_zero, Option.some.injEq] at h1 h2
        subst h1; subst h2
        exact ⟨_, hba, fit_ints⟩
      · simp only [two, Nat.zero_add, List.getElem?_cons_succ, List.getElem?_cons_zero, Option.some.injEq] at h1 h2
        subst h1; subst h2
        refine ⟨_, hp, fit_two hx hy ?_ ?_ rfl rfl⟩
        · show Value.slice (some ⟨ba, oa, ga⟩) na ca = .slice (some ⟨ba, addO oa 0, ga⟩) na ca
          rw [addO_eq]; rfl
        · rfl
      · simp [two] at h1
    · obtain ⟨fa, _⟩ := hask
      exact rawFN (cut la oa na) [] na ca 0 0 ga none fa
  | .full ba oa ga na ca la, .emp bb ob gb nb cb, hx, hy =>
    obtain ⟨hx, ta, hba⟩ := hx
    refine ⟨⟨?_, fun j pp ob h1 h2 => ?_⟩, fun hask => ?_⟩
    · show [Value.slice (some ⟨p, q, none⟩) 2 2] = [Value.slice (some ⟨p, addO q 0, none⟩) 2 2]
      rw [addO_eq]; rfl
    · rcases j with _ | _ | _ | j
      · simp only [two, List.getElem?_cons_zero, Option.some.injEq] at h1 h2
        subst h1; subst h2
        exact ⟨_, hba, fit_ints⟩
      · simp only [two, Nat.zero_add, List.getElem?_cons_succ, List.getElem?_cons_zero, Option.some.injEq] at h1 h2
        cases h2
      · simp only [two, Nat.zero_add, List.getElem?_cons_succ, List.getElem?_cons_zero, Option.some.injEq] at h1 h2
        subst h1; subst h2
        refine ⟨_, hp, fit_two hx hy ?_ ?_ rfl rfl⟩
        · show Value.slice (some ⟨ba, oa, ga⟩) na ca = .slice (some ⟨ba, addO oa 0, ga⟩) na ca
          rw [addO_eq]; rfl
        · show Value.slice (some ⟨bb, ob, gb⟩) nb cb = .slice (some ⟨bb, addO ob 0, gb⟩) nb cb
          rw [addO_eq]; rfl
      · simp [two] at h1
    · obtain ⟨fa, rfl, _⟩ := hask
      exact rawFZ (cut la oa na) [] na ca 0 cb ga gb fa
  | .full ba oa ga na ca la, .full bb ob gb nb cb lb, hx, hy =>
    obtain ⟨hx, ta, hba⟩ := hx
    obtain ⟨hy, tb, hbb⟩ := hy
    refine ⟨⟨?_, fun j pp ob h1 h2 => ?_⟩, fun hask => ?_⟩
    · show [Value.slice (some ⟨p, q, none⟩) 2 2] = [Value.slice (some ⟨p, addO q 0, none⟩) 2 2]
      rw [addO_eq]; rfl
    · rcases j with _ | _ | _ | j
      · simp only [two, List.getElem?_cons_zero, Option.some.injEq] at h1 h2
        subst h1; subst h2
        exact ⟨_, hba, fit_ints⟩
      · simp only [two, Nat.zero_add, List.getElem?_cons_succ, List.getElem?_cons_zero, Option.some.injEq] at h1 h2
        subst h1; subst h2
        exact ⟨_, hbb, fit_ints⟩
      · simp only [two, Nat.zero_add, List.getElem?_cons_succ, List.getElem?_cons_zero, Option.some.injEq] at h1 h2
        subst h1; subst h2
        refine ⟨_, hp, fit_two hx hy ?_ ?_ rfl rfl⟩
        · show Value.slice (some ⟨ba, oa, ga⟩) na ca = .slice (some ⟨ba, addO oa 0, ga⟩) na ca
          rw [addO_eq]; rfl
        · show Value.slice (some ⟨bb, ob, gb⟩) nb cb = .slice (some ⟨bb, addO ob 0, gb⟩) nb cb
          rw [addO_eq]; rfl
      · simp [two] at h1
    · obtain ⟨fa, fb, _⟩ := hask
      exact rawFF (cut la oa na) (cut lb ob nb) na ca nb cb ga gb fa fb
def one (p q : Nat) : PK → Inst
  | .nil => ⟨[(p, q)], 1, [some (.cells (.lit [.slice none 0 0]) 23)], [.slice (some ⟨0, 0, none⟩) 1 1], .int .u16 (sc.car 0), [some (.cells (.lit [.slice none 0 0]) 23)] ++ nones 12, True⟩
  | .emp b o g n c => ⟨[(b, o), (p, q)], 2, [none, some (.cells (.lit [.slice (some ⟨0, 0, g⟩) n c]) 23)], [.slice (some ⟨1, 0, none⟩) 1 1], .int .u16 (sc.car 0), [none, some (.cells (.lit [.slice (some ⟨0, 0, g⟩) n c]) 23)] ++ nones 12, n = 0⟩
  | .full b o g n c l => ⟨[(b, o), (p, q)], 2, hR (cut l o n) n c g, [.slice (some ⟨1, 0, none⟩) 1 1], .int .u16 (sc.car (wsum (cut l o n))), hR (cut l o n) n c g ++ nones 12, Full (cut l o n) n⟩
theorem one_ok {s : St} {p q : Nat} {lp : List Value} {tp : TypeId} {x : PK} (hp : s.heap.get p = some (.cells (.lit lp) tp)) (hx : Rd s lp[q]? x) :
    Fits s (one p q x) [.slice (some ⟨p, q, none⟩) 1 1] ∧ ((one p q x).ask → CallOk Try.prog 12 (one p q x).args (one p q x).s0 (one p q x).val (one p q x).s1) := by
  match x, hx with
  | .nil, hx =>
    refine ⟨⟨?_, fun j pp ob h1 h2 => ?_⟩, fun hask => rawN 0 none⟩
    · show [Value.slice (some ⟨p, q, none⟩) 1 1] = [Value.slice (some ⟨p, addO q 0, none⟩) 1 1]
      rw [addO_eq]; rfl
    · rcases j with _ | j
      · simp only [one, List.getElem?_cons_zero, Option.some.injEq] at h1 h2
        subst h1; subst h2
        exact ⟨_, hp, fit_one hx rfl rfl⟩
      · simp [one] at h1
  | .emp b o g n c, hx =>
    refine ⟨⟨?_, fun j pp ob h1 h2 => ?_⟩, fun hask => ?_⟩
    · show [Value.slice (some ⟨p, q, none⟩) 1 1] = [Value.slice (some ⟨p, addO q 0, none⟩) 1 1]
      rw [addO_eq]; rfl
    · rcases j with _ | _ | j
      · simp only [one, List.getElem?_cons_zero, Option.some.injEq] at h1 h2
        cases h2
      · simp only [one, Nat.zero_add, List.getElem?_cons_succ, List.getElem?_cons_zero, Option.some.injEq] at h1 h2
        subst h1; subst h2
        refine ⟨_, hp, fit_one hx ?_ rfl⟩
        show Value.slice (some ⟨b, o, g⟩) n c = .slice (some ⟨b, addO o 0, g⟩) n c
        rw [addO_eq]; rfl
      · simp [one] at h1
    · have hask : n = 0 := hask
      subst hask; exact rawZ c g
  | .full b o g n c l, hx =>
    obtain ⟨hx, tb, hb⟩ := hx
    refine ⟨⟨?_, fun j pp ob h1 h2 => ?_⟩, fun hask => raw1 _ n c g hask.byt hask.pos hask.len hask.big⟩
    · show [Value.slice (some ⟨p, q, none⟩) 1 1] = [Value.slice (some ⟨p, addO q 0, none⟩) 1 1]
      rw [addO_eq]; rfl
    · rcases j with _ | _ | j
      · simp only [one, hR, List.getElem?_cons_zero, Option.some.injEq] at h1 h2
        subst h1; subst h2
        exact ⟨_, hb, fit_ints⟩
      · simp only [one, hR, Nat.zero_add, List.getElem?_cons_succ, List.getElem?_cons_zero, Option.some.injEq] at h1 h2
        subst h1; subst h2
        refine ⟨_, hp, fit_one hx ?_ rfl⟩
        show Value.slice (some ⟨b, o, g⟩) n c = .slice (some ⟨b, addO o 0, g⟩) n c
        rw [addO_eq]; rfl
      · simp [one] at h1
def FO (f : FuncId) (args : List Value) (s : St) : Option (Inst × Nat) := if f == 12 then match args with
  | [.slice (some ⟨p, q, none⟩) 1 1] => match s.heap.get p with
    | some (.cells (.lit lp) _) => (rdP s lp[q]? s.orc).bind fun x => some (one p q x.1, s.orc.length - x.2.length)
    | _ => none
  | [.slice (some ⟨p, q, none⟩) 2 2] => match s.heap.get p with
    | some (.cells (.lit lp) _) => (rdP s lp[q]? s.orc).bind fun x => (rdP s lp[q + 1]? x.2).bind fun y => some (two p q x.1 y.1, s.orc.length - y.2.length)
    | _ => none
  | _ => none else none
theorem FO_ok (f : FuncId) (args : List Value) (s : St) (i : Inst) (k : Nat) (h : FO f args s = some (i, k)) : Fits s i args ∧ (i.ask → CallOk Try.prog f i.args i.s0 i.val i.s1) := by
  unfold FO at h
  split at h
  · rename_i hf
    have hf' : f = 12 := by simpa using hf
    subst hf'
    split at h
    · split at h
      · rename_i hp
        rw [bind_some] at h
        obtain ⟨⟨x, r⟩, h1, h⟩ := h
        cases h
        exact one_ok hp (rdP_ok h1)
      · cases h
    · split at h
      · rename_i hp
        rw [bind_some] at h
        obtain ⟨⟨x, r⟩, h1, h⟩ := h
        rw [bind_some] at h
        obtain ⟨⟨y, r2⟩, h2, h⟩ := h
        cases h
        exact two_ok hp (rdP_ok h1) (rdP_ok h2)
      · cases h
    · cases h
  · cases h
end
end st
end Go.Proofs.Yteknepfcbpoooab
