/- Read off the code by the clean reading. -/
import Derived.Test.YtkcngffpnnlmeaaClnGb
import Derived.Test.YtkcngffpnnlmeaaClnEq
import Derived.Test.YtkcngffpnnlmeaaClnGa
import Derived.Test.YtkcngffpnnlmeaaClnQd
set_option linter.unusedVariables false
set_option linter.unusedSimpArgs false
set_option linter.deprecated false
set_option maxRecDepth 100000
namespace Go.Proofs.Ytkcngffpnnlmeaa
open Go.ChangeShapes Go.WideShapes Go.ChangeAt Go.RowKit Go.Cln
namespace gc
open ae ga gb
noncomputable section
end
end gc
end Go.Proofs.Ytkcngffpnnlmeaa
namespace Go.Proofs.Ytkcngffpnnlmeaa
open Go.ChangeShapes Go.WideShapes Go.ChangeAt Go.RowKit Go.Cln
namespace pl
open ae ga
noncomputable section
def iRr (W : List Int) (n : Nat) (L : List Int) (a : Nat) : List Int := layI (layI (List.replicate (zR a n) 0) (0 + 0) (List.take a (List.drop 0 L))) (0 + (0 + a)) (List.take n (List.drop 0 W))
def pRr (W : List Int) (n : Nat) (L : List Int) (a : Nat) : Prop := (((((((((True /\ IntKind.i64.wrap (0 + nI a) = 0 + nI a) /\ IntKind.i64.wrap (0 + nI a + nI n) = 0 + nI a + nI n) /\ IntKind.i64.wrap (nI 0 - nI 0) = nI 0 - nI 0) /\ (IntKind.i64.wrap (0 + nI a + nI n - (nI 0 - nI 0))) = (0 + nI a + nI n - (nI 0 - nI 0))) /\ decide ((0 + nI a + nI n - (nI 0 - nI 0)) > 0) = true) /\ (1 <= (IntKind.i64.wrap (0 + nI a + nI n - (nI 0 - nI 0))) /\ zR a n * 1 <= mostBytes /\ zR a n <= mostBytes)) /\ decide (0 + a <= zR a n) = true) /\ (0 + a <= L.length /\ 0 + 0 + a <= (List.replicate (zR a n) (0 : Int)).length)) /\ decide (0 + a + n <= zR a n) = true) /\ (0 + n <= W.length /\ 0 + (0 + a) + n <= (layI (List.replicate (zR a n) 0) (0 + 0) (List.take a (List.drop 0 L))).length)
theorem iRr_eq {W L : List Int} {n a : Nat} (h : n <= 1000000) (g : a <= 1000000) (hL : W.length = n) (ha : L.length = a) : iRr W n L a = L ++ W := by
 unfold iRr
 rw [zR_eq h g, List.drop_zero, List.drop_zero, List.take_of_length_le (by omega : L.length <= a), List.take_of_length_le (by omega : W.length <= n)]
 unfold layI
 simp [hL, ha]
theorem pRr_ok {W L : List Int} {n a : Nat} (h0 : 0 < a) (g : a <= 1000000) (h : n <= 1000000) (hL : W.length = n) (ha : L.length = a) : pRr W n L a := by
 unfold pRr
 have e0 : List.take a (List.drop 0 L) = L := by rw [List.drop_zero]; exact List.take_of_length_le (by omega)
 rw [zR_eq h g, e0, lay_len _ _ _ (by simp; omega)]
 simp only [nI, IntKind.wrap_i64, decide_eq_true_eq, mostBytes, List.length_replicate]
 repeat' apply And.intro
 all_goals first | exact True.intro | omega
def cRrn (W : List Int) (n c : Nat) (L : List Int) (a d : Nat) (r : List (Option Bool)) : Option (Value × St) := (mk Try.prog KI 200).call 30 [sl 0 0 none 2 2] (smSt 3 [some (.cells (.lit [sl 2 0 (some 1) a d, sl 1 0 none n c]) 22), oBy W, oBy L] r)
def hRrn (W : List Int) (n c : Nat) (L : List Int) (a d : Nat) : List (Option Ob) := [some (.cells (.lit [sl 2 0 (some 1) a d, sl 1 0 none n c]) 22), oBy W, oBy L]
def hRr2n (W : List Int) (n c : Nat) (L : List Int) (a d : Nat) (I : List Int) : List (Option Ob) := [some (.cells (.lit [sl 2 0 (some 1) a d, sl 1 0 none n c]) 22), oBy W, oBy L, oBy I]
theorem runRrn (W : List Int) (n c : Nat) (L : List Int) (a d : Nat) : (cRrn W n c L a d oR).map (fun r => (r.1, r.2.obl, r.2.next, keepL [true, true, true, true] r.2.heap.get 0)) = some (sl 3 0 (some 1) (0 + a + n) (zR a n), pRr W n L a, (hRr2n W n c L a d (iRr W n L a)).length, hRr2n W n c L a d (iRr W n L a)) := by kernel_rfl
theorem ccRrn {W L : List Int} {n c a d : Nat} (h0 : 0 < a) (g : a <= 1000000) (h : n <= 1000000) (hL : W.length = n) (ha : L.length = a) : CallOk Try.prog 30 [sl 0 0 none 2 2] (smSt 3 (hRrn W n c L a d) []) (sl 3 0 (some 1) (a + n) (a + n)) (smSt 3 (hRr2n W n c L a d (L ++ W)) []) := by
 have := frame_by pg KI_ok _ (runRrn W n c L a d) (pRr_ok h0 g h hL ha) (by rfl) rfl
 rw [iRr_eq h g hL ha, zR_eq h g, Nat.zero_add] at this
 exact this
def cRrg (W : List Int) (n c : Nat) (L : List Int) (a d : Nat) (r : List (Option Bool)) : Option (Value × St) := (mk Try.prog KI 200).call 30 [sl 0 0 none 2 2] (smSt 3 [some (.cells (.lit [sl 2 0 (some 1) a d, sl 1 0 (some 1) n c]) 22), oBy W, oBy L] r)
def hRrg (W : List Int) (n c : Nat) (L : List Int) (a d : Nat) : List (Option Ob) := [some (.cells (.lit [sl 2 0 (some 1) a d, sl 1 0 (some 1) n c]) 22), oBy W, oBy L]
def hRr2g (W : List Int) (n c : Nat) (L : List Int) (a d : Nat) (I : List Int) : List (Option Ob) := [some (.cells (.lit [sl 2 0 (some 1) a d, sl 1 0 (some 1) n c]) 22), oBy W, oBy L, oBy I]
theorem runRrg (W : List Int) (n c : Nat) (L : List Int) (a d : Nat) : (cRrg W n c L a d oR).map (fun r => (r.1, r.2.obl, r.2.next, keepL [true, true, true, true] r.2.heap.get 0)) = some (sl 3 0 (some 1) (0 + a + n) (zR a n), pRr W n L a, (hRr2g W n c L a d (iRr W n L a)).length, hRr2g W n c L a d (iRr W n L a)) := by kernel_rfl
theorem ccRrg {W L : List Int} {n c a d : Nat} (h0 : 0 < a) (g : a <= 1000000) (h : n <= 1000000) (hL : W.length = n) (ha : L.length = a) : CallOk Try.prog 30 [sl 0 0 none 2 2] (smSt 3 (hRrg W n c L a d) []) (sl 3 0 (some 1) (a + n) (a + n)) (smSt 3 (hRr2g W n c L a d (L ++ W)) []) := by
 have := frame_by pg KI_ok _ (runRrg W n c L a d) (pRr_ok h0 g h hL ha) (by rfl) rfl
 rw [iRr_eq h g hL ha, zR_eq h g, Nat.zero_add] at this
 exact this
def hE0 (g : Option Nat) (W : List Int) (c : Nat) : List (Option Ob) := [some (.cells (.lit [.slice none 0 0, sl 1 0 g 0 c]) 22), oBy W]
def pE0 (W : List Int) : Prop := True /\ (0 + 0 = 0 /\ 0 = 0 /\ 0 + 0 <= W.length)
theorem runE0n (W : List Int) (c : Nat) : ((mk Try.prog KI 200).call 30 [sl 0 0 none 2 2] (smSt 2 (hE0 none W c) [])).map (fun r => (r.1, r.2.obl, r.2.next, keepL [true, true] r.2.heap.get 0)) = some (.slice none 0 0, pE0 W, (hE0 none W c).length, hE0 none W c) := by kernel_rfl
theorem runE0g (W : List Int) (c : Nat) : ((mk Try.prog KI 200).call 30 [sl 0 0 none 2 2] (smSt 2 (hE0 (some 1) W c) [])).map (fun r => (r.1, r.2.obl, r.2.next, keepL [true, true] r.2.heap.get 0)) = some (.slice none 0 0, pE0 W, (hE0 (some 1) W c).length, hE0 (some 1) W c) := by kernel_rfl
theorem ccE0r {g : Option Nat} (hg : g = none ∨ g = some 1) (W : List Int) (c : Nat) : CallOk Try.prog 30 [sl 0 0 none 2 2] (smSt 2 (hE0 g W c) []) (.slice none 0 0) (smSt 2 (hE0 g W c) []) := by
 rcases hg with rfl | rfl
 ·exact frame_by pg KI_ok _ (runE0n W c) ⟨trivial, rfl, rfl, Nat.zero_le _⟩ (by rfl) rfl
 ·exact frame_by pg KI_ok _ (runE0g W c) ⟨trivial, rfl, rfl, Nat.zero_le _⟩ (by rfl) rfl
open ae ga
def EHq (W : List Int) (M : List Int) (a : Nat) (ks f1 f2 x : Nat -> Int) (A : List Int) (o n c : Nat) : Nat -> Option Ob := fun i => match i with
 | 0 => some (.cells (.ints .u8 W) 5)
 | 1 => some (.cells (.lit (rowV .u8 176 ks ++ [.bool true])) 84)
 | 2 => some (.cells (.lit (.pointer (some ⟨1, 0, none⟩) :: (rowV .u8 16 f1 ++ (rowV .u8 16 f2 ++ (rowV .u8 16 x ++ [sl 3 0 (some 1) a a]))))) 70)
 | 3 => some (.cells (.ints .u8 M) 5)
 | 4 => some (.cells (.lit ([.pointer (some ⟨2, 0, none⟩)])) 44)
 | 6 => some (.cells (.ints .u8 A) 5)
 | 7 => some (.cells (.lit [.slice (some ⟨6, o, some 1⟩) n c]) 22)
 | 8 => some (.marks)
 | 9 => some (.loop ⟨.ready, none, [.pointer (some ⟨2, 0, none⟩), junk, .pointer (some ⟨4, 0, none⟩), undef, .int .i64 0, undef, undef, .pointer (some ⟨2, 0, none⟩), .bool false, .pointer (some ⟨2, 0, none⟩), .pointer (some ⟨2, 0, none⟩), .pointer (some ⟨2, 49, none⟩)] ++ J 4 ++ [.func (.func 43) #[] #[.pointer (some ⟨7, 0, none⟩)]] ++ U 25, #[17, 18], (rngAt Try.prog 18 0).2.1, (rngAt Try.prog 18 0).2.2, 8⟩)
 | _ => none
def Eq' (W : List Int) (M : List Int) (a : Nat) (ks f1 f2 x : Nat -> Int) (A : List Int) (o n c : Nat) : St := ⟨[.func (.yield 9) #[] #[], .pointer (some ⟨7, 0, none⟩)] ++ U 19, [], Tr.rebuild (EHq W M a ks f1 f2 x A o n c) 10, 10, 2, [], fun _ => false, True, []⟩
def RHq (W : List Int) (M : List Int) (a : Nat) (ks f1 f2 x : Nat -> Int) (A : List Int) (o n c : Nat) : Nat -> Option Ob := fun i => match i with
 | 0 => some (.cells (.ints .u8 W) 5)
 | 1 => some (.cells (.lit (rowV .u8 176 ks ++ [.bool true])) 84)
 | 2 => some (.cells (.lit (.pointer (some ⟨1, 0, none⟩) :: (rowV .u8 16 f1 ++ (rowV .u8 16 f2 ++ (rowV .u8 16 x ++ [sl 3 0 (some 1) a a]))))) 70)
 | 3 => some (.cells (.ints .u8 M) 5)
 | 4 => some (.cells (.lit ([.pointer (some ⟨2, 0, none⟩)])) 44)
 | 6 => some (.cells (.ints .u8 A) 5)
 | 7 => some (.cells (.lit [.slice (some ⟨6, o, some 1⟩) n c]) 22)
 | 8 => some (.marks)
 | 9 => some (.loop ⟨.ready, none, [.pointer (some ⟨2, 0, none⟩), junk, .pointer (some ⟨4, 0, none⟩), undef, .int .i64 0, undef, undef, .pointer (some ⟨2, 0, none⟩), .bool false, .pointer (some ⟨2, 0, none⟩), .pointer (some ⟨2, 0, none⟩), .pointer (some ⟨2, 49, none⟩)] ++ J 4 ++ [.func (.func 43) #[] #[.pointer (some ⟨7, 0, none⟩)]] ++ U 25, #[17, 18], (rngAt Try.prog 18 0).2.1, (rngAt Try.prog 18 0).2.2, 8⟩)
 | _ => none
def Rq (W : List Int) (M : List Int) (a : Nat) (ks f1 f2 x : Nat -> Int) (A : List Int) (o n c : Nat) : St := ⟨[.func (.yield 9) #[] #[], .pointer (some ⟨7, 0, none⟩), undef, .int .i64 16, junk, junk, .bool true, junk, junk, .int .i64 16, .func (.yield 9) #[] #[]] ++ J 3 ++ [.int .i64 16, junk, .bool true, .bool false, junk, .int .i64 16, junk], [], Tr.rebuild (RHq W M a ks f1 f2 x A o n c) 10, 10, 2, [], fun _ => false, True, []⟩
def XHq (W : List Int) (M : List Int) (a : Nat) (ks f1 f2 x : Nat -> Int) (A : List Int) (o n : Nat) : Nat -> Option Ob := fun i => match i with
 | 0 => some (.cells (.ints .u8 W) 5)
 | 1 => some (.cells (.lit (rowV .u8 176 ks ++ [.bool true])) 84)
 | 2 => some (.cells (.lit (.pointer (some ⟨1, 0, none⟩) :: (rowV .u8 16 f1 ++ (rowV .u8 16 f2 ++ (rowV .u8 16 x ++ [.slice (some ⟨11, 0, some 1⟩) (0 + n) (0 + n)]))))) 70)
 | 3 => some (.cells (.ints .u8 M) 5)
 | 4 => some (.cells (.lit ([.pointer (some ⟨2, 0, none⟩)])) 44)
 | 6 => some (.cells (.ints .u8 A) 5)
 | 7 => some (.cells (.lit [junk]) 22)
 | 8 => some (.marks)
 | 9 => some (.loop ⟨.done, some (.exit 0), [.pointer (some ⟨2, 0, none⟩), junk, .pointer (some ⟨4, 0, none⟩), undef, .int .i64 0, undef, undef, .pointer (some ⟨2, 0, none⟩), .bool false, .pointer (some ⟨2, 0, none⟩), .pointer (some ⟨2, 0, none⟩), .pointer (some ⟨2, 49, none⟩)] ++ J 4 ++ [.func (.func 43) #[] #[.pointer (some ⟨7, 0, none⟩)]] ++ U 25, #[17, 18], (rngAt Try.prog 18 0).2.1, (rngAt Try.prog 18 0).2.2, 8⟩)
 | 11 => some (.cells (.ints .u8 ((A.drop o).take n)) 5)
 | _ => none
def Xq (W : List Int) (M : List Int) (a : Nat) (ks f1 f2 x : Nat -> Int) (A : List Int) (o n : Nat) : St := ⟨[.func (.yield 9) #[] #[], .pointer (some ⟨7, 0, none⟩), undef] ++ J 18, [], Tr.rebuild (XHq W M a ks f1 f2 x A o n) 12, 12, 2, [], fun _ => false, True, []⟩
theorem wEq (U : UX) (T : CT) (W : List Int) (M : List Int) (a : Nat) (ks f1 f2 x : Nat -> Int) (A : List Int) (o n c : Nat) (x0 : Nat -> Int) (o0 n0 c0 : Nat) (rd : Option Nat) (hp : pS U T A o n c) :
  Step Try.prog rd (Eq' W M a ks f1 f2 x0 A o0 n0 c0) bW (Eq' W M a ks f1 f2 x A o n c) (fun e s => e = .normal /\ s = Rq W M a ks f1 f2 (chx U T ks x A o) A (o + 16) (n - 16) (c - 16)) :=
 Step.std pg (KW_ok U T) (n := 200) (f := 43) (σ := []) (o := oS) (n1 := 101) (g := RHq W M a ks f1 f2 (chx U T ks x A o) A (o + 16) (n - 16) (c - 16)) (by kernel_rfl) hp (Nat.le_refl _) rfl (by kernel_rfl)
theorem wRq (U : UX) (T : CT) (W : List Int) (M : List Int) (a : Nat) (ks f1 f2 x : Nat -> Int) (A : List Int) (o n c : Nat) (x0 : Nat -> Int) (o0 n0 c0 : Nat) (rd : Option Nat) (hp : pS U T A o n c) :
  Step Try.prog rd (Eq' W M a ks f1 f2 x0 A o0 n0 c0) bW (Rq W M a ks f1 f2 x A o n c) (fun e s => e = .normal /\ s = Rq W M a ks f1 f2 (chx U T ks x A o) A (o + 16) (n - 16) (c - 16)) :=
 Step.std pg (KW_ok U T) (n := 200) (f := 43) (σ := []) (o := oS) (n1 := 101) (g := RHq W M a ks f1 f2 (chx U T ks x A o) A (o + 16) (n - 16) (c - 16)) (by kernel_rfl) hp (Nat.le_refl _) rfl (by kernel_rfl)
theorem wXq (U : UX) (T : CT) (W : List Int) (M : List Int) (a : Nat) (ks f1 f2 x : Nat -> Int) (A : List Int) (o n c : Nat) (x0 : Nat -> Int) (o0 n0 c0 : Nat) (rd : Option Nat) (hp : pD A o n c) :
  Step Try.prog rd (Eq' W M a ks f1 f2 x0 A o0 n0 c0) bW (Rq W M a ks f1 f2 x A o n c) (fun e s => e = .ret /\ s = Xq W M a ks f1 f2 x A o n) :=
 Step.std pg (KW_ok U T) (n := 200) (f := 43) (σ := []) (o := oD) (n1 := 12) (g := XHq W M a ks f1 f2 x A o n) (by kernel_rfl) hp (Nat.le_refl _) rfl (by kernel_rfl)
theorem loopWrq (W : List Int) (M : List Int) (a : Nat) (ks f1 f2 x : Nat -> Int) (A : List Int) (o c q r : Nat) (hq : 0 < q) (h0 : 0 < r) (h1 : r <= 16) (hc : 16 * q + r <= c) (hA : o + (16 * q + r) <= A.length) (hm : A.length <= 1000000) (rd : Option Nat) :
  CodeOk Try.prog rd (.loop bW) (Eq' W M a ks f1 f2 x A o (16 * q + r) c) .ret (Xq W M a ks f1 f2 (wch ks A q o x) A (o + 16 * q) r) := by
 refine CodeOk.of_step (Step.loop (fun k s => (k = q /\ s = Eq' W M a ks f1 f2 x A o (16 * q + r) c) ∨ ∃ i, 0 < i /\ i <= q /\ k = q - i /\ s = Rq W M a ks f1 f2 (wch ks A i o x) A (o + 16 * i) (16 * q + r - 16 * i) (c - 16 * i)) ?_ q _ (.inl ⟨rfl, rfl⟩))
 have ps : ∀ i, i < q -> pS U0 CT0 A (o + 16 * i) (16 * q + r - 16 * i) (c - 16 * i) := fun i hi => by
  refine ⟨⟨⟨⟨⟨⟨⟨⟨trivial, ?_⟩, ?_⟩, ?_⟩, ?_⟩, by omega⟩, rfl⟩, rfl⟩, ?_⟩
  ·rw [decide_eq_true_eq]; omega
  ·rw [decide_eq_true_eq]; omega
  ·omega
  ·rw [decide_eq_true_eq]; omega
  ·omega
 rintro k s (⟨rfl, rfl⟩ | ⟨i, hi0, hi, rfl, rfl⟩)
 ·refine (wEq U0 CT0 W M a ks f1 f2 x A o (16 * k + r) c x o (16 * k + r) c rd (ps 0 hq)).mono ?_
  rintro e s ⟨rfl, rfl⟩
  exact .inl ⟨rfl, k - 1, by omega, .inr ⟨1, by omega, by omega, rfl, rfl⟩⟩
 ·rcases Nat.lt_or_ge i q with h | h
  ·refine (wRq U0 CT0 W M a ks f1 f2 (wch ks A i o x) A (o + 16 * i) (16 * q + r - 16 * i) (c - 16 * i) x o (16 * q + r) c rd (ps i h)).mono ?_
   rintro e s ⟨rfl, rfl⟩
   refine .inl ⟨rfl, q - (i + 1), by omega, .inr ⟨i + 1, by omega, by omega, rfl, ?_⟩⟩
   rw [wch_succ, show o + 16 * i + 16 = o + 16 * (i + 1) by omega, show 16 * q + r - 16 * i - 16 = 16 * q + r - 16 * (i + 1) by omega, show c - 16 * i - 16 = c - 16 * (i + 1) by omega]
  ·obtain rfl : i = q := by omega
   have e : 16 * i + r - 16 * i = r := by omega
   rw [e]
   refine (wXq U0 CT0 W M a ks f1 f2 (wch ks A i o x) A (o + 16 * i) r (c - 16 * i) x o (16 * i + r) c rd ?_).mono ?_
   ·refine ⟨⟨⟨⟨⟨⟨trivial, ?_⟩, ?_⟩, by omega⟩, ?_⟩, ?_⟩, by omega, by omega, by unfold mostBytes; omega, by unfold mostBytes; omega⟩
    ·rw [decide_eq_true_eq]; omega
    ·rw [decide_eq_false_iff_not]; omega
    ·rw [decide_eq_false_iff_not]; omega
    ·rw [decide_eq_false_iff_not]; omega
   ·rintro e s ⟨rfl, rfl⟩
    exact .inr ⟨(by intro x; cases x), rfl, rfl⟩
open ae ga
def FKr (f : FuncId) (args : List Value) (s : St) : Option (Inst × Nat) := if f == 30 then (match args with
 | [.slice (some ⟨k, 0, none⟩) 2 2] => (match s.heap.get k with
  | some (.cells (.lit [l, .slice (some ⟨b, 0, g⟩) n c]) _) => (match s.heap.get b with
   | some (.cells (.ints .u8 W) _) => if gOk g then (match l with
    | .slice none 0 0 => (match s.orc with
     | some true :: _ => some (⟨[(k, 0), (b, 0)], 2, hcc W 0 g n c, [sl 0 0 none 2 2], sl 2 0 (some 1) n n, hcf W g n c, 0 < n /\ n <= 1000000 /\ W.length = n⟩, 1)
     | some false :: _ => some (⟨[(k, 0), (b, 0)], 2, hcc W 0 g n c, [sl 0 0 none 2 2], .slice none 0 0, hcc W 0 g n c, n = 0⟩, 1)
     | _ => none)
    | .slice (some ⟨z, 0, some 1⟩) a d => (match s.heap.get z with
     | some (.cells (.ints .u8 L) _) => some (⟨[(k, 0), (b, 0), (z, 0)], 3, [some (.cells (.lit [sl 2 0 (some 1) a d, sl 1 0 g n c]) 22), oBy W, oBy L], [sl 0 0 none 2 2], sl 3 0 (some 1) (a + n) (a + n), [some (.cells (.lit [sl 2 0 (some 1) a d, sl 1 0 g n c]) 22), oBy W, oBy L, oBy (L ++ W)], 0 < a /\ a <= 1000000 /\ n <= 1000000 /\ W.length = n /\ L.length = a⟩, 0)
     | _ => none)
    | _ => none) else none
   | _ => none)
  | _ => none)
 | _ => none) else none
theorem fit_two' {m : Nat} {ν δ : Nat -> Nat} {u u' v v' : Value} (hu : u' = mv ν δ u) (ou : okN m u = true) (hv : v' = mv ν δ v) (ov : okN m v = true) :
  ∀ (x : Nat) (y : Value), (Cells.lit [u, v]).get x = some y -> ∃ Y, (Cells.lit [u', v']).get (0 + x) = some Y /\ Y = mv ν δ y /\ okN m y = true := fun x y hy => by
 rw [Nat.zero_add]
 rcases x with _ | _ | x
 ·simp only [Cells.get, List.getElem?_cons_zero, Option.some.injEq] at hy ⊢
  subst hy; exact ⟨_, rfl, hu, ou⟩
 ·simp only [Cells.get, List.getElem?_cons_succ, List.getElem?_cons_zero, Option.some.injEq] at hy ⊢
  subst hy; exact ⟨_, rfl, hv, ov⟩
 ·simp [Cells.get] at hy
theorem FKr_ok (f : FuncId) (args : List Value) (s : St) (i : Inst) (u : Nat) (h : FKr f args s = some (i, u)) : Fits s i args /\ (i.ask -> CallOk Try.prog f i.args i.s0 i.val i.s1) := by
 unfold FKr at h
 split at h
 ·rename_i hf
  have hf' : f = 30 := by simpa using hf
  subst hf'
  split at h
  ·rename_i k
   split at h
   ·rename_i l b g n c tk hk
    split at h
    ·rename_i W tb hb
     split at h
     ·rename_i hg
      have sgn : ∀ (ν δ : Nat -> Nat), ν 1 = b -> δ 1 = 0 -> Value.slice (some ⟨b, 0, g⟩) n c = mv ν δ (sl 1 0 g n c) := fun ν δ e1 e2 => by
       unfold sl
       rw [mv_sl _ _ (gOk_abs hg), e1, e2, addO_eq]
      split at h
      ·have fitE : ∀ (V : Value) (h' : List (Option Ob)) (q : Prop), Fits s ⟨[(k, 0), (b, 0)], 2, hcc W 0 g n c, [sl 0 0 none 2 2], V, h', q⟩ [.slice (some ⟨k, 0, none⟩) 2 2] := fun V h' q => by
        refine ⟨?_, fun j pp ob h1 hh => ?_⟩
        ·show [Value.slice (some ⟨k, 0, none⟩) 2 2] = [Value.slice (some ⟨k, addO 0 0, none⟩) 2 2]
         rw [addO_eq]
        ·rcases j with _ | _ | j
         ·simp only [List.getElem?_cons_zero, Option.some.injEq] at h1
          simp only [hcc, List.getElem?_cons_zero, Option.some.injEq] at hh
          subst h1; subst hh
          exact ⟨_, hk, fit_two' rfl rfl (sgn _ _ rfl rfl) (okN_sl (gOk_abs hg) (show 1 < 2 by decide))⟩
         ·simp only [Nat.zero_add, List.getElem?_cons_succ, List.getElem?_cons_zero, Option.some.injEq] at h1
          simp only [hcc, Nat.zero_add, List.getElem?_cons_succ, List.getElem?_cons_zero, Option.some.injEq] at hh
          subst h1; subst hh
          exact ⟨_, hb, fit_whole'⟩
         ·simp at h1
       split at h
       ·cases h
        refine ⟨fitE _ _ _, fun ⟨q0, q1, q2⟩ => ?_⟩
        have := cc_ok (L := W) (q := 0) (c := c) (gOk_iff hg) q0 q1 (by omega)
        rw [hcf_eq q2] at this; exact this
       ·cases h
        refine ⟨fitE _ _ _, fun q => ?_⟩
        cases (show n = 0 from q)
        exact ccE0r (gOk_iff hg) W c
       ·cases h
      ·rename_i z a d
       split at h
       ·rename_i L tz hz
        cases h
        refine ⟨⟨?_, fun j pp ob h1 hh => ?_⟩, fun ⟨q0, q1, q2, q3, q4⟩ => ?_⟩
        ·show [Value.slice (some ⟨k, 0, none⟩) 2 2] = [Value.slice (some ⟨k, addO 0 0, none⟩) 2 2]
         rw [addO_eq]
        ·rcases j with _ | _ | _ | j
         ·simp only [List.getElem?_cons_zero, Option.some.injEq] at h1 hh
          subst h1; subst hh
          refine ⟨_, hk, fit_two' ?_ rfl (sgn _ _ rfl rfl) (okN_sl (gOk_abs hg) (show 1 < 3 by decide))⟩
          show Value.slice (some ⟨z, 0, some 1⟩) a d = Value.slice (some ⟨z, addO 0 0, some 1⟩) a d
          rw [addO_eq]
         ·simp only [oBy, Nat.zero_add, List.getElem?_cons_succ, List.getElem?_cons_zero, Option.some.injEq] at h1 hh
          subst h1; subst hh
          exact ⟨_, hb, fit_whole'⟩
         ·simp only [oBy, Nat.zero_add, Nat.reduceAdd, List.getElem?_cons_succ, List.getElem?_cons_zero, Option.some.injEq] at h1 hh
          subst h1; subst hh
          exact ⟨_, hz, fit_whole'⟩
         ·simp at h1
        ·rcases gOk_iff hg with rfl | rfl
         ·exact ccRrn (c := c) (d := d) q0 q1 q2 q3 q4
         ·exact ccRrg (c := c) (d := d) q0 q1 q2 q3 q4
       ·cases h
      ·cases h
     ·cases h
    ·cases h
   ·cases h
  ·cases h
 ·cases h
def KQ (U : UX) (T : CT) : Given := { Given.framesO (Given.frames Given.nothing (FW U T)) FKr with fits := true }
theorem KQ_ok (U : UX) (T : CT) : GivenOk Try.prog (KQ U T) := frames_fits (((GivenOk.nothing _).frames (FW_ok U T)).framesO FKr_ok) true
def KQR (U : UX) (T : CT) (S : St) : Given := Given.asking2 (KQ U T) Try.prog (ga.askR S)
theorem KQR_ok (U : UX) (T : CT) (S : St) : GivenOk Try.prog (KQR U T S) := GivenOk.asking2 (KQ_ok U T) _
def wrQ0 (K : Given) (g : Option Nat) (W : List Int) (ks f1 f2 x : Nat -> Int) (n c : Nat) (r : List (Option Bool)) : Option (Value × St) := (mk Try.prog K 200).call 18 [P0 2 0, sl 0 0 g n c] (smSt 2 [oBy W, oCi ks, oMa f1 f2 x (.slice none 0 0)] r)
def wrQ (K : Given) (g : Option Nat) (W M : List Int) (a : Nat) (ks f1 f2 x : Nat -> Int) (n c : Nat) (r : List (Option Bool)) : Option (Value × St) := (mk Try.prog K 200).call 18 [P0 2 0, sl 0 0 g n c] (smSt 2 [oBy W, oCi ks, oMa f1 f2 x (sl 3 0 (some 1) a a), oBy M] r)
def aQ (W M : List Int) (a n : Nat) : Prop := 0 < a /\ a <= 1000000 /\ n <= 1000000 /\ W.length = n /\ M.length = a
def hQx (W M : List Int) (ks f1 f2 x : Nat -> Int) (A : List Int) (o r : Nat) : List (Option Ob) := [oBy W, oCi ks, oMa f1 f2 x (sl 11 0 (some 1) (0 + r) (0 + r)), oBy M] ++ (List.replicate 7 none ++ [oBy ((A.drop o).take r)])
def hQ0 (W : List Int) (ks f1 f2 x : Nat -> Int) (k : Nat) : List (Option Ob) := [oBy W, oCi ks, oMa f1 f2 x (.slice none 0 0)] ++ List.replicate k none
def pQB (W M : List Int) (a n : Nat) : Prop := ((((((True /\ aQ W M a n) /\ decide (((a + n : Nat) : Int) > 0) = true) /\ decide ((16 : Int) < ((a + n : Nat) : Int)) = false) /\ (0 <= ((a + n : Nat) : Int) /\ ((a + n : Nat) : Int) <= ((a + n : Nat) : Int) /\ (0 : Int) <= 0 /\ (0 : Int) <= ((a + n : Nat) : Int))) /\ decide (((a + n : Nat) : Int) > 16) = false) /\ decide (0 + (a + n) <= 0) = false) /\ (0 + (a + n) <= (M ++ W).length /\ 0 + 0 <= 0 /\ (0 + (a + n)) * 1 <= mostBytes /\ 0 + (a + n) <= mostBytes)
theorem wQ0n (U : UX) (T : CT) (W : List Int) (ks f1 f2 x : Nat -> Int) (n c : Nat) : (wrQ0 (KQ U T) none W ks f1 f2 x n c (nn 8 ++ [some false])).map (fun r => (r.1, r.2.obl, r.2.next, keepL ([true, true, true] ++ List.replicate 5 false) r.2.heap.get 0)) = some (.int .i64 0, True /\ n = 0, (hQ0 W ks f1 f2 x 5).length, hQ0 W ks f1 f2 x 5) := by kernel_rfl
theorem wQBn (U : UX) (T : CT) (W : List Int) (M : List Int) (a : Nat) (ks f1 f2 x : Nat -> Int) (n c : Nat) : (wrQ (KQ U T) none W M a ks f1 f2 x n c (nn 8 ++ oD)).map (fun r => (r.1, r.2.obl, r.2.next, keepL kR r.2.heap.get 0)) = some (.int .i64 0, pQB W M a n, (hQx W M ks f1 f2 x (M ++ W) 0 (a + n)).length, hQx W M ks f1 f2 x (M ++ W) 0 (a + n)) := by kernel_rfl
theorem wQCn (U : UX) (T : CT) (W : List Int) (M : List Int) (a : Nat) (ks f1 f2 x : Nat -> Int) (n c : Nat) (x' : Nat -> Int) (o' r : Nat) : (wrQ (KQR U T (Xq W M a ks f1 f2 x' (M ++ W) o' r)) none W M a ks f1 f2 x n c []).map (fun r => (r.1, r.2.obl, r.2.next, keepL kR r.2.heap.get 0)) = some (.int .i64 0, (True /\ aQ W M a n) /\ (∀ rd, CodeOk Try.prog rd (.loop bW) (Eq' W M a ks f1 f2 x (M ++ W) 0 (a + n) (a + n)) .ret (Xq W M a ks f1 f2 x' (M ++ W) o' r)), (hQx W M ks f1 f2 x' (M ++ W) o' r).length, hQx W M ks f1 f2 x' (M ++ W) o' r) := by kernel_rfl
theorem wQ0g (U : UX) (T : CT) (W : List Int) (ks f1 f2 x : Nat -> Int) (n c : Nat) : (wrQ0 (KQ U T) (some 1) W ks f1 f2 x n c (nn 8 ++ [some false])).map (fun r => (r.1, r.2.obl, r.2.next, keepL ([true, true, true] ++ List.replicate 5 false) r.2.heap.get 0)) = some (.int .i64 0, True /\ n = 0, (hQ0 W ks f1 f2 x 5).length, hQ0 W ks f1 f2 x 5) := by kernel_rfl
theorem wQBg (U : UX) (T : CT) (W : List Int) (M : List Int) (a : Nat) (ks f1 f2 x : Nat -> Int) (n c : Nat) : (wrQ (KQ U T) (some 1) W M a ks f1 f2 x n c (nn 8 ++ oD)).map (fun r => (r.1, r.2.obl, r.2.next, keepL kR r.2.heap.get 0)) = some (.int .i64 0, pQB W M a n, (hQx W M ks f1 f2 x (M ++ W) 0 (a + n)).length, hQx W M ks f1 f2 x (M ++ W) 0 (a + n)) := by kernel_rfl
theorem wQCg (U : UX) (T : CT) (W : List Int) (M : List Int) (a : Nat) (ks f1 f2 x : Nat -> Int) (n c : Nat) (x' : Nat -> Int) (o' r : Nat) : (wrQ (KQR U T (Xq W M a ks f1 f2 x' (M ++ W) o' r)) (some 1) W M a ks f1 f2 x n c []).map (fun r => (r.1, r.2.obl, r.2.next, keepL kR r.2.heap.get 0)) = some (.int .i64 0, (True /\ aQ W M a n) /\ (∀ rd, CodeOk Try.prog rd (.loop bW) (Eq' W M a ks f1 f2 x (M ++ W) 0 (a + n) (a + n)) .ret (Xq W M a ks f1 f2 x' (M ++ W) o' r)), (hQx W M ks f1 f2 x' (M ++ W) o' r).length, hQx W M ks f1 f2 x' (M ++ W) o' r) := by kernel_rfl
open ae ga
theorem pQB_ok {W M : List Int} {a n : Nat} (h : aQ W M a n) (h16 : a + n <= 16) : pQB W M a n := by
 have h0 := h
 obtain ⟨q0, q1, q2, q3, q4⟩ := h
 unfold pQB
 rw [List.length_append, q3, q4]
 refine ⟨⟨⟨⟨⟨⟨⟨trivial, h0⟩, ?_⟩, ?_⟩, by omega⟩, ?_⟩, ?_⟩, by omega, by omega, by unfold mostBytes; omega, by unfold mostBytes; omega⟩
 ·rw [decide_eq_true_eq]; omega
 ·rw [decide_eq_false_iff_not]; omega
 ·rw [decide_eq_false_iff_not]; omega
 ·rw [decide_eq_false_iff_not]; omega
theorem wq_0 {g : Option Nat} (hg : g = none ∨ g = some 1) (W : List Int) (ks f1 f2 x : Nat -> Int) (c : Nat) : CallOk Try.prog 18 [P0 2 0, sl 0 0 g 0 c] (smSt 2 [oBy W, oCi ks, oMa f1 f2 x (.slice none 0 0)] []) (.int .i64 0) (smSt 2 (hQ0 W ks f1 f2 x 5) []) := by
 rcases hg with rfl | rfl
 ·exact frame_by pg (KQ_ok U0 CT0) _ (wQ0n U0 CT0 W ks f1 f2 x 0 c) ⟨trivial, rfl⟩ (by rfl) rfl
 ·exact frame_by pg (KQ_ok U0 CT0) _ (wQ0g U0 CT0 W ks f1 f2 x 0 c) ⟨trivial, rfl⟩ (by rfl) rfl
theorem wq_R {g : Option Nat} (hg : g = none ∨ g = some 1) (W M : List Int) (a : Nat) (ks f1 f2 x : Nat -> Int) (n c : Nat) (h : aQ W M a n) (hn : a + n <= 1000000) : CallOk Try.prog 18 [P0 2 0, sl 0 0 g n c] (smSt 2 [oBy W, oCi ks, oMa f1 f2 x (sl 3 0 (some 1) a a), oBy M] []) (.int .i64 0) (smSt 2 (hQx W M ks f1 f2 (wch ks (M ++ W) (qn (a + n)) 0 x) (M ++ W) (16 * qn (a + n)) (rn (a + n))) []) := by
 have hh := h
 obtain ⟨q0, q1, q2, q3, q4⟩ := h
 obtain ⟨e0, e1, e2⟩ := qr_eq (n := a + n) (by omega)
 have hlen : (M ++ W).length = a + n := by rw [List.length_append, q3, q4]
 by_cases hQ : a + n <= 16
 ·have z1 : qn (a + n) = 0 := by unfold qn; omega
  have z2 : rn (a + n) = a + n := by unfold rn; omega
  rw [z1, z2]
  rcases hg with rfl | rfl
  ·exact frame_by pg (KQ_ok U0 CT0) _ (wQBn U0 CT0 W M a ks f1 f2 x n c) (pQB_ok hh hQ) (by rfl) rfl
  ·exact frame_by pg (KQ_ok U0 CT0) _ (wQBg U0 CT0 W M a ks f1 f2 x n c) (pQB_ok hh hQ) (by rfl) rfl
 ·have hl := fun rd => loopWrq W M a ks f1 f2 x (M ++ W) 0 (a + n) (qn (a + n)) (rn (a + n)) (by unfold qn; omega) e1 e2 (by omega) (by omega) (by omega) rd
  rw [e0] at hl
  rcases hg with rfl | rfl
  ·have := frame_by pg (KQR_ok U0 CT0 _) _ (wQCn U0 CT0 W M a ks f1 f2 x n c (wch ks (M ++ W) (qn (a + n)) 0 x) (0 + 16 * qn (a + n)) (rn (a + n))) ⟨⟨trivial, hh⟩, hl⟩ (by rfl) rfl
   rw [Nat.zero_add] at this
   exact this
  ·have := frame_by pg (KQR_ok U0 CT0 _) _ (wQCg U0 CT0 W M a ks f1 f2 x n c (wch ks (M ++ W) (qn (a + n)) 0 x) (0 + 16 * qn (a + n)) (rn (a + n))) ⟨⟨trivial, hh⟩, hl⟩ (by rfl) rfl
   rw [Nat.zero_add] at this
   exact this
theorem wq_E {g : Option Nat} (hg : g = none ∨ g = some 1) (W : List Int) (ks f1 f2 x : Nat -> Int) (n c : Nat) (h0 : 0 < n) (hn : n <= 1000000) (hL : W.length = n) (hc : n <= c) : CallOk Try.prog 18 [P0 2 0, sl 0 0 g n c] (smSt 2 [oBy W, oCi ks, oMa f1 f2 x (.slice none 0 0)] []) (.int .i64 0) (smSt 2 ([oBy W, oCi ks, oMa f1 f2 (wch ks W (qn n) 0 x) (sl 10 0 (some 1) (rn n) (rn n))] ++ (List.replicate 7 none ++ [oBy ((W.drop (16 * qn n)).take (rn n))])) []) := by
 obtain ⟨e0, e1, e2⟩ := qr_eq h0
 have eL : List.take n (List.drop 0 W) = W := by rw [List.drop_zero, List.take_of_length_le (by omega)]
 have w := write_ok W ks f1 f2 x 0 c (qn n) (rn n) g hg e1 e2 (by omega) (by omega) (by rw [e0, eL]; exact hL)
 rw [e0, eL] at w
 unfold hMx hMac at w
 rw [Nat.zero_add, Nat.zero_add] at w
 exact w
def F18r (T : VT) (f : FuncId) (args : List Value) (s : St) : Option (Inst × Nat) := if f == 18 then (match args with
 | [.pointer (some ⟨m, 0, none⟩), .slice (some ⟨b, 0, g⟩) n c] => (match s.heap.get m with
  | some (.cells (.lit (.pointer (some ⟨ci, 0, none⟩) :: l)) _) => (match s.heap.get ci with
   | some (.cells (.lit lc) _) => (match s.heap.get b with
    | some (.cells (.ints .u8 W) _) => if gOk g && (okC lc && isN 48 (l.take 48).toArray) then (match l.drop 48 with
     | [.slice none 0 0] => (match s.orc with
      | some true :: _ => some (⟨[(b, 0), (ci, 0), (m, 0)], 2, [oBy W, oC lc, oMc (P0 1 0 :: (l.take 48 ++ [.slice none 0 0]))], [P0 2 0, sl 0 0 g n c], .int .i64 0,
        [oBy W, oC lc, oMc (P0 1 0 :: ((l.take 48).take 32 ++ (R16 (T.wx (lc.take 176) ((l.take 48).drop 32) W) ++ [sl 10 0 (some 1) (T.r n) (T.r n)])))] ++ (List.replicate 7 none ++ [oI ((W.drop (T.o n)).take (T.r n))]), T = VT0 /\ 0 < n /\ n <= 1000000 /\ W.length = n /\ n <= c⟩, 1)
      | some false :: _ => some (⟨[(b, 0), (ci, 0), (m, 0)], 2, [oBy W, oC lc, oMc (P0 1 0 :: (l.take 48 ++ [.slice none 0 0]))], [P0 2 0, sl 0 0 g n c], .int .i64 0,
        [oBy W, oC lc, oMc (P0 1 0 :: (l.take 48 ++ [.slice none 0 0]))] ++ List.replicate 5 none, n = 0⟩, 1)
      | _ => none)
     | [.slice (some ⟨z, 0, some 1⟩) a d] => (match s.heap.get z with
      | some (.cells (.ints .u8 M) _) => some (⟨[(b, 0), (ci, 0), (m, 0), (z, 0)], 2, [oBy W, oC lc, oMc (P0 1 0 :: (l.take 48 ++ [sl 3 0 (some 1) a d])), oI M], [P0 2 0, sl 0 0 g n c], .int .i64 0,
        [oBy W, oC lc, oMc (P0 1 0 :: ((l.take 48).take 32 ++ (R16 (T.wx (lc.take 176) ((l.take 48).drop 32) (M ++ W)) ++ [sl 11 0 (some 1) (T.r (a + n)) (T.r (a + n))]))), oI M] ++ (List.replicate 7 none ++ [oI (((M ++ W).drop (T.o (a + n))).take (T.r (a + n)))]),
        T = VT0 /\ d = a /\ 0 < a /\ a <= 1000000 /\ n <= 1000000 /\ a + n <= 1000000 /\ W.length = n /\ M.length = a⟩, 0)
      | _ => none)
     | _ => none) else none
    | _ => none)
   | _ => none)
  | _ => none)
 | _ => none) else none
theorem F18r_ok (T : VT) (f : FuncId) (args : List Value) (s : St) (i : Inst) (u : Nat) (h : F18r T f args s = some (i, u)) : Fits s i args /\ (i.ask -> CallOk Try.prog f i.args i.s0 i.val i.s1) := by
 unfold F18r at h
 split at h
 ·rename_i hf
  have hf' : f = 18 := by simpa using hf
  subst hf'
  split at h
  ·rename_i m b g n c
   split at h
   ·rename_i ci l tm hm
    split at h
    ·rename_i lc tc hci
     split at h
     ·rename_i W tb hb
      split at h
      ·rename_i hc
       rw [Bool.and_eq_true, Bool.and_eq_true] at hc
       obtain ⟨hg, hc⟩ := hc
       obtain ⟨a', bb, cx, p1, p2, p3, p4, p5, i1, i2, i3⟩ := parts48 hc.2
       have argE : ∀ (ν δ : Nat -> Nat), ν 0 = b -> δ 0 = 0 -> ν 2 = m -> δ 2 = 0 -> [Value.pointer (some ⟨m, 0, none⟩), .slice (some ⟨b, 0, g⟩) n c] = [P0 2 0, sl 0 0 g n c].map (mv ν δ) := fun ν δ e1 e2 e3 e4 => by
        show _ = [Value.pointer (some ⟨ν 2, addO (δ 2) 0, none⟩), mv ν δ (sl 0 0 g n c)]
        unfold sl
        rw [mv_sl _ _ (gOk_abs hg), e1, e2, e3, e4, addO_eq]
       split at h
       ·rename_i hd
        have el := cat48 hd
        have fitE : ∀ (V : Value) (h' : List (Option Ob)) (q : Prop), Fits s ⟨[(b, 0), (ci, 0), (m, 0)], 2, [oBy W, oC lc, oMc (P0 1 0 :: (l.take 48 ++ [.slice none 0 0]))], [P0 2 0, sl 0 0 g n c], V, h', q⟩ [.pointer (some ⟨m, 0, none⟩), .slice (some ⟨b, 0, g⟩) n c] := fun V h' q => by
         refine ⟨argE _ _ rfl rfl rfl rfl, fun j pp ob h1 hh => ?_⟩
         rcases j with _ | _ | _ | j
         ·simp only [oBy, List.getElem?_cons_zero, Option.some.injEq] at h1 hh
          subst h1; subst hh
          exact ⟨_, hb, fit_whole'⟩
         ·simp only [oC, Nat.zero_add, List.getElem?_cons_succ, List.getElem?_cons_zero, Option.some.injEq] at h1 hh
          subst h1; subst hh
          exact ⟨_, hci, fit_same (okC_flat0 hc.1)⟩
         ·simp only [oMc, Nat.zero_add, Nat.reduceAdd, List.getElem?_cons_succ, List.getElem?_cons_zero, Option.some.injEq] at h1 hh
          subst h1; subst hh
          rw [el] at hm
          refine ⟨_, hm, fit_obj' ?_ rfl (isN_flat0 hc.2) rfl rfl⟩
          show Value.pointer (some ⟨ci, 0, none⟩) = Value.pointer (some ⟨ci, addO 0 0, none⟩)
          rw [addO_eq]
         ·simp at h1
        split at h
        ·cases h
         refine ⟨fitE _ _ _, fun hT => ?_⟩
         obtain ⟨rfl, q0, q1, q2, q3⟩ := hT
         have w := wq_E (gOk_iff hg) W (intAt (lc.take 176)) a' bb cx n c q0 q1 q2 q3
         rw [← oC_eq hc.1, ← oMc_eq p4] at w
         have ew : VT0.wx (lc.take 176) ((l.take 48).drop 32) W = wch (intAt (lc.take 176)) W (qn n) 0 cx := by
          show wch (intAt (lc.take 176)) W ((W.length - 1) / 16) 0 (intAt ((l.take 48).drop 32)) = _
          rw [q2, i3]; rfl
         show CallOk Try.prog 18 [P0 2 0, sl 0 0 g n c] (smSt 2 [oBy W, oC lc, oMc (P0 1 0 :: (l.take 48 ++ [.slice none 0 0]))] []) (.int .i64 0) (smSt 2 ([oBy W, oC lc, oMc (P0 1 0 :: ((l.take 48).take 32 ++ (R16 (VT0.wx (lc.take 176) ((l.take 48).drop 32) W) ++ [sl 10 0 (some 1) (rn n) (rn n)])))] ++ (List.replicate 7 none ++ [oBy ((W.drop (16 * qn n)).take (rn n))])) [])
         rw [ew, p5, List.append_assoc]
         exact w
        ·cases h
         refine ⟨fitE _ _ _, fun hT => ?_⟩
         cases (show n = 0 from hT)
         have w := wq_0 (gOk_iff hg) W (intAt (lc.take 176)) a' bb cx c
         unfold hQ0 at w
         rw [← oC_eq hc.1, ← oMc_eq p4] at w
         exact w
        ·cases h
       ·rename_i z a d hd
        have el := cat48 hd
        split at h
        ·rename_i M tz hz
         cases h
         refine ⟨⟨argE _ _ rfl rfl rfl rfl, fun j pp ob h1 hh => ?_⟩, fun hT => ?_⟩
         ·rcases j with _ | _ | _ | _ | j
          ·simp only [oBy, List.getElem?_cons_zero, Option.some.injEq] at h1 hh
           subst h1; subst hh
           exact ⟨_, hb, fit_whole'⟩
          ·simp only [oC, Nat.zero_add, List.getElem?_cons_succ, List.getElem?_cons_zero, Option.some.injEq] at h1 hh
           subst h1; subst hh
           exact ⟨_, hci, fit_same (okC_flat0 hc.1)⟩
          ·simp only [oMc, Nat.zero_add, Nat.reduceAdd, List.getElem?_cons_succ, List.getElem?_cons_zero, Option.some.injEq] at h1 hh
           subst h1; subst hh
           rw [el] at hm
           refine ⟨_, hm, fit_obj' ?_ rfl (isN_flat0 hc.2) ?_ rfl⟩
           ·show Value.pointer (some ⟨ci, 0, none⟩) = Value.pointer (some ⟨ci, addO 0 0, none⟩)
            rw [addO_eq]
           ·show Value.slice (some ⟨z, 0, some 1⟩) a d = Value.slice (some ⟨z, addO 0 0, some 1⟩) a d
            rw [addO_eq]
          ·simp only [oI, Nat.zero_add, Nat.reduceAdd, List.getElem?_cons_succ, List.getElem?_cons_zero, Option.some.injEq] at h1 hh
           subst h1; subst hh
           exact ⟨_, hz, fit_whole'⟩
          ·simp at h1
         ·obtain ⟨rfl, rfl, q0, q1, q2, q3, q4, q5⟩ := hT
          have w := wq_R (gOk_iff hg) W M d (intAt (lc.take 176)) a' bb cx n c ⟨q0, q1, q2, q4, q5⟩ q3
          unfold hQx at w
          rw [← oC_eq hc.1, ← oMc_eq p4, Nat.zero_add] at w
          have ew : VT0.wx (lc.take 176) ((l.take 48).drop 32) (M ++ W) = wch (intAt (lc.take 176)) (M ++ W) (qn (d + n)) 0 cx := by
           show wch (intAt (lc.take 176)) (M ++ W) (((M ++ W).length - 1) / 16) 0 (intAt ((l.take 48).drop 32)) = _
           rw [List.length_append, q4, q5, i3]; rfl
          show CallOk Try.prog 18 [P0 2 0, sl 0 0 g n c] (smSt 2 [oBy W, oC lc, oMc (P0 1 0 :: (l.take 48 ++ [sl 3 0 (some 1) d d])), oBy M] []) (.int .i64 0) (smSt 2 ([oBy W, oC lc, oMc (P0 1 0 :: ((l.take 48).take 32 ++ (R16 (VT0.wx (lc.take 176) ((l.take 48).drop 32) (M ++ W)) ++ [sl 11 0 (some 1) (rn (d + n)) (rn (d + n))]))), oBy M] ++ (List.replicate 7 none ++ [oBy (((M ++ W).drop (16 * qn (d + n))).take (rn (d + n)))])) [])
          rw [ew, p5, List.append_assoc]
          exact w
        ·cases h
       ·cases h
      ·cases h
     ·cases h
    ·cases h
   ·cases h
  ·cases h
 ·cases h
end
end pl
end Go.Proofs.Ytkcngffpnnlmeaa
namespace Go.Proofs.Ytkcngffpnnlmeaa
open Go.ChangeShapes Go.WideShapes Go.ChangeAt Go.RowKit Go.Cln
namespace pm
open ae ga gb gc
noncomputable section
def KFQ (TG : ae.GT) : Given := { Given.frames Given.nothing (FQ 15 row16 148 TG) with fits := true }
theorem KFQ_ok (TG : ae.GT) : GivenOk Try.prog (KFQ TG) := frames_fits ((GivenOk.nothing _).frames (q15 TG)) true
def hP (F : Nat -> Nat -> Cells) (K : List Int) (M : Option (List Int)) : List (Option Ob) := [some (.fam F), oI K, M.bind oI]
def hP' (F : Nat -> Nat -> Cells) (K : List Int) (M : Option (List Int)) : List (Option Ob) := hP F K M ++ List.replicate 148 none
def PS (P n d : Nat) : Value := .slice (some ⟨P, 0, some 1000⟩) n d
theorem run15M (TG : ae.GT) (F : Nat -> Nat -> Cells) (K M : List Int) (c n d : Nat) : ((mk Try.prog (KFQ TG) 200).call 15 [sl 1 0 none 16 c, sl 2 0 none n d] (smSt 3 (hP F K (some M)) [])).map (fun r => (r.1, r.2.obl, r.2.next, keepL ([true, true, true] ++ List.replicate 148 false) r.2.heap.get 0)) =
  some (row16 (TG (wd K 0 16) (wd M 0 n)), True /\ TG = tagF /\ okA (wd K 0 16) (wd M 0 n) n, (hP' F K (some M)).length, hP' F K (some M)) := by kernel_rfl
theorem wSp (T : RR) (F : Nat -> Nat -> Cells) (K : List Int) (c P d : Nat) : ((mk Try.prog (KR T) 200).call 15 [sl 1 0 none 16 c, PS P 0 d] (smSt 3 (hP F K none) (oSm 0))).map (fun r => (r.1, r.2.obl, r.2.next, keepL ([true, true, true] ++ List.replicate 148 false) r.2.heap.get 0)) =
  some (row16 (xLr T K [] 0 (T.sn (kR K)) Z0 0 0), pS3 T K [] 0, (hP' F K none).length, hP' F K none) := by kernel_rfl
theorem hget_hP {F : Nat -> Nat -> Cells} {K : List Int} {M : Option (List Int)} {b : Nat} : hget (hP F K M) b = match b with
  | 0 => some (.fam F)
  | 1 => oI K
  | 2 => M.bind oI
  | _ => none := by
 rcases b with _ | _ | _ | b <;> rfl
theorem hget_pad {l : List (Option Ob)} {k b : Nat} : hget (l ++ List.replicate k none) b = hget l b := by
 unfold hget
 rcases Nat.lt_or_ge b l.length with h | h
 ·rw [List.getElem?_append_left h]
 ·rw [List.getElem?_append_right h, List.getElem?_eq_none h]
  cases e : (List.replicate k (none : Option Ob))[b - l.length]? with
  | none => rfl
  | some o => exact List.eq_of_mem_replicate (List.mem_of_getElem? e)
theorem getP {F : Nat -> Nat -> Cells} {K : List Int} {M : Option (List Int)} (b : Nat) : (smSt 3 (hP F K M) []).heap.get b = hget (hP F K M) b := ofL_get (by simp [hP]) b
theorem getP' {F : Nat -> Nat -> Cells} {K : List Int} {M : Option (List Int)} (b : Nat) : (smSt 3 (hP' F K M) []).heap.get b = hget (hP F K M) b := (ofL_get (by simp [hP', hP]) b).trans hget_pad
theorem free_ints {j : Nat} {L : List Int} {t : TypeId} : freeO j (.cells (.ints .u8 L) t) := fun i v hv => by
 simp only [Cells.get, Option.map_eq_some_iff] at hv
 obtain ⟨q, _, rfl⟩ := hv
 rfl
theorem lessP {F : Nat -> Nat -> Cells} {K M : List Int} {Pl : Nat} : Less 2 Pl (smSt 3 (hP F K (some M)) []) (smSt 3 (hP F K none) []) := by
 refine .of rfl rfl rfl rfl ?_ (fun x hx => ?_) fun x o hx ho => ?_
 ·rw [getP, hget_hP]; rfl
 ·rw [getP, getP, hget_hP, hget_hP]
  rcases x with _ | _ | _ | x
  ·rfl
  ·rfl
  ·exact absurd rfl hx
  ·rfl
 ·rw [getP, hget_hP] at ho
  rcases x with _ | _ | _ | x
  ·cases ho; trivial
  ·cases ho; exact free_ints
  ·exact absurd rfl hx
  ·cases ho
theorem lessP' {F : Nat -> Nat -> Cells} {K M : List Int} {Pl : Nat} : Less 2 Pl (smSt 3 (hP' F K (some M)) []) (smSt 3 (hP' F K none) []) := by
 refine .of rfl rfl rfl rfl ?_ (fun x hx => ?_) fun x o hx ho => ?_
 ·rw [getP', hget_hP]; rfl
 ·rw [getP', getP', hget_hP, hget_hP]
  rcases x with _ | _ | _ | x
  ·rfl
  ·rfl
  ·exact absurd rfl hx
  ·rfl
 ·rw [getP', hget_hP] at ho
  rcases x with _ | _ | _ | x
  ·cases ho; trivial
  ·cases ho; exact free_ints
  ·exact absurd rfl hx
  ·cases ho
theorem wd_len {D : List Int} {n : Nat} (h : (wd D 0 n).length = n) : wd (wd D 0 n) 0 n = wd D 0 n := by
 unfold wd at h ⊢
 rw [List.drop_zero] at h ⊢
 rw [List.drop_zero, List.take_take, Nat.min_self]
theorem rtagP {F : Nat -> Nat -> Cells} {K D : List Int} {P n c d : Nat} (hF : F 1000 P = .ints .u8 D) (hK : OkK K) (hD : (wd D 0 n).length = n) (hn : n <= 1000) (hd : n <= d) :
  CallOk Try.prog 15 [sl 1 0 none 16 c, PS P n d] (smSt 3 (hP F K none) []) (row16 (tagF K (wd D 0 n))) (smSt 3 (hP' F K none) []) := by
 rcases Nat.eq_zero_or_pos n with h0 | h0
 ·subst h0
  have := frame_by pg (KR_ok RR0) _ (wSp RR0 F K c P d) (pS3_ok (M := []) hK) (by rfl) rfl
  rw [row16_congr (fun j hj => xLr0_eq (M := []) (r := 0) hK.1 (by omega) rfl hj)] at this; exact this
 ·have h1 := frame_by pg (KFQ_ok tagF) _ (run15M tagF F K (wd D 0 n) c n d) ⟨trivial, rfl, by rw [wdK hK.1]; exact hK, by rw [wd_len hD]; exact hD, hn⟩ (by rfl) rfl
  rw [wdK hK.1, wd_len hD] at h1
  refine h1.place (j := 2) (Pl := P) (L := wd D 0 n) (F := F) (ty := 5) trivial (by rw [getP]; rfl) (by rw [getP]; rfl) (show 2 < 3 by decide) (by decide) (fun i x hx => ?_) (by omega) lessP lessP' (fun b hb => ?_) ⟨(show 2 < 3 by decide), rfl⟩ (.inl ⟨rfl, rfl⟩) ⟨rfl, fun i x y hx hy => ?_⟩
  rotate_left
  ·rw [getP, getP']
  ·rcases i with _ | _ | i
   ·cases hx; cases hy; exact .inl ⟨rfl, rfl⟩
   ·cases hx; cases hy
    exact .inr ⟨0, n, d, by omega, rfl, rfl⟩
   ·cases hx
  ·rw [hF]
   simp only [Cells.get, Option.map_eq_some_iff] at hx ⊢
   obtain ⟨q, hq, rfl⟩ := hx
   refine ⟨q, ?_, rfl⟩
   unfold wd at hq
   rw [List.drop_zero, List.getElem?_take] at hq
   split at hq
   ·exact hq
   ·cases hq
def FP (TG : ae.GT) (f : FuncId) (args : List Value) (s : St) : Option Inst := if f == 15 then (match args with
 | [.slice (some ⟨b, o, none⟩) 16 c, .slice (some ⟨P, 0, some 1000⟩) n d] => (match s.heap.get 0 with
  | some (.fam F) => (match s.heap.get b with
   | some (.cells (.ints .u8 K) _) => (match F 1000 P with
    | .ints .u8 D => some ⟨[(0, 0), (b, o), (0, 0)], 3, hP F (wd K o 16) none, [sl 1 0 none 16 c, PS P n d], row16 (TG (wd K o 16) (wd D 0 n)), hP' F (wd K o 16) none, TG = tagF /\ F 1000 P = .ints .u8 D /\ OkK (wd K o 16) /\ (wd D 0 n).length = n /\ n <= 1000 /\ n <= d⟩
    | _ => none)
   | _ => none)
  | _ => none)
 | _ => none) else none
theorem FP_ok (TG : ae.GT) (f : FuncId) (args : List Value) (s : St) (i : Inst) (h : FP TG f args s = some i) : Fits s i args /\ (i.ask -> CallOk Try.prog f i.args i.s0 i.val i.s1) := by
 unfold FP at h
 split at h
 ·rename_i hf
  have hf' : f = 15 := by simpa using hf
  subst hf'
  split at h
  ·rename_i b o c P n d
   split at h
   ·rename_i F hF
    split at h
    ·rename_i K tb hb
     split at h
     ·rename_i D hD
      cases h
      refine ⟨⟨?_, fun j pp ob h1 hh => ?_⟩, fun ha => ?_⟩
      ·show [Value.slice (some ⟨b, o, none⟩) 16 c, .slice (some ⟨P, 0, some 1000⟩) n d] = [Value.slice (some ⟨b, addO o 0, none⟩) 16 c, .slice (some ⟨P, 0, some 1000⟩) n d]
       rw [addO_eq]; rfl
      ·rcases j with _ | _ | _ | j
       ·simp only [List.getElem?_cons_zero, Option.some.injEq] at h1
        subst h1
        simp only [hP, List.getElem?_cons_zero, Option.some.injEq] at hh
        subst hh
        exact ⟨_, hF, fun _ _ _ _ hx => hx⟩
       ·simp only [Nat.zero_add, List.getElem?_cons_succ, List.getElem?_cons_zero, Option.some.injEq] at h1
        subst h1
        simp only [hP, oI, Nat.zero_add, List.getElem?_cons_succ, List.getElem?_cons_zero, Option.some.injEq] at hh
        subst hh
        exact ⟨_, hb, fit_ints⟩
       ·cases hh
       ·simp at h1
      ·obtain ⟨rfl, q1, q2, q3, q4, q5⟩ := ha
       exact rtagP q1 q2 q3 q4 q5
     ·cases h
    ·cases h
   ·cases h
  ·cases h
 ·cases h
end
end pm
end Go.Proofs.Ytkcngffpnnlmeaa
