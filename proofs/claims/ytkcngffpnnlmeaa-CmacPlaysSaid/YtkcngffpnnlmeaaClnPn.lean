/- Read off the code by the clean reading. -/
import Derived.Test.YtkcngffpnnlmeaaClnGc
import Derived.Test.YtkcngffpnnlmeaaClnQd
set_option linter.unusedVariables false
set_option linter.unusedSimpArgs false
set_option linter.deprecated false
set_option maxRecDepth 100000
namespace Go.Proofs.Ytkcngffpnnlmeaa
open Go.ChangeShapes Go.WideShapes Go.ChangeAt Go.RowKit Go.Cln
namespace pn
open ae ga pl pm
noncomputable section
def fD (D : Nat -> List Int) (g P : Nat) : Cells := .ints .u8 (D P)
def lPR (P a d n c : Nat) : Option Ob := some (.cells (.lit [PS P a d, sl 1 0 (some 1) n c]) 22)
def hPR (D : Nat -> List Int) (W : List Int) (P a d n c : Nat) : List (Option Ob) := [some (.fam (fD D)), oBy W, lPR P a d n c]
def hPR2 (D : Nat -> List Int) (W : List Int) (P a d n c : Nat) (I : List Int) : List (Option Ob) := [some (.fam (fD D)), oBy W, lPR P a d n c, oBy I]
def cPR (D : Nat -> List Int) (W : List Int) (P a d n c : Nat) (r : List (Option Bool)) : Option (Value × St) := (mk Try.prog KI 200).call 30 [sl 2 0 none 2 2] (smSt 3 (hPR D W P a d n c) r)
def pPR (D : Nat -> List Int) (W : List Int) (n P a : Nat) : Prop := (((((((((True /\ IntKind.i64.wrap (0 + nI a) = 0 + nI a) /\ IntKind.i64.wrap (0 + nI a + nI n) = 0 + nI a + nI n) /\ IntKind.i64.wrap (nI 0 - nI 0) = nI 0 - nI 0) /\ (IntKind.i64.wrap (0 + nI a + nI n - (nI 0 - nI 0))) = (0 + nI a + nI n - (nI 0 - nI 0))) /\ decide ((0 + nI a + nI n - (nI 0 - nI 0)) > 0) = true) /\ (1 <= (IntKind.i64.wrap (0 + nI a + nI n - (nI 0 - nI 0))) /\ zR a n * 1 <= mostBytes /\ zR a n <= mostBytes)) /\ decide (0 + a <= zR a n) = true) /\ ((a = 0 ∨ 0 + a <= (D P).length) /\ 0 + 0 + a <= (List.replicate (zR a n) (0 : Int)).length)) /\ decide (0 + a + n <= zR a n) = true) /\ (0 + n <= W.length /\ 0 + (0 + a) + n <= (layI (List.replicate (zR a n) 0) (0 + 0) (List.take a (List.drop 0 (D P)))).length)
theorem runPR (D : Nat -> List Int) (W : List Int) (P a d n c : Nat) : (cPR D W P a d n c oR).map (fun r => (r.1, r.2.obl, r.2.next, keepL [true, true, true, true] r.2.heap.get 0)) = some (sl 3 0 (some 1) (0 + a + n) (zR a n), pPR D W n P a, (hPR2 D W P a d n c (iRr W n (D P) a)).length, hPR2 D W P a d n c (iRr W n (D P) a)) := by kernel_rfl
theorem runPR0 (D : Nat -> List Int) (W : List Int) (P d c : Nat) : (cPR D W P 0 d 0 c []).map (fun r => (r.1, r.2.obl, r.2.next, keepL [true, true, true] r.2.heap.get 0)) = some (.slice none 0 0, (True /\ (0 + 0 = 0 /\ 0 = 0 /\ (0 = 0 ∨ 0 + 0 <= (D P).length))) /\ (0 + 0 = 0 /\ 0 = 0 /\ 0 + 0 <= W.length), (hPR D W P 0 d 0 c).length, hPR D W P 0 d 0 c) := by kernel_rfl
theorem take_len {L : List Int} {a : Nat} (h : (wd L 0 a).length = a) : a <= L.length := by
 unfold wd at h
 rw [List.drop_zero, List.length_take] at h; omega
theorem iPR_eq {W L : List Int} {n a : Nat} (h : n <= 1000000) (g : a <= 1000000) (hL : W.length = n) (ha : (wd L 0 a).length = a) : iRr W n L a = wd L 0 a ++ W := by
 have := take_len ha
 unfold iRr wd
 rw [zR_eq h g, List.drop_zero, List.drop_zero, List.take_of_length_le (by omega : W.length <= n)]
 unfold layI
 simp [hL, Nat.min_eq_left this]
theorem pPR_ok {D : Nat -> List Int} {W : List Int} {n P a : Nat} (h0 : 0 < a + n) (g : a <= 1000000) (h : n <= 1000000) (hL : W.length = n) (ha : (wd (D P) 0 a).length = a) : pPR D W n P a := by
 have hl := take_len ha
 unfold pPR
 have e1 : (List.take a (List.drop 0 (D P))).length = a := by rw [List.drop_zero, List.length_take]; omega
 rw [zR_eq h g, lay_len _ _ _ (by rw [e1]; simp)]
 simp only [nI, IntKind.wrap_i64, decide_eq_true_eq, mostBytes, List.length_replicate]
 repeat' apply And.intro
 all_goals first | exact True.intro | omega
theorem ccPR {D : Nat -> List Int} {W : List Int} {P a d n c : Nat} (h0 : 0 < a + n) (g : a <= 1000000) (h : n <= 1000000) (hL : W.length = n) (ha : (wd (D P) 0 a).length = a) :
  CallOk Try.prog 30 [sl 2 0 none 2 2] (smSt 3 (hPR D W P a d n c) []) (sl 3 0 (some 1) (a + n) (a + n)) (smSt 3 (hPR2 D W P a d n c (wd (D P) 0 a ++ W)) []) := by
 have := frame_by pg KI_ok _ (runPR D W P a d n c) (pPR_ok h0 g h hL ha) (by rfl) rfl
 rw [iPR_eq h g hL ha, zR_eq h g, Nat.zero_add] at this
 exact this
theorem ccPR0 {D : Nat -> List Int} {W : List Int} {P d c : Nat} : CallOk Try.prog 30 [sl 2 0 none 2 2] (smSt 3 (hPR D W P 0 d 0 c) []) (.slice none 0 0) (smSt 3 (hPR D W P 0 d 0 c) []) :=
 frame_by pg KI_ok _ (runPR0 D W P d c) ⟨⟨trivial, rfl, rfl, .inl rfl⟩, rfl, rfl, by omega⟩ (by rfl) rfl
open ae ga pm
def EHp (W : List Int) (D : Nat -> List Int) (P a d : Nat) (ks f1 f2 x : Nat -> Int) (A : List Int) (o n c : Nat) : Nat -> Option Ob := fun i => match i with
 | 0 => some (.fam (fD D))
 | 1 => some (.cells (.ints .u8 W) 5)
 | 2 => some (.cells (.lit (rowV .u8 176 ks ++ [.bool true])) 84)
 | 4 => some (.cells (.lit (.pointer (some ⟨2, 0, none⟩) :: (rowV .u8 16 f1 ++ (rowV .u8 16 f2 ++ (rowV .u8 16 x ++ [PS P a d]))))) 70)
 | 5 => some (.cells (.lit ([.pointer (some ⟨4, 0, none⟩)])) 44)
 | 7 => some (.cells (.ints .u8 A) 5)
 | 8 => some (.cells (.lit [.slice (some ⟨7, o, some 1⟩) n c]) 22)
 | 9 => some (.marks)
 | 10 => some (.loop ⟨.ready, none, [.pointer (some ⟨4, 0, none⟩), junk, .pointer (some ⟨5, 0, none⟩), undef, .int .i64 0, undef, undef, .pointer (some ⟨4, 0, none⟩), .bool false, .pointer (some ⟨4, 0, none⟩), .pointer (some ⟨4, 0, none⟩), .pointer (some ⟨4, 49, none⟩)] ++ J 4 ++ [.func (.func 43) #[] #[.pointer (some ⟨8, 0, none⟩)]] ++ U 25, #[17, 18], (rngAt Try.prog 18 0).2.1, (rngAt Try.prog 18 0).2.2, 9⟩)
 | _ => none
def Ep' (W : List Int) (D : Nat -> List Int) (P a d : Nat) (ks f1 f2 x : Nat -> Int) (A : List Int) (o n c : Nat) : St := ⟨[.func (.yield 10) #[] #[], .pointer (some ⟨8, 0, none⟩)] ++ U 19, [], Tr.rebuild (EHp W D P a d ks f1 f2 x A o n c) 11, 11, 4, [], fun _ => false, True, []⟩
def RHp (W : List Int) (D : Nat -> List Int) (P a d : Nat) (ks f1 f2 x : Nat -> Int) (A : List Int) (o n c : Nat) : Nat -> Option Ob := fun i => match i with
 | 0 => some (.fam (fD D))
 | 1 => some (.cells (.ints .u8 W) 5)
 | 2 => some (.cells (.lit (rowV .u8 176 ks ++ [.bool true])) 84)
 | 4 => some (.cells (.lit (.pointer (some ⟨2, 0, none⟩) :: (rowV .u8 16 f1 ++ (rowV .u8 16 f2 ++ (rowV .u8 16 x ++ [PS P a d]))))) 70)
 | 5 => some (.cells (.lit ([.pointer (some ⟨4, 0, none⟩)])) 44)
 | 7 => some (.cells (.ints .u8 A) 5)
 | 8 => some (.cells (.lit [.slice (some ⟨7, o, some 1⟩) n c]) 22)
 | 9 => some (.marks)
 | 10 => some (.loop ⟨.ready, none, [.pointer (some ⟨4, 0, none⟩), junk, .pointer (some ⟨5, 0, none⟩), undef, .int .i64 0, undef, undef, .pointer (some ⟨4, 0, none⟩), .bool false, .pointer (some ⟨4, 0, none⟩), .pointer (some ⟨4, 0, none⟩), .pointer (some ⟨4, 49, none⟩)] ++ J 4 ++ [.func (.func 43) #[] #[.pointer (some ⟨8, 0, none⟩)]] ++ U 25, #[17, 18], (rngAt Try.prog 18 0).2.1, (rngAt Try.prog 18 0).2.2, 9⟩)
 | _ => none
def Rp (W : List Int) (D : Nat -> List Int) (P a d : Nat) (ks f1 f2 x : Nat -> Int) (A : List Int) (o n c : Nat) : St := ⟨[.func (.yield 10) #[] #[], .pointer (some ⟨8, 0, none⟩), undef, .int .i64 16, junk, junk, .bool true, junk, junk, .int .i64 16, .func (.yield 10) #[] #[]] ++ J 3 ++ [.int .i64 16, junk, .bool true, .bool false, junk, .int .i64 16, junk], [], Tr.rebuild (RHp W D P a d ks f1 f2 x A o n c) 11, 11, 4, [], fun _ => false, True, []⟩
def XHp (W : List Int) (D : Nat -> List Int) (P a d : Nat) (ks f1 f2 x : Nat -> Int) (A : List Int) (o n : Nat) : Nat -> Option Ob := fun i => match i with
 | 0 => some (.fam (fD D))
 | 1 => some (.cells (.ints .u8 W) 5)
 | 2 => some (.cells (.lit (rowV .u8 176 ks ++ [.bool true])) 84)
 | 4 => some (.cells (.lit (.pointer (some ⟨2, 0, none⟩) :: (rowV .u8 16 f1 ++ (rowV .u8 16 f2 ++ (rowV .u8 16 x ++ [.slice (some ⟨12, 0, some 1⟩) (0 + n) (0 + n)]))))) 70)
 | 5 => some (.cells (.lit ([.pointer (some ⟨4, 0, none⟩)])) 44)
 | 7 => some (.cells (.ints .u8 A) 5)
 | 8 => some (.cells (.lit [junk]) 22)
 | 9 => some (.marks)
 | 10 => some (.loop ⟨.done, some (.exit 0), [.pointer (some ⟨4, 0, none⟩), junk, .pointer (some ⟨5, 0, none⟩), undef, .int .i64 0, undef, undef, .pointer (some ⟨4, 0, none⟩), .bool false, .pointer (some ⟨4, 0, none⟩), .pointer (some ⟨4, 0, none⟩), .pointer (some ⟨4, 49, none⟩)] ++ J 4 ++ [.func (.func 43) #[] #[.pointer (some ⟨8, 0, none⟩)]] ++ U 25, #[17, 18], (rngAt Try.prog 18 0).2.1, (rngAt Try.prog 18 0).2.2, 9⟩)
 | 12 => some (.cells (.ints .u8 ((A.drop o).take n)) 5)
 | _ => none
def Xp (W : List Int) (D : Nat -> List Int) (P a d : Nat) (ks f1 f2 x : Nat -> Int) (A : List Int) (o n : Nat) : St := ⟨[.func (.yield 10) #[] #[], .pointer (some ⟨8, 0, none⟩), undef] ++ J 18, [], Tr.rebuild (XHp W D P a d ks f1 f2 x A o n) 13, 13, 4, [], fun _ => false, True, []⟩
theorem wEp (U : UX) (T : CT) (W : List Int) (D : Nat -> List Int) (P a d : Nat) (ks f1 f2 x : Nat -> Int) (A : List Int) (o n c : Nat) (x0 : Nat -> Int) (o0 n0 c0 : Nat) (rd : Option Nat) (hp : pS U T A o n c) :
  Step Try.prog rd (Ep' W D P a d ks f1 f2 x0 A o0 n0 c0) bW (Ep' W D P a d ks f1 f2 x A o n c) (fun e s => e = .normal /\ s = Rp W D P a d ks f1 f2 (chx U T ks x A o) A (o + 16) (n - 16) (c - 16)) :=
 Step.std pg (KW_ok U T) (n := 200) (f := 43) (σ := []) (o := oS) (n1 := 102) (g := RHp W D P a d ks f1 f2 (chx U T ks x A o) A (o + 16) (n - 16) (c - 16)) (by kernel_rfl) hp (Nat.le_refl _) rfl (by kernel_rfl)
theorem wRp (U : UX) (T : CT) (W : List Int) (D : Nat -> List Int) (P a d : Nat) (ks f1 f2 x : Nat -> Int) (A : List Int) (o n c : Nat) (x0 : Nat -> Int) (o0 n0 c0 : Nat) (rd : Option Nat) (hp : pS U T A o n c) :
  Step Try.prog rd (Ep' W D P a d ks f1 f2 x0 A o0 n0 c0) bW (Rp W D P a d ks f1 f2 x A o n c) (fun e s => e = .normal /\ s = Rp W D P a d ks f1 f2 (chx U T ks x A o) A (o + 16) (n - 16) (c - 16)) :=
 Step.std pg (KW_ok U T) (n := 200) (f := 43) (σ := []) (o := oS) (n1 := 102) (g := RHp W D P a d ks f1 f2 (chx U T ks x A o) A (o + 16) (n - 16) (c - 16)) (by kernel_rfl) hp (Nat.le_refl _) rfl (by kernel_rfl)
theorem wXp (U : UX) (T : CT) (W : List Int) (D : Nat -> List Int) (P a d : Nat) (ks f1 f2 x : Nat -> Int) (A : List Int) (o n c : Nat) (x0 : Nat -> Int) (o0 n0 c0 : Nat) (rd : Option Nat) (hp : pD A o n c) :
  Step Try.prog rd (Ep' W D P a d ks f1 f2 x0 A o0 n0 c0) bW (Rp W D P a d ks f1 f2 x A o n c) (fun e s => e = .ret /\ s = Xp W D P a d ks f1 f2 x A o n) :=
 Step.std pg (KW_ok U T) (n := 200) (f := 43) (σ := []) (o := oD) (n1 := 13) (g := XHp W D P a d ks f1 f2 x A o n) (by kernel_rfl) hp (Nat.le_refl _) rfl (by kernel_rfl)
theorem loopWrp (W : List Int) (D : Nat -> List Int) (P a d : Nat) (ks f1 f2 x : Nat -> Int) (A : List Int) (o c q r : Nat) (hq : 0 < q) (h0 : 0 < r) (h1 : r <= 16) (hc : 16 * q + r <= c) (hA : o + (16 * q + r) <= A.length) (hm : A.length <= 1000000) (rd : Option Nat) :
  CodeOk Try.prog rd (.loop bW) (Ep' W D P a d ks f1 f2 x A o (16 * q + r) c) .ret (Xp W D P a d ks f1 f2 (wch ks A q o x) A (o + 16 * q) r) := by
 refine CodeOk.of_step (Step.loop (fun k s => (k = q /\ s = Ep' W D P a d ks f1 f2 x A o (16 * q + r) c) ∨ ∃ i, 0 < i /\ i <= q /\ k = q - i /\ s = Rp W D P a d ks f1 f2 (wch ks A i o x) A (o + 16 * i) (16 * q + r - 16 * i) (c - 16 * i)) ?_ q _ (.inl ⟨rfl, rfl⟩))
 have ps : ∀ i, i < q -> pS U0 CT0 A (o + 16 * i) (16 * q + r - 16 * i) (c - 16 * i) := fun i hi => by
  refine ⟨⟨⟨⟨⟨⟨⟨⟨trivial, ?_⟩, ?_⟩, ?_⟩, ?_⟩, by omega⟩, rfl⟩, rfl⟩, ?_⟩
  ·rw [decide_eq_true_eq]; omega
  ·rw [decide_eq_true_eq]; omega
  ·omega
  ·rw [decide_eq_true_eq]; omega
  ·omega
 rintro k s (⟨rfl, rfl⟩ | ⟨i, hi0, hi, rfl, rfl⟩)
 ·refine (wEp U0 CT0 W D P a d ks f1 f2 x A o (16 * k + r) c x o (16 * k + r) c rd (ps 0 hq)).mono ?_
  rintro e s ⟨rfl, rfl⟩
  exact .inl ⟨rfl, k - 1, by omega, .inr ⟨1, by omega, by omega, rfl, rfl⟩⟩
 ·rcases Nat.lt_or_ge i q with h | h
  ·refine (wRp U0 CT0 W D P a d ks f1 f2 (wch ks A i o x) A (o + 16 * i) (16 * q + r - 16 * i) (c - 16 * i) x o (16 * q + r) c rd (ps i h)).mono ?_
   rintro e s ⟨rfl, rfl⟩
   refine .inl ⟨rfl, q - (i + 1), by omega, .inr ⟨i + 1, by omega, by omega, rfl, ?_⟩⟩
   rw [wch_succ, show o + 16 * i + 16 = o + 16 * (i + 1) by omega, show 16 * q + r - 16 * i - 16 = 16 * q + r - 16 * (i + 1) by omega, show c - 16 * i - 16 = c - 16 * (i + 1) by omega]
  ·obtain rfl : i = q := by omega
   have e : 16 * i + r - 16 * i = r := by omega
   rw [e]
   refine (wXp U0 CT0 W D P a d ks f1 f2 (wch ks A i o x) A (o + 16 * i) r (c - 16 * i) x o (16 * i + r) c rd ?_).mono ?_
   ·refine ⟨⟨⟨⟨⟨⟨trivial, ?_⟩, ?_⟩, by omega⟩, ?_⟩, ?_⟩, by omega, by omega, by unfold mostBytes; omega, by unfold mostBytes; omega⟩
    ·rw [decide_eq_true_eq]; omega
    ·rw [decide_eq_false_iff_not]; omega
    ·rw [decide_eq_false_iff_not]; omega
    ·rw [decide_eq_false_iff_not]; omega
   ·rintro e s ⟨rfl, rfl⟩
    exact .inr ⟨(by intro x; cases x), rfl, rfl⟩
open ae ga pm
def hPf (F : Nat -> Nat -> Cells) (W : List Int) (P a d n c : Nat) : List (Option Ob) := [some (.fam F), oBy W, lPR P a d n c]
def FKp (D : Nat -> List Int) (f : FuncId) (args : List Value) (s : St) : Option (Inst × Nat) := if f == 30 then (match args with
 | [.slice (some ⟨k, 0, none⟩) 2 2] => (match s.heap.get 0 with
  | some (.fam F) => (match s.heap.get k with
   | some (.cells (.lit [.slice (some ⟨P, 0, some 1000⟩) a d, .slice (some ⟨b, 0, some 1⟩) n c]) _) => (match s.heap.get b with
    | some (.cells (.ints .u8 W) _) => (match s.orc with
     | some true :: _ => some (⟨[(0, 0), (b, 0), (k, 0)], 3, hPf F W P a d n c, [sl 2 0 none 2 2], sl 3 0 (some 1) (a + n) (a + n), hPf F W P a d n c ++ [oBy (wd (D P) 0 a ++ W)], F = fD D /\ 0 < a + n /\ a <= 1000000 /\ n <= 1000000 /\ W.length = n /\ (wd (D P) 0 a).length = a⟩, 1)
     | some false :: _ => some (⟨[(0, 0), (b, 0), (k, 0)], 3, hPf F W P a d n c, [sl 2 0 none 2 2], .slice none 0 0, hPf F W P a d n c, F = fD D /\ a = 0 /\ n = 0⟩, 1)
     | _ => none)
    | _ => none)
   | _ => none)
  | _ => none)
 | _ => none) else none
theorem FKp_ok (D : Nat -> List Int) (f : FuncId) (args : List Value) (s : St) (i : Inst) (u : Nat) (h : FKp D f args s = some (i, u)) : Fits s i args /\ (i.ask -> CallOk Try.prog f i.args i.s0 i.val i.s1) := by
 unfold FKp at h
 split at h
 ·rename_i hf
  have hf' : f = 30 := by simpa using hf
  subst hf'
  split at h
  ·rename_i k
   split at h
   ·rename_i F hF
    split at h
    ·rename_i P a d b n c tk hk
     split at h
     ·rename_i W tb hb
      have fit : ∀ (V : Value) (h' : List (Option Ob)) (q : Prop), Fits s ⟨[(0, 0), (b, 0), (k, 0)], 3, hPf F W P a d n c, [sl 2 0 none 2 2], V, h', q⟩ [.slice (some ⟨k, 0, none⟩) 2 2] := fun V h' q => by
       refine ⟨?_, fun j pp ob h1 hh => ?_⟩
       ·show [Value.slice (some ⟨k, 0, none⟩) 2 2] = [Value.slice (some ⟨k, addO 0 0, none⟩) 2 2]
        rw [addO_eq]
       ·rcases j with _ | _ | _ | j
        ·simp only [List.getElem?_cons_zero, Option.some.injEq] at h1
         simp only [hPf, List.getElem?_cons_zero, Option.some.injEq] at hh
         subst h1; subst hh
         exact ⟨_, hF, fun _ _ _ _ hx => hx⟩
        ·simp only [Nat.zero_add, List.getElem?_cons_succ, List.getElem?_cons_zero, Option.some.injEq] at h1
         simp only [hPf, oBy, Nat.zero_add, List.getElem?_cons_succ, List.getElem?_cons_zero, Option.some.injEq] at hh
         subst h1; subst hh
         exact ⟨_, hb, fit_whole'⟩
        ·simp only [Nat.zero_add, Nat.reduceAdd, List.getElem?_cons_succ, List.getElem?_cons_zero, Option.some.injEq] at h1
         simp only [hPf, lPR, Nat.zero_add, Nat.reduceAdd, List.getElem?_cons_succ, List.getElem?_cons_zero, Option.some.injEq] at hh
         subst h1; subst hh
         refine ⟨_, hk, pl.fit_two' rfl rfl ?_ rfl⟩
         show Value.slice (some ⟨b, 0, some 1⟩) n c = Value.slice (some ⟨b, addO 0 0, some 1⟩) n c
         rw [addO_eq]
        ·simp at h1
      split at h
      ·cases h
       refine ⟨fit _ _ _, fun ⟨q0, q1, q2, q3, q4, q5⟩ => ?_⟩
       cases (show F = fD D from q0)
       exact ccPR q1 q2 q3 q4 q5
      ·cases h
       refine ⟨fit _ _ _, fun ⟨q0, q1, q2⟩ => ?_⟩
       cases (show F = fD D from q0)
       cases (show a = 0 from q1)
       cases (show n = 0 from q2)
       exact ccPR0
      ·cases h
     ·cases h
    ·cases h
   ·cases h
  ·cases h
 ·cases h
open ae ga pm
def KP (U : UX) (T : CT) (D : Nat -> List Int) : Given := { Given.framesO (Given.frames Given.nothing (FW U T)) (FKp D) with fits := true }
theorem KP_ok (U : UX) (T : CT) (D : Nat -> List Int) : GivenOk Try.prog (KP U T D) := frames_fits (((GivenOk.nothing _).frames (FW_ok U T)).framesO (FKp_ok D)) true
def askP (S : St) (f : FuncId) (c : Code) (_ : St) : Option Ask2 := if f == 43 then some ⟨⟨[], [], [(10, [1, 12, 13, 14, 15])], [6]⟩, .ret, fun _ => S⟩ else none
def KPR (U : UX) (T : CT) (D : Nat -> List Int) (S : St) : Given := Given.asking2 (KP U T D) Try.prog (askP S)
theorem KPR_ok (U : UX) (T : CT) (D : Nat -> List Int) (S : St) : GivenOk Try.prog (KPR U T D S) := GivenOk.asking2 (KP_ok U T D) _
def oMb (f1 f2 x : Nat -> Int) (left : Value) : Option Ob := some (.cells (.lit (.pointer (some ⟨2, 0, none⟩) :: (rowV .u8 16 f1 ++ (rowV .u8 16 f2 ++ (rowV .u8 16 x ++ [left]))))) 70)
def hW0 (D : Nat -> List Int) (W : List Int) (ks f1 f2 x : Nat -> Int) (left : Value) : List (Option Ob) := [some (.fam (fD D)), oBy W, oCi ks, none, oMb f1 f2 x left]
def wrP (K : Given) (D : Nat -> List Int) (W : List Int) (P a d : Nat) (ks f1 f2 x : Nat -> Int) (n c : Nat) (r : List (Option Bool)) : Option (Value × St) := (mk Try.prog K 200).call 18 [P0 4 0, sl 1 0 (some 1) n c] (smSt 4 (hW0 D W ks f1 f2 x (PS P a d)) r)
def aP (D : Nat -> List Int) (W : List Int) (P a n : Nat) : Prop := fD D = fD D /\ 0 < a + n /\ a <= 1000000 /\ n <= 1000000 /\ W.length = n /\ (wd (D P) 0 a).length = a
def hPx (D : Nat -> List Int) (W : List Int) (ks f1 f2 x : Nat -> Int) (A : List Int) (o r : Nat) : List (Option Ob) := hW0 D W ks f1 f2 x (sl 12 0 (some 1) (0 + r) (0 + r)) ++ (List.replicate 7 none ++ [oBy ((A.drop o).take r)])
def pPB (D : Nat -> List Int) (W : List Int) (P a n : Nat) : Prop := ((((((True /\ aP D W P a n) /\ decide (((a + n : Nat) : Int) > 0) = true) /\ decide ((16 : Int) < ((a + n : Nat) : Int)) = false) /\ (0 <= ((a + n : Nat) : Int) /\ ((a + n : Nat) : Int) <= ((a + n : Nat) : Int) /\ (0 : Int) <= 0 /\ (0 : Int) <= ((a + n : Nat) : Int))) /\ decide (((a + n : Nat) : Int) > 16) = false) /\ decide (0 + (a + n) <= 0) = false) /\ (0 + (a + n) <= (wd (D P) 0 a ++ W).length /\ 0 + 0 <= 0 /\ (0 + (a + n)) * 1 <= mostBytes /\ 0 + (a + n) <= mostBytes)
def kP : List Bool := [true, true, true, true, true] ++ (List.replicate 7 false ++ [true])
theorem wP0 (U : UX) (T : CT) (D : Nat -> List Int) (W : List Int) (P a d : Nat) (ks f1 f2 x : Nat -> Int) (n c : Nat) : (wrP (KP U T D) D W P a d ks f1 f2 x n c (nn 8 ++ [some false])).map (fun r => (r.1, r.2.obl, r.2.next, keepL ([true, true, true, true, true] ++ List.replicate 5 false) r.2.heap.get 0)) = some (.int .i64 0, True /\ (fD D = fD D /\ a = 0 /\ n = 0), (hW0 D W ks f1 f2 x (PS P a d) ++ List.replicate 5 none).length, hW0 D W ks f1 f2 x (PS P a d) ++ List.replicate 5 none) := by kernel_rfl
theorem wPB (U : UX) (T : CT) (D : Nat -> List Int) (W : List Int) (P a d : Nat) (ks f1 f2 x : Nat -> Int) (n c : Nat) : (wrP (KP U T D) D W P a d ks f1 f2 x n c (nn 8 ++ ([some true] ++ oD))).map (fun r => (r.1, r.2.obl, r.2.next, keepL kP r.2.heap.get 0)) = some (.int .i64 0, pPB D W P a n, (hPx D W ks f1 f2 x (wd (D P) 0 a ++ W) 0 (a + n)).length, hPx D W ks f1 f2 x (wd (D P) 0 a ++ W) 0 (a + n)) := by kernel_rfl
theorem wPC (U : UX) (T : CT) (D : Nat -> List Int) (W : List Int) (P a d : Nat) (ks f1 f2 x : Nat -> Int) (n c : Nat) (x' : Nat -> Int) (o' r : Nat) : (wrP (KPR U T D (Xp W D P a d ks f1 f2 x' (wd (D P) 0 a ++ W) o' r)) D W P a d ks f1 f2 x n c (nn 8 ++ [some true])).map (fun r => (r.1, r.2.obl, r.2.next, keepL kP r.2.heap.get 0)) = some (.int .i64 0, (True /\ aP D W P a n) /\ (∀ rd, CodeOk Try.prog rd (.loop bW) (Ep' W D P a d ks f1 f2 x (wd (D P) 0 a ++ W) 0 (a + n) (a + n)) .ret (Xp W D P a d ks f1 f2 x' (wd (D P) 0 a ++ W) o' r)), (hPx D W ks f1 f2 x' (wd (D P) 0 a ++ W) o' r).length, hPx D W ks f1 f2 x' (wd (D P) 0 a ++ W) o' r) := by kernel_rfl
open ae ga pm
theorem wd_app {L : List Int} {a n : Nat} {W : List Int} (ha : (wd L 0 a).length = a) (hW : W.length = n) : (wd L 0 a ++ W).length = a + n := by rw [List.length_append, ha, hW]
theorem pPB_ok {D : Nat -> List Int} {W : List Int} {P a n : Nat} (h : aP D W P a n) (h16 : a + n <= 16) : pPB D W P a n := by
 have h0 := h
 obtain ⟨_, q0, q1, q2, q3, q4⟩ := h
 unfold pPB
 rw [wd_app q4 q3]
 refine ⟨⟨⟨⟨⟨⟨⟨trivial, h0⟩, ?_⟩, ?_⟩, by omega⟩, ?_⟩, ?_⟩, by omega, by omega, by unfold mostBytes; omega, by unfold mostBytes; omega⟩
 ·rw [decide_eq_true_eq]; omega
 ·rw [decide_eq_false_iff_not]; omega
 ·rw [decide_eq_false_iff_not]; omega
 ·rw [decide_eq_false_iff_not]; omega
theorem wp_0 (D : Nat -> List Int) (W : List Int) (P d : Nat) (ks f1 f2 x : Nat -> Int) (c : Nat) : CallOk Try.prog 18 [P0 4 0, sl 1 0 (some 1) 0 c] (smSt 4 (hW0 D W ks f1 f2 x (PS P 0 d)) []) (.int .i64 0) (smSt 4 (hW0 D W ks f1 f2 x (PS P 0 d) ++ List.replicate 5 none) []) :=
 frame_by pg (KP_ok U0 CT0 D) _ (wP0 U0 CT0 D W P 0 d ks f1 f2 x 0 c) ⟨trivial, rfl, rfl, rfl⟩ (by rfl) rfl
theorem wp_R (D : Nat -> List Int) (W : List Int) (P a d : Nat) (ks f1 f2 x : Nat -> Int) (n c : Nat) (h : aP D W P a n) (hn : a + n <= 1000000) : CallOk Try.prog 18 [P0 4 0, sl 1 0 (some 1) n c] (smSt 4 (hW0 D W ks f1 f2 x (PS P a d)) []) (.int .i64 0) (smSt 4 (hPx D W ks f1 f2 (wch ks (wd (D P) 0 a ++ W) (qn (a + n)) 0 x) (wd (D P) 0 a ++ W) (16 * qn (a + n)) (rn (a + n))) []) := by
 have hh := h
 obtain ⟨_, q0, q1, q2, q3, q4⟩ := h
 obtain ⟨e0, e1, e2⟩ := qr_eq (n := a + n) q0
 have hlen : (wd (D P) 0 a ++ W).length = a + n := wd_app q4 q3
 by_cases hQ : a + n <= 16
 ·have z1 : qn (a + n) = 0 := by unfold qn; omega
  have z2 : rn (a + n) = a + n := by unfold rn; omega
  rw [z1, z2]
  exact frame_by pg (KP_ok U0 CT0 D) _ (wPB U0 CT0 D W P a d ks f1 f2 x n c) (pPB_ok hh hQ) (by rfl) rfl
 ·have hl := fun rd => loopWrp W D P a d ks f1 f2 x (wd (D P) 0 a ++ W) 0 (a + n) (qn (a + n)) (rn (a + n)) (by unfold qn; omega) e1 e2 (by omega) (by omega) (by omega) rd
  rw [e0] at hl
  have := frame_by pg (KPR_ok U0 CT0 D _) _ (wPC U0 CT0 D W P a d ks f1 f2 x n c (wch ks (wd (D P) 0 a ++ W) (qn (a + n)) 0 x) (0 + 16 * qn (a + n)) (rn (a + n))) ⟨⟨trivial, hh⟩, hl⟩ (by rfl) rfl
  rw [Nat.zero_add] at this
  exact this
def P02 : Value := .pointer (some ⟨2, 0, none⟩)
theorem oMb_eq {l : LV} {a bb cx : Nat -> Int} (p4 : l.take 48 = R16 a ++ (R16 bb ++ R16 cx)) (v : Value) : oMc (P02 :: (l.take 48 ++ [v])) = oMb a bb cx v := by
 rw [p4, List.append_assoc, List.append_assoc]; rfl
def hI (F : Nat -> Nat -> Cells) (W : List Int) (lc l : LV) : List (Option Ob) := [some (.fam F), oBy W, oC lc, none, oMc (P02 :: l)]
def F18p (T : VT) (D : Nat -> List Int) (f : FuncId) (args : List Value) (s : St) : Option (Inst × Nat) := if f == 18 then (match args with
 | [.pointer (some ⟨m, 0, none⟩), .slice (some ⟨b, 0, some 1⟩) n c] => (match s.heap.get 0 with
  | some (.fam F) => (match s.heap.get m with
   | some (.cells (.lit (.pointer (some ⟨ci, 0, none⟩) :: l)) _) => (match s.heap.get ci with
    | some (.cells (.lit lc) _) => (match s.heap.get b with
     | some (.cells (.ints .u8 W) _) => if okC lc && isN 48 (l.take 48).toArray then (match l.drop 48 with
      | [.slice (some ⟨P, 0, some 1000⟩) a d] => (match s.orc with
       | some true :: _ => some (⟨[(0, 0), (b, 0), (ci, 0), (0, 0), (m, 0)], 4, hI F W lc (l.take 48 ++ [PS P a d]), [P0 4 0, sl 1 0 (some 1) n c], .int .i64 0,
         hI F W lc ((l.take 48).take 32 ++ (R16 (T.wx (lc.take 176) ((l.take 48).drop 32) (wd (D P) 0 a ++ W)) ++ [sl 12 0 (some 1) (T.r (a + n)) (T.r (a + n))])) ++ (List.replicate 7 none ++ [oI (((wd (D P) 0 a ++ W).drop (T.o (a + n))).take (T.r (a + n)))]),
         T = VT0 /\ F = fD D /\ 0 < a + n /\ a <= 1000000 /\ n <= 1000000 /\ W.length = n /\ (wd (D P) 0 a).length = a /\ a + n <= 1000000⟩, 1)
       | some false :: _ => some (⟨[(0, 0), (b, 0), (ci, 0), (0, 0), (m, 0)], 4, hI F W lc (l.take 48 ++ [PS P a d]), [P0 4 0, sl 1 0 (some 1) n c], .int .i64 0, hI F W lc (l.take 48 ++ [PS P a d]) ++ List.replicate 5 none, F = fD D /\ a = 0 /\ n = 0⟩, 1)
       | _ => none)
      | _ => none) else none
     | _ => none)
    | _ => none)
   | _ => none)
  | _ => none)
 | _ => none) else none
theorem F18p_ok (T : VT) (D : Nat -> List Int) (f : FuncId) (args : List Value) (s : St) (i : Inst) (u : Nat) (h : F18p T D f args s = some (i, u)) : Fits s i args /\ (i.ask -> CallOk Try.prog f i.args i.s0 i.val i.s1) := by
 unfold F18p at h
 split at h
 ·rename_i hf
  have hf' : f = 18 := by simpa using hf
  subst hf'
  split at h
  ·rename_i m b n c
   split at h
   ·rename_i F hF
    split at h
    ·rename_i ci l tm hm
     split at h
     ·rename_i lc tc hci
      split at h
      ·rename_i W tb hb
       split at h
       ·rename_i hc
        rw [Bool.and_eq_true] at hc
        obtain ⟨a', bb, cx, p1, p2, p3, p4, p5, i1, i2, i3⟩ := parts48 hc.2
        split at h
        ·rename_i P a d hd
         have el := cat48 hd
         have fit : ∀ (V : Value) (h' : List (Option Ob)) (q : Prop), Fits s ⟨[(0, 0), (b, 0), (ci, 0), (0, 0), (m, 0)], 4, hI F W lc (l.take 48 ++ [PS P a d]), [P0 4 0, sl 1 0 (some 1) n c], V, h', q⟩ [.pointer (some ⟨m, 0, none⟩), .slice (some ⟨b, 0, some 1⟩) n c] := fun V h' q => by
          refine ⟨?_, fun j pp ob h1 hh => ?_⟩
          ·show _ = [Value.pointer (some ⟨m, addO 0 0, none⟩), .slice (some ⟨b, addO 0 0, some 1⟩) n c]
           rw [addO_eq]
          ·rcases j with _ | _ | _ | _ | _ | j
           ·simp only [hI, List.getElem?_cons_zero, Option.some.injEq] at h1 hh
            subst h1; subst hh
            exact ⟨_, hF, fun _ _ _ _ hx => hx⟩
           ·simp only [hI, oBy, Nat.zero_add, List.getElem?_cons_succ, List.getElem?_cons_zero, Option.some.injEq] at h1 hh
            subst h1; subst hh
            exact ⟨_, hb, fit_whole'⟩
           ·simp only [hI, oC, Nat.zero_add, Nat.reduceAdd, List.getElem?_cons_succ, List.getElem?_cons_zero, Option.some.injEq] at h1 hh
            subst h1; subst hh
            exact ⟨_, hci, fit_same (okC_flat0 hc.1)⟩
           ·cases hh
           ·simp only [hI, oMc, Nat.zero_add, Nat.reduceAdd, List.getElem?_cons_succ, List.getElem?_cons_zero, Option.some.injEq] at h1 hh
            subst h1; subst hh
            rw [el] at hm
            refine ⟨_, hm, fit_obj' ?_ rfl (isN_flat0 hc.2) rfl rfl⟩
            show Value.pointer (some ⟨ci, 0, none⟩) = Value.pointer (some ⟨ci, addO 0 0, none⟩)
            rw [addO_eq]
           ·simp at h1
         split at h
         ·cases h
          refine ⟨fit _ _ _, fun hT => ?_⟩
          obtain ⟨rfl, q0, q1, q2, q3, q4, q5, q6⟩ := hT
          cases (show F = fD D from q0)
          have w := wp_R D W P a d (intAt (lc.take 176)) a' bb cx n c ⟨rfl, q1, q2, q3, q4, q5⟩ q6
          unfold hPx hW0 at w
          rw [← oC_eq hc.1, ← oMb_eq p4, Nat.zero_add] at w
          have ew : VT0.wx (lc.take 176) ((l.take 48).drop 32) (wd (D P) 0 a ++ W) = wch (intAt (lc.take 176)) (wd (D P) 0 a ++ W) (qn (a + n)) 0 cx := by
           show wch (intAt (lc.take 176)) (wd (D P) 0 a ++ W) (((wd (D P) 0 a ++ W).length - 1) / 16) 0 (intAt ((l.take 48).drop 32)) = _
           rw [wd_app q5 q4, i3]; rfl
          show CallOk Try.prog 18 [P0 4 0, sl 1 0 (some 1) n c] (smSt 4 (hI (fD D) W lc (l.take 48 ++ [PS P a d])) []) (.int .i64 0) (smSt 4 (hI (fD D) W lc ((l.take 48).take 32 ++ (R16 (VT0.wx (lc.take 176) ((l.take 48).drop 32) (wd (D P) 0 a ++ W)) ++ [sl 12 0 (some 1) (rn (a + n)) (rn (a + n))])) ++ (List.replicate 7 none ++ [oBy (((wd (D P) 0 a ++ W).drop (16 * qn (a + n))).take (rn (a + n)))])) [])
          unfold hI
          rw [ew, p5, List.append_assoc]
          exact w
         ·cases h
          refine ⟨fit _ _ _, fun hT => ?_⟩
          obtain ⟨q0, q1, q2⟩ := hT
          cases (show F = fD D from q0)
          cases (show a = 0 from q1)
          cases (show n = 0 from q2)
          have w := wp_0 D W P d (intAt (lc.take 176)) a' bb cx c
          unfold hW0 at w
          rw [← oC_eq hc.1, ← oMb_eq p4] at w
          exact w
         ·cases h
        ·cases h
       ·cases h
      ·cases h
     ·cases h
    ·cases h
   ·cases h
  ·cases h
 ·cases h
open ae ga pm
def hT (D : Nat -> List Int) (P : Nat) (ks f1 f2 x : Nat -> Int) (r d : Nat) : List (Option Ob) := [some (.fam (fD D)), oCi ks, oMa f1 f2 x (PS P r d)]
def pRp (D : Nat -> List Int) (P : Nat) : Nat -> Prop
 | 0 => True
 | i + 1 => pRp D P i /\ i < (D P).length
def pT (U : UX) (T : CT) (D : Nat -> List Int) (P r : Nat) : Prop := ((pRp D P r /\ U = U0) /\ U = U0) /\ T = CT0
def call19 (U : UX) (T : CT) (D : Nat -> List Int) (P : Nat) (ks f1 f2 x : Nat -> Int) (r d : Nat) (o : List (Option Bool)) : Option (Value × St) := (mk Try.prog (K0W U T) 200).call 19 [P0 2 0] (smSt 3 (hT D P ks f1 f2 x r d) o)
theorem rt0 (U : UX) (T : CT) (D : Nat -> List Int) (P : Nat) (ks f1 f2 x : Nat -> Int) (d : Nat) : (call19 U T D P ks f1 f2 x 0 d (o19 0)).map (fun r => (r.1, r.2.obl, r.2.next, keepL ks100 r.2.heap.get 0)) = some (.tuple #[row16 (tgL U T ks f2 x (D P) 0), .int .i64 0], pT U T D P 0, (hT D P ks f1 f2 x 0 d ++ List.replicate 97 none).length, hT D P ks f1 f2 x 0 d ++ List.replicate 97 none) := by kernel_rfl
theorem rt1 (U : UX) (T : CT) (D : Nat -> List Int) (P : Nat) (ks f1 f2 x : Nat -> Int) (d : Nat) : (call19 U T D P ks f1 f2 x 1 d (o19 1)).map (fun r => (r.1, r.2.obl, r.2.next, keepL ks100 r.2.heap.get 0)) = some (.tuple #[row16 (tgL U T ks f2 x (D P) 1), .int .i64 0], pT U T D P 1, (hT D P ks f1 f2 x 1 d ++ List.replicate 97 none).length, hT D P ks f1 f2 x 1 d ++ List.replicate 97 none) := by kernel_rfl
theorem rt2 (U : UX) (T : CT) (D : Nat -> List Int) (P : Nat) (ks f1 f2 x : Nat -> Int) (d : Nat) : (call19 U T D P ks f1 f2 x 2 d (o19 2)).map (fun r => (r.1, r.2.obl, r.2.next, keepL ks100 r.2.heap.get 0)) = some (.tuple #[row16 (tgL U T ks f2 x (D P) 2), .int .i64 0], pT U T D P 2, (hT D P ks f1 f2 x 2 d ++ List.replicate 97 none).length, hT D P ks f1 f2 x 2 d ++ List.replicate 97 none) := by kernel_rfl
theorem rt3 (U : UX) (T : CT) (D : Nat -> List Int) (P : Nat) (ks f1 f2 x : Nat -> Int) (d : Nat) : (call19 U T D P ks f1 f2 x 3 d (o19 3)).map (fun r => (r.1, r.2.obl, r.2.next, keepL ks100 r.2.heap.get 0)) = some (.tuple #[row16 (tgL U T ks f2 x (D P) 3), .int .i64 0], pT U T D P 3, (hT D P ks f1 f2 x 3 d ++ List.replicate 97 none).length, hT D P ks f1 f2 x 3 d ++ List.replicate 97 none) := by kernel_rfl
theorem rt4 (U : UX) (T : CT) (D : Nat -> List Int) (P : Nat) (ks f1 f2 x : Nat -> Int) (d : Nat) : (call19 U T D P ks f1 f2 x 4 d (o19 4)).map (fun r => (r.1, r.2.obl, r.2.next, keepL ks100 r.2.heap.get 0)) = some (.tuple #[row16 (tgL U T ks f2 x (D P) 4), .int .i64 0], pT U T D P 4, (hT D P ks f1 f2 x 4 d ++ List.replicate 97 none).length, hT D P ks f1 f2 x 4 d ++ List.replicate 97 none) := by kernel_rfl
theorem rt5 (U : UX) (T : CT) (D : Nat -> List Int) (P : Nat) (ks f1 f2 x : Nat -> Int) (d : Nat) : (call19 U T D P ks f1 f2 x 5 d (o19 5)).map (fun r => (r.1, r.2.obl, r.2.next, keepL ks100 r.2.heap.get 0)) = some (.tuple #[row16 (tgL U T ks f2 x (D P) 5), .int .i64 0], pT U T D P 5, (hT D P ks f1 f2 x 5 d ++ List.replicate 97 none).length, hT D P ks f1 f2 x 5 d ++ List.replicate 97 none) := by kernel_rfl
theorem rt6 (U : UX) (T : CT) (D : Nat -> List Int) (P : Nat) (ks f1 f2 x : Nat -> Int) (d : Nat) : (call19 U T D P ks f1 f2 x 6 d (o19 6)).map (fun r => (r.1, r.2.obl, r.2.next, keepL ks100 r.2.heap.get 0)) = some (.tuple #[row16 (tgL U T ks f2 x (D P) 6), .int .i64 0], pT U T D P 6, (hT D P ks f1 f2 x 6 d ++ List.replicate 97 none).length, hT D P ks f1 f2 x 6 d ++ List.replicate 97 none) := by kernel_rfl
theorem rt7 (U : UX) (T : CT) (D : Nat -> List Int) (P : Nat) (ks f1 f2 x : Nat -> Int) (d : Nat) : (call19 U T D P ks f1 f2 x 7 d (o19 7)).map (fun r => (r.1, r.2.obl, r.2.next, keepL ks100 r.2.heap.get 0)) = some (.tuple #[row16 (tgL U T ks f2 x (D P) 7), .int .i64 0], pT U T D P 7, (hT D P ks f1 f2 x 7 d ++ List.replicate 97 none).length, hT D P ks f1 f2 x 7 d ++ List.replicate 97 none) := by kernel_rfl
theorem rt8 (U : UX) (T : CT) (D : Nat -> List Int) (P : Nat) (ks f1 f2 x : Nat -> Int) (d : Nat) : (call19 U T D P ks f1 f2 x 8 d (o19 8)).map (fun r => (r.1, r.2.obl, r.2.next, keepL ks100 r.2.heap.get 0)) = some (.tuple #[row16 (tgL U T ks f2 x (D P) 8), .int .i64 0], pT U T D P 8, (hT D P ks f1 f2 x 8 d ++ List.replicate 97 none).length, hT D P ks f1 f2 x 8 d ++ List.replicate 97 none) := by kernel_rfl
theorem rt9 (U : UX) (T : CT) (D : Nat -> List Int) (P : Nat) (ks f1 f2 x : Nat -> Int) (d : Nat) : (call19 U T D P ks f1 f2 x 9 d (o19 9)).map (fun r => (r.1, r.2.obl, r.2.next, keepL ks100 r.2.heap.get 0)) = some (.tuple #[row16 (tgL U T ks f2 x (D P) 9), .int .i64 0], pT U T D P 9, (hT D P ks f1 f2 x 9 d ++ List.replicate 97 none).length, hT D P ks f1 f2 x 9 d ++ List.replicate 97 none) := by kernel_rfl
theorem rt10 (U : UX) (T : CT) (D : Nat -> List Int) (P : Nat) (ks f1 f2 x : Nat -> Int) (d : Nat) : (call19 U T D P ks f1 f2 x 10 d (o19 10)).map (fun r => (r.1, r.2.obl, r.2.next, keepL ks100 r.2.heap.get 0)) = some (.tuple #[row16 (tgL U T ks f2 x (D P) 10), .int .i64 0], pT U T D P 10, (hT D P ks f1 f2 x 10 d ++ List.replicate 97 none).length, hT D P ks f1 f2 x 10 d ++ List.replicate 97 none) := by kernel_rfl
theorem rt11 (U : UX) (T : CT) (D : Nat -> List Int) (P : Nat) (ks f1 f2 x : Nat -> Int) (d : Nat) : (call19 U T D P ks f1 f2 x 11 d (o19 11)).map (fun r => (r.1, r.2.obl, r.2.next, keepL ks100 r.2.heap.get 0)) = some (.tuple #[row16 (tgL U T ks f2 x (D P) 11), .int .i64 0], pT U T D P 11, (hT D P ks f1 f2 x 11 d ++ List.replicate 97 none).length, hT D P ks f1 f2 x 11 d ++ List.replicate 97 none) := by kernel_rfl
theorem rt12 (U : UX) (T : CT) (D : Nat -> List Int) (P : Nat) (ks f1 f2 x : Nat -> Int) (d : Nat) : (call19 U T D P ks f1 f2 x 12 d (o19 12)).map (fun r => (r.1, r.2.obl, r.2.next, keepL ks100 r.2.heap.get 0)) = some (.tuple #[row16 (tgL U T ks f2 x (D P) 12), .int .i64 0], pT U T D P 12, (hT D P ks f1 f2 x 12 d ++ List.replicate 97 none).length, hT D P ks f1 f2 x 12 d ++ List.replicate 97 none) := by kernel_rfl
theorem rt13 (U : UX) (T : CT) (D : Nat -> List Int) (P : Nat) (ks f1 f2 x : Nat -> Int) (d : Nat) : (call19 U T D P ks f1 f2 x 13 d (o19 13)).map (fun r => (r.1, r.2.obl, r.2.next, keepL ks100 r.2.heap.get 0)) = some (.tuple #[row16 (tgL U T ks f2 x (D P) 13), .int .i64 0], pT U T D P 13, (hT D P ks f1 f2 x 13 d ++ List.replicate 97 none).length, hT D P ks f1 f2 x 13 d ++ List.replicate 97 none) := by kernel_rfl
theorem rt14 (U : UX) (T : CT) (D : Nat -> List Int) (P : Nat) (ks f1 f2 x : Nat -> Int) (d : Nat) : (call19 U T D P ks f1 f2 x 14 d (o19 14)).map (fun r => (r.1, r.2.obl, r.2.next, keepL ks100 r.2.heap.get 0)) = some (.tuple #[row16 (tgL U T ks f2 x (D P) 14), .int .i64 0], pT U T D P 14, (hT D P ks f1 f2 x 14 d ++ List.replicate 97 none).length, hT D P ks f1 f2 x 14 d ++ List.replicate 97 none) := by kernel_rfl
theorem rt15 (U : UX) (T : CT) (D : Nat -> List Int) (P : Nat) (ks f1 f2 x : Nat -> Int) (d : Nat) : (call19 U T D P ks f1 f2 x 15 d (o19 15)).map (fun r => (r.1, r.2.obl, r.2.next, keepL ks100 r.2.heap.get 0)) = some (.tuple #[row16 (tgL U T ks f2 x (D P) 15), .int .i64 0], pT U T D P 15, (hT D P ks f1 f2 x 15 d ++ List.replicate 97 none).length, hT D P ks f1 f2 x 15 d ++ List.replicate 97 none) := by kernel_rfl
theorem rt16 (U : UX) (T : CT) (D : Nat -> List Int) (P : Nat) (ks f1 f2 x : Nat -> Int) (d : Nat) : (call19 U T D P ks f1 f2 x 16 d (o19 16)).map (fun r => (r.1, r.2.obl, r.2.next, keepL ks100 r.2.heap.get 0)) = some (.tuple #[row16 (tgL U T ks f1 x (D P) 16), .int .i64 0], pT U T D P 16, (hT D P ks f1 f2 x 16 d ++ List.replicate 97 none).length, hT D P ks f1 f2 x 16 d ++ List.replicate 97 none) := by kernel_rfl
theorem pRp_ok {D : Nat -> List Int} {P : Nat} : ∀ r, r <= (D P).length -> pRp D P r
 | 0, _ => trivial
 | r + 1, h => ⟨pRp_ok r (by omega), by omega⟩
theorem tagP (D : Nat -> List Int) (P : Nat) (ks f1 f2 x : Nat -> Int) (r d : Nat) (h1 : r <= 16) (hM : r <= (D P).length) : CallOk Try.prog 19 [P0 2 0] (smSt 3 (hT D P ks f1 f2 x r d) []) (.tuple #[row16 (tgL U0 CT0 ks (by' f1 f2 r) x (D P) r), .int .i64 0]) (smSt 3 (hT D P ks f1 f2 x r d ++ List.replicate 97 none) []) := by
 have hp : pT U0 CT0 D P r := ⟨⟨⟨pRp_ok r hM, rfl⟩, rfl⟩, rfl⟩
 have : r = 0 ∨ r = 1 ∨ r = 2 ∨ r = 3 ∨ r = 4 ∨ r = 5 ∨ r = 6 ∨ r = 7 ∨ r = 8 ∨ r = 9 ∨ r = 10 ∨ r = 11 ∨ r = 12 ∨ r = 13 ∨ r = 14 ∨ r = 15 ∨ r = 16 := by omega
 rcases this with rfl | rfl | rfl | rfl | rfl | rfl | rfl | rfl | rfl | rfl | rfl | rfl | rfl | rfl | rfl | rfl | rfl
 ·exact frame_by pg (K0W_ok U0 CT0) _ (rt0 U0 CT0 D P ks f1 f2 x d) hp (by rfl) rfl
 ·exact frame_by pg (K0W_ok U0 CT0) _ (rt1 U0 CT0 D P ks f1 f2 x d) hp (by rfl) rfl
 ·exact frame_by pg (K0W_ok U0 CT0) _ (rt2 U0 CT0 D P ks f1 f2 x d) hp (by rfl) rfl
 ·exact frame_by pg (K0W_ok U0 CT0) _ (rt3 U0 CT0 D P ks f1 f2 x d) hp (by rfl) rfl
 ·exact frame_by pg (K0W_ok U0 CT0) _ (rt4 U0 CT0 D P ks f1 f2 x d) hp (by rfl) rfl
 ·exact frame_by pg (K0W_ok U0 CT0) _ (rt5 U0 CT0 D P ks f1 f2 x d) hp (by rfl) rfl
 ·exact frame_by pg (K0W_ok U0 CT0) _ (rt6 U0 CT0 D P ks f1 f2 x d) hp (by rfl) rfl
 ·exact frame_by pg (K0W_ok U0 CT0) _ (rt7 U0 CT0 D P ks f1 f2 x d) hp (by rfl) rfl
 ·exact frame_by pg (K0W_ok U0 CT0) _ (rt8 U0 CT0 D P ks f1 f2 x d) hp (by rfl) rfl
 ·exact frame_by pg (K0W_ok U0 CT0) _ (rt9 U0 CT0 D P ks f1 f2 x d) hp (by rfl) rfl
 ·exact frame_by pg (K0W_ok U0 CT0) _ (rt10 U0 CT0 D P ks f1 f2 x d) hp (by rfl) rfl
 ·exact frame_by pg (K0W_ok U0 CT0) _ (rt11 U0 CT0 D P ks f1 f2 x d) hp (by rfl) rfl
 ·exact frame_by pg (K0W_ok U0 CT0) _ (rt12 U0 CT0 D P ks f1 f2 x d) hp (by rfl) rfl
 ·exact frame_by pg (K0W_ok U0 CT0) _ (rt13 U0 CT0 D P ks f1 f2 x d) hp (by rfl) rfl
 ·exact frame_by pg (K0W_ok U0 CT0) _ (rt14 U0 CT0 D P ks f1 f2 x d) hp (by rfl) rfl
 ·exact frame_by pg (K0W_ok U0 CT0) _ (rt15 U0 CT0 D P ks f1 f2 x d) hp (by rfl) rfl
 ·exact frame_by pg (K0W_ok U0 CT0) _ (rt16 U0 CT0 D P ks f1 f2 x d) hp (by rfl) rfl
def hJ (F : Nat -> Nat -> Cells) (lc l : LV) : List (Option Ob) := [some (.fam F), oC lc, oMc (P0 1 0 :: l)]
def F19p (T : VT) (D : Nat -> List Int) (f : FuncId) (args : List Value) (s : St) : Option Inst := if f == 19 then (match args with
 | [.pointer (some ⟨m, 0, none⟩)] => (match s.heap.get 0 with
  | some (.fam F) => (match s.heap.get m with
   | some (.cells (.lit (.pointer (some ⟨ci, 0, none⟩) :: l)) _) => (match s.heap.get ci with
    | some (.cells (.lit lc) _) => if okC lc && isN 48 (l.take 48).toArray then (match l.drop 48 with
     | [.slice (some ⟨P, 0, some 1000⟩) n d] => some ⟨[(0, 0), (ci, 0), (m, 0)], 3, hJ F lc (l.take 48 ++ [PS P n d]), [P0 2 0], .tuple #[row16 (T.tg (lc.take 176) ((l.take 48).take 16) (((l.take 48).drop 16).take 16) ((l.take 48).drop 32) (D P) n), .int .i64 0],
       hJ F lc (l.take 48 ++ [PS P n d]) ++ List.replicate 97 none, T = VT0 /\ F = fD D /\ n <= 16 /\ n <= (D P).length⟩
     | _ => none) else none
    | _ => none)
   | _ => none)
  | _ => none)
 | _ => none) else none
theorem F19p_ok (T : VT) (D : Nat -> List Int) (f : FuncId) (args : List Value) (s : St) (i : Inst) (h : F19p T D f args s = some i) : Fits s i args /\ (i.ask -> CallOk Try.prog f i.args i.s0 i.val i.s1) := by
 unfold F19p at h
 split at h
 ·rename_i hf
  have hf' : f = 19 := by simpa using hf
  subst hf'
  split at h
  ·rename_i m
   split at h
   ·rename_i F hF
    split at h
    ·rename_i ci l tm hm
     split at h
     ·rename_i lc tc hci
      split at h
      ·rename_i hc
       rw [Bool.and_eq_true] at hc
       obtain ⟨a', bb, cx, p1, p2, p3, p4, p5, i1, i2, i3⟩ := parts48 hc.2
       split at h
       ·rename_i P n d hd
        have el := cat48 hd
        cases h
        refine ⟨⟨?_, fun j pp ob h1 hh => ?_⟩, fun hT => ?_⟩
        ·show _ = [Value.pointer (some ⟨m, addO 0 0, none⟩)]
         rw [addO_eq]
        ·rcases j with _ | _ | _ | j
         ·simp only [hJ, List.getElem?_cons_zero, Option.some.injEq] at h1 hh
          subst h1; subst hh
          exact ⟨_, hF, fun _ _ _ _ hx => hx⟩
         ·simp only [hJ, oC, Nat.zero_add, List.getElem?_cons_succ, List.getElem?_cons_zero, Option.some.injEq] at h1 hh
          subst h1; subst hh
          exact ⟨_, hci, fit_same (okC_flat0 hc.1)⟩
         ·simp only [hJ, oMc, Nat.zero_add, Nat.reduceAdd, List.getElem?_cons_succ, List.getElem?_cons_zero, Option.some.injEq] at h1 hh
          subst h1; subst hh
          rw [el] at hm
          refine ⟨_, hm, fit_obj' ?_ rfl (isN_flat0 hc.2) rfl rfl⟩
          show Value.pointer (some ⟨ci, 0, none⟩) = Value.pointer (some ⟨ci, addO 0 0, none⟩)
          rw [addO_eq]
         ·simp at h1
        ·obtain ⟨rfl, q0, q1, q2⟩ := hT
         cases (show F = fD D from q0)
         have w := tagP D P (intAt (lc.take 176)) a' bb cx n d q1 q2
         unfold hT at w
         rw [← oC_eq hc.1, ← oMc_eq p4] at w
         have et : VT0.tg (lc.take 176) ((l.take 48).take 16) (((l.take 48).drop 16).take 16) ((l.take 48).drop 32) (D P) n = tgL U0 CT0 (intAt (lc.take 176)) (by' a' bb n) cx (D P) n := by
          show tgL U0 CT0 (intAt (lc.take 176)) (by' (intAt ((l.take 48).take 16)) (intAt (((l.take 48).drop 16).take 16)) n) (intAt ((l.take 48).drop 32)) (D P) n = _
          rw [i1, i2, i3]
         show CallOk Try.prog 19 [P0 2 0] (smSt 3 (hJ (fD D) lc (l.take 48 ++ [PS P n d])) []) (.tuple #[row16 (VT0.tg (lc.take 176) ((l.take 48).take 16) (((l.take 48).drop 16).take 16) ((l.take 48).drop 32) (D P) n), .int .i64 0]) (smSt 3 (hJ (fD D) lc (l.take 48 ++ [PS P n d]) ++ List.replicate 97 none) [])
         rw [et]
         exact w
       ·cases h
      ·cases h
     ·cases h
    ·cases h
   ·cases h
  ·cases h
 ·cases h
end
end pn
end Go.Proofs.Ytkcngffpnnlmeaa
namespace Go.Proofs.Ytkcngffpnnlmeaa
open Go.ChangeShapes Go.WideShapes Go.ChangeAt Go.RowKit Go.Cln
namespace pm
open ae ga gb gc
noncomputable section
def FPl (TG : ae.GT) (f : FuncId) (args : List Value) (s : St) : Option Inst := if f == 15 then (match args with
 | [.slice (some ⟨b, o, none⟩) 16 c, .slice (some ⟨P, 0, some 1000⟩) n d] => (match s.heap.get 0 with
  | some (.fam F) => (match s.heap.get b with
   | some (.cells (.lit L) _) => if isN 16 ((L.drop o).take 16).toArray then (match F 1000 P with
    | .ints .u8 D => some ⟨[(0, 0), (b, o), (0, 0)], 3, hP F (keyL (intAt ((L.drop o).take 16))) none, [sl 1 0 none 16 c, PS P n d], row16 (TG (keyL (intAt ((L.drop o).take 16))) (wd D 0 n)), hP' F (keyL (intAt ((L.drop o).take 16))) none, TG = tagF /\ F 1000 P = .ints .u8 D /\ OkKy (intAt ((L.drop o).take 16)) /\ (wd D 0 n).length = n /\ n <= 1000 /\ n <= d⟩
    | _ => none) else none
   | _ => none)
  | _ => none)
 | _ => none) else none
theorem fit_keyAt {L : LV} {o m : Nat} {ν δ : Nat -> Nat} (hn : isN 16 ((L.drop o).take 16).toArray = true) : ∀ (x : Nat) (v : Value), (Cells.ints .u8 (keyL (intAt ((L.drop o).take 16)))).get x = some v -> ∃ V, (Cells.lit L).get (o + x) = some V /\ V = mv ν δ v /\ okN m v = true := by
 have el : (L.drop o).take 16 = rowV .u8 16 (intAt ((L.drop o).take 16)) := by
  have := congrArg Array.toList (isN_row hn); simpa using this
 generalize hf : intAt ((L.drop o).take 16) = f at el
 refine fit_intsL fun x a ha => ?_
 have hx : x < 16 := (List.getElem?_eq_some_iff.1 ha).1
 have h1 : ((L.drop o).take 16)[x]? = L[o + x]? := by rw [List.getElem?_take, if_pos hx, List.getElem?_drop]
 rw [← h1, el]
 have hc : x = 0 ∨ x = 1 ∨ x = 2 ∨ x = 3 ∨ x = 4 ∨ x = 5 ∨ x = 6 ∨ x = 7 ∨ x = 8 ∨ x = 9 ∨ x = 10 ∨ x = 11 ∨ x = 12 ∨ x = 13 ∨ x = 14 ∨ x = 15 := by omega
 rcases hc with rfl | rfl | rfl | rfl | rfl | rfl | rfl | rfl | rfl | rfl | rfl | rfl | rfl | rfl | rfl | rfl <;> (cases ha; rfl)
theorem FPl_ok (TG : ae.GT) (f : FuncId) (args : List Value) (s : St) (i : Inst) (h : FPl TG f args s = some i) : Fits s i args /\ (i.ask -> CallOk Try.prog f i.args i.s0 i.val i.s1) := by
 unfold FPl at h
 split at h
 ·rename_i hf
  have hf' : f = 15 := by simpa using hf
  subst hf'
  split at h
  ·rename_i b o c P n d
   split at h
   ·rename_i F hF
    split at h
    ·rename_i L tb hb
     split at h
     ·rename_i hn
      split at h
      ·rename_i D hD
       cases h
       refine ⟨⟨?_, fun j pp ob h1 hh => ?_⟩, fun ha => ?_⟩
       ·show [Value.slice (some ⟨b, o, none⟩) 16 c, .slice (some ⟨P, 0, some 1000⟩) n d] = [Value.slice (some ⟨b, addO o 0, none⟩) 16 c, .slice (some ⟨P, 0, some 1000⟩) n d]
        rw [addO_eq]; rfl
       ·rcases j with _ | _ | _ | j
        ·simp only [List.getElem?_cons_zero, Option.some.injEq] at h1
         subst h1
         simp only [hP, List.getElem?_cons_zero, Option.some.injEq] at hh
         subst hh
         exact ⟨_, hF, fun _ _ _ _ hx => hx⟩
        ·simp only [Nat.zero_add, List.getElem?_cons_succ, List.getElem?_cons_zero, Option.some.injEq] at h1
         subst h1
         simp only [hP, oI, Nat.zero_add, List.getElem?_cons_succ, List.getElem?_cons_zero, Option.some.injEq] at hh
         subst hh
         exact ⟨_, hb, fit_keyAt hn⟩
        ·cases hh
        ·simp at h1
       ·obtain ⟨rfl, q1, q2, q3, q4, q5⟩ := ha
        exact rtagP q1 (keyL_ok q2) q3 q4 q5
      ·cases h
     ·cases h
    ·cases h
   ·cases h
  ·cases h
 ·cases h
end
end pm
end Go.Proofs.Ytkcngffpnnlmeaa
namespace Go.Proofs.Ytkcngffpnnlmeaa
open Go.ChangeShapes Go.WideShapes Go.ChangeAt Go.RowKit Go.Cln
namespace pn
open ae ga
noncomputable section
def KM (G : ae.GT) (V : VT) (D : Nat -> List Int) : Given := { Given.framesO (Given.frames (Given.frames (Given.frames (Given.frames Given.nothing F9w) (pm.FPl G)) (gb.F17b V)) (F19p V D)) (F18p V D) with fits := true }
theorem KM_ok (G : ae.GT) (V : VT) (D : Nat -> List Int) : GivenOk Try.prog (KM G V D) := frames_fits ((((((GivenOk.nothing _).frames F9w_ok).frames (pm.FPl_ok G)).frames (gb.F17b_ok V)).frames (F19p_ok V D)).framesO (F18p_ok V D)) true
def shw (s : St) : Prop := (s.tmps, s.next, (List.range 500).map (fun i => (i, s.heap.get i))) = ([], 0, [])
open ae ga pm
def hCr (F : Nat -> Nat -> Cells) (ks f1 f2 x : Nat -> Int) (left : Value) (M : Option (List Int)) : List (Option Ob) := [some (.fam F), oCi ks, oMa f1 f2 x left, M.bind oI]
def hCq (F : Nat -> Nat -> Cells) (ks f1 f2 x : Nat -> Int) (left : Value) (M : Option (List Int)) (r : Nat) (L : List Int) : List (Option Ob) := hCr F ks f1 f2 x left M ++ [oMa f1 f2 x (sl 6 0 (some 1) (0 + r) (0 + r)), none, oI L]
def cCo (F : Nat -> Nat -> Cells) (ks f1 f2 x : Nat -> Int) (left : Value) (M : Option (List Int)) (o : List (Option Bool)) : Option (Value × St) := (mk Try.prog KI 200).call 20 [P0 2 0] (smSt 4 (hCr F ks f1 f2 x left M) o)
def nn9 : List (Option Bool) := [none, none, none, none, none, none, none, none, none]
def pCo (r : Nat) (M : List Int) : Prop := (True /\ decide (0 + r <= 0) = false) /\ (0 + r <= M.length /\ 0 + 0 <= ([] : List Int).length /\ (0 + r) * 1 <= mostBytes /\ 0 + r <= mostBytes)
theorem runCo (F : Nat -> Nat -> Cells) (ks f1 f2 x : Nat -> Int) (r d : Nat) (M : List Int) : (cCo F ks f1 f2 x (sl 3 0 none r d) (some M) (nn9 ++ [some false])).map (fun r => (r.1, r.2.obl, r.2.next, keepL [true, true, true, true, true, false, true] r.2.heap.get 0)) =
  some (P0 4 0, pCo r M, (hCq F ks f1 f2 x (sl 3 0 none r d) (some M) r (wd M 0 r)).length, hCq F ks f1 f2 x (sl 3 0 none r d) (some M) r (wd M 0 r)) := by kernel_rfl
theorem hgetC {F : Nat -> Nat -> Cells} {ks f1 f2 x : Nat -> Int} {left : Value} {M : Option (List Int)} {b : Nat} : hget (hCr F ks f1 f2 x left M) b = match b with
  | 0 => some (.fam F)
  | 1 => oCi ks
  | 2 => oMa f1 f2 x left
  | 3 => M.bind oI
  | _ => none := by
 rcases b with _ | _ | _ | _ | b <;> rfl
theorem hgetD {F : Nat -> Nat -> Cells} {ks f1 f2 x : Nat -> Int} {left : Value} {M : Option (List Int)} {r : Nat} {L : List Int} {b : Nat} : hget (hCq F ks f1 f2 x left M r L) b = match b with
  | 0 => some (.fam F)
  | 1 => oCi ks
  | 2 => oMa f1 f2 x left
  | 3 => M.bind oI
  | 4 => oMa f1 f2 x (sl 6 0 (some 1) (0 + r) (0 + r))
  | 6 => oI L
  | _ => none := by
 rcases b with _ | _ | _ | _ | _ | _ | _ | b <;> rfl
theorem getC {F : Nat -> Nat -> Cells} {ks f1 f2 x : Nat -> Int} {left : Value} {M : Option (List Int)} (b : Nat) : (smSt 4 (hCr F ks f1 f2 x left M) []).heap.get b = hget (hCr F ks f1 f2 x left M) b := ofL_get (by simp [hCr]) b
theorem getD' {F : Nat -> Nat -> Cells} {ks f1 f2 x : Nat -> Int} {left : Value} {M : Option (List Int)} {r : Nat} {L : List Int} (b : Nat) : (smSt 4 (hCq F ks f1 f2 x left M r L) []).heap.get b = hget (hCq F ks f1 f2 x left M r L) b := ofL_get (by simp [hCq, hCr]) b
theorem free_lit {j : Nat} {l : LV} {t : TypeId} (h : l.all (freeV j) = true) : freeO j (.cells (.lit l) t) := fun i v hv => List.all_eq_true.1 h v (List.mem_of_getElem? hv)
theorem free_ci {ks : Nat -> Int} {o : Ob} (h : oCi ks = some o) : freeO 3 o := by
 cases h
 exact free_lit (by rfl)
theorem free_ma {f1 f2 x : Nat -> Int} {r : Nat} {o : Ob} (h : oMa f1 f2 x (sl 6 0 (some 1) (0 + r) (0 + r)) = some o) : freeO 3 o := by
 cases h
 exact free_lit (by rfl)
def lMa (f1 f2 x : Nat -> Int) : LV := .pointer (some ⟨1, 0, none⟩) :: (rowV .u8 16 f1 ++ (rowV .u8 16 f2 ++ rowV .u8 16 x))
theorem oMa_eq (f1 f2 x : Nat -> Int) (left : Value) : oMa f1 f2 x left = some (.cells (.lit (lMa f1 f2 x ++ [left])) 70) := by
 unfold oMa lMa
 rw [List.cons_append, List.append_assoc, List.append_assoc]
theorem lMa_free (f1 f2 x : Nat -> Int) : (lMa f1 f2 x).all (freeV 3) = true := by rfl
theorem placed_ma {f1 f2 x : Nat -> Int} {n d Pl : Nat} (h0 : 0 < d) {i : Nat} {u w : Value} (hu : (lMa f1 f2 x ++ [sl 3 0 none n d])[i]? = some u) (hw : (lMa f1 f2 x ++ [PS Pl n d])[i]? = some w) : Placed 3 Pl u w := by
 rcases Nat.lt_or_ge i (lMa f1 f2 x).length with h | h
 ·rw [List.getElem?_append_left h] at hu hw
  rw [hu] at hw; cases hw
  exact .inl ⟨rfl, List.all_eq_true.1 (lMa_free f1 f2 x) u (List.mem_of_getElem? hu)⟩
 ·rw [List.getElem?_append_right h] at hu hw
  cases hk : i - (lMa f1 f2 x).length with
  | zero => rw [hk] at hu hw; cases hu; cases hw; exact .inr ⟨0, n, d, h0, rfl, rfl⟩
  | succ k => rw [hk] at hu; simp at hu
theorem obp_ma {f1 f2 x : Nat -> Int} {n d Pl : Nat} (h0 : 0 < d) {o : Ob} (h : oMa f1 f2 x (sl 3 0 none n d) = some o) : ∃ o2, oMa f1 f2 x (PS Pl n d) = some o2 /\ ObP 3 Pl o o2 := by
 rw [oMa_eq] at h; cases h
 exact ⟨_, oMa_eq .., .inr ⟨_, _, _, rfl, rfl, by simp, fun i u w hu hw => placed_ma h0 hu hw⟩⟩
theorem obp_ma' {f1 f2 x : Nat -> Int} {n d Pl : Nat} (h0 : 0 < d) {o2 : Ob} (h : oMa f1 f2 x (PS Pl n d) = some o2) : ∃ o, oMa f1 f2 x (sl 3 0 none n d) = some o /\ ObP 3 Pl o o2 := by
 rw [oMa_eq] at h; cases h
 exact ⟨_, oMa_eq .., .inr ⟨_, _, _, rfl, rfl, by simp, fun i u w hu hw => placed_ma h0 hu hw⟩⟩
theorem lessC {F : Nat -> Nat -> Cells} {ks f1 f2 x : Nat -> Int} {n d Pl : Nat} {M : List Int} (h0 : 0 < d) : Less 3 Pl (smSt 4 (hCr F ks f1 f2 x (sl 3 0 none n d) (some M)) []) (smSt 4 (hCr F ks f1 f2 x (PS Pl n d) none) []) := by
 refine ⟨rfl, rfl, rfl, rfl, ?_, fun b o hb ho => ?_, fun b o2 hb ho => ?_⟩
 ·rw [getC, hgetC]; rfl
 ·rw [getC, hgetC] at ho
  rw [getC, hgetC]
  rcases b with _ | _ | _ | _ | b
  ·cases ho; exact ⟨_, rfl, .inl ⟨rfl, trivial⟩⟩
  ·exact ⟨o, ho, .inl ⟨rfl, free_ci ho⟩⟩
  ·exact obp_ma h0 ho
  ·exact absurd rfl hb
  ·cases ho
 ·rw [getC, hgetC] at ho
  rw [getC, hgetC]
  rcases b with _ | _ | _ | _ | b
  ·cases ho; exact ⟨_, rfl, .inl ⟨rfl, trivial⟩⟩
  ·exact ⟨o2, ho, .inl ⟨rfl, free_ci ho⟩⟩
  ·exact obp_ma' h0 ho
  ·exact absurd rfl hb
  ·cases ho
theorem lessD {F : Nat -> Nat -> Cells} {ks f1 f2 x : Nat -> Int} {n d Pl r : Nat} {M L : List Int} (h0 : 0 < d) : Less 3 Pl (smSt 4 (hCq F ks f1 f2 x (sl 3 0 none n d) (some M) r L) []) (smSt 4 (hCq F ks f1 f2 x (PS Pl n d) none r L) []) := by
 refine ⟨rfl, rfl, rfl, rfl, ?_, fun b o hb ho => ?_, fun b o2 hb ho => ?_⟩
 ·rw [getD', hgetD]; rfl
 ·rw [getD', hgetD] at ho
  rw [getD', hgetD]
  rcases b with _ | _ | _ | _ | _ | _ | _ | b
  ·cases ho; exact ⟨_, rfl, .inl ⟨rfl, trivial⟩⟩
  ·exact ⟨o, ho, .inl ⟨rfl, free_ci ho⟩⟩
  ·exact obp_ma h0 ho
  ·exact absurd rfl hb
  ·exact ⟨o, ho, .inl ⟨rfl, free_ma ho⟩⟩
  ·cases ho
  ·cases ho; exact ⟨_, rfl, .inl ⟨rfl, free_ints⟩⟩
  ·cases ho
 ·rw [getD', hgetD] at ho
  rw [getD', hgetD]
  rcases b with _ | _ | _ | _ | _ | _ | _ | b
  ·cases ho; exact ⟨_, rfl, .inl ⟨rfl, trivial⟩⟩
  ·exact ⟨o2, ho, .inl ⟨rfl, free_ci ho⟩⟩
  ·exact obp_ma' h0 ho
  ·exact absurd rfl hb
  ·exact ⟨o2, ho, .inl ⟨rfl, free_ma ho⟩⟩
  ·cases ho
  ·cases ho; exact ⟨_, rfl, .inl ⟨rfl, free_ints⟩⟩
  ·cases ho
theorem copyP {F : Nat -> Nat -> Cells} {D : List Int} {ks f1 f2 x : Nat -> Int} {P r d : Nat} (hF : F 1000 P = .ints .u8 D) (hD : (wd D 0 r).length = r) (h0 : 0 < r) (hr : r <= 1000) (hd : r <= d) :
  CallOk Try.prog 20 [P0 2 0] (smSt 4 (hCr F ks f1 f2 x (PS P r d) none) []) (P0 4 0) (smSt 4 (hCq F ks f1 f2 x (PS P r d) none r (wd D 0 r)) []) := by
 have h1 := frame_by pg KI_ok _ (runCo F ks f1 f2 x r d (wd D 0 r)) ⟨⟨trivial, by rw [decide_eq_false_iff_not]; omega⟩, by rw [hD]; omega, Nat.le_refl _, by unfold mostBytes; omega, by unfold mostBytes; omega⟩ (by rfl) rfl
 rw [wd_len hD] at h1
 refine h1.place (j := 3) (Pl := P) (L := wd D 0 r) (F := F) (ty := 5) trivial (by rw [getC]; rfl) (by rw [getC]; rfl) (show 3 < 4 by decide) (by decide) (fun i y hy => ?_) (by omega) (lessC (by omega)) (lessD (by omega)) (fun b hb => ?_) ⟨(show 3 < 4 by decide), rfl⟩ (.inl ⟨rfl, rfl⟩) ⟨rfl, fun i u w hu hw => ?_⟩
 rotate_left
 ·rw [getC, getD', hgetC, hgetD]
  have hb4 : b < 4 := by
   rcases Nat.lt_or_ge b 4 with h | h
   ·exact h
   ·have : (smSt 4 (hCr F ks f1 f2 x (PS P r d) none) []).may b = true := by
     unfold St.may
     show (decide (4 <= b) && !(List.contains [] b)) = true
     rw [decide_eq_true h]; rfl
    rw [this] at hb; cases hb
  have : b = 0 ∨ b = 1 ∨ b = 2 ∨ b = 3 := by omega
  rcases this with rfl | rfl | rfl | rfl <;> rfl
 ·rcases i with _ | i
  ·cases hu; cases hw; exact .inl ⟨rfl, rfl⟩
  ·cases hu
 ·rw [hF]
  simp only [Cells.get, Option.map_eq_some_iff] at hy ⊢
  obtain ⟨q, hq, rfl⟩ := hy
  refine ⟨q, ?_, rfl⟩
  unfold wd at hq
  rw [List.drop_zero, List.getElem?_take] at hq
  split at hq
  ·exact hq
  ·cases hq
def hCn (F : Nat -> Nat -> Cells) (lc l : LV) : List (Option Ob) := [some (.fam F), oC lc, oMc (P0 1 0 :: l), none]
def F20p (D : Nat -> List Int) (f : FuncId) (args : List Value) (s : St) : Option Inst := if f == 20 then (match args with
 | [.pointer (some ⟨m, 0, none⟩)] => (match s.heap.get 0 with
  | some (.fam F) => (match s.heap.get m with
   | some (.cells (.lit (.pointer (some ⟨ci, 0, none⟩) :: l)) _) => (match s.heap.get ci with
    | some (.cells (.lit lc) _) => if okC lc && isN 48 (l.take 48).toArray then (match l.drop 48 with
     | [.slice (some ⟨P, 0, some 1000⟩) r d] => some ⟨[(0, 0), (ci, 0), (m, 0), (0, 0)], 4, hCn F lc (l.take 48 ++ [PS P r d]), [P0 2 0], P0 4 0,
       hCn F lc (l.take 48 ++ [PS P r d]) ++ [oMc (P0 1 0 :: (l.take 48 ++ [sl 6 0 (some 1) (0 + r) (0 + r)])), none, oI (wd (D P) 0 r)], F = fD D /\ (wd (D P) 0 r).length = r /\ 0 < r /\ r <= 1000 /\ r <= d⟩
     | _ => none) else none
    | _ => none)
   | _ => none)
  | _ => none)
 | _ => none) else none
theorem F20p_ok (D : Nat -> List Int) (f : FuncId) (args : List Value) (s : St) (i : Inst) (h : F20p D f args s = some i) : Fits s i args /\ (i.ask -> CallOk Try.prog f i.args i.s0 i.val i.s1) := by
 unfold F20p at h
 split at h
 ·rename_i hf
  have hf' : f = 20 := by simpa using hf
  subst hf'
  split at h
  ·rename_i m
   split at h
   ·rename_i F hF
    split at h
    ·rename_i ci l tm hm
     split at h
     ·rename_i lc tc hci
      split at h
      ·rename_i hc
       rw [Bool.and_eq_true] at hc
       obtain ⟨a', bb, cx, p1, p2, p3, p4, p5, i1, i2, i3⟩ := parts48 hc.2
       split at h
       ·rename_i P r d hd
        have el := cat48 hd
        cases h
        refine ⟨⟨?_, fun j pp ob h1 hh => ?_⟩, fun hT => ?_⟩
        ·show _ = [Value.pointer (some ⟨m, addO 0 0, none⟩)]
         rw [addO_eq]
        ·rcases j with _ | _ | _ | _ | j
         ·simp only [hCn, List.getElem?_cons_zero, Option.some.injEq] at h1 hh
          subst h1; subst hh
          exact ⟨_, hF, fun _ _ _ _ hx => hx⟩
         ·simp only [hCn, oC, Nat.zero_add, List.getElem?_cons_succ, List.getElem?_cons_zero, Option.some.injEq] at h1 hh
          subst h1; subst hh
          exact ⟨_, hci, fit_same (okC_flat0 hc.1)⟩
         ·simp only [hCn, oMc, Nat.zero_add, Nat.reduceAdd, List.getElem?_cons_succ, List.getElem?_cons_zero, Option.some.injEq] at h1 hh
          subst h1; subst hh
          rw [el] at hm
          refine ⟨_, hm, fit_obj' ?_ rfl (isN_flat0 hc.2) rfl rfl⟩
          show Value.pointer (some ⟨ci, 0, none⟩) = Value.pointer (some ⟨ci, addO 0 0, none⟩)
          rw [addO_eq]
         ·cases hh
         ·simp at h1
        ·obtain ⟨q0, q1, q2, q3, q4⟩ := hT
         cases (show F = fD D from q0)
         have w := copyP (F := fD D) (D := D P) (ks := intAt (lc.take 176)) (f1 := a') (f2 := bb) (x := cx) (P := P) (d := d) rfl q1 q2 q3 q4
         unfold hCq hCr at w
         rw [← oC_eq hc.1, ← oMc_eq p4, ← oMc_eq p4] at w
         exact w
       ·cases h
      ·cases h
     ·cases h
    ·cases h
   ·cases h
  ·cases h
 ·cases h
open ae ga pm
def F18z (T : VT) (D : Nat -> List Int) (f : FuncId) (args : List Value) (s : St) : Option (Inst × Nat) := if f == 18 then (match args with
 | [.pointer (some ⟨m, 0, none⟩), .slice (some ⟨b, 0, none⟩) n 0] => (match s.heap.get 0 with
  | some (.fam F) => (match s.heap.get m with
   | some (.cells (.lit (.pointer (some ⟨ci, 0, none⟩) :: l)) _) => (match s.heap.get ci with
    | some (.cells (.lit lc) _) => (match s.heap.get b with
     | some (.cells (.ints .u8 W) _) => if okC lc && isN 48 (l.take 48).toArray then (match l.drop 48 with
      | [.slice (some ⟨P, 0, some 1000⟩) a d] => (match s.orc with
       | some true :: _ => some (⟨[(0, 0), (b, 0), (ci, 0), (0, 0), (m, 0)], 4, hI F W lc (l.take 48 ++ [PS P a d]), [P0 4 0, sl 1 0 none n 0], .int .i64 0,
         hI F W lc ((l.take 48).take 32 ++ (R16 (T.wx (lc.take 176) ((l.take 48).drop 32) (wd (D P) 0 a ++ W)) ++ [sl 12 0 (some 1) (T.r (a + n)) (T.r (a + n))])) ++ (List.replicate 7 none ++ [oI (((wd (D P) 0 a ++ W).drop (T.o (a + n))).take (T.r (a + n)))]),
         T = VT0 /\ F = fD D /\ 0 < a + n /\ a <= 1000000 /\ n <= 1000000 /\ W.length = n /\ (wd (D P) 0 a).length = a /\ a + n <= 1000000⟩, 1)
       | some false :: _ => some (⟨[(0, 0), (b, 0), (ci, 0), (0, 0), (m, 0)], 4, hI F W lc (l.take 48 ++ [PS P a d]), [P0 4 0, sl 1 0 none n 0], .int .i64 0, hI F W lc (l.take 48 ++ [PS P a d]) ++ List.replicate 5 none, F = fD D /\ a = 0 /\ n = 0⟩, 1)
       | _ => none)
      | _ => none) else none
     | _ => none)
    | _ => none)
   | _ => none)
  | _ => none)
 | _ => none) else none
theorem F18z_ok (T : VT) (D : Nat -> List Int) (f : FuncId) (args : List Value) (s : St) (i : Inst) (u : Nat) (h : F18z T D f args s = some (i, u)) : Fits s i args /\ (i.ask -> CallOk Try.prog f i.args i.s0 i.val i.s1) := by
 unfold F18z at h
 split at h
 ·rename_i hf
  have hf' : f = 18 := by simpa using hf
  subst hf'
  split at h
  ·rename_i m b n
   split at h
   ·rename_i F hF
    split at h
    ·rename_i ci l tm hm
     split at h
     ·rename_i lc tc hci
      split at h
      ·rename_i W tb hb
       split at h
       ·rename_i hc
        rw [Bool.and_eq_true] at hc
        obtain ⟨a', bb, cx, p1, p2, p3, p4, p5, i1, i2, i3⟩ := parts48 hc.2
        split at h
        ·rename_i P a d hd
         have el := cat48 hd
         have fit : ∀ (V : Value) (h' : List (Option Ob)) (q : Prop), Fits s ⟨[(0, 0), (b, 0), (ci, 0), (0, 0), (m, 0)], 4, hI F W lc (l.take 48 ++ [PS P a d]), [P0 4 0, sl 1 0 none n 0], V, h', q⟩ [.pointer (some ⟨m, 0, none⟩), .slice (some ⟨b, 0, none⟩) n 0] := fun V h' q => by
          refine ⟨?_, fun j pp ob h1 hh => ?_⟩
          ·show _ = [Value.pointer (some ⟨m, addO 0 0, none⟩), .slice (some ⟨b, addO 0 0, none⟩) n 0]
           rw [addO_eq]
          ·rcases j with _ | _ | _ | _ | _ | j
           ·simp only [hI, List.getElem?_cons_zero, Option.some.injEq] at h1 hh
            subst h1; subst hh
            exact ⟨_, hF, fun _ _ _ _ hx => hx⟩
           ·simp only [hI, oBy, Nat.zero_add, List.getElem?_cons_succ, List.getElem?_cons_zero, Option.some.injEq] at h1 hh
            subst h1; subst hh
            exact ⟨_, hb, fit_whole'⟩
           ·simp only [hI, oC, Nat.zero_add, Nat.reduceAdd, List.getElem?_cons_succ, List.getElem?_cons_zero, Option.some.injEq] at h1 hh
            subst h1; subst hh
            exact ⟨_, hci, fit_same (okC_flat0 hc.1)⟩
           ·cases hh
           ·simp only [hI, oMc, Nat.zero_add, Nat.reduceAdd, List.getElem?_cons_succ, List.getElem?_cons_zero, Option.some.injEq] at h1 hh
            subst h1; subst hh
            rw [el] at hm
            refine ⟨_, hm, fit_obj' ?_ rfl (isN_flat0 hc.2) rfl rfl⟩
            show Value.pointer (some ⟨ci, 0, none⟩) = Value.pointer (some ⟨ci, addO 0 0, none⟩)
            rw [addO_eq]
           ·simp at h1
         split at h
         ·cases h
          refine ⟨fit _ _ _, fun hT => ?_⟩
          obtain ⟨rfl, q0, q1, q2, q3, q4, q5, q6⟩ := hT
          cases (show F = fD D from q0)
          have w := (wp_R D W P a d (intAt (lc.take 176)) a' bb cx n 0 ⟨rfl, q1, q2, q3, q4, q5⟩ q6).args fun ρ l h => h.two fun w h => h.grown
          unfold hPx hW0 at w
          rw [← oC_eq hc.1, ← oMb_eq p4, Nat.zero_add] at w
          have ew : VT0.wx (lc.take 176) ((l.take 48).drop 32) (wd (D P) 0 a ++ W) = wch (intAt (lc.take 176)) (wd (D P) 0 a ++ W) (qn (a + n)) 0 cx := by
           show wch (intAt (lc.take 176)) (wd (D P) 0 a ++ W) (((wd (D P) 0 a ++ W).length - 1) / 16) 0 (intAt ((l.take 48).drop 32)) = _
           rw [wd_app q5 q4, i3]; rfl
          show CallOk Try.prog 18 [P0 4 0, sl 1 0 none n 0] (smSt 4 (hI (fD D) W lc (l.take 48 ++ [PS P a d])) []) (.int .i64 0) (smSt 4 (hI (fD D) W lc ((l.take 48).take 32 ++ (R16 (VT0.wx (lc.take 176) ((l.take 48).drop 32) (wd (D P) 0 a ++ W)) ++ [sl 12 0 (some 1) (rn (a + n)) (rn (a + n))])) ++ (List.replicate 7 none ++ [oBy (((wd (D P) 0 a ++ W).drop (16 * qn (a + n))).take (rn (a + n)))])) [])
          unfold hI
          rw [ew, p5, List.append_assoc]
          exact w
         ·cases h
          refine ⟨fit _ _ _, fun hT => ?_⟩
          obtain ⟨q0, q1, q2⟩ := hT
          cases (show F = fD D from q0)
          cases (show a = 0 from q1)
          cases (show n = 0 from q2)
          have w := (wp_0 D W P d (intAt (lc.take 176)) a' bb cx 0).args fun ρ l h => h.two fun w h => h.grown
          unfold hW0 at w
          rw [← oC_eq hc.1, ← oMb_eq p4] at w
          exact w
         ·cases h
        ·cases h
       ·cases h
      ·cases h
     ·cases h
    ·cases h
   ·cases h
  ·cases h
 ·cases h
end
end pn
end Go.Proofs.Ytkcngffpnnlmeaa
namespace Go.Proofs.Ytkcngffpnnlmeaa
open Go.ChangeShapes Go.WideShapes Go.ChangeAt Go.RowKit Go.Cln
namespace po
open ae ga pm pn
noncomputable section
abbrev VF := Nat -> Value
def rp (v : Value) : Nat -> List Value -> List Value
 | 0, l => l
 | n + 1, l => v :: rp v n l
def vs (v : Nat -> Value) (b : Nat) : Nat -> List Value -> List Value
 | 0, l => l
 | k + 1, l => vs v b k (v (b + k) :: l)
theorem deadT_vs {B : Nat -> Bool} {v : Nat -> Value} (h : ∀ i, DeadV (v i)) : ∀ (n : Nat) {a b : Nat} {l : List Value}, deadT B (a + n) l -> deadT B a (vs v b n l)
 | 0, _, _, _, g => g
 | n + 1, a, b, l, g => deadT_vs h n (a := a) (b := b) (l := v (b + n) :: l) ⟨fun _ => h _, g⟩
structure Sd where
 key : Nat -> Int
 f1 : Nat -> Int
 f2 : Nat -> Int
 x : Nat -> Int
 P : Nat
 r : Nat
 d : Nat
 A : Nat
 n : Nat
 c : Nat
noncomputable def KM (G : ae.GT) (V : VT) (D : Nat -> List Int) : Given := { Given.framesO (Given.framesO (Given.framesO (Given.frames (Given.frames (Given.frames (Given.frames (Given.frames Given.nothing F9w) (pm.FPl G)) (gb.FT V)) (F19p V D)) (F20p D)) (pl.F18r V)) (F18z V D)) (F18p V D) with fits := true }
theorem KM_ok (G : ae.GT) (V : VT) (D : Nat -> List Int) : GivenOk Try.prog (KM G V D) := frames_fits (((((((((GivenOk.nothing _).frames F9w_ok).frames (pm.FPl_ok G)).frames (gb.FT_ok V)).frames (F19p_ok V D)).frames (F20p_ok D)).framesO (pl.F18r_ok V)).framesO (F18z_ok V D)).framesO (F18p_ok V D)) true
def tmM (v : VF) (n c k : Nat) : List Value := (v 0 :: v 1 :: sl 1 0 none n c :: vs v 3 3 (.bool false :: v 7 :: .int .i64 0 :: v 9 :: .int .i64 0 :: sl 6 0 none 2 2 :: P0 7 0 :: P0 8 0 :: .int .i64 (nI k) :: vs v 15 218 []))
theorem tmM_dead {v : VF} {n c k : Nat} {B : Nat -> Bool} (h : ∀ i, DeadV (v i)) (hB : ∀ i, (Nat.beq i 2 || Nat.beq i 6 || Nat.beq i 8 || (Nat.ble 10 i && Nat.ble i 14)) = true -> B i = true) : deadT B 0 (tmM v n c k) :=
 ⟨fun _ => h 0, ⟨fun _ => h 1, ⟨fun e => absurd e (by rw [hB 2 rfl]; decide), deadT_vs h 3 (⟨fun e => absurd e (by rw [hB 6 rfl]; decide), ⟨fun _ => h 7, ⟨fun e => absurd e (by rw [hB 8 rfl]; decide), ⟨fun _ => h 9, ⟨fun e => absurd e (by rw [hB 10 rfl]; decide), ⟨fun e => absurd e (by rw [hB 11 rfl]; decide), ⟨fun e => absurd e (by rw [hB 12 rfl]; decide), ⟨fun e => absurd e (by rw [hB 13 rfl]; decide), ⟨fun e => absurd e (by rw [hB 14 rfl]; decide), deadT_vs h 218 (trivial)⟩⟩⟩⟩⟩⟩⟩⟩⟩)⟩⟩⟩
def nul : Value := .slice none 0 0
def PSa (a : Sd) : Value := PS a.P a.r a.d
def PAl (a : Sd) : Value := PS a.A a.n a.c
def oMk (ci : Nat) (a : Sd) (left : Value) : Option Ob := some (.cells (.lit (.pointer (some ⟨ci, 0, none⟩) :: (rowV .u8 16 a.f1 ++ (rowV .u8 16 a.f2 ++ (rowV .u8 16 a.x ++ [left]))))) 70)
def HG (x : Acts) (n q : Nat) (ks1 ks2 : Nat -> Int) (a b : Sd) (la lb ua ub : Value) (o9 o10 : Option Ob) : Nat -> Option Ob := fun i => match i with
 | 0 => some (.fam x.F)
 | 1 => some (.cells (.rows n 3 x.row) 0)
 | 2 => oCi ks1
 | 3 => oCi ks2
 | 4 => oMk 2 a la
 | 5 => oMk q b lb
 | 6 => some (.cells (.lit [P0 4 0, P0 5 0]) 44)
 | 7 => some (.cells (.lit (rowV .u8 16 a.key ++ rowV .u8 16 b.key)) 48)
 | 8 => some (.cells (.lit [ua, ub]) 49)
 | 9 => o9
 | 10 => o10
 | _ => none
def sG (x : Acts) (n c q k : Nat) (ks1 ks2 : Nat -> Int) (a b : Sd) (la lb ua ub : Value) (o9 o10 : Option Ob) (v : VF) : St := ⟨tmM v n c k, [], Tr.rebuild (HG x n q ks1 ks2 a b la lb ua ub o9 o10) 11, 11, 2, [], fun _ => false, True, []⟩
def st (x : Acts) (n c q k : Nat) (ks1 ks2 : Nat -> Int) (a b : Sd) (v : VF) : St := sG x n c q k ks1 ks2 a b (PSa a) (PSa b) (PAl a) (PAl b) none none v
noncomputable def lb : Code := loopB Try.prog 6 0
noncomputable def go (K : Given) (s : St) (o : List (Option Bool)) : Option (Exit × St) := (mk Try.prog K 300).code 6 none lb { s with obl := True, orc := o }
open ae ga pm pn
def ix (k : Nat) : Nat := (0 + k * 3) / 3
theorem ix_eq (k : Nat) : ix k = k := by unfold ix; omega
def byv (x : Acts) (k : Nat) : Value := .slice (some ⟨x.Q (ix k), 0, some 1000⟩) (x.m (ix k)) (x.c (ix k))
def xs (x : Acts) (k : Nat) : List Value := [.int .i64 (x.wh (ix k)), .bool (x.tw (ix k)), byv x k]
def fk (k : Nat) : Prop := IntKind.i64.wrap (nI k + 1) = nI k + 1
def rw0 (x : Acts) (k : Nat) : List Int := wd (x.D (x.Q (ix k))) 0 (x.m (ix k))
def rw1 (x : Acts) (k : Nat) : List Int := layI [] (0 + 0) (rw0 x k)
def q1 (x : Acts) (k : Nat) : Prop := x.m (ix k) = 0 ∨ 0 + x.m (ix k) <= (x.D (x.Q (ix k))).length
def pH (x : Acts) (n k : Nat) (tw : Bool) : Prop := (((True /\ decide (nI k < nI n) = true) /\ (0 <= nI k /\ nI k < nI n)) /\ ((0 + k * 3) % 3 = 0 /\ (0 + k * 3) / 3 < n)) /\ x.tw (ix k) = tw
def E16 (p : Prop) (X Y : Nat -> Int) : Prop := ((((((((((((((((p /\ (X 0 == Y 0) = true) /\ (X 1 == Y 1) = true) /\ (X 2 == Y 2) = true) /\ (X 3 == Y 3) = true) /\ (X 4 == Y 4) = true) /\ (X 5 == Y 5) = true) /\ (X 6 == Y 6) = true) /\ (X 7 == Y 7) = true) /\ (X 8 == Y 8) = true) /\ (X 9 == Y 9) = true) /\ (X 10 == Y 10) = true) /\ (X 11 == Y 11) = true) /\ (X 12 == Y 12) = true) /\ (X 13 == Y 13) = true) /\ (X 14 == Y 14) = true) /\ (X 15 == Y 15) = true)
theorem e16 {p : Prop} {X Y : Nat -> Int} (h : p) (e : ∀ j, j < 16 -> X j = Y j) : E16 p X Y := by
 have e : ∀ j, j < 16 -> (X j == Y j) = true := fun j hj => by rw [e j hj]; exact beq_self_eq_true _
 exact ⟨⟨⟨⟨⟨⟨⟨⟨⟨⟨⟨⟨⟨⟨⟨⟨h, e 0 (by decide)⟩, e 1 (by decide)⟩, e 2 (by decide)⟩, e 3 (by decide)⟩, e 4 (by decide)⟩, e 5 (by decide)⟩, e 6 (by decide)⟩, e 7 (by decide)⟩, e 8 (by decide)⟩, e 9 (by decide)⟩, e 10 (by decide)⟩, e 11 (by decide)⟩, e 12 (by decide)⟩, e 13 (by decide)⟩, e 14 (by decide)⟩, e 15 (by decide)⟩
def tgS (V : VT) (ks : Nat -> Int) (a : Sd) (M : List Int) (r : Nat) : Nat -> Int := V.tg (R176 ks) (R16 a.f1) (R16 a.f2) (R16 a.x) M r
def ky (a b : Sd) (o : Nat) : Nat -> Int := intAt (((rowV .u8 16 a.key ++ rowV .u8 16 b.key).drop o).take 16)
def askK (G : ae.GT) (x : Acts) (key : Nat -> Int) (s : Sd) : Prop := G = tagF /\ x.F 1000 s.A = .ints .u8 (x.D s.A) /\ gb.OkKy key /\ (wd (x.D s.A) 0 s.n).length = s.n /\ s.n <= 1000 /\ s.n <= s.c
def askT (V : VT) (x : Acts) (s : Sd) : Prop := V = VT0 /\ x.F = fD x.D /\ s.r <= 16 /\ s.r <= (x.D s.P).length
def askC (x : Acts) (s : Sd) : Prop := x.F = fD x.D /\ (wd (x.D s.P) 0 s.r).length = s.r /\ 0 < s.r /\ s.r <= 1000 /\ s.r <= s.d
def askR (V : VT) (x : Acts) (s : Sd) (W : List Int) (n : Nat) : Prop := V = VT0 /\ x.F = fD x.D /\ 0 < s.r + n /\ s.r <= 1000000 /\ n <= 1000000 /\ W.length = n /\ (wd (x.D s.P) 0 s.r).length = s.r /\ s.r + n <= 1000000
def askE (V : VT) (W : List Int) (n : Nat) : Prop := V = VT0 /\ 0 < n /\ n <= 1000000 /\ W.length = n /\ n <= n
def pw (V : VT) (ks : Nat -> Int) (s : Sd) (W : List Int) (n : Nat) : Sd := { s with x := V.wx (R176 ks) (R16 s.x) W, r := V.r n }
def pL (V : VT) (W : List Int) (n : Nat) : List Int := (W.drop (V.o n)).take (V.r n)
def lR (x : Acts) (s : Sd) (W : List Int) : List Int := wd (x.D s.P) 0 s.r ++ W
def al (x : Acts) (s : Sd) : List Int := wd (x.D s.A) 0 s.n
def al0 (x : Acts) (s : Sd) : List Int := layI [] (0 + 0) (al x s)
def qA (x : Acts) (s : Sd) : Prop := s.n = 0 ∨ 0 + s.n <= (x.D s.A).length
def alF (x : Acts) (s : Sd) (k : Nat) : List Int := List.take (0 + s.n) (List.drop 0 (al x s)) ++ rw0 x k
def alG (x : Acts) (s : Sd) (k : Nat) : List Int := List.take (0 + s.n) (List.drop 0 (al0 x s)) ++ rw0 x k
def alH (x : Acts) (s : Sd) (k : Nat) : List Int := layI (al x s) (0 + (0 + s.n)) (rw0 x k)
def alI (x : Acts) (s : Sd) (k : Nat) : List Int := layI (al0 x s) (0 + (0 + s.n)) (rw0 x k)
open gb (ir)
def Wt (i : Nat) : Bool := (Nat.ble 15 i && Nat.ble i 16) || (Nat.ble 19 i && Nat.ble i 20) || (Nat.ble 50 i && Nat.ble i 58) || (Nat.ble 60 i && Nat.ble i 63) || (Nat.ble 85 i && Nat.ble i 86) || (Nat.ble 128 i && Nat.ble i 129) || (Nat.ble 131 i && Nat.ble i 134) || (Nat.ble 137 i && Nat.ble i 141) || (Nat.ble 143 i && Nat.ble i 148) || (Nat.ble 150 i && Nat.ble i 151)
def Vt (v : VF) : VF := fun i => match Nat.beq i 59 with
 | true => .agg #[junk, junk, junk]
 | false => match Nat.beq i 130 with
 | true => .tuple #[.agg #[junk, junk, junk, junk, junk, junk, junk, junk, junk, junk, junk, junk, junk, junk, junk, junk], junk]
 | false => match Nat.beq i 135 with
 | true => .tuple #[.agg #[junk, junk, junk, junk, junk, junk, junk, junk, junk, junk, junk, junk, junk, junk, junk, junk], junk]
 | false => match Nat.beq i 136 with
 | true => .agg #[junk, junk, junk, junk, junk, junk, junk, junk, junk, junk, junk, junk, junk, junk, junk, junk]
 | false => match Nat.beq i 142 with
 | true => .agg #[junk, junk, junk, junk, junk, junk, junk, junk, junk, junk, junk, junk, junk, junk, junk, junk]
 | false => match Nat.beq i 149 with
 | true => .agg #[junk, junk, junk, junk, junk, junk, junk, junk, junk, junk, junk, junk, junk, junk, junk, junk]
 | false => match Wt i with
 | true => junk
 | false => v i
def Bt (i : Nat) : Bool := (Nat.beq i 2 || Nat.beq i 6 || Nat.beq i 8 || (Nat.ble 10 i && Nat.ble i 14)) || Wt i || Nat.beq i 59 || Nat.beq i 130 || Nat.beq i 135 || Nat.beq i 136 || Nat.beq i 142 || Nat.beq i 149
theorem Vt_dead {v : VF} (h : ∀ i, DeadV (v i)) (i : Nat) : DeadV (Vt v i) := by
 unfold Vt
 split
 ·exact ⟨rfl, fun _ => rfl, fun _ => rfl⟩
 split
 ·exact ⟨rfl, fun _ => rfl, fun _ => rfl⟩
 split
 ·exact ⟨rfl, fun _ => rfl, fun _ => rfl⟩
 split
 ·exact ⟨rfl, fun _ => rfl, fun _ => rfl⟩
 split
 ·exact ⟨rfl, fun _ => rfl, fun _ => rfl⟩
 split
 ·exact ⟨rfl, fun _ => rfl, fun _ => rfl⟩
 split
 ·exact DeadV.junk
 ·exact h i
theorem lvt (i : Nat) (h : (Nat.beq i 2 || Nat.beq i 6 || Nat.beq i 8 || (Nat.ble 10 i && Nat.ble i 14)) = true) : Bt i = true := by
 unfold Bt
 simp only [Bool.or_eq_true] at h ⊢
 refine .inl ?_
 refine .inl ?_
 refine .inl ?_
 refine .inl ?_
 refine .inl ?_
 refine .inl ?_
 exact .inl h
def Wc (i : Nat) : Bool := (Nat.ble 15 i && Nat.ble i 16) || (Nat.ble 50 i && Nat.ble i 58) || (Nat.ble 60 i && Nat.ble i 76) || (Nat.ble 78 i && Nat.ble i 86) || (Nat.ble 128 i && Nat.ble i 129)
def Vc (v : VF) : VF := fun i => match Nat.beq i 59 with
 | true => .agg #[junk, junk, junk]
 | false => match Nat.beq i 77 with
 | true => .agg #[junk, junk, junk, junk, junk, junk, junk, junk, junk, junk, junk, junk, junk, junk, junk, junk]
 | false => match Wc i with
 | true => junk
 | false => v i
def Bc (i : Nat) : Bool := (Nat.beq i 2 || Nat.beq i 6 || Nat.beq i 8 || (Nat.ble 10 i && Nat.ble i 14)) || Wc i || Nat.beq i 59 || Nat.beq i 77
theorem Vc_dead {v : VF} (h : ∀ i, DeadV (v i)) (i : Nat) : DeadV (Vc v i) := by
 unfold Vc
 split
 ·exact ⟨rfl, fun _ => rfl, fun _ => rfl⟩
 split
 ·exact ⟨rfl, fun _ => rfl, fun _ => rfl⟩
 split
 ·exact DeadV.junk
 ·exact h i
theorem lvc (i : Nat) (h : (Nat.beq i 2 || Nat.beq i 6 || Nat.beq i 8 || (Nat.ble 10 i && Nat.ble i 14)) = true) : Bc i = true := by
 unfold Bc
 simp only [Bool.or_eq_true] at h ⊢
 refine .inl ?_
 refine .inl ?_
 exact .inl h
def Ww1 (i : Nat) : Bool := (Nat.ble 15 i && Nat.ble i 18) || (Nat.ble 50 i && Nat.ble i 58) || (Nat.ble 60 i && Nat.ble i 63) || (Nat.ble 85 i && Nat.ble i 90) || (Nat.ble 92 i && Nat.ble i 127)
def Vw1 (v : VF) : VF := fun i => match Nat.beq i 59 with
 | true => .agg #[junk, junk, junk]
 | false => match Ww1 i with
 | true => junk
 | false => v i
def Bw1 (i : Nat) : Bool := (Nat.beq i 2 || Nat.beq i 6 || Nat.beq i 8 || (Nat.ble 10 i && Nat.ble i 14)) || Ww1 i || Nat.beq i 59
theorem Vw1_dead {v : VF} (h : ∀ i, DeadV (v i)) (i : Nat) : DeadV (Vw1 v i) := by
 unfold Vw1
 split
 ·exact ⟨rfl, fun _ => rfl, fun _ => rfl⟩
 split
 ·exact DeadV.junk
 ·exact h i
theorem lvw1 (i : Nat) (h : (Nat.beq i 2 || Nat.beq i 6 || Nat.beq i 8 || (Nat.ble 10 i && Nat.ble i 14)) = true) : Bw1 i = true := by
 unfold Bw1
 simp only [Bool.or_eq_true] at h ⊢
 refine .inl ?_
 exact .inl h
def Ww0 (i : Nat) : Bool := (Nat.ble 15 i && Nat.ble i 18) || (Nat.ble 50 i && Nat.ble i 58) || (Nat.ble 60 i && Nat.ble i 63) || (Nat.ble 85 i && Nat.ble i 90) || (Nat.ble 92 i && Nat.ble i 107) || (Nat.ble 118 i && Nat.ble i 127)
def Vw0 (v : VF) : VF := fun i => match Nat.beq i 59 with
 | true => .agg #[junk, junk, junk]
 | false => match Ww0 i with
 | true => junk
 | false => v i
def Bw0 (i : Nat) : Bool := (Nat.beq i 2 || Nat.beq i 6 || Nat.beq i 8 || (Nat.ble 10 i && Nat.ble i 14)) || Ww0 i || Nat.beq i 59
theorem Vw0_dead {v : VF} (h : ∀ i, DeadV (v i)) (i : Nat) : DeadV (Vw0 v i) := by
 unfold Vw0
 split
 ·exact ⟨rfl, fun _ => rfl, fun _ => rfl⟩
 split
 ·exact DeadV.junk
 ·exact h i
theorem lvw0 (i : Nat) (h : (Nat.beq i 2 || Nat.beq i 6 || Nat.beq i 8 || (Nat.ble 10 i && Nat.ble i 14)) = true) : Bw0 i = true := by
 unfold Bw0
 simp only [Bool.or_eq_true] at h ⊢
 refine .inl ?_
 exact .inl h
def Wx (i : Nat) : Bool := (Nat.ble 50 i && Nat.ble i 53)
def Vx (v : VF) : VF := fun i => match Wx i with
 | true => junk
 | false => v i
def Bx (i : Nat) : Bool := (Nat.beq i 2 || Nat.beq i 6 || Nat.beq i 8 || (Nat.ble 10 i && Nat.ble i 14)) || Wx i
theorem Vx_dead {v : VF} (h : ∀ i, DeadV (v i)) (i : Nat) : DeadV (Vx v i) := by
 unfold Vx
 split
 ·exact DeadV.junk
 ·exact h i
theorem lvx (i : Nat) (h : (Nat.beq i 2 || Nat.beq i 6 || Nat.beq i 8 || (Nat.ble 10 i && Nat.ble i 14)) = true) : Bx i = true := by
 unfold Bx
 simp only [Bool.or_eq_true] at h ⊢
 exact .inl h
def tmJ (v : VF) (x : Acts) (n c k : Nat) (kk : Int) (j : Nat) : List Value := (v 0 :: v 1 :: sl 1 0 none n c :: vs v 3 3 (.bool false :: v 7 :: .int .i64 0 :: v 9 :: .int .i64 0 :: sl 6 0 none 2 2 :: P0 7 0 :: P0 8 0 :: .int .i64 (nI k) :: P0 11 0 :: .int .i64 kk :: sl 13 0 (some 1) (0 + x.m (ix k)) (0 + x.m (ix k)) :: .int .i64 (nI j) :: vs v 19 40 (.agg (xs x k).toArray :: vs v 60 173 [])))
theorem tmJ_dead {v : VF} {x : Acts} {n c k : Nat} {kk : Int} {j : Nat} {B : Nat -> Bool} (h : ∀ i, DeadV (v i)) (hB : ∀ i, (Nat.beq i 2 || Nat.beq i 6 || Nat.beq i 8 || (Nat.ble 10 i && Nat.ble i 18) || Nat.beq i 59) = true -> B i = true) : deadT B 0 (tmJ v x n c k kk j) :=
 ⟨fun _ => h 0, ⟨fun _ => h 1, ⟨fun e => absurd e (by rw [hB 2 rfl]; decide), deadT_vs h 3 (⟨fun e => absurd e (by rw [hB 6 rfl]; decide), ⟨fun _ => h 7, ⟨fun e => absurd e (by rw [hB 8 rfl]; decide), ⟨fun _ => h 9, ⟨fun e => absurd e (by rw [hB 10 rfl]; decide), ⟨fun e => absurd e (by rw [hB 11 rfl]; decide), ⟨fun e => absurd e (by rw [hB 12 rfl]; decide), ⟨fun e => absurd e (by rw [hB 13 rfl]; decide), ⟨fun e => absurd e (by rw [hB 14 rfl]; decide), ⟨fun e => absurd e (by rw [hB 15 rfl]; decide), ⟨fun e => absurd e (by rw [hB 16 rfl]; decide), ⟨fun e => absurd e (by rw [hB 17 rfl]; decide), ⟨fun e => absurd e (by rw [hB 18 rfl]; decide), deadT_vs h 40 (⟨fun e => absurd e (by rw [hB 59 rfl]; decide), deadT_vs h 173 (trivial)⟩)⟩⟩⟩⟩⟩⟩⟩⟩⟩⟩⟩⟩⟩)⟩⟩⟩
def Winn (i : Nat) : Bool := (Nat.ble 104 i && Nat.ble i 117)
def Vinn (v : VF) : VF := fun i => match Winn i with
 | true => junk
 | false => v i
def Binn (i : Nat) : Bool := (Nat.beq i 2 || Nat.beq i 6 || Nat.beq i 8 || (Nat.ble 10 i && Nat.ble i 18) || Nat.beq i 59) || Winn i
theorem Vinn_dead {v : VF} (h : ∀ i, DeadV (v i)) (i : Nat) : DeadV (Vinn v i) := by
 unfold Vinn
 split
 ·exact DeadV.junk
 ·exact h i
theorem lvinn (i : Nat) (h : (Nat.beq i 2 || Nat.beq i 6 || Nat.beq i 8 || (Nat.ble 10 i && Nat.ble i 18) || Nat.beq i 59) = true) : Binn i = true := by
 unfold Binn
 simp only [Bool.or_eq_true] at h ⊢
 exact .inl h
def Wpre (i : Nat) : Bool := (Nat.ble 50 i && Nat.ble i 53) || (Nat.ble 56 i && Nat.ble i 58) || (Nat.ble 60 i && Nat.ble i 63) || (Nat.ble 85 i && Nat.ble i 90) || (Nat.ble 92 i && Nat.ble i 103)
def Vpre (v : VF) : VF := fun i => match Wpre i with
 | true => junk
 | false => v i
theorem Vpre_dead {v : VF} (h : ∀ i, DeadV (v i)) (i : Nat) : DeadV (Vpre v i) := by
 unfold Vpre
 split
 ·exact DeadV.junk
 ·exact h i
abbrev HF := Acts -> Nat -> (Nat -> Int) -> (Nat -> Int) -> Sd -> Sd -> Nat -> Option Ob
def HJ (H : HF) (x : Acts) (n k : Nat) (ks1 ks2 : Nat -> Int) (a b : Sd) (M L : List Int) : Nat -> Option Ob := fun i => match i with
 | 11 => some (.cells (.lit (xs x k)) 51)
 | 13 => oBy M
 | 21 => oBy L
 | i => H x n ks1 ks2 a b i
def sJ (H : HF) (x : Acts) (n c k : Nat) (ks1 ks2 : Nat -> Int) (a b : Sd) (v : VF) (kk : Int) (M L : List Int) (j : Nat) : St := ⟨tmJ v x n c k kk j, [], Tr.rebuild (HJ H x n k ks1 ks2 a b M L) 22, 22, 2, [], fun _ => false, True, []⟩
noncomputable def lj : Code := loopB Try.prog 6 1
def K0 : Given := { Given.nothing with fits := true }
theorem K0_ok : GivenOk Try.prog K0 := frames_fits (GivenOk.nothing _) true
def up (M : List Int) (j : Nat) : List Int := M.set (0 + j * 1) (IntKind.u8.wrap (M.getD (0 + j * 1) 0 + 1))
def pJJ (m : Nat) (M : List Int) (j : Nat) : Prop := (((((True /\ decide (nI j < nI (0 + m)) = true) /\ (0 <= nI j /\ nI j < nI (0 + m))) /\ 0 + j * 1 < M.length) /\ (0 <= nI j /\ nI j < nI (0 + m))) /\ 0 + j * 1 + 1 <= M.length) /\ IntKind.i64.wrap (nI j + 1) = nI j + 1
def oJ : List (Option Bool) := [some true, some true, some true, none, some true, some true, some true]
noncomputable def goJ (s : St) (rd : Option Nat) (o : List (Option Bool)) (t : St) : Option (Exit × Prop × Seen) := ((mk Try.prog K0 200).code 6 rd lj { s with obl := True, orc := o }).map (fun r => (r.1, r.2.obl, seenInT Binn r.2 t []))
def runJ (H : HF) : Prop := ∀ (x : Acts) (n c k : Nat) (ks1 ks2 : Nat -> Int) (a b : Sd) (v : VF) (kk : Int) (M L : List Int) (j : Nat) (rd : Option Nat), goJ (sJ H x n c k ks1 ks2 a b v kk M L j) rd oJ (sJ H x n c k ks1 ks2 a b (Vinn v) kk (up M j) L (j + 1)) =
    some (.normal, pJJ (x.m (ix k)) M j, seenAsT Binn (sJ H x n c k ks1 ks2 a b (Vinn v) kk (up M j) L (j + 1)) [] 22)
def runJX (H : HF) : Prop := ∀ (x : Acts) (n c k : Nat) (ks1 ks2 : Nat -> Int) (a b : Sd) (v : VF) (kk : Int) (M L : List Int) (j : Nat) (rd : Option Nat), goJ (sJ H x n c k ks1 ks2 a b (Vinn v) kk M L j) rd [some false] (sJ H x n c k ks1 ks2 a b (Vinn v) kk M L j) =
    some (.exit 3, True /\ decide (nI j < nI (0 + x.m (ix k))) = false, seenAsT Binn (sJ H x n c k ks1 ks2 a b (Vinn v) kk M L j) [] 22)
def okJ (H : HF) : Prop := ∀ (x : Acts) (n c k : Nat) (ks1 ks2 : Nat -> Int) (a b : Sd) (v v' : VF) (kk : Int) (M M' L : List Int) (j j' : Nat), picOkT Binn (sJ H x n c k ks1 ks2 a b v kk M L j) (sJ H x n c k ks1 ks2 a b (Vinn v') kk M' L j') [] = true
theorem HG_ok {x : Acts} {n q : Nat} {ks1 ks2 : Nat -> Int} {a b : Sd} {la lb ua ub : Value} {o9 o10 : Option Ob} (h9 : o9 = none ∨ ∃ L, o9 = oBy L) (h10 : o10 = none ∨ ∃ L, o10 = oBy L) : Go.Cln.RowsIn (HG x n q ks1 ks2 a b la lb ua ub o9 o10) := by
 intro b' n' w' g t h
 unfold HG at h
 split at h
 ·cases h
 ·cases h
  intro i v h
  simp only [Acts.row, List.mem_cons, List.not_mem_nil, or_false] at h
  rcases h with rfl | rfl | rfl
  ·exact ⟨fun _ => rfl, fun _ _ => rfl⟩
  ·exact ⟨fun _ => rfl, fun _ _ => rfl⟩
  ·exact ⟨fun _ => rfl, fun _ h => h⟩
 all_goals first
  | (cases h; done)
  | (rcases h9 with rfl | ⟨L, rfl⟩ <;> cases h; done)
  | (rcases h10 with rfl | ⟨L, rfl⟩ <;> cases h; done)
def HFok (H : HF) : Prop := ∀ (x : Acts) (n : Nat) (ks1 ks2 : Nat -> Int) (a b : Sd), Go.Cln.RowsIn (H x n ks1 ks2 a b)
def HJ02E : HF := fun x n ks1 ks2 a b => HG x n 2 ks1 ks2 a b (sl 21 0 (some 1) a.r a.r) nul (PAl a) (PAl b) none none
theorem hJ02E : HFok HJ02E := fun x n ks1 ks2 a b => HG_ok (.inl rfl) (.inl rfl)
theorem jn02E : runJ HJ02E := by intro x n c k ks1 ks2 a b v kk M L j rd; kernel_rfl
theorem jx02E : runJX HJ02E := by intro x n c k ks1 ks2 a b v kk M L j rd; kernel_rfl
theorem jo02E : okJ HJ02E := by intro x n c k ks1 ks2 a b v v2 kk M M2 L j j2; kernel_rfl
def HJ02R : HF := fun x n ks1 ks2 a b => HG x n 2 ks1 ks2 a b (sl 21 0 (some 1) a.r a.r) (PSa b) (PAl a) (PAl b) none none
theorem hJ02R : HFok HJ02R := fun x n ks1 ks2 a b => HG_ok (.inl rfl) (.inl rfl)
theorem jn02R : runJ HJ02R := by intro x n c k ks1 ks2 a b v kk M L j rd; kernel_rfl
theorem jx02R : runJX HJ02R := by intro x n c k ks1 ks2 a b v kk M L j rd; kernel_rfl
theorem jo02R : okJ HJ02R := by intro x n c k ks1 ks2 a b v v2 kk M M2 L j j2; kernel_rfl
def HJ03E : HF := fun x n ks1 ks2 a b => HG x n 3 ks1 ks2 a b (sl 21 0 (some 1) a.r a.r) nul (PAl a) (PAl b) none none
theorem hJ03E : HFok HJ03E := fun x n ks1 ks2 a b => HG_ok (.inl rfl) (.inl rfl)
theorem jn03E : runJ HJ03E := by intro x n c k ks1 ks2 a b v kk M L j rd; kernel_rfl
theorem jx03E : runJX HJ03E := by intro x n c k ks1 ks2 a b v kk M L j rd; kernel_rfl
theorem jo03E : okJ HJ03E := by intro x n c k ks1 ks2 a b v v2 kk M M2 L j j2; kernel_rfl
def HJ03R : HF := fun x n ks1 ks2 a b => HG x n 3 ks1 ks2 a b (sl 21 0 (some 1) a.r a.r) (PSa b) (PAl a) (PAl b) none none
theorem hJ03R : HFok HJ03R := fun x n ks1 ks2 a b => HG_ok (.inl rfl) (.inl rfl)
theorem jn03R : runJ HJ03R := by intro x n c k ks1 ks2 a b v kk M L j rd; kernel_rfl
theorem jx03R : runJX HJ03R := by intro x n c k ks1 ks2 a b v kk M L j rd; kernel_rfl
theorem jo03R : okJ HJ03R := by intro x n c k ks1 ks2 a b v v2 kk M M2 L j j2; kernel_rfl
def HJ12E : HF := fun x n ks1 ks2 a b => HG x n 2 ks1 ks2 a b nul (sl 21 0 (some 1) b.r b.r) (PAl a) (PAl b) none none
theorem hJ12E : HFok HJ12E := fun x n ks1 ks2 a b => HG_ok (.inl rfl) (.inl rfl)
theorem jn12E : runJ HJ12E := by intro x n c k ks1 ks2 a b v kk M L j rd; kernel_rfl
theorem jx12E : runJX HJ12E := by intro x n c k ks1 ks2 a b v kk M L j rd; kernel_rfl
theorem jo12E : okJ HJ12E := by intro x n c k ks1 ks2 a b v v2 kk M M2 L j j2; kernel_rfl
def HJ12R : HF := fun x n ks1 ks2 a b => HG x n 2 ks1 ks2 a b (PSa a) (sl 21 0 (some 1) b.r b.r) (PAl a) (PAl b) none none
theorem hJ12R : HFok HJ12R := fun x n ks1 ks2 a b => HG_ok (.inl rfl) (.inl rfl)
theorem jn12R : runJ HJ12R := by intro x n c k ks1 ks2 a b v kk M L j rd; kernel_rfl
theorem jx12R : runJX HJ12R := by intro x n c k ks1 ks2 a b v kk M L j rd; kernel_rfl
theorem jo12R : okJ HJ12R := by intro x n c k ks1 ks2 a b v v2 kk M M2 L j j2; kernel_rfl
def HJ13E : HF := fun x n ks1 ks2 a b => HG x n 3 ks1 ks2 a b nul (sl 21 0 (some 1) b.r b.r) (PAl a) (PAl b) none none
theorem hJ13E : HFok HJ13E := fun x n ks1 ks2 a b => HG_ok (.inl rfl) (.inl rfl)
theorem jn13E : runJ HJ13E := by intro x n c k ks1 ks2 a b v kk M L j rd; kernel_rfl
theorem jx13E : runJX HJ13E := by intro x n c k ks1 ks2 a b v kk M L j rd; kernel_rfl
theorem jo13E : okJ HJ13E := by intro x n c k ks1 ks2 a b v v2 kk M M2 L j j2; kernel_rfl
def HJ13R : HF := fun x n ks1 ks2 a b => HG x n 3 ks1 ks2 a b (PSa a) (sl 21 0 (some 1) b.r b.r) (PAl a) (PAl b) none none
theorem hJ13R : HFok HJ13R := fun x n ks1 ks2 a b => HG_ok (.inl rfl) (.inl rfl)
theorem jn13R : runJ HJ13R := by intro x n c k ks1 ks2 a b v kk M L j rd; kernel_rfl
theorem jx13R : runJX HJ13R := by intro x n c k ks1 ks2 a b v kk M L j rd; kernel_rfl
theorem jo13R : okJ HJ13R := by intro x n c k ks1 ks2 a b v v2 kk M M2 L j j2; kernel_rfl
theorem Vinn2 (v : VF) : Vinn (Vinn v) = Vinn v := by
 funext i
 unfold Vinn
 cases Winn i <;> rfl
def ups (M : List Int) : Nat -> List Int
 | 0 => M
 | j + 1 => up (ups M j) j
theorem ups_len (M : List Int) : ∀ j, (ups M j).length = M.length
 | 0 => rfl
 | j + 1 => by unfold ups up; rw [List.length_set]; exact ups_len M j
theorem pJJ_ok {m : Nat} {M : List Int} {j : Nat} (hj : j < m) (hM : M.length = m) (h100 : m <= 1000) : pJJ m M j := by
 unfold pJJ
 simp only [nI, decide_eq_true_eq]
 rw [IntKind.wrap_i64]
 exact ⟨⟨⟨⟨⟨⟨trivial, by omega⟩, by omega⟩, by omega⟩, by omega⟩, by omega⟩, by omega⟩
theorem HJ_ok {H : HF} (h : HFok H) (x : Acts) (n k : Nat) (ks1 ks2 : Nat -> Int) (a b : Sd) (M L : List Int) : Go.Cln.RowsIn (HJ H x n k ks1 ks2 a b M L) := by
 intro bb n' w' g t hb
 unfold HJ at hb
 split at hb
 ·cases hb
 ·cases hb
 ·cases hb
 ·exact h x n ks1 ks2 a b _ _ _ _ _ hb
def vj (v : VF) : Nat -> VF
 | 0 => v
 | _ + 1 => Vinn v
theorem loopJ {H : HF} (hH : HFok H) (h1 : runJ H) (h2 : runJX H) (h3 : okJ H) (x : Acts) (n c k : Nat) (ks1 ks2 : Nat -> Int) (a b : Sd) (v : VF) (kk : Int) (M L : List Int) (m : Nat) (hm : x.m (ix k) = m) (h0 : 0 < m) (h100 : m <= 1000) (hM : M.length = m) (hv : ∀ i, DeadV (v i)) (rd : Option Nat) :
  CodeOk Try.prog rd (.loop lj) (sJ H x n c k ks1 ks2 a b v kk M L 0) (.exit 3) (sJ H x n c k ks1 ks2 a b (Vinn v) kk (ups M m) L m) := by
 have hvj : ∀ j i, DeadV (vj v j i) := fun j i => by
  cases j with
  | zero => exact hv i
  | succ j => exact Vinn_dead hv i
 refine CodeOk.of_step (Step.loop (fun g t => ∃ j, j <= m /\ g = m - j /\ t = sJ H x n c k ks1 ks2 a b (vj v j) kk (ups M j) L j) ?_ m _ ⟨0, by omega, by omega, rfl⟩)
 rintro g t ⟨j, g1, rfl, rfl⟩
 by_cases hj : j = m
 ·subst hj
  obtain ⟨i, rfl⟩ : ∃ i, j = i + 1 := ⟨j - 1, by omega⟩
  refine (Step.stdT (s0 := sJ H x n c k ks1 ks2 a b v kk M L 0) pg K0_ok (B := Binn) (g := HJ H x n k ks1 ks2 a b (ups M (i + 1)) L) (h2 x n c k ks1 ks2 a b v kk (ups M (i + 1)) L (i + 1) rd) ⟨trivial, by rw [hm]; simp only [nI, decide_eq_false_iff_not]; omega⟩ (Nat.le_refl _) (tmJ_dead (Vinn_dead hv) lvinn) (HJ_ok hH x n k ks1 ks2 a b _ _) rfl (h3 ..)).mono ?_
  rintro e' t ⟨rfl, rfl⟩
  exact .inr ⟨(by intro x; cases x), rfl, rfl⟩
 ·have e1 : vj v (j + 1) = Vinn (vj v j) := by
   cases j with
   | zero => rfl
   | succ j => exact (Vinn2 v).symm
  refine (Step.stdT (s0 := sJ H x n c k ks1 ks2 a b v kk M L 0) pg K0_ok (B := Binn) (g := HJ H x n k ks1 ks2 a b (up (ups M j) j) L) (h1 x n c k ks1 ks2 a b (vj v j) kk (ups M j) L j rd) (by rw [hm]; exact pJJ_ok (by omega) (by rw [ups_len]; exact hM) h100) (Nat.le_refl _) (tmJ_dead (Vinn_dead (hvj j)) lvinn) (HJ_ok hH x n k ks1 ks2 a b _ _) rfl (h3 ..)).mono ?_
  rintro e' t ⟨rfl, rfl⟩
  exact .inl ⟨rfl, m - (j + 1), by omega, j + 1, by omega, rfl, by rw [e1]; rfl⟩
def askX (X : St) (f : FuncId) (c : Code) (s : Go.Cln.St) : Option Ask2 := if f == 6 then some ⟨⟨[50, 51, 52, 53, 56, 57, 58, 60, 61, 62, 63, 85, 86, 87, 88, 89, 90, 92, 93, 94, 95, 96, 97, 98, 99, 100, 101, 102, 103], [], [], [12]⟩, .exit 3, fun _ => X⟩ else none
noncomputable def KJ (G : ae.GT) (V : VT) (x : Acts) (X : St) : Given := Given.asking2 (KM G V x.D) Try.prog (askX X)
theorem KJ_ok (G : ae.GT) (V : VT) (x : Acts) (X : St) : GivenOk Try.prog (KJ G V x X) := (KM_ok G V x.D).asking2 _
noncomputable def gT (K : Given) (s : St) (o : List (Option Bool)) (B : Nat -> Bool) (t : St) (σ : List Nat) : Option (Exit × Prop × Seen) := ((mk Try.prog K 300).code 6 none lb { s with obl := True, orc := o }).map (fun r => (r.1, r.2.obl, seenInT B r.2 t σ))
def s00 (x : Acts) (k1 k2 : Nat -> Int) (n c : Nat) : St := { St.start 2 (Tr.ofL (x.heap n)) [] with tmps := [row16 k1, row16 k2, sl 1 0 none n c] ++ List.replicate 230 undef, defers := [] }
def s3EE (x : Acts) (n c k : Nat) (ks1 ks2 : Nat -> Int) (a b : Sd) (v : VF) : St := sG x n c 3 k ks1 ks2 a b nul nul (PAl a) (PAl b) none none v
def s3ER (x : Acts) (n c k : Nat) (ks1 ks2 : Nat -> Int) (a b : Sd) (v : VF) : St := sG x n c 3 k ks1 ks2 a b nul (PSa b) (PAl a) (PAl b) none none v
def s3RE (x : Acts) (n c k : Nat) (ks1 ks2 : Nat -> Int) (a b : Sd) (v : VF) : St := sG x n c 3 k ks1 ks2 a b (PSa a) nul (PAl a) (PAl b) none none v
def s3RR (x : Acts) (n c k : Nat) (ks1 ks2 : Nat -> Int) (a b : Sd) (v : VF) : St := sG x n c 3 k ks1 ks2 a b (PSa a) (PSa b) (PAl a) (PAl b) none none v
def s2EE (x : Acts) (n c k : Nat) (ks1 ks2 : Nat -> Int) (a b : Sd) (v : VF) : St := sG x n c 2 k ks1 ks2 a b nul nul (PAl a) (PAl b) none none v
def s2ER (x : Acts) (n c k : Nat) (ks1 ks2 : Nat -> Int) (a b : Sd) (v : VF) : St := sG x n c 2 k ks1 ks2 a b nul (PSa b) (PAl a) (PAl b) none none v
def s2RE (x : Acts) (n c k : Nat) (ks1 ks2 : Nat -> Int) (a b : Sd) (v : VF) : St := sG x n c 2 k ks1 ks2 a b (PSa a) nul (PAl a) (PAl b) none none v
def s2RR (x : Acts) (n c k : Nat) (ks1 ks2 : Nat -> Int) (a b : Sd) (v : VF) : St := sG x n c 2 k ks1 ks2 a b (PSa a) (PSa b) (PAl a) (PAl b) none none v
def mm (x : Acts) (k : Nat) : Nat := x.m (ix k)
def wR (V : VT) (ks : Nat -> Int) (x : Acts) (s : Sd) (W : List Int) (k : Nat) : Sd := pw V ks s (lR x s W) (s.r + (0 + mm x k))
def wE (V : VT) (ks : Nat -> Int) (x : Acts) (s : Sd) (W : List Int) (k : Nat) : Sd := pw V ks s W (0 + mm x k)
def LR (V : VT) (x : Acts) (s : Sd) (W : List Int) (k : Nat) : List Int := pL V (lR x s W) (s.r + (0 + mm x k))
def LE (V : VT) (x : Acts) (W : List Int) (k : Nat) : List Int := pL V W (0 + mm x k)
def NN (x : Acts) (s : Sd) (k : Nat) : Nat := 0 + s.n + mm x k
def tA (x : Acts) (n c q k : Nat) (ks1 ks2 : Nat -> Int) (b A : Sd) (lo : Value) (N C : Nat) (L M : List Int) (v : VF) : St := sG x n c q (k + 1) ks1 ks2 A b (sl 9 0 (some 1) A.r A.r) lo (sl 10 0 (some 1) N C) (PAl b) (oBy L) (oBy M) v
def tB (x : Acts) (n c q k : Nat) (ks1 ks2 : Nat -> Int) (a B : Sd) (lo : Value) (N C : Nat) (L M : List Int) (v : VF) : St := sG x n c q (k + 1) ks1 ks2 a B lo (sl 9 0 (some 1) B.r B.r) (PAl a) (sl 10 0 (some 1) N C) (oBy L) (oBy M) v
def tA0 (x : Acts) (n c q k : Nat) (ks1 ks2 : Nat -> Int) (a b : Sd) (lo : Value) (N : Nat) (M : List Int) (v : VF) : St := sG x n c q (k + 1) ks1 ks2 a b nul lo (sl 10 0 none N 0) (PAl b) none (oBy M) v
def tB0 (x : Acts) (n c q k : Nat) (ks1 ks2 : Nat -> Int) (a b : Sd) (lo : Value) (N : Nat) (M : List Int) (v : VF) : St := sG x n c q (k + 1) ks1 ks2 a b lo nul (PAl a) (sl 10 0 none N 0) none (oBy M) v
def tCA (x : Acts) (n c k : Nat) (ks1 ks2 : Nat -> Int) (s : Sd) (v : VF) : St := sG x n c 2 (k + 1) ks1 ks2 s s (sl 9 0 (some 1) (0 + s.r) (0 + s.r)) (PSa s) (PAl s) (PAl s) (oBy (wd (x.D s.P) 0 s.r)) none v
def tCB (x : Acts) (n c k : Nat) (ks1 ks2 : Nat -> Int) (s : Sd) (v : VF) : St := sG x n c 2 (k + 1) ks1 ks2 s s (PSa s) (sl 9 0 (some 1) (0 + s.r) (0 + s.r)) (PAl s) (PAl s) (oBy (wd (x.D s.P) 0 s.r)) none v
def jC (H : HF) (x : Acts) (n c k : Nat) (ks1 ks2 : Nat -> Int) (a b : Sd) (v : VF) (kk : Int) (L : List Int) : Prop := ∀ rd, CodeOk Try.prog rd (.loop lj) (sJ H x n c k ks1 ks2 a b (Vpre v) kk (rw0 x k) L 0) (.exit 3) (sJ H x n c k ks1 ks2 a b (Vinn (Vpre v)) kk (ups (rw0 x k) (mm x k)) L (mm x k))
noncomputable def KJ2 (G : ae.GT) (V : VT) (H : HF) (x : Acts) (n c k : Nat) (ks1 ks2 : Nat -> Int) (a b : Sd) (v : VF) (kk : Int) (L : List Int) : Given := KJ G V x (sJ H x n c k ks1 ks2 a b (Vinn (Vpre v)) kk (ups (rw0 x k) (mm x k)) L (mm x k))
def gE (K : Given) (s : St) (o : List (Option Bool)) (B : Nat -> Bool) (t : St) (σ : List Nat) (n1 : Nat) (p : Prop) : Prop := gT K s o B t σ = some (.normal, p, seenAsT B t σ n1)
def q_tR (G : ae.GT) (V : VT) (x : Acts) (n k : Nat) (tw : Bool) (ks : Nat -> Int) (s : Sd) (f : Nat -> Int) : Prop := E16 ((((pH x n k tw /\ (x.wh (ix k) == 0) = false) /\ (x.wh (ix k) == 1) = true) /\ askT V x s) /\ askK G x f s) (tgS V ks s (x.D s.P) s.r) (G (gb.keyL f) (wd (x.D s.A) 0 s.n)) /\ fk k
def q_tE (G : ae.GT) (V : VT) (x : Acts) (n k : Nat) (tw : Bool) (ks : Nat -> Int) (s : Sd) (f : Nat -> Int) : Prop := E16 ((((pH x n k tw /\ (x.wh (ix k) == 0) = false) /\ (x.wh (ix k) == 1) = true) /\ V = VT0) /\ askK G x f s) (tgS V ks s [] 0) (G (gb.keyL f) (wd (x.D s.A) 0 s.n)) /\ fk k
def q_cR (x : Acts) (n k : Nat) (tw : Bool) (s : Sd) : Prop := (((pH x n k tw /\ (x.wh (ix k) == 0) = false) /\ (x.wh (ix k) == 1) = false) /\ askC x s) /\ fk k
def q_cE (x : Acts) (n k : Nat) (tw : Bool) : Prop := ((pH x n k tw /\ (x.wh (ix k) == 0) = false) /\ (x.wh (ix k) == 1) = false) /\ fk k
def q_w1R (V : VT) (x : Acts) (n k : Nat) (tw : Bool) (s : Sd) (C : Prop) : Prop := ((((((((((pH x n k tw /\ (x.wh (ix k) == 0) = true) /\ decide (nI (x.m (ix k)) > 40) = false) /\ decide (0 + x.m (ix k) <= 0) = false) /\ (q1 x k /\ 0 + 0 <= ([] : List Int).length /\ (0 + x.m (ix k)) * 1 <= mostBytes /\ 0 + x.m (ix k) <= mostBytes)) /\ askR V x s (rw0 x k) (0 + x.m (ix k))) /\ C) /\ decide (0 + s.n <= 0) = false) /\ (qA x s /\ 0 + 0 <= ([] : List Int).length /\ (0 + s.n) * 1 <= mostBytes /\ 0 + s.n <= mostBytes)) /\ decide (0 + s.n + x.m (ix k) <= 0 + s.n) = false) /\ (q1 x k /\ 0 + (0 + s.n) <= (al x s).length /\ (0 + s.n + x.m (ix k)) * 1 <= mostBytes /\ 0 + s.n + x.m (ix k) <= mostBytes)) /\ fk k
def q_w0R (V : VT) (x : Acts) (n k : Nat) (tw : Bool) (s : Sd) (C : Prop) : Prop := ((((((((((pH x n k tw /\ (x.wh (ix k) == 0) = true) /\ decide (nI (x.m (ix k)) > 40) = false) /\ decide (0 + x.m (ix k) <= 0) = true) /\ (q1 x k /\ 0 + 0 + x.m (ix k) <= ([] : List Int).length)) /\ askR V x s (rw1 x k) (0 + x.m (ix k))) /\ C) /\ decide (0 + s.n <= 0) = false) /\ (qA x s /\ 0 + 0 <= ([] : List Int).length /\ (0 + s.n) * 1 <= mostBytes /\ 0 + s.n <= mostBytes)) /\ decide (0 + s.n + x.m (ix k) <= 0 + s.n) = true) /\ (q1 x k /\ 0 + (0 + s.n) + x.m (ix k) <= (al x s).length)) /\ fk k
def q_w1E (V : VT) (x : Acts) (n k : Nat) (tw : Bool) (s : Sd) (C : Prop) : Prop := ((((((((((pH x n k tw /\ (x.wh (ix k) == 0) = true) /\ decide (nI (x.m (ix k)) > 40) = false) /\ decide (0 + x.m (ix k) <= 0) = false) /\ (q1 x k /\ 0 + 0 <= ([] : List Int).length /\ (0 + x.m (ix k)) * 1 <= mostBytes /\ 0 + x.m (ix k) <= mostBytes)) /\ askE V (rw0 x k) (0 + x.m (ix k))) /\ C) /\ decide (0 + s.n <= 0) = true) /\ (qA x s /\ 0 + 0 + s.n <= ([] : List Int).length)) /\ decide (0 + s.n + x.m (ix k) <= 0) = false) /\ (q1 x k /\ 0 + (0 + s.n) <= (al0 x s).length /\ (0 + s.n + x.m (ix k)) * 1 <= mostBytes /\ 0 + s.n + x.m (ix k) <= mostBytes)) /\ fk k
def q_w0E (V : VT) (x : Acts) (n k : Nat) (tw : Bool) (s : Sd) (C : Prop) : Prop := ((((((((((pH x n k tw /\ (x.wh (ix k) == 0) = true) /\ decide (nI (x.m (ix k)) > 40) = false) /\ decide (0 + x.m (ix k) <= 0) = true) /\ (q1 x k /\ 0 + 0 + x.m (ix k) <= ([] : List Int).length)) /\ 0 + x.m (ix k) = 0) /\ C) /\ decide (0 + s.n <= 0) = true) /\ (qA x s /\ 0 + 0 + s.n <= ([] : List Int).length)) /\ decide (0 + s.n + x.m (ix k) <= 0) = true) /\ (q1 x k /\ 0 + (0 + s.n) + x.m (ix k) <= (al0 x s).length)) /\ fk k
def oT (e : Option Bool) : List (Option Bool) := (some true :: some true :: some false :: some true :: []) ++ (e :: (some false :: some true :: List.replicate 13 (none) ++ (List.replicate 16 (some true) ++ (none :: none :: some true :: []))))
def oCr (e : Option Bool) : List (Option Bool) := (some true :: some true :: some false :: some true :: []) ++ (e :: (some false :: some false :: List.replicate 9 (none) ++ (some true :: [])))
def oCe (e : Option Bool) : List (Option Bool) := (some true :: some true :: some false :: some true :: []) ++ (e :: (some false :: some false :: List.replicate 18 (none) ++ (some true :: [])))
def oW (e : Option Bool) (l : List (Option Bool)) : List (Option Bool) := (some true :: some true :: some false :: some true :: []) ++ (e :: (some true :: some false :: []) ++ l)
def i9 : List Nat := [0, 1, 2, 3, 4, 5, 6, 7, 8]
def i11 : List Nat := [0, 1, 2, 3, 4, 5, 6, 7, 8, 9, 10]
def gX (K : Given) (s t : St) (k n : Nat) : Prop := gT K s [some false] Bx t i11 = some (.exit 0, True /\ decide (nI k < nI n) = false, seenAsT Bx t i11 11)
def q_b (x : Acts) (n k : Nat) (tw : Bool) : Prop := ((pH x n k tw /\ (x.wh (ix k) == 0) = true) /\ decide (nI (x.m (ix k)) > 40) = true) /\ True
def oB (e : Option Bool) : List (Option Bool) := (some true :: some true :: some false :: some true :: []) ++ [e, some true, some true]
def gB (K : Given) (s : St) (e : Option Bool) (p : Prop) : Prop := ((mk Try.prog K 300).code 6 none lb { s with obl := True, orc := oB e }).map (fun r => (r.1, r.2.obl, r.2.defers, getL r.2.tmps 6)) = some (.ret, p, [], .bool true)
end
end po
end Go.Proofs.Ytkcngffpnnlmeaa
