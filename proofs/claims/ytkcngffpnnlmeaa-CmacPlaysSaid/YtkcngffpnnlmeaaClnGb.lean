/- Read off the code by the clean reading. -/
import Derived.Test.YtkcngffpnnlmeaaClnGa
import Derived.Test.YtkcngffpnnlmeaaClnQc
set_option linter.unusedVariables false
set_option linter.unusedSimpArgs false
set_option linter.deprecated false
set_option maxRecDepth 100000
namespace Go.Proofs.Ytkcngffpnnlmeaa
open Go.ChangeShapes Go.WideShapes Go.ChangeAt Go.RowKit Go.Cln
namespace gb
open ae
noncomputable section
open ga
def F17b (T : VT) (f : FuncId) (args : List Value) (s : St) : Option Inst := if f == 17 then (match args with
 | [.slice (some ⟨b, o, none⟩) 16 c] => (match blockI s .u8 b with
  | some (K, _) => some ⟨[(b, o)], 1, hK ((K.drop o).take 16), [sl 0 0 none 16 c], .tuple #[P0 92 0, .int .i64 0], hNw ((K.drop o).take 16) (T.ks ((K.drop o).take 16)) (T.fs ((K.drop o).take 16)) (T.sn ((K.drop o).take 16)), T = VT0 /\ T.ok ((K.drop o).take 16)⟩
  | _ => none)
 | _ => none) else none
theorem fit_winB {s : St} {b o : Nat} {L : List Int} {tb t2 : TypeId} {n c : Nat} {i : Inst} {vs : List Value} (hb : blockI s .u8 b = some (L, tb)) (hw : i.win = [(b, o)]) (hh : i.heap = [some (.cells (.ints .u8 ((L.drop o).take 16)) t2)]) (ha : i.args = .slice (some ⟨0, 0, none⟩) n c :: vs) (hf : vs.all flat1 = true) :
  Fits s i (.slice (some ⟨b, o, none⟩) n c :: vs) := by
 refine ⟨?_, fun j pp ob h1 h2 => ?_⟩
 ·rw [ha]
  have e1 : i.nu s.next 0 = b := by unfold Inst.nu; rw [hw]; rfl
  have e2 : i.del 0 = o := by unfold Inst.del; rw [hw]; rfl
  show Value.slice (some ⟨b, o, none⟩) n c :: vs = mv (i.nu s.next) i.del (Value.slice (some ⟨0, 0, none⟩) n c) :: vs.map (mv (i.nu s.next) i.del)
  rw [mv_sl _ _ rfl, e1, e2, addO_eq, mv_flats _ _ hf]; rfl
 ·rw [hw] at h1
  rw [hh] at h2
  rcases j with _ | j
  ·simp only [List.getElem?_cons_zero, Option.some.injEq] at h1 h2
   subst h1; subst h2
   obtain ⟨C, T, hb', hg⟩ := blockI_get hb
   refine ⟨_, hb', fun x v hv => ?_⟩
   obtain ⟨V, e1, e2⟩ := fit_ints (k := .u8) (l := L) (d := o) (n := 16) (m := i.win.length) (ν := i.nu s.next) (δ := i.del) x v hv
   exact ⟨V, by rw [← hg]; exact e1, e2⟩
  ·simp at h1
attribute [local irreducible] hNw in
theorem F17b_ok (T : VT) (f : FuncId) (args : List Value) (s : St) (i : Inst) (h : F17b T f args s = some i) : Fits s i args /\ (i.ask -> CallOk Try.prog f i.args i.s0 i.val i.s1) := by
 unfold F17b at h
 split at h
 ·rename_i hf
  have hf' : f = 17 := by simpa using hf
  subst hf'
  split at h
  ·rename_i b o c
   split at h
   ·rename_i K tb hb
    cases h
    refine ⟨fit_winB hb rfl rfl rfl rfl, fun hT => ?_⟩
    obtain ⟨rfl, hk⟩ := hT
    exact new_ok _ c none (.inl rfl) hk
   ·cases h
  ·cases h
 ·cases h
def FT (T : VT) (f : FuncId) (args : List Value) (s : St) : Option Inst := if f == 19 then F19 T args s else F17b T f args s
theorem FT_ok (T : VT) (f : FuncId) (args : List Value) (s : St) (i : Inst) (h : FT T f args s = some i) : Fits s i args /\ (i.ask -> CallOk Try.prog f i.args i.s0 i.val i.s1) := by
 unfold FT at h
 split at h
 ·rename_i hf
  have hf' : f = 19 := by simpa using hf
  subst hf'; exact F19_ok T args s i h
 ·exact F17b_ok T f args s i h
def KT (T : VT) : Given := { Given.framesO (Given.frames Given.nothing (FT T)) (F18a T) with fits := true }
def S (P n c : Nat) : Value := .slice (some ⟨P, 0, some 1001⟩) n c
def ix (k : Nat) : Nat := 0 + k * 1
def oKy (key : Nat -> Int) : Option Ob := some (.cells (.lit (rowV .u8 16 key)) 25)
def shw (s : St) : Prop := (s.tmps, s.next, (List.range 200).map (fun i => (i, s.heap.get i))) = ([], 0, [])
def KQ (T : VT) (fn : FuncId) : Given := { KT T with loop := fun f c s => if f == fn then some (.ret, { s with obl := shw s }) else none }
open ae ga
def rp (v : Value) : Nat -> List Value -> List Value
 | 0, l => l
 | n + 1, l => v :: rp v n l
def vs (v : Nat -> Value) (b : Nat) : Nat -> List Value -> List Value
 | 0, l => l
 | k + 1, l => vs v b k (v (b + k) :: l)
theorem deadT_vs {B : Nat -> Bool} {v : Nat -> Value} (h : ∀ i, DeadV (v i)) : ∀ (n : Nat) {a b : Nat} {l : List Value}, deadT B (a + n) l -> deadT B a (vs v b n l)
 | 0, _, _, _, g => g
 | n + 1, a, b, l, g => deadT_vs h n (a := a) (b := b) (l := v (b + n) :: l) ⟨fun _ => h _, g⟩
abbrev VF := Nat -> Value
def allB : Nat -> Bool := fun _ => true
structure Mk where
 ks : Nat -> Int
 f1 : Nat -> Int
 f2 : Nat -> Int
 x : Nat -> Int
 L : List Int
 a : Nat
def oCm (m : Mk) : Option Ob := some (.cells (.lit (rowV .u8 176 m.ks ++ [.bool true])) 84)
def oMm (c : Nat) (m : Mk) (left : Value) : Option Ob := some (.cells (.lit (.pointer (some ⟨c, 0, none⟩) :: (rowV .u8 16 m.f1 ++ (rowV .u8 16 m.f2 ++ (rowV .u8 16 m.x ++ [left]))))) 70)
def lft (b : Nat) (m : Mk) : Value := sl b 0 (some 1) m.a m.a
def nul : Value := .slice none 0 0
def putE (T : VT) (m : Mk) (w : List Int) (n : Nat) : Mk := ⟨m.ks, m.f1, m.f2, T.wx (R176 m.ks) (R16 m.x) w, (w.drop (T.o n)).take (T.r n), T.r n⟩
def putR (T : VT) (m : Mk) (w : List Int) (n : Nat) : Mk := ⟨m.ks, m.f1, m.f2, T.wx (R176 m.ks) (R16 m.x) (m.L ++ w), ((m.L ++ w).drop (T.o (m.a + n))).take (T.r (m.a + n)), T.r (m.a + n)⟩
def asE (T : VT) (w : List Int) (n : Nat) : Prop := T = VT0 /\ 0 < n /\ n <= 1000000 /\ w.length = n
def asR (T : VT) (m : Mk) (w : List Int) (n : Nat) : Prop := T = VT0 /\ m.a = m.a /\ 0 < m.a /\ m.a <= 1000000 /\ n <= 1000000 /\ m.a + n <= 1000000 /\ w.length = n /\ m.L.length = m.a
def tmP (v : VF) (P m d k : Nat) : List Value := (sl 1 0 none 16 16 :: S P m d :: v 2 :: v 3 :: P0 2 0 :: .int .i64 0 :: P0 94 0 :: .int .i64 0 :: v 8 :: v 9 :: .tuple #[P0 94 0, .int .i64 0] :: sl 1 0 none 16 16 :: .tuple #[P0 94 0, .int .i64 0] :: P0 94 0 :: .int .i64 0 :: .int .i64 0 :: .bool false :: v 17 :: v 18 :: S P m d :: .int .i64 (nI m) :: .int .i64 (nI k) :: vs v 22 11 [])
def hPE (x : Nest) (key : Nat -> Int) (g : Mk) : Nat -> Option Ob := fun i => match i with
 | 0 => some (.fam x.F)
 | 1 => oKy key
 | 2 => some (.cells (.lit (rowV .u8 16 Z0)) 25)
 | 4 => oCm g
 | 94 => oMm 4 g nul
 | _ => none
def hPR (x : Nest) (key : Nat -> Int) (g : Mk) : Nat -> Option Ob := fun i => match i with
 | 0 => some (.fam x.F)
 | 1 => oKy key
 | 2 => some (.cells (.lit (rowV .u8 16 Z0)) 25)
 | 4 => oCm g
 | 94 => oMm 4 g (lft 95 g)
 | 95 => oBy g.L
 | _ => none
def sPE (x : Nest) (key : Nat -> Int) (g : Mk) (P m d k : Nat) (v : VF) : St := ⟨tmP v P m d k, [], Tr.rebuild (hPE x key g) 95, 95, 2, [], fun _ => false, True, []⟩
def sPR (x : Nest) (key : Nat -> Int) (g : Mk) (P m d k : Nat) (v : VF) : St := ⟨tmP v P m d k, [], Tr.rebuild (hPR x key g) 96, 96, 2, [], fun _ => false, True, []⟩
open ae ga
def WL (i : Nat) : Bool := Nat.beq i 9 || (Nat.ble 22 i && Nat.ble i 28)
def VL (v : VF) : VF := fun i => match WL i with
 | true => junk
 | false => v i
def ir (n : Nat) (l : List Nat) : List Nat := List.range n ++ l
def pH (x : Nest) (P m k : Nat) : Prop := ((True /\ decide (nI k < nI m) = true) /\ (0 <= nI k /\ nI k < nI m)) /\ ix k < x.N P
def fk (k : Nat) : Prop := IntKind.i64.wrap (nI k + 1) = nI k + 1
open ae ga
theorem blk_app {M w : List Int} {o j : Nat} (h : o + j < M.length) : blk (M ++ w) o j = blk M o j := by
 unfold blk
 rw [List.getD_eq_getElem?_getD, List.getD_eq_getElem?_getD, List.getElem?_append_left h]
theorem chn_app (K M w : List Int) : ∀ q, 16 * q <= M.length -> ∀ j, j < 16 -> chn K (M ++ w) q j = chn K M q j
 | 0, _, _, _ => rfl
 | q + 1, h, j, hj => by
  show enc K (keyF (chn K (M ++ w) q) (blk (M ++ w) (16 * q))) j = enc K (keyF (chn K M q) (blk M (16 * q))) j
  unfold enc
  exact mkF_congr (fun _ _ => rfl) (fun j hj => keyF_congr (chn_app K M w q (by omega) j hj) (blk_app (by omega))) j hj
theorem blk_drop (B : List Int) (a o j : Nat) : blk (B.drop a) o j = blk B (a + o) j := by
 unfold blk
 rw [List.getD_eq_getElem?_getD, List.getD_eq_getElem?_getD, List.getElem?_drop]
 congr 2; omega
theorem wch_from (K B : List Int) (q : Nat) {ks x : Nat -> Int} (hk : ∀ j, j < 176 -> ks j = ksK K j) (hx : ∀ j, j < 16 -> x j = chn K B q j) : ∀ i, ∀ j, j < 16 -> wch ks (B.drop (16 * q)) i 0 x j = chn K B (q + i) j
 | 0, j, hj => hx j hj
 | i + 1, j, hj => by
  rw [wch_succ, chx_eq _ _ _ _ hj, Nat.zero_add]
  refine mkF_congr hk (fun j hj => keyF_congr (wch_from K B q hk hx i j hj) ?_) j hj
  rw [blk_drop, show 16 * q + 16 * i = 16 * (q + i) by omega]; rfl
structure OkM (K : List Int) (g : Mk) (M : List Int) : Prop where
 ks : ∀ j, j < 176 -> g.ks j = ksK K j
 f1 : ∀ j, j < 16 -> g.f1 j = fst K j
 f2 : ∀ j, j < 16 -> g.f2 j = snd K j
 x : ∀ j, j < 16 -> g.x j = chn K M (qn M.length) j
 L : g.L = M.drop (16 * qn M.length)
 a : g.a = g.L.length
theorem OkM.len {K : List Int} {g : Mk} {M : List Int} (h : OkM K g M) : g.a = M.length - 16 * qn M.length := by
 rw [h.a, h.L, List.length_drop]
theorem OkM.pos {K : List Int} {g : Mk} {M : List Int} (h : OkM K g M) (h0 : 0 < M.length) : 0 < g.a /\ g.a <= 16 := by
 rw [h.len]; unfold qn; omega
theorem OkM.nil {K : List Int} {g : Mk} (h : OkM K g []) : g.L = [] /\ g.a = 0 := by
 have h1 := h.L
 have h2 := h.a
 rw [List.drop_nil] at h1
 rw [h1] at h2
 exact ⟨h1, h2⟩
theorem OkM.putR {K : List Int} {g : Mk} {M w : List Int} {n : Nat} (h : OkM K g M) (h0 : 0 < M.length) (hn : w.length = n) : OkM K (putR VT0 g w n) (M ++ w) := by
 have hl := h.len
 have hq : qn (M ++ w).length = qn M.length + qn (g.a + n) := by
  rw [List.length_append, hn, hl]; unfold qn; omega
 have hL : g.L ++ w = (M ++ w).drop (16 * qn M.length) := by
  rw [h.L, List.drop_append_of_le_length (by unfold qn; omega)]
 have hlen : (g.L ++ w).length = g.a + n := by rw [List.length_append, hn, ← h.a]
 have hr : 0 < g.a + n := by have := (h.pos h0).1; omega
 refine ⟨h.ks, h.f1, h.f2, fun j hj => ?_, ?_, ?_⟩
 ·show wch (intAt (R176 g.ks)) (g.L ++ w) (((g.L ++ w).length - 1) / 16) 0 (intAt (R16 g.x)) j = _
  rw [hlen, hq, hL]
  exact wch_from K (M ++ w) (qn M.length) (fun j hj => (at176 hj).trans (h.ks j hj)) (fun j hj => (at16 hj).trans ((h.x j hj).trans (chn_app K M w _ (by unfold qn; omega) j hj).symm)) (qn (g.a + n)) j hj
 ·show ((g.L ++ w).drop (16 * qn (g.a + n))).take (rn (g.a + n)) = (M ++ w).drop (16 * qn (M ++ w).length)
  rw [List.take_of_length_le (by rw [List.length_drop, hlen]; unfold rn qn; omega), hL, List.drop_drop, hq]
  congr 1; omega
 ·show rn (g.a + n) = (((g.L ++ w).drop (16 * qn (g.a + n))).take (rn (g.a + n))).length
  rw [List.length_take, List.length_drop, hlen]
  unfold rn qn; omega
theorem OkM.putE {K : List Int} {g : Mk} {w : List Int} {n : Nat} (h : OkM K g []) (hn : w.length = n) (h0 : 0 < n) : OkM K (putE VT0 g w n) w := by
 have hL : w = w.drop (16 * 0) := rfl
 refine ⟨h.ks, h.f1, h.f2, fun j hj => ?_, ?_, ?_⟩
 ·show wch (intAt (R176 g.ks)) w ((w.length - 1) / 16) 0 (intAt (R16 g.x)) j = _
  have := wch_from K w 0 (fun j hj => (at176 hj).trans (h.ks j hj)) (fun j hj => (at16 hj).trans (h.x j hj)) (qn w.length) j hj
  rw [Nat.zero_add] at this
  exact this
 ·show (w.drop (16 * qn n)).take (rn n) = w.drop (16 * qn w.length)
  rw [hn, List.take_of_length_le (by rw [List.length_drop, hn]; unfold rn qn; omega)]
 ·show rn n = ((w.drop (16 * qn n)).take (rn n)).length
  rw [List.length_take, List.length_drop, hn]
  unfold rn qn; omega
def keyL (key : Nat -> Int) : List Int := [key 0, key 1, key 2, key 3, key 4, key 5, key 6, key 7, key 8, key 9, key 10, key 11, key 12, key 13, key 14, key 15]
def zM (T : VT) (K : List Int) : Mk := ⟨T.ks K, T.fs K, T.sn K, Z0, [], 0⟩
theorem zM_ok (K : List Int) : OkM K (zM VT0 K) [] := ⟨fun _ _ => rfl, fun _ _ => rfl, fun _ _ => rfl, fun _ _ => rfl, rfl, rfl⟩
def tgG (T : VT) (g : Mk) : Nat -> Int := T.tg (R176 g.ks) (R16 g.f1) (R16 g.f2) (R16 g.x) g.L g.a
def tgN (T : VT) (g : Mk) : Nat -> Int := T.tg (R176 g.ks) (R16 g.f1) (R16 g.f2) (R16 g.x) [] 0
theorem OkM.tag {K : List Int} {g : Mk} {M : List Int} (h : OkM K g M) : row16 (tgG VT0 g) = row16 (tagF K M) := row16_congr fun j hj => by
 have hl := h.len
 show tgL U0 CT0 (intAt (R176 g.ks)) (by' (intAt (R16 g.f1)) (intAt (R16 g.f2)) g.a) (intAt (R16 g.x)) g.L g.a j = tagF K M j
 have e1 : g.a = qR M.length := by rw [hl]; rfl
 have e2 : g.L = (M.drop (qO M.length)).take (qR M.length) := by
  rw [h.L, List.take_of_length_le (by rw [List.length_drop]; unfold qR qO; omega)]; rfl
 rw [e1, e2]
 exact tgL_eq _ _ (fun j hj => (at176 hj).trans (h.ks j hj)) (fun j hj => by_congr (fun j hj => (at16 hj).trans (h.f1 j hj)) (fun j hj => (at16 hj).trans (h.f2 j hj)) _ hj) (fun j hj => (at16 hj).trans (h.x j hj)) hj
theorem OkM.tagN {K : List Int} {g : Mk} (h : OkM K g []) : row16 (tgN VT0 g) = row16 (tagF K []) := by
 have := h.tag
 unfold tgG at this
 rw [h.nil.1, h.nil.2] at this
 exact this
theorem OkM.asE {K : List Int} {g : Mk} {w : List Int} {n : Nat} (hn : w.length = n) (h0 : 0 < n) (h1 : n <= 1000000) : asE VT0 w n := ⟨rfl, h0, h1, hn⟩
theorem OkM.asR {K : List Int} {g : Mk} {M w : List Int} {n : Nat} (h : OkM K g M) (h0 : 0 < M.length) (hn : w.length = n) (h1 : n <= 900000) : asR VT0 g w n := by
 have := h.pos h0
 exact ⟨rfl, rfl, this.1, by omega, by omega, by omega, hn, h.a.symm⟩
def asT (T : VT) (g : Mk) : Prop := T = VT0 /\ 0 < g.a /\ g.a <= 16 /\ g.a <= g.L.length
theorem OkM.asT {K : List Int} {g : Mk} {M : List Int} (h : OkM K g M) (h0 : 0 < M.length) : asT VT0 g := by
 have := h.pos h0
 exact ⟨rfl, this.1, this.2, by rw [← h.a]; exact Nat.le_refl _⟩
theorem ix_eq (k : Nat) : ix k = k := by unfold ix; omega
def sG (x : Nest) (key : Nat -> Int) (P m d k : Nat) (v : VF) : Mk × Bool -> St
 | (g, true) => sPR x key g P m d k v
 | (g, false) => sPE x key g P m d k v
open ae ga
def OkKy (key : Nat -> Int) : Prop := ∀ j, j < 16 -> 0 <= key j /\ key j < 256
theorem keyL_ok {key : Nat -> Int} (h : OkKy key) : OkK (keyL key) := by
 refine ⟨rfl, fun j hj => ?_⟩
 have : ae.keyOf (keyL key) j = key j := by
  have hc : j = 0 ∨ j = 1 ∨ j = 2 ∨ j = 3 ∨ j = 4 ∨ j = 5 ∨ j = 6 ∨ j = 7 ∨ j = 8 ∨ j = 9 ∨ j = 10 ∨ j = 11 ∨ j = 12 ∨ j = 13 ∨ j = 14 ∨ j = 15 := by omega
  rcases hc with rfl | rfl | rfl | rfl | rfl | rfl | rfl | rfl | rfl | rfl | rfl | rfl | rfl | rfl | rfl | rfl <;> rfl
 rw [this]
 exact h j hj
abbrev GT := List Int -> List Int -> Nat -> Int
end
end gb
end Go.Proofs.Ytkcngffpnnlmeaa
