/- Read off the code by the clean reading. -/
import Derived.Test.YtkcngffpnnlmeaaClnEg
import Derived.Test.YtkcngffpnnlmeaaClnQc
set_option linter.unusedVariables false
set_option linter.unusedSimpArgs false
set_option linter.deprecated false
set_option maxRecDepth 100000
namespace Go.Proofs.Ytkcngffpnnlmeaa
open Go.ChangeShapes Go.WideShapes Go.ChangeAt Go.RowKit Go.Cln
namespace ae
noncomputable section
theorem boxN_eq {j : Nat} (h : j < 256) : boxf ((fiN j 256 0 : Nat) : Int) = BOX.getD j 0 := by
 have key : ∀ k i, i < 64 -> (List.range 64).all (fun j => boxf ((fiN (64 * k + j) 256 0 : Nat) : Int) == BOX.getD (64 * k + j) 0) = true -> boxf ((fiN (64 * k + i) 256 0 : Nat) : Int) = BOX.getD (64 * k + i) 0 := fun k i hi h => by
  have := List.all_eq_true.1 h i (List.mem_range.2 hi)
  exact beq_iff_eq.1 this
 have hj : j = 64 * (j / 64) + j % 64 := by omega
 have hm : j % 64 < 64 := by omega
 have hk : j / 64 = 0 ∨ j / 64 = 1 ∨ j / 64 = 2 ∨ j / 64 = 3 := by omega
 rw [hj]
 rcases hk with h | h | h | h <;> rw [h]
 ·exact key 0 _ hm bx0
 ·exact key 1 _ hm bx1
 ·exact key 2 _ hm bx2
 ·exact key 3 _ hm bx3
theorem gR_eq {j : Nat} (h : j < 256) : gR j = BOX.getD j 0 := by
 unfold gR boxR
 have : IntKind.u8.wrap (j : Int) = (j : Int) := by rw [IntKind.wrap_u8]; omega
 rw [this, inv_eq h, boxN_eq h]
theorem famI_get (g : Nat -> Int) : ∀ (n o i : Nat), i < n -> (famI g o n).getD i 0 = g (o + i)
 | 0, o, i, h => by omega
 | n + 1, o, 0, h => rfl
 | n + 1, o, i + 1, h => by
  show (famI g (o + 1) n).getD i 0 = g (o + (i + 1))
  rw [famI_get g n (o + 1) i (by omega)]
  congr 1; omega
theorem famI_len (g : Nat -> Int) : ∀ (n o : Nat), (famI g o n).length = n
 | 0, o => rfl
 | n + 1, o => by show (famI g (o + 1) n).length + 1 = n + 1; rw [famI_len g n (o + 1)]
theorem look {x : Int} (h0 : 0 <= x) (h1 : x < 256) : (famI gR 0 256).getD (0 + x.toNat * 1) 0 = BOX.getD (0 + x.toNat * 1) 0 := by
 have e : 0 + x.toNat * 1 = x.toNat := by omega
 rw [e, famI_get gR 256 0 x.toNat (by omega), Nat.zero_add, gR_eq (by omega)]
def bv (x : Int) : BitVec 8 := BitVec.ofInt 8 x
theorem xr8_bv (a b : Int) : xr8 a b = ((bv a ^^^ bv b).toNat : Int) := by
 unfold xr8 xorI
 show IntKind.u8.wrap (((bv a ^^^ bv b).toNat : Nat) : Int) = _
 have := (bv a ^^^ bv b).isLt
 rw [IntKind.wrap_u8]; omega
theorem bv_nat (X : BitVec 8) : bv (X.toNat : Int) = X := by
 unfold bv
 rw [BitVec.ofInt_natCast]; simp
theorem bv_xr8 (a b : Int) : bv (xr8 a b) = bv a ^^^ bv b := by rw [xr8_bv, bv_nat]
theorem xr8_ext {a b c d : Int} (h : bv a ^^^ bv b = bv c ^^^ bv d) : xr8 a b = xr8 c d := by rw [xr8_bv, xr8_bv, h]
theorem bv0 : bv 0 = 0#8 := rfl
theorem X8_eq (a b : Int) : X8 a b = xr8 a b := by
 unfold X8
 exact xr8_ext (by rw [bv_xr8, bv0, BitVec.zero_xor])
def DB (X : BitVec 8) : BitVec 8 := (X <<< 1) ^^^ (bif X.msb then 27#8 else 0#8)
theorem dbl_fin : ∀ x : Fin 256, bv (dbl (x.val : Int)) = DB (bv (x.val : Int)) := by decide +kernel
theorem mul2_fin : ∀ x : Fin 256, mulR 2 (x.val : Int) = dbl (x.val : Int) := by decide +kernel
theorem mul3_fin : ∀ x : Fin 256, mulR 3 (x.val : Int) = xr8 (dbl (x.val : Int)) (x.val : Int) := by decide +kernel
theorem fin_of {x : Int} (h0 : 0 <= x) (h1 : x < 256) : ∃ n : Fin 256, x = (n.val : Int) := ⟨⟨x.toNat, by omega⟩, by show x = ((x.toNat : Nat) : Int); omega⟩
theorem bv_dbl {x : Int} (h0 : 0 <= x) (h1 : x < 256) : bv (dbl x) = DB (bv x) := by
 obtain ⟨n, rfl⟩ := fin_of h0 h1; exact dbl_fin n
theorem mul2 {x : Int} (h0 : 0 <= x) (h1 : x < 256) : mulR 2 x = dbl x := by
 obtain ⟨n, rfl⟩ := fin_of h0 h1; exact mul2_fin n
theorem mul3 {x : Int} (h0 : 0 <= x) (h1 : x < 256) : mulR 3 x = xr8 (dbl x) x := by
 obtain ⟨n, rfl⟩ := fin_of h0 h1; exact mul3_fin n
theorem DB_xor (X Y : BitVec 8) : DB (X ^^^ Y) = DB X ^^^ DB Y := by
 unfold DB
 rw [BitVec.shiftLeft_xor_distrib, BitVec.msb_xor]
 cases X.msb <;> cases Y.msb
 ·show (X <<< 1 ^^^ Y <<< 1) ^^^ 0#8 = (X <<< 1 ^^^ 0#8) ^^^ (Y <<< 1 ^^^ 0#8)
  simp
 ·show (X <<< 1 ^^^ Y <<< 1) ^^^ 27#8 = (X <<< 1 ^^^ 0#8) ^^^ (Y <<< 1 ^^^ 27#8)
  simp [BitVec.xor_assoc]
 ·show (X <<< 1 ^^^ Y <<< 1) ^^^ 27#8 = (X <<< 1 ^^^ 27#8) ^^^ (Y <<< 1 ^^^ 0#8)
  rw [BitVec.xor_zero, BitVec.xor_assoc, BitVec.xor_assoc, BitVec.xor_comm 27#8]
 ·show (X <<< 1 ^^^ Y <<< 1) ^^^ 0#8 = (X <<< 1 ^^^ 27#8) ^^^ (Y <<< 1 ^^^ 27#8)
  rw [BitVec.xor_zero, BitVec.xor_assoc (X <<< 1) 27#8, BitVec.xor_comm (Y <<< 1) 27#8, ← BitVec.xor_assoc 27#8 27#8, BitVec.xor_self, BitVec.zero_xor]
theorem bits8 {X Y : BitVec 8} (h : ∀ i, i < 8 -> X.getLsbD i = Y.getLsbD i) : X = Y := BitVec.eq_of_getLsbD_eq h
theorem mixEq (c : Nat -> Int) (hc : ∀ j, j < 4 -> 0 <= c j /\ c j < 256) (r : Nat) (hr : r < 4) :
  mixR mulR c r = mix1 (c r) (c ((r + 1) % 4)) (all4 (c 0) (c 1) (c 2) (c 3)) := by
 have b := fun j (h : j < 4) => bv_dbl (hc j h).1 (hc j h).2
 have t2 := fun j (h : j < 4) => mul2 (hc j h).1 (hc j h).2
 have t3 := fun j (h : j < 4) => mul3 (hc j h).1 (hc j h).2
 have hx : ∀ x y : Int, bv (dbl (xr8 x y)) = DB (bv (xr8 x y)) := fun x y => bv_dbl (xr8_in x y).1 (xr8_in x y).2
 have : r = 0 ∨ r = 1 ∨ r = 2 ∨ r = 3 := by omega
 rcases this with rfl | rfl | rfl | rfl
 all_goals
  simp only [mixR, mix1, all4, t2 0 (by decide), t2 1 (by decide), t2 2 (by decide), t2 3 (by decide), t3 0 (by decide), t3 1 (by decide), t3 2 (by decide), t3 3 (by decide), Nat.reduceAdd, Nat.reduceMod]
  refine xr8_ext ?_
  simp only [bv_xr8, hx, DB_xor, b 0 (by decide), b 1 (by decide), b 2 (by decide), b 3 (by decide), bv0, BitVec.zero_xor]
  generalize DB (bv (c 0)) = d0
  generalize DB (bv (c 1)) = d1
  generalize DB (bv (c 2)) = d2
  generalize DB (bv (c 3)) = d3
  generalize bv (c 0) = e0
  generalize bv (c 1) = e1
  generalize bv (c 2) = e2
  generalize bv (c 3) = e3
  refine bits8 fun i _ => ?_
  simp only [BitVec.getLsbD_xor, BitVec.getLsbD_zero]
  cases d0.getLsbD i <;> cases d1.getLsbD i <;> cases d2.getLsbD i <;> cases d3.getLsbD i <;> cases e0.getLsbD i <;> cases e1.getLsbD i <;> cases e2.getLsbD i <;> cases e3.getLsbD i <;> rfl
theorem pw_fin : ∀ n : Fin 11, pwR mulR n.val = pw n.val := by decide +kernel
theorem xr8_comm (a b : Int) : xr8 a b = xr8 b a := xr8_ext (BitVec.xor_comm _ _)
theorem key3 (k x p : Int) : xr8 (xr8 k x) p = xr8 (xr8 x p) k := xr8_ext (by
 rw [bv_xr8, bv_xr8, BitVec.xor_assoc, BitVec.xor_comm (bv k)])
theorem bx_eq {k' k : Nat -> Int} (hk : ∀ j, j < 16 -> k' j = k j) (hb : B16 k) {j : Nat} (h : j < 16) : bxR gR k' j = bx BOX k j := by
 unfold bxR bx
 rw [hk j h]
 exact look (hb j h).1 (hb j h).2
theorem col_eq {k' k : Nat -> Int} (hk : ∀ j, j < 16 -> k' j = k j) (hb : B16 k) (p : Int) : ∀ c r, c < 4 -> r < 4 -> colR gR p k' c r = col BOX p k c r
 | 0, 0, _, _ => by
  show xr8 (xr8 (k' 0) (bxR gR k' 13)) p = X8 (X8 (bx BOX k 13) p) (k 0)
  rw [X8_eq, X8_eq, bx_eq hk hb (by decide), hk 0 (by decide), key3]
 | 0, r + 1, _, hr => by
  show xr8 (k' (r + 1)) (bxR gR k' (12 + (r + 1 + 1) % 4)) = X8 (kc BOX p k (r + 1)) (k (r + 1))
  rw [X8_eq, bx_eq hk hb (by omega), hk (r + 1) (by omega), xr8_comm]
  have : r = 0 ∨ r = 1 ∨ r = 2 := by omega
  rcases this with rfl | rfl | rfl <;> rfl
 | c + 1, r, hc, hr => by
  show xr8 (colR gR p k' c r) (k' (4 * (c + 1) + r)) = X8 (col BOX p k c r) (k (4 * (c + 1) + r))
  rw [X8_eq, col_eq hk hb p c r (by omega) hr, hk _ (by omega)]
theorem kr_eq (key : Nat -> Int) (h : B16 key) : ∀ n, n <= 10 -> ∀ j, j < 16 -> krR mulR gR key n j = kr BOX key n j
 | 0, _, j, _ => rfl
 | n + 1, hn, j, hj => by
  show colR gR (pwR mulR n) (krR mulR gR key n) (j / 4) (j % 4) = col BOX (pw n) (kr BOX key n) (j / 4) (j % 4)
  rw [pw_fin ⟨n, by omega⟩]
  exact col_eq (kr_eq key h n (by omega)) (kr_in BOX key h n) _ _ _ (by omega) (by omega)
theorem famI_congr {g g' : Nat -> Int} : ∀ (n o : Nat), (∀ j, j < o + n -> g j = g' j) -> famI g o n = famI g' o n
 | 0, o, _ => rfl
 | n + 1, o, h => by
  show g o :: famI g (o + 1) n = g' o :: famI g' (o + 1) n
  rw [h o (by omega), famI_congr n (o + 1) fun j hj => h j (by omega)]
theorem ix_lt (i : Nat) : ixR i < 16 := by unfold ixR; omega
theorem shR_congr {g g' b b' : Nat -> Int} (hg : ∀ j, j < 256 -> g j = g' j) (hb : ∀ j, j < 16 -> b j = b' j) (i : Nat) : shR g b i = shR g' b' i := by
 unfold shR
 rw [famI_congr 256 0 fun j hj => hg j (by omega), hb _ (ix_lt i)]
theorem mvF_congr {g g' b b' : Nat -> Int} (hg : ∀ j, j < 256 -> g j = g' j) (hb : ∀ j, j < 16 -> b j = b' j) (i : Nat) : mvF g b i = mvF g' b' i := by
 unfold mvF
 exact mixR_congr (fun r _ => shR_congr hg hb _) _
theorem at256 {f : Nat -> Int} {j : Nat} (h : j < 256) : intAt (R256 f) j = f j := intAt_row h
def stR (key b : Nat -> Int) : Nat -> Nat -> Int
 | 0 => keyF b key
 | n + 1 => keyF (mvF gR (stR key b n)) (krR mulR gR key (n + 1))
def mkR (key b : Nat -> Int) : Nat -> Int := keyF (shR gR (stR key b 9)) (krR mulR gR key 10)
theorem rnd_at (s k : Nat -> Int) : R16 (RM0.rnd false (R16 s) (R16 k) (R256 gR)) = R16 (keyF (mvF gR s) k) := by
 show R16 (keyF (mvF (intAt (R256 gR)) (intAt (R16 s))) (intAt (R16 k))) = _
 refine R16_congr fun j h => ?_
 unfold keyF
 rw [at16 h, mvF_congr (fun j hj => at256 hj) (fun j hj => at16 hj)]
theorem last_at (s k : Nat -> Int) : R16 (RM0.rnd true (R16 s) (R16 k) (R256 gR)) = R16 (keyF (shR gR s) k) := by
 show R16 (keyF (shR (intAt (R256 gR)) (intAt (R16 s))) (intAt (R16 k))) = _
 refine R16_congr fun j h => ?_
 unfold keyF
 rw [at16 h, shR_congr (fun j hj => at256 hj) (fun j hj => at16 hj)]
theorem stRL_eq (key b : Nat -> Int) : ∀ n, stRL RM0 key b n = R16 (stR key b n)
 | 0 => key_at b key
 | n + 1 => by
  show R16 (RM0.rnd false (stRL RM0 key b n) (R16 (krR mulR gR key (n + 1))) (R256 gR)) = _
  rw [stRL_eq key b n, rnd_at]; rfl
theorem mkRL_eq (key b : Nat -> Int) : row16 (mkRL RM0 key b) = row16 (mkR key b) := by
 have : R16 (mkRL RM0 key b) = R16 (mkR key b) := by
  show R16 (RM0.rnd true (stRL RM0 key b 9) (R16 (krR mulR gR key 10)) (R256 gR)) = _
  rw [stRL_eq key b 9, last_at]; rfl
 exact congrArg (fun l => Value.agg l.toArray) this
theorem ix_fin : ∀ i : Fin 16, ixR i.val = (i.val + 4 * (i.val % 4)) % 16 := by decide
theorem shR_eq {s : Nat -> Int} (hs : B16 s) {i : Nat} (hi : i < 16) : shR gR s i = shiF (subF BOX s) i := by
 unfold shR shiF subF
 have hx := hs _ (ix_lt i)
 rw [look hx.1 hx.2, ix_fin ⟨i, hi⟩]
theorem shi_in {s : Nat -> Int} (i : Nat) : 0 <= shiF (subF BOX s) i /\ shiF (subF BOX s) i < 256 := bx_in box_in _
theorem mvF_eq {s : Nat -> Int} (hs : B16 s) {i : Nat} (hi : i < 16) : mvF gR s i = mixF (shiF (subF BOX s)) i := by
 unfold mvF
 have hc : ∀ r, r < 4 -> shR gR s (4 * (i / 4) + r) = shiF (subF BOX s) (4 * (i / 4) + r) := fun r hr => shR_eq hs (by omega)
 rw [mixR_congr (g := fun r => shiF (subF BOX s) (4 * (i / 4) + r)) hc, mixEq _ (fun j _ => shi_in _) _ (by omega)]
 unfold mixF
 have e1 : 4 * (i / 4) + i % 4 = i := by omega
 have e2 : (i % 4 + 1) % 4 = (i + 1) % 4 := by omega
 show mix1 (shiF (subF BOX s) (4 * (i / 4) + i % 4)) (shiF (subF BOX s) (4 * (i / 4) + (i % 4 + 1) % 4)) _ = _
 rw [e1, e2]; rfl
theorem ks_at (key : Nat -> Int) (n : Nat) {j : Nat} (hj : j < 16) : ksF BOX key (16 * n + j) = kr BOX key n j := by
 unfold ksF
 have e1 : (16 * n + j) / 16 = n := by omega
 have e2 : (16 * n + j) % 16 = j := by omega
 rw [e1, e2]
theorem st_eq (key b : Nat -> Int) (h : B16 key) : ∀ n, n <= 9 -> ∀ j, j < 16 -> stR key b n j = stF BOX (ksF BOX key) b n j
 | 0, _, j, hj => by
  show xr8 (b j) (key j) = xr8 (b j) (ksF BOX key (16 * 0 + j))
  rw [ks_at key 0 hj]; rfl
 | n + 1, hn, j, hj => by
  show xr8 (mvF gR (stR key b n) j) (krR mulR gR key (n + 1) j) = xr8 (mixF (shiF (subF BOX (stF BOX (ksF BOX key) b n))) j) (ksF BOX key (16 * (n + 1) + j))
  rw [ks_at key (n + 1) hj, kr_eq key h (n + 1) (by omega) j hj, mvF_congr (fun _ _ => rfl) (st_eq key b h n (by omega)), mvF_eq (stF_in _ _ _ n) hj]
theorem mk_eq (key b : Nat -> Int) (h : B16 key) : row16 (mkR key b) = row16 (mkF BOX (ksF BOX key) b) := by
 have : R16 (mkR key b) = R16 (mkF BOX (ksF BOX key) b) := R16_congr fun j hj => by
  show xr8 (shR gR (stR key b 9) j) (krR mulR gR key 10 j) = xr8 (shiF (subF BOX (stF BOX (ksF BOX key) b 9)) j) (ksF BOX key (16 * 10 + j))
  rw [ks_at key 10 hj, kr_eq key h 10 (by omega) j hj, shR_congr (fun _ _ => rfl) (st_eq key b h 9 (by omega)), shR_eq (stF_in _ _ _ 9) hj]
 exact congrArg (fun l => Value.agg l.toArray) this
theorem stR_in (key b : Nat -> Int) : ∀ n, B16 (stR key b n)
 | 0 => fun j _ => xr8_in _ _
 | n + 1 => fun j _ => xr8_in _ _
theorem cndR_ok {g b : Nat -> Int} (hb : B16 b) : ∀ n, cndR g b n
 | 0 => trivial
 | n + 1 => by
  have h := hb _ (ix_lt n)
  exact ⟨⟨cndR_ok hb n, h.1, h.2⟩, by rw [famI_len]; omega⟩
theorem pBl_ok {p : Prop} {K : List Int} (hp : p) (hK : K.length = 16) : ∀ n, n <= 16 -> pBl p K n
 | 0, _ => hp
 | n + 1, h => ⟨pBl_ok hp hK n (by omega), by omega⟩
theorem krR_in (key : Nat -> Int) (h : B16 key) (n : Nat) (hn : n <= 10) : B16 (krR mulR gR key n) := fun j hj => by
 rw [kr_eq key h n hn j hj]; exact kr_in BOX key h n j hj
theorem pKR_ok {p : Prop} (hp : p) (key : Nat -> Int) (h : B16 key) : ∀ n, n <= 10 -> pKR RM0 key p n
 | 0, _ => hp
 | n + 1, hn => by
  have k := krR_in key h n (by omega)
  have c : ∀ (j : Nat) (q : Prop), j < 16 -> q -> cndK gR (krR mulR gR key n) j q := fun j q hj hq => by
   obtain ⟨a, b⟩ := k j hj
   exact ⟨⟨hq, a, b⟩, by rw [famI_len]; omega⟩
  exact ⟨c 12 _ (by decide) (c 15 _ (by decide) (c 14 _ (by decide) (c 13 _ (by decide) (pKR_ok hp key h n (by omega))))), rfl⟩
theorem pMR_ok (K : List Int) (b : Nat -> Int) (hK : K.length = 16) (h : B16 (keyOf K)) : ∀ n, n <= 10 -> pMR RM0 K b n
 | 0, _ => ⟨pKR_ok (pBl_ok ⟨trivial, rfl⟩ hK 16 (Nat.le_refl _)) _ h 10 (Nat.le_refl _), rfl⟩
 | n + 1, hn => ⟨pMR_ok K b hK h n (by omega), rfl, by
     show cndR (intAt (R256 gR)) (intAt (stRL RM0 (keyOf K) b n)) 16
     rw [stRL_eq]
     refine cndR_ok (fun j hj => ?_) 16
     rw [at16 hj]; exact stR_in _ _ n j hj⟩
def hK' (K : List Int) : List (Option Ob) := hK K ++ List.replicate 70 none
theorem runMRf (T : RM) (K : List Int) (c : Nat) (b : Nat -> Int) : ((mk Try.prog (KRM T) 200).call 27 [.slice (some ⟨0, 0, none⟩) 16 c, row16 b] (smSt 1 (hK K) oMR)).map (fun r => (r.1, r.2.obl, r.2.next, keepL (true :: List.replicate 70 false) r.2.heap.get 0)) = some (row16 (mkRL T (keyOf K) b), pMR T K b 10, (hK' K).length, hK' K) := by kernel_rfl
theorem ref_ok (K : List Int) (c : Nat) (b : Nat -> Int) (hl : K.length = 16) (h : B16 (keyOf K)) : CallOk Try.prog 27 [.slice (some ⟨0, 0, none⟩) 16 c, row16 b] (smSt 1 (hK K) []) (row16 (mkF BOX (ksF BOX (keyOf K)) b)) (smSt 1 (hK' K) []) := by
 have := frame_by pg (KRM_ok RM0) _ (runMRf RM0 K c b) (pMR_ok K b hl h 10 (Nat.le_refl _)) (by rfl) rfl
 rw [mkRL_eq, mk_eq _ _ h] at this; exact this
def conjL : Prop -> List Prop -> Prop
 | a, [] => a
 | a, p :: l => conjL (a /\ p) l
theorem conjL_all : ∀ {l : List Prop} {a : Prop}, a -> (∀ p ∈ l, p) -> conjL a l
 | [], _, ha, _ => ha
 | p :: l, _, ha, h => conjL_all (l := l) ⟨ha, h p (by simp)⟩ fun q hq => h q (by simp [hq])
def cD (b : Nat -> Int) (i : Nat) : Int := orI .u8 (w8 (b i * 2 ^ 1)) ((b (i + 1)).fdiv (2 ^ 7))
def rD (b : Nat -> Int) (i : Nat) : Int := w8 (w8 (b i * 2) + w8 ((b (i + 1)).tdiv 128))
def cT (b : Nat -> Int) (i : Nat) : Int := if i < 15 then cD b i else xr8 (w8 (b i * 2 ^ 1)) 135
def cF (b : Nat -> Int) (i : Nat) : Int := if i < 15 then cD b i else w8 (b i * 2 ^ 1)
def rT (b : Nat -> Int) (i : Nat) : Int := if i < 15 then rD b i else xr8 (w8 (b i * 2)) 135
def rF (b : Nat -> Int) (i : Nat) : Int := if i < 15 then rD b i else w8 (b i * 2)
def q24T (b : Nat -> Int) : Prop := conjL True ((((andI .u8 (b 0) 128 == 128) = true) : Prop) :: ((List.range 15).map fun i => (andI .u8 (b (i + 1)) 0 == 0) = true))
def o24T : List (Option Bool) := nn 145 ++ List.replicate 16 (some true)
def o24F : List (Option Bool) := nn 145 ++ [some false]
def o26T : List (Option Bool) := nn 111 ++ [some true]
def o26F : List (Option Bool) := nn 111 ++ [some false]
theorem run24T (b : Nat -> Int) : ((mk Try.prog Given.nothing 300).call 24 [row16 b] (St.start 0 .leaf o24T)).map (fun r => (r.1, r.2.obl)) = some (row16 (cT b), q24T b) := by kernel_rfl
theorem run24F (b : Nat -> Int) : ((mk Try.prog Given.nothing 300).call 24 [row16 b] (St.start 0 .leaf o24F)).map (fun r => (r.1, r.2.obl)) = some (row16 (cF b), True /\ (andI .u8 (b 0) 128 == 128) = false) := by kernel_rfl
theorem run26T (b : Nat -> Int) : ((mk Try.prog Given.nothing 300).call 26 [row16 b] (St.start 0 .leaf o26T)).map (fun r => (r.1, r.2.obl)) = some (row16 (rT b), True /\ decide (b 0 ≥ 128) = true) := by kernel_rfl
theorem run26F (b : Nat -> Int) : ((mk Try.prog Given.nothing 300).call 26 [row16 b] (St.start 0 .leaf o26F)).map (fun r => (r.1, r.2.obl)) = some (row16 (rF b), True /\ decide (b 0 ≥ 128) = false) := by kernel_rfl
theorem and128 : ∀ n : Fin 256, (andI .u8 (n.val : Int) 128 == 128) = decide ((n.val : Int) ≥ 128) := by decide +kernel
theorem and0 : ∀ n : Fin 256, (andI .u8 (n.val : Int) 0 == 0) = true := by decide +kernel
theorem byteD : ∀ n : Fin 256, ∀ c : Fin 2, orI .u8 (w8 ((n.val : Int) * 2 ^ 1)) (c.val : Int) = w8 (w8 ((n.val : Int) * 2) + (c.val : Int)) := by decide +kernel
def dF (b : Nat -> Int) (i : Nat) : Int := if b 0 ≥ 128 then rT b i else rF b i
theorem cD_eq {b : Nat -> Int} (hb : B16 b) {i : Nat} (hi : i < 15) : cD b i = rD b i := by
 obtain ⟨n, hn⟩ := fin_of (hb i (by omega)).1 (hb i (by omega)).2
 have h1 := hb (i + 1) (by omega)
 unfold cD rD
 have c : (b (i + 1)).fdiv (2 ^ 7) = b (i + 1) / 128 := Int.fdiv_eq_ediv_of_nonneg _ (by decide)
 have d : w8 ((b (i + 1)).tdiv 128) = b (i + 1) / 128 := by rw [Int.tdiv_eq_ediv_of_nonneg h1.1]; unfold w8; rw [IntKind.wrap_u8]; omega
 have f : b (i + 1) / 128 = (((⟨(b (i + 1) / 128).toNat, by omega⟩ : Fin 2).val : Nat) : Int) := by show _ = (((b (i + 1) / 128).toNat : Nat) : Int); omega
 rw [c, d, f, hn]
 exact byteD n _
theorem row16_congr {f g : Nat -> Int} (h : ∀ j, j < 16 -> f j = g j) : row16 f = row16 g := by
 have := R16_congr h
 exact congrArg (fun l => Value.agg l.toArray) this
theorem dF_in {b : Nat -> Int} : B16 (dF b) := fun i _ => by
 unfold dF
 split
 ·unfold rT; split; exact w8_in _; exact xr8_in _ _
 ·unfold rF; split; exact w8_in _; exact w8_in _
theorem dbl24 (b : Nat -> Int) (hb : B16 b) (W : World) : Calls Try.prog 24 #[row16 b] W fun e w' => e = .returned (row16 (dF b)) /\ Below W.heap.size W w' := by
 obtain ⟨n0, h0⟩ := fin_of (hb 0 (by decide)).1 (hb 0 (by decide)).2
 have ha := and128 n0
 rw [← h0] at ha
 by_cases hc : b 0 ≥ 128
 ·have := ranF pg (GivenOk.nothing _) (run24T b) (conjL_all trivial fun p hp => by
   rcases List.mem_cons.1 hp with rfl | hp
   ·rw [ha]; simpa using hc
   ·simp only [List.mem_map, List.mem_range] at hp
    obtain ⟨i, hi, rfl⟩ := hp
    obtain ⟨n, hn⟩ := fin_of (hb (i + 1) (by omega)).1 (hb (i + 1) (by omega)).2
    rw [hn]; exact and0 n) rfl rfl W
  have e : row16 (cT b) = row16 (dF b) := row16_congr fun j hj => by
   unfold dF cT rT
   rw [if_pos hc]
   split
   ·exact cD_eq hb (by omega)
   ·rfl
  rw [e] at this; exact this
 ·have := ranF pg (GivenOk.nothing _) (run24F b) ⟨trivial, by rw [ha]; simpa using hc⟩ rfl rfl W
  have e : row16 (cF b) = row16 (dF b) := row16_congr fun j hj => by
   unfold dF cF rF
   rw [if_neg hc]
   split
   ·exact cD_eq hb (by omega)
   ·rfl
  rw [e] at this; exact this
theorem dbl26 (b : Nat -> Int) (W : World) : Calls Try.prog 26 #[row16 b] W fun e w' => e = .returned (row16 (dF b)) /\ Below W.heap.size W w' := by
 by_cases hc : b 0 ≥ 128
 ·have := ranF pg (GivenOk.nothing _) (run26T b) ⟨trivial, by simpa using hc⟩ rfl rfl W
  have e : row16 (rT b) = row16 (dF b) := row16_congr fun j hj => by unfold dF; rw [if_pos hc]
  rw [e] at this; exact this
 ·have := ranF pg (GivenOk.nothing _) (run26F b) ⟨trivial, by simpa using hc⟩ rfl rfl W
  have e : row16 (rF b) = row16 (dF b) := row16_congr fun j hj => by unfold dF; rw [if_neg hc]
  rw [e] at this; exact this
structure CT where
 ks : LV -> Nat -> Int
 mkb : LV -> LV -> Nat -> Int
 db : LV -> Nat -> Int
 rm : List Int -> LV -> Nat -> Int
 bs : LV -> Prop
 bk : List Int -> Prop
def CT0 : CT := ⟨fun x => ksF BOX (intAt x), fun ks x => mkF BOX (intAt ks) (intAt x), fun x => dF (intAt x), fun K x => mkF BOX (ksF BOX (keyOf K)) (intAt x), fun x => B16 (intAt x), fun K => K.length = 16 /\ B16 (keyOf K)⟩
def R176 (f : Nat -> Int) : LV := rowV .u8 176 f
def FC (T : CT) (f : FuncId) (args : List Value) (s : St) : Option Inst := match args with
 | [.agg x] => if is16 x then
   (if f == 37 then some (flI [.agg x] (.agg (R176 (T.ks x.toList)).toArray) (T = CT0 /\ T.bs x.toList))
   else if f == 24 then some (flI [.agg x] (row16 (T.db x.toList)) (T = CT0 /\ T.bs x.toList))
   else if f == 26 then some (flI [.agg x] (row16 (T.db x.toList)) (T = CT0)) else none) else none
 | [.pointer (some ⟨c, 0, none⟩), .agg x] => if f == 22 then (match s.heap.get c with
  | some (.cells (.lit l) _) => match l.drop 176 with
   | [.bool true] => if isN 176 (l.take 176).toArray && is16 x then some ⟨[(c, 0)], 1, [some (.cells (.lit l) 84)], [P0 0 0, .agg x], .tuple #[row16 (T.mkb (l.take 176) x.toList), .int .i64 0], some (.cells (.lit l) 84) :: List.replicate 86 none, T = CT0⟩ else none
   | _ => none
  | _ => none) else none
 | [.slice (some ⟨b, o, none⟩) 16 c, .agg x] => if f == 27 then (if is16 x then match s.heap.get b with
  | some (.cells (.ints .u8 K) _) => some ⟨[(b, o)], 1, hK ((K.drop o).take 16), [.slice (some ⟨0, 0, none⟩) 16 c, .agg x], row16 (T.rm ((K.drop o).take 16) x.toList), hK' ((K.drop o).take 16), T = CT0 /\ T.bk ((K.drop o).take 16)⟩
  | _ => none else none) else none
 | _ => none
theorem mv_sl (ν δ : Nat -> Nat) {b o n c : Nat} {g : Option Nat} (hg : isAbs g = false) : mv ν δ (.slice (some ⟨b, o, g⟩) n c) = .slice (some ⟨ν b, addO (δ b) o, g⟩) n c := by
 show (if isAbs g then Value.slice (some ⟨b, o, g⟩) n c else _) = _
 rw [hg]; rfl
theorem okN_sl {m b o n c : Nat} {g : Option Nat} (hg : isAbs g = false) (hb : b < m) : okN m (.slice (some ⟨b, o, g⟩) n c) = true := by
 show decide ((if isAbs g then 0 else b) < m) = true
 rw [hg]; exact decide_eq_true hb
theorem fit_win {s : St} {b o k : Nat} {L : List Int} {tb t2 : TypeId} {g : Option Nat} {n c : Nat} {i : Inst} {vs : List Value} (hb : s.heap.get b = some (.cells (.ints .u8 L) tb)) (hw : i.win = [(b, o)]) (hh : i.heap = [some (.cells (.ints .u8 ((L.drop o).take k)) t2)]) (ha : i.args = .slice (some ⟨0, 0, g⟩) n c :: vs) (hf : vs.all flat1 = true) (hg : isAbs g = false := by first | rfl | assumption) :
  Fits s i (.slice (some ⟨b, o, g⟩) n c :: vs) := by
 refine ⟨?_, fun j pp ob h1 h2 => ?_⟩
 ·rw [ha]
  have e1 : i.nu s.next 0 = b := by unfold Inst.nu; rw [hw]; rfl
  have e2 : i.del 0 = o := by unfold Inst.del; rw [hw]; rfl
  show Value.slice (some ⟨b, o, g⟩) n c :: vs = mv (i.nu s.next) i.del (Value.slice (some ⟨0, 0, g⟩) n c) :: vs.map (mv (i.nu s.next) i.del)
  rw [mv_sl _ _ hg, e1, e2, addO_eq, mv_flats _ _ hf]; rfl
 ·rw [hw] at h1
  rw [hh] at h2
  rcases j with _ | j
  ·simp only [List.getElem?_cons_zero, Option.some.injEq] at h1 h2
   subst h1; subst h2
   exact ⟨_, hb, fit_ints⟩
  ·simp at h1
theorem fit_obj {s : St} {b : Nat} {l : LV} {tb t2 : TypeId} {i : Inst} {vs : List Value} (hb : s.heap.get b = some (.cells (.lit l) tb)) (hw : i.win = [(b, 0)]) (hh : i.heap = [some (.cells (.lit l) t2)]) (ha : i.args = P0 0 0 :: vs) (hf : vs.all flat1 = true) (hl : l.all flat0 = true) :
  Fits s i (P0 b 0 :: vs) := by
 refine ⟨?_, fun j pp ob h1 h2 => ?_⟩
 ·rw [ha]
  have e1 : i.nu s.next 0 = b := by unfold Inst.nu; rw [hw]; rfl
  have e2 : i.del 0 = 0 := by unfold Inst.del; rw [hw]; rfl
  show P0 b 0 :: vs = Value.pointer (some ⟨i.nu s.next 0, addO (i.del 0) 0, none⟩) :: vs.map (mv (i.nu s.next) i.del)
  rw [e1, e2, addO_eq, mv_flats _ _ hf]; rfl
 ·rw [hw] at h1
  rw [hh] at h2
  rcases j with _ | j
  ·simp only [List.getElem?_cons_zero, Option.some.injEq] at h1 h2
   subst h1; subst h2
   exact ⟨_, hb, fit_flat (fun x v hv => by rw [Nat.zero_add]; exact hv) hl⟩
  ·simp at h1
theorem all_flat0 {n : Nat} {x : LV} (h : x.all (isKind .u8) = true) : x.all flat0 = true :=
 List.all_eq_true.2 fun v hv => by
  have := List.all_eq_true.1 h v hv
  revert this
  cases v <;> intro this <;> first | rfl | (simp [isKind] at this)
theorem FC_ok (T : CT) (f : FuncId) (args : List Value) (s : St) (i : Inst) (h : FC T f args s = some i) : Fits s i args /\ (i.ask -> CallOk Try.prog f i.args i.s0 i.val i.s1) := by
 unfold FC at h
 split at h
 ·rename_i x
  split at h
  ·rename_i hc
   have ex := is16_row hc
   have hfl : ([.agg x] : List Value).all flat1 = true := by rw [ex]; rfl
   split at h
   ·rename_i hf
    have hf' : f = 37 := by simpa using hf
    subst hf'; cases h
    refine flI_ok hfl rfl fun hT W => ?_
    obtain ⟨rfl, hb⟩ := hT
    have := ks_ok (intAt x.toList) hb W
    unfold row16 at this
    rw [← ex] at this; exact this
   ·split at h
    ·rename_i hf
     have hf' : f = 24 := by simpa using hf
     subst hf'; cases h
     refine flI_ok hfl rfl fun hT W => ?_
     obtain ⟨rfl, hb⟩ := hT
     have := dbl24 (intAt x.toList) hb W
     unfold row16 at this
     rw [← ex] at this; exact this
    ·split at h
     ·rename_i hf
      have hf' : f = 26 := by simpa using hf
      subst hf'; cases h
      refine flI_ok hfl rfl fun hT W => ?_
      subst hT
      have := dbl26 (intAt x.toList) W
      unfold row16 at this
      rw [← ex] at this; exact this
     ·cases h
  ·cases h
 ·rename_i c x
  split at h
  ·rename_i hf
   have hf' : f = 22 := by simpa using hf
   subst hf'
   split at h
   ·rename_i l tb hb
    split at h
    ·rename_i hd
     split at h
     ·rename_i hc
      rw [Bool.and_eq_true] at hc
      have ek := isN_row hc.1
      have ex := is16_row hc.2
      have el : l = R176 (intAt (l.take 176)) ++ [.bool true] := by
       have : l.take 176 = rowV .u8 176 (intAt (l.take 176)) := by
        have := congrArg Array.toList ek
        simpa using this
       conv => lhs; rw [← List.take_append_drop 176 l, hd, this]
       rfl
      have hl : l.all flat0 = true := by
       rw [el, List.all_append, Bool.and_eq_true]
       refine ⟨?_, rfl⟩
       exact all_flat0 (n := 0) (List.all_eq_true.2 fun v hv => by
        unfold R176 rowV at hv
        rw [famList_eq] at hv
        obtain ⟨j, _, rfl⟩ := List.mem_map.1 hv
        rfl)
      cases h
      refine ⟨fit_obj hb rfl rfl rfl (by rw [ex]; rfl) hl, fun hT => ?_⟩
      cases hT
      have := mk_ok (intAt (l.take 176)) (intAt x.toList)
      unfold hC' hC at this
      rw [show rowV .u8 176 (intAt (l.take 176)) ++ [Value.bool true] = l from el.symm] at this
      unfold row16 at this
      rw [← ex] at this
      exact this
     ·cases h
    ·cases h
   ·cases h
  ·cases h
 ·rename_i b o c x
  split at h
  ·rename_i hf
   have hf' : f = 27 := by simpa using hf
   subst hf'
   split at h
   ·rename_i hc
    have ex := is16_row hc
    split at h
    ·rename_i K tb hb
     cases h
     refine ⟨fit_win hb rfl rfl rfl (by rw [ex]; rfl), fun hT => ?_⟩
     obtain ⟨rfl, h1, h2⟩ := hT
     have := ref_ok ((K.drop o).take 16) c (intAt x.toList) h1 h2
     unfold row16 at this
     rw [← ex] at this; exact this
    ·cases h
   ·cases h
  ·cases h
 ·cases h
def KCm (T : CT) : Given := Given.frames Given.nothing (FC T)
theorem KCm_ok (T : CT) : GivenOk Try.prog (KCm T) := (GivenOk.nothing _).frames (FC_ok T)
def Z16 : LV := R16 fun _ => 0
def kRw (K : List Int) : LV := R16 (keyOf K)
def eL (T : CT) (K : List Int) : LV := R16 (T.mkb (R176 (T.ks (kRw K))) Z16)
def p10 (T : CT) (K : List Int) : Prop := ((((True /\ 0 + 16 <= K.length) /\ (T = CT0 /\ T.bs (kRw K))) /\ T = CT0) /\ (T = CT0 /\ T.bs (eL T K))) /\ (T = CT0 /\ T.bs (R16 (T.db (eL T K))))
def p12 (T : CT) (K : List Int) : Prop := ((True /\ (T = CT0 /\ T.bk K)) /\ T = CT0) /\ T = CT0
def hKn (n : Nat) (K : List Int) : List (Option Ob) := hK K ++ List.replicate n none
theorem runB12 (T : CT) (K : List Int) (c : Nat) : ((mk Try.prog (KCm T) 200).call 12 [.slice (some ⟨0, 0, none⟩) 16 c] (smSt 1 (hK K) [])).map (fun r => (r.1, r.2.obl, r.2.next, keepL (true :: List.replicate 73 false) r.2.heap.get 0)) = some (.tuple #[row16 (T.db (R16 (T.rm ((K.drop 0).take 16) Z16))), row16 (T.db (R16 (T.db (R16 (T.rm ((K.drop 0).take 16) Z16)))))], p12 T ((K.drop 0).take 16), (hKn 73 K).length, hKn 73 K) := by kernel_rfl
theorem subF_congr {B : List Int} {s s' : Nat -> Int} (h : ∀ j, j < 16 -> s j = s' j) {j : Nat} (hj : j < 16) : subF B s j = subF B s' j := by unfold subF; rw [h j hj]
theorem shi_congr {s s' : Nat -> Int} (h : ∀ j, j < 16 -> s j = s' j) (j : Nat) : shiF s j = shiF s' j := by unfold shiF; rw [h _ (by omega)]
theorem mix_congr {s s' : Nat -> Int} (h : ∀ j, j < 16 -> s j = s' j) {j : Nat} (hj : j < 16) : mixF s j = mixF s' j := by
 unfold mixF
 rw [h j hj, h _ (by omega), h _ (by omega), h _ (by omega), h _ (by omega), h _ (by omega)]
theorem stF_congr {B : List Int} {ks ks' b b' : Nat -> Int} (hk : ∀ j, j < 176 -> ks j = ks' j) (hb : ∀ j, j < 16 -> b j = b' j) : ∀ n, n <= 9 -> ∀ j, j < 16 -> stF B ks b n j = stF B ks' b' n j
 | 0, _, j, hj => by
  show xr8 (b j) (ks (16 * 0 + j)) = xr8 (b' j) (ks' (16 * 0 + j))
  rw [hb j hj, hk _ (by omega)]
 | n + 1, hn, j, hj => by
  show xr8 (mixF (shiF (subF B (stF B ks b n))) j) (ks (16 * (n + 1) + j)) = xr8 (mixF (shiF (subF B (stF B ks' b' n))) j) (ks' (16 * (n + 1) + j))
  rw [hk _ (by omega), mix_congr (fun j _ => shi_congr (fun j hj => subF_congr (stF_congr hk hb n (by omega)) hj) j) hj]
theorem mkF_congr {B : List Int} {ks ks' b b' : Nat -> Int} (hk : ∀ j, j < 176 -> ks j = ks' j) (hb : ∀ j, j < 16 -> b j = b' j) : ∀ j, j < 16 -> mkF B ks b j = mkF B ks' b' j := fun j hj => by
 show xr8 (shiF (subF B (stF B ks b 9)) j) (ks (16 * 10 + j)) = xr8 (shiF (subF B (stF B ks' b' 9)) j) (ks' (16 * 10 + j))
 rw [hk _ (by omega), shi_congr (fun j hj => subF_congr (stF_congr hk hb 9 (by omega)) hj) j]
theorem at176 {f : Nat -> Int} {j : Nat} (h : j < 176) : intAt (R176 f) j = f j := intAt_row h
theorem kr_congr {B : List Int} {k k' : Nat -> Int} (h : ∀ j, j < 16 -> k j = k' j) : ∀ n, ∀ j, j < 16 -> kr B k n j = kr B k' n j
 | 0, j, hj => h j hj
 | n + 1, j, hj => by
  have ih := kr_congr (B := B) h n
  have hc : ∀ c r, c < 4 -> r < 4 -> col B (pw n) (kr B k n) c r = col B (pw n) (kr B k' n) c r := by
   intro c
   induction c with
   | zero =>
    intro r _ hr
    show X8 (kc B (pw n) (kr B k n) r) (kr B k n r) = X8 (kc B (pw n) (kr B k' n) r) (kr B k' n r)
    have hx : ∀ j, j < 16 -> bx B (kr B k n) j = bx B (kr B k' n) j := fun j hj => by unfold bx; rw [ih j hj]
    have hk : kc B (pw n) (kr B k n) r = kc B (pw n) (kr B k' n) r := by
     unfold kc
     split
     ·rw [hx 13 (by decide)]
     ·exact hx 14 (by decide)
     ·exact hx 15 (by decide)
     ·exact hx 12 (by decide)
    rw [hk, ih r (by omega)]
   | succ c ihc =>
    intro r hc hr
    show X8 (col B (pw n) (kr B k n) c r) (kr B k n (4 * (c + 1) + r)) = X8 (col B (pw n) (kr B k' n) c r) (kr B k' n (4 * (c + 1) + r))
    rw [ihc r (by omega) hr, ih _ (by omega)]
  exact hc _ _ (by omega) (by omega)
theorem ksF_congr {B : List Int} {k k' : Nat -> Int} (h : ∀ j, j < 16 -> k j = k' j) (j : Nat) : ksF B k j = ksF B k' j := kr_congr h _ _ (by omega)
def enc (K : List Int) (x : Nat -> Int) : Nat -> Int := mkF BOX (ksF BOX (keyOf K)) x
def fst (K : List Int) : Nat -> Int := dF (enc K fun _ => 0)
def snd (K : List Int) : Nat -> Int := dF (fst K)
theorem rT_congr {b b' : Nat -> Int} (h : ∀ j, j < 16 -> b j = b' j) {j : Nat} (hj : j < 16) : dF b j = dF b' j := by
 unfold dF rT rF rD
 rw [h 0 (by decide), h j hj]
 split
 ·split
  ·rw [h (j + 1) (by omega)]
  ·rfl
 ·split
  ·rw [h (j + 1) (by omega)]
  ·rfl
theorem db_at (f : Nat -> Int) : R16 (dF (intAt (R16 f))) = R16 (dF f) := R16_congr fun j hj => rT_congr (fun j hj => at16 hj) hj
theorem eL_eq (K : List Int) : eL CT0 K = R16 (enc K fun _ => 0) := by
 show R16 (mkF BOX (intAt (R176 (ksF BOX (intAt (R16 (keyOf K)))))) (intAt (R16 fun _ => 0))) = _
 refine R16_congr fun j hj => ?_
 refine mkF_congr (fun j hj => ?_) (fun j hj => at16 hj) j hj
 rw [at176 hj, ksF_congr (fun j hj => at16 hj)]
theorem rm_at (K : List Int) (x : Nat -> Int) : R16 (CT0.rm K (R16 x)) = R16 (enc K x) := by
 show R16 (mkF BOX (ksF BOX (keyOf K)) (intAt (R16 x))) = _
 exact R16_congr fun j hj => mkF_congr (fun _ _ => rfl) (fun j hj => at16 hj) j hj
theorem row_of {f g : Nat -> Int} (h : R16 f = R16 g) : row16 f = row16 g := congrArg (fun l : LV => Value.agg l.toArray) h
theorem enc_in (K : List Int) (x : Nat -> Int) : B16 (enc K x) := mkF_in _ _ _
theorem bs_at {f : Nat -> Int} (h : B16 f) : CT0.bs (R16 f) := fun j hj => by rw [at16 hj]; exact h j hj
def OkK (K : List Int) : Prop := K.length = 16 /\ B16 (keyOf K)
theorem take16 {K : List Int} (h : OkK K) : (K.drop 0).take 16 = K := List.take_of_length_le (by rw [List.drop_zero, h.1]; exact Nat.le_refl _)
theorem rblocks_ok (K : List Int) (c : Nat) (h : OkK K) : CallOk Try.prog 12 [.slice (some ⟨0, 0, none⟩) 16 c] (smSt 1 (hK K) []) (.tuple #[row16 (fst K), row16 (snd K)]) (smSt 1 (hKn 73 K) []) := by
 have := frame_by pg (KCm_ok CT0) _ (runB12 CT0 K c) (by rw [take16 h]; exact ⟨⟨⟨trivial, rfl, h⟩, rfl⟩, rfl⟩) (by rfl) rfl
 rw [take16 h] at this
 have e1 : row16 (CT0.db (R16 (CT0.rm K Z16))) = row16 (fst K) := row_of (by
  show R16 (dF (intAt (R16 (CT0.rm K (R16 fun _ => 0))))) = _
  rw [rm_at, db_at]; rfl)
 have e2 : row16 (CT0.db (R16 (CT0.db (R16 (CT0.rm K Z16))))) = row16 (snd K) := row_of (by
  show R16 (dF (intAt (R16 (dF (intAt (R16 (CT0.rm K (R16 fun _ => 0)))))))) = _
  rw [rm_at, db_at (enc K fun _ => 0), db_at]; rfl)
 rw [e1, e2] at this; exact this
end
end ae
end Go.Proofs.Ytkcngffpnnlmeaa
