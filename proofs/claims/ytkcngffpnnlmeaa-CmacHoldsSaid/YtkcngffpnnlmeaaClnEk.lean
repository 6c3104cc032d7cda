/- Read off the code by the clean reading. -/
import Derived.Test.YtkcngffpnnlmeaaClnEj
set_option linter.unusedVariables false
set_option linter.unusedSimpArgs false
set_option linter.deprecated false
set_option maxRecDepth 100000
namespace Go.Proofs.Ytkcngffpnnlmeaa
open Go.ChangeShapes Go.WideShapes Go.ChangeAt Go.RowKit Go.Cln
namespace ae
set_option linter.unusedVariables false
noncomputable section
theorem boxN_eq {j : Nat} (h : j < 256) : boxf ((fiN j 256 0 : Nat) : Int) = BOX.getD j 0 := by
  have key : ∀ k i, i < 64 → (List.range 64).all (fun j => boxf ((fiN (64 * k + j) 256 0 : Nat) : Int) == BOX.getD (64 * k + j) 0) = true → boxf ((fiN (64 * k + i) 256 0 : Nat) : Int) = BOX.getD (64 * k + i) 0 := fun k i hi h => by
    have := List.all_eq_true.1 h i (List.mem_range.2 hi)
    exact beq_iff_eq.1 this
  have hj : j = 64 * (j / 64) + j % 64 := by omega
  have hm : j % 64 < 64 := by omega
  have hk : j / 64 = 0 ∨ j / 64 = 1 ∨ j / 64 = 2 ∨ j / 64 = 3 := by omega
  rw [hj]
  rcases hk with h | h | h | h <;> rw [h]
  · exact key 0 _ hm bx0
  · exact key 1 _ hm bx1
  · exact key 2 _ hm bx2
  · exact key 3 _ hm bx3
theorem gR_eq {j : Nat} (h : j < 256) : gR j = BOX.getD j 0 := by
  unfold gR boxR
  have : IntKind.u8.wrap (j : Int) = (j : Int) := by rw [IntKind.wrap_u8]; omega
  rw [this, inv_eq h, boxN_eq h]
theorem famI_get (g : Nat → Int) : ∀ (n o i : Nat), i < n → (famI g o n).getD i 0 = g (o + i)
  | 0, o, i, h => by omega
  | n + 1, o, 0, h => rfl
  | n + 1, o, i + 1, h => by
    show (famI g (o + 1) n).getD i 0 = g (o + (i + 1))
    rw [famI_get g n (o + 1) i (by omega)]
    congr 1; omega
theorem famI_len (g : Nat → Int) : ∀ (n o : Nat), (famI g o n).length = n
  | 0, o => rfl
  | n + 1, o => by show (famI g (o + 1) n).length + 1 = n + 1; rw [famI_len g n (o + 1)]
theorem look {x : Int} (h0 : 0 ≤ x) (h1 : x < 256) : (famI gR 0 256).getD (0 + x.toNat * 1) 0 = BOX.getD (0 + x.toNat * 1) 0 := by
  have e : 0 + x.toNat * 1 = x.toNat := by omega
  rw [e, famI_get gR 256 0 x.toNat (by omega), Nat.zero_add, gR_eq (by omega)]
def bv (x : Int) : BitVec 8 := BitVec.ofInt 8 x
theorem xr8_bv (a b : Int) : xr8 a b = ((bv a ^^^ bv b).toNat : Int) := by
  unfold xr8 xorI
  show IntKind.u8.wrap (((bv a ^^^ bv b).toNat : Nat) : Int) = _
  have := (bv a ^^^ bv b).isLt
  rw [IntKind.wrap_u8]; omega
theorem bv_nat (X : BitVec 8) : bv (X.toNat : Int) = X := by
  unfold bv
  rw [BitVec.ofInt_natCast]; simp
theorem bv_xr8 (a b : Int) : bv (xr8 a b) = bv a ^^^ bv b := by rw [xr8_bv, bv_nat]
theorem bv_toNat {x : Int} (h0 : 0 ≤ x) (h1 : x < 256) : ((bv x).toNat : Int) = x := by
  unfold bv
  rw [BitVec.toNat_ofInt]
  show (((x % ((2 ^ 8 : Nat) : Int)).toNat : Nat) : Int) = x
  omega
theorem bv_inj {x y : Int} (h0 : 0 ≤ x) (h1 : x < 256) (g0 : 0 ≤ y) (g1 : y < 256) (h : bv x = bv y) : x = y := by
  rw [← bv_toNat h0 h1, ← bv_toNat g0 g1, h]
theorem xr8_ext {a b c d : Int} (h : bv a ^^^ bv b = bv c ^^^ bv d) : xr8 a b = xr8 c d := by rw [xr8_bv, xr8_bv, h]
theorem bv0 : bv 0 = 0#8 := rfl
theorem X8_eq (a b : Int) : X8 a b = xr8 a b := by
  unfold X8
  exact xr8_ext (by rw [bv_xr8, bv0, BitVec.zero_xor])
def DB (X : BitVec 8) : BitVec 8 := (X <<< 1) ^^^ (bif X.msb then 27#8 else 0#8)
theorem dbl_fin : ∀ x : Fin 256, bv (dbl (x.val : Int)) = DB (bv (x.val : Int)) := by decide +kernel
theorem mul2_fin : ∀ x : Fin 256, mulR 2 (x.val : Int) = dbl (x.val : Int) := by decide +kernel
theorem mul3_fin : ∀ x : Fin 256, mulR 3 (x.val : Int) = xr8 (dbl (x.val : Int)) (x.val : Int) := by decide +kernel
theorem fin_of {x : Int} (h0 : 0 ≤ x) (h1 : x < 256) : ∃ n : Fin 256, x = (n.val : Int) := ⟨⟨x.toNat, by omega⟩, by show x = ((x.toNat : Nat) : Int); omega⟩
theorem bv_dbl {x : Int} (h0 : 0 ≤ x) (h1 : x < 256) : bv (dbl x) = DB (bv x) := by
  obtain ⟨n, rfl⟩ := fin_of h0 h1; exact dbl_fin n
theorem mul2 {x : Int} (h0 : 0 ≤ x) (h1 : x < 256) : mulR 2 x = dbl x := by
  obtain ⟨n, rfl⟩ := fin_of h0 h1; exact mul2_fin n
theorem mul3 {x : Int} (h0 : 0 ≤ x) (h1 : x < 256) : mulR 3 x = xr8 (dbl x) x := by
  obtain ⟨n, rfl⟩ := fin_of h0 h1; exact mul3_fin n
theorem DB_xor (X Y : BitVec 8) : DB (X ^^^ Y) = DB X ^^^ DB Y := by
  unfold DB
  rw [BitVec.shiftLeft_xor_distrib, BitVec.msb_xor]
  cases X.msb <;> cases Y.msb
  · show (X <<< 1 ^^^ Y <<< 1) ^^^ 0#8 = (X <<< 1 ^^^ 0#8) ^^^ (Y <<< 1 ^^^ 0#8)
    simp
  · show (X <<< 1 ^^^ Y <<< 1) ^^^ 27#8 = (X <<< 1 ^^^ 0#8) ^^^ (Y <<< 1 ^^^ 27#8)
    simp [BitVec.xor_assoc]
  · show (X <<< 1 ^^^ Y <<< 1) ^^^ 27#8 = (X <<< 1 ^^^ 27#8) ^^^ (Y <<< 1 ^^^ 0#8)
    rw [BitVec.xor_zero, BitVec.xor_assoc, BitVec.xor_assoc, BitVec.xor_comm 27#8]
  · show (X <<< 1 ^^^ Y <<< 1) ^^^ 0#8 = (X <<< 1 ^^^ 27#8) ^^^ (Y <<< 1 ^^^ 27#8)
    rw [BitVec.xor_zero, BitVec.xor_assoc (X <<< 1) 27#8, BitVec.xor_comm (Y <<< 1) 27#8, ← BitVec.xor_assoc 27#8 27#8, BitVec.xor_self, BitVec.zero_xor]
theorem bits8 {X Y : BitVec 8} (h : ∀ i, i < 8 → X.getLsbD i = Y.getLsbD i) : X = Y := BitVec.eq_of_getLsbD_eq h
theorem mixEq (c : Nat → Int) (hc : ∀ j, j < 4 → 0 ≤ c j ∧ c j < 256) (r : Nat) (hr : r < 4) :
    mixR mulR c r = mix1 (c r) (c ((r + 1) % 4)) (all4 (c 0) (c 1) (c 2) (c 3)) := by
  have b := fun j (h : j < 4) => bv_dbl (hc j h).1 (hc j h).2
  have t2 := fun j (h : j < 4) => mul2 (hc j h).1 (hc j h).2
  have t3 := fun j (h : j < 4) => mul3 (hc j h).1 (hc j h).2
  have hx : ∀ x y : Int, bv (dbl (xr8 x y)) = DB (bv (xr8 x y)) := fun x y => bv_dbl (xr8_in x y).1 (xr8_in x y).2
  have : r = 0 ∨ r = 1 ∨ r = 2 ∨ r = 3 := by omega
  rcases this with rfl | rfl | rfl | rfl
  all_goals
    simp only [mixR, mix1, all4, t2 0 (by decide), t2 1 (by decide), t2 2 (by decide), t2 3 (by decide), t3 0 (by decide), t3 1 (by decide), t3 2 (by decide), t3 3 (by decide), Nat.reduceAdd, Nat.reduceMod]
    refine xr8_ext ?_
    simp only [bv_xr8, hx, DB_xor, b 0 (by decide), b 1 (by decide), b 2 (by decide), b 3 (by decide), bv0, BitVec.zero_xor]
    generalize DB (bv (c 0)) = d0
    generalize DB (bv (c 1)) = d1
    generalize DB (bv (c 2)) = d2
    generalize DB (bv (c 3)) = d3
    generalize bv (c 0) = e0
    generalize bv (c 1) = e1
    generalize bv (c 2) = e2
    generalize bv (c 3) = e3
    refine bits8 fun i _ => ?_
    simp only [BitVec.getLsbD_xor, BitVec.getLsbD_zero]
    cases d0.getLsbD i <;> cases d1.getLsbD i <;> cases d2.getLsbD i <;> cases d3.getLsbD i <;> cases e0.getLsbD i <;> cases e1.getLsbD i <;> cases e2.getLsbD i <;> cases e3.getLsbD i <;> rfl
end
end ae
end Go.Proofs.Ytkcngffpnnlmeaa
namespace Go.Proofs.Ytkcngffpnnlmeaa
open Go.ChangeShapes Go.WideShapes Go.ChangeAt Go.RowKit Go.Cln
namespace ae
set_option linter.unusedVariables false
noncomputable section
theorem pw_fin : ∀ n : Fin 11, pwR mulR n.val = pw n.val := by decide +kernel
theorem xr8_comm (a b : Int) : xr8 a b = xr8 b a := xr8_ext (BitVec.xor_comm _ _)
theorem key3 (k x p : Int) : xr8 (xr8 k x) p = xr8 (xr8 x p) k := xr8_ext (by
  rw [bv_xr8, bv_xr8, BitVec.xor_assoc, BitVec.xor_comm (bv k)])
theorem bx_eq {k' k : Nat → Int} (hk : ∀ j, j < 16 → k' j = k j) (hb : B16 k) {j : Nat} (h : j < 16) : bxR gR k' j = bx BOX k j := by
  unfold bxR bx
  rw [hk j h]
  exact look (hb j h).1 (hb j h).2
theorem col_eq {k' k : Nat → Int} (hk : ∀ j, j < 16 → k' j = k j) (hb : B16 k) (p : Int) : ∀ c r, c < 4 → r < 4 → colR gR p k' c r = col BOX p k c r
  | 0, 0, _, _ => by
    show xr8 (xr8 (k' 0) (bxR gR k' 13)) p = X8 (X8 (bx BOX k 13) p) (k 0)
    rw [X8_eq, X8_eq, bx_eq hk hb (by decide), hk 0 (by decide), key3]
  | 0, r + 1, _, hr => by
    show xr8 (k' (r + 1)) (bxR gR k' (12 + (r + 1 + 1) % 4)) = X8 (kc BOX p k (r + 1)) (k (r + 1))
    rw [X8_eq, bx_eq hk hb (by omega), hk (r + 1) (by omega), xr8_comm]
    have : r = 0 ∨ r = 1 ∨ r = 2 := by omega
    rcases this with rfl | rfl | rfl <;> rfl
  | c + 1, r, hc, hr => by
    show xr8 (colR gR p k' c r) (k' (4 * (c + 1) + r)) = X8 (col BOX p k c r) (k (4 * (c + 1) + r))
    rw [X8_eq, col_eq hk hb p c r (by omega) hr, hk _ (by omega)]
theorem kr_eq (key : Nat → Int) (h : B16 key) : ∀ n, n ≤ 10 → ∀ j, j < 16 → krR mulR gR key n j = kr BOX key n j
  | 0, _, j, _ => rfl
  | n + 1, hn, j, hj => by
    show colR gR (pwR mulR n) (krR mulR gR key n) (j / 4) (j % 4) = col BOX (pw n) (kr BOX key n) (j / 4) (j % 4)
    rw [pw_fin ⟨n, by omega⟩]
    exact col_eq (kr_eq key h n (by omega)) (kr_in BOX key h n) _ _ _ (by omega) (by omega)
theorem famI_congr {g g' : Nat → Int} : ∀ (n o : Nat), (∀ j, j < o + n → g j = g' j) → famI g o n = famI g' o n
  | 0, o, _ => rfl
  | n + 1, o, h => by
    show g o :: famI g (o + 1) n = g' o :: famI g' (o + 1) n
    rw [h o (by omega), famI_congr n (o + 1) fun j hj => h j (by omega)]
theorem ix_lt (i : Nat) : ixR i < 16 := by unfold ixR; omega
theorem shR_congr {g g' b b' : Nat → Int} (hg : ∀ j, j < 256 → g j = g' j) (hb : ∀ j, j < 16 → b j = b' j) (i : Nat) : shR g b i = shR g' b' i := by
  unfold shR
  rw [famI_congr 256 0 fun j hj => hg j (by omega), hb _ (ix_lt i)]
theorem mvF_congr {g g' b b' : Nat → Int} (hg : ∀ j, j < 256 → g j = g' j) (hb : ∀ j, j < 16 → b j = b' j) (i : Nat) : mvF g b i = mvF g' b' i := by
  unfold mvF
  exact mixR_congr (fun r _ => shR_congr hg hb _) _
theorem at256 {f : Nat → Int} {j : Nat} (h : j < 256) : intAt (R256 f) j = f j := intAt_row h
def stR (key b : Nat → Int) : Nat → Nat → Int
  | 0 => keyF b key
  | n + 1 => keyF (mvF gR (stR key b n)) (krR mulR gR key (n + 1))
def mkR (key b : Nat → Int) : Nat → Int := keyF (shR gR (stR key b 9)) (krR mulR gR key 10)
theorem rnd_at (s k : Nat → Int) : R16 (RM0.rnd false (R16 s) (R16 k) (R256 gR)) = R16 (keyF (mvF gR s) k) := by
  show R16 (keyF (mvF (intAt (R256 gR)) (intAt (R16 s))) (intAt (R16 k))) = _
  refine R16_congr fun j h => ?_
  unfold keyF
  rw [at16 h, mvF_congr (fun j hj => at256 hj) (fun j hj => at16 hj)]
theorem last_at (s k : Nat → Int) : R16 (RM0.rnd true (R16 s) (R16 k) (R256 gR)) = R16 (keyF (shR gR s) k) := by
  show R16 (keyF (shR (intAt (R256 gR)) (intAt (R16 s))) (intAt (R16 k))) = _
  refine R16_congr fun j h => ?_
  unfold keyF
  rw [at16 h, shR_congr (fun j hj => at256 hj) (fun j hj => at16 hj)]
theorem stRL_eq (key b : Nat → Int) : ∀ n, stRL RM0 key b n = R16 (stR key b n)
  | 0 => key_at b key
  | n + 1 => by
    show R16 (RM0.rnd false (stRL RM0 key b n) (R16 (krR mulR gR key (n + 1))) (R256 gR)) = _
    rw [stRL_eq key b n, rnd_at]; rfl
theorem mkRL_eq (key b : Nat → Int) : row16 (mkRL RM0 key b) = row16 (mkR key b) := by
  have : R16 (mkRL RM0 key b) = R16 (mkR key b) := by
    show R16 (RM0.rnd true (stRL RM0 key b 9) (R16 (krR mulR gR key 10)) (R256 gR)) = _
    rw [stRL_eq key b 9, last_at]; rfl
  exact congrArg (fun l => Value.agg l.toArray) this
theorem ix_fin : ∀ i : Fin 16, ixR i.val = (i.val + 4 * (i.val % 4)) % 16 := by decide
theorem shR_eq {s : Nat → Int} (hs : B16 s) {i : Nat} (hi : i < 16) : shR gR s i = shiF (subF BOX s) i := by
  unfold shR shiF subF
  have hx := hs _ (ix_lt i)
  rw [look hx.1 hx.2, ix_fin ⟨i, hi⟩]
theorem shi_in {s : Nat → Int} (i : Nat) : 0 ≤ shiF (subF BOX s) i ∧ shiF (subF BOX s) i < 256 := bx_in box_in _
theorem mvF_eq {s : Nat → Int} (hs : B16 s) {i : Nat} (hi : i < 16) : mvF gR s i = mixF (shiF (subF BOX s)) i := by
  unfold mvF
  have hc : ∀ r, r < 4 → shR gR s (4 * (i / 4) + r) = shiF (subF BOX s) (4 * (i / 4) + r) := fun r hr => shR_eq hs (by omega)
  rw [mixR_congr (g := fun r => shiF (subF BOX s) (4 * (i / 4) + r)) hc, mixEq _ (fun j _ => shi_in _) _ (by omega)]
  unfold mixF
  have e1 : 4 * (i / 4) + i % 4 = i := by omega
  have e2 : (i % 4 + 1) % 4 = (i + 1) % 4 := by omega
  show mix1 (shiF (subF BOX s) (4 * (i / 4) + i % 4)) (shiF (subF BOX s) (4 * (i / 4) + (i % 4 + 1) % 4)) _ = _
  rw [e1, e2]; rfl
theorem ks_at (key : Nat → Int) (n : Nat) {j : Nat} (hj : j < 16) : ksF BOX key (16 * n + j) = kr BOX key n j := by
  unfold ksF
  have e1 : (16 * n + j) / 16 = n := by omega
  have e2 : (16 * n + j) % 16 = j := by omega
  rw [e1, e2]
theorem st_eq (key b : Nat → Int) (h : B16 key) : ∀ n, n ≤ 9 → ∀ j, j < 16 → stR key b n j = stF BOX (ksF BOX key) b n j
  | 0, _, j, hj => by
    show xr8 (b j) (key j) = xr8 (b j) (ksF BOX key (16 * 0 + j))
    rw [ks_at key 0 hj]; rfl
  | n + 1, hn, j, hj => by
    show xr8 (mvF gR (stR key b n) j) (krR mulR gR key (n + 1) j) = xr8 (mixF (shiF (subF BOX (stF BOX (ksF BOX key) b n))) j) (ksF BOX key (16 * (n + 1) + j))
    rw [ks_at key (n + 1) hj, kr_eq key h (n + 1) (by omega) j hj, mvF_congr (fun _ _ => rfl) (st_eq key b h n (by omega)), mvF_eq (stF_in _ _ _ n) hj]
theorem mk_eq (key b : Nat → Int) (h : B16 key) : row16 (mkR key b) = row16 (mkF BOX (ksF BOX key) b) := by
  have : R16 (mkR key b) = R16 (mkF BOX (ksF BOX key) b) := R16_congr fun j hj => by
    show xr8 (shR gR (stR key b 9) j) (krR mulR gR key 10 j) = xr8 (shiF (subF BOX (stF BOX (ksF BOX key) b 9)) j) (ksF BOX key (16 * 10 + j))
    rw [ks_at key 10 hj, kr_eq key h 10 (by omega) j hj, shR_congr (fun _ _ => rfl) (st_eq key b h 9 (by omega)), shR_eq (stF_in _ _ _ 9) hj]
  exact congrArg (fun l => Value.agg l.toArray) this
theorem stR_in (key b : Nat → Int) : ∀ n, B16 (stR key b n)
  | 0 => fun j _ => xr8_in _ _
  | n + 1 => fun j _ => xr8_in _ _
theorem cndR_ok {g b : Nat → Int} (hb : B16 b) : ∀ n, cndR g b n
  | 0 => trivial
  | n + 1 => by
    have h := hb _ (ix_lt n)
    exact ⟨⟨cndR_ok hb n, h.1, h.2⟩, by rw [famI_len]; omega⟩
theorem pBl_ok {p : Prop} {K : List Int} (hp : p) (hK : K.length = 16) : ∀ n, n ≤ 16 → pBl p K n
  | 0, _ => hp
  | n + 1, h => ⟨pBl_ok hp hK n (by omega), by omega⟩
theorem krR_in (key : Nat → Int) (h : B16 key) (n : Nat) (hn : n ≤ 10) : B16 (krR mulR gR key n) := fun j hj => by
  rw [kr_eq key h n hn j hj]; exact kr_in BOX key h n j hj
theorem pKR_ok {p : Prop} (hp : p) (key : Nat → Int) (h : B16 key) : ∀ n, n ≤ 10 → pKR RM0 key p n
  | 0, _ => hp
  | n + 1, hn => by
    have k := krR_in key h n (by omega)
    have c : ∀ (j : Nat) (q : Prop), j < 16 → q → cndK gR (krR mulR gR key n) j q := fun j q hj hq => by
      obtain ⟨a, b⟩ := k j hj
      exact ⟨⟨hq, a, b⟩, by rw [famI_len]; omega⟩
    exact ⟨c 12 _ (by decide) (c 15 _ (by decide) (c 14 _ (by decide) (c 13 _ (by decide) (pKR_ok hp key h n (by omega))))), rfl⟩
theorem pMR_ok (K : List Int) (b : Nat → Int) (hK : K.length = 16) (h : B16 (keyOf K)) : ∀ n, n ≤ 10 → pMR RM0 K b n
  | 0, _ => ⟨pKR_ok (pBl_ok ⟨trivial, rfl⟩ hK 16 (Nat.le_refl _)) _ h 10 (Nat.le_refl _), rfl⟩
  | n + 1, hn => ⟨pMR_ok K b hK h n (by omega), rfl, by
      show cndR (intAt (R256 gR)) (intAt (stRL RM0 (keyOf K) b n)) 16
      rw [stRL_eq]
      refine cndR_ok (fun j hj => ?_) 16
      rw [at16 hj]; exact stR_in _ _ n j hj⟩
def hK' (K : List Int) : List (Option Ob) := hK K ++ List.replicate 70 none
theorem runMRf (T : RM) (K : List Int) (c : Nat) (b : Nat → Int) : ((mk Try.prog (KRM T) 200).call 27 [.slice (some ⟨0, 0, none⟩) 16 c, row16 b] (smSt 1 (hK K) oMR)).map (fun r => (r.1, r.2.obl, r.2.next, keepL (true :: List.replicate 70 false) r.2.heap.get 0)) = some (row16 (mkRL T (keyOf K) b), pMR T K b 10, (hK' K).length, hK' K) := by kernel_rfl
theorem ref_ok (K : List Int) (c : Nat) (b : Nat → Int) (hl : K.length = 16) (h : B16 (keyOf K)) : CallOk Try.prog 27 [.slice (some ⟨0, 0, none⟩) 16 c, row16 b] (smSt 1 (hK K) []) (row16 (mkF BOX (ksF BOX (keyOf K)) b)) (smSt 1 (hK' K) []) := by
  have := frame_by pg (KRM_ok RM0) _ (runMRf RM0 K c b) (pMR_ok K b hl h 10 (Nat.le_refl _)) (by rfl) rfl
  rw [mkRL_eq, mk_eq _ _ h] at this; exact this
end
end ae
end Go.Proofs.Ytkcngffpnnlmeaa
