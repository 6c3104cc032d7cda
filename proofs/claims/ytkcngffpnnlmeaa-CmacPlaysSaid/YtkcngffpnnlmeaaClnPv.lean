/- Read off the code by the clean reading. -/
import Derived.Test.YtkcngffpnnlmeaaClnPn
import Derived.Test.YtkcngffpnnlmeaaClnPt
set_option linter.unusedVariables false
set_option linter.unusedSimpArgs false
set_option linter.deprecated false
set_option maxRecDepth 100000
namespace Go.Proofs.Ytkcngffpnnlmeaa
open Go.ChangeShapes Go.WideShapes Go.ChangeAt Go.RowKit Go.Cln
namespace po
open ae ga pm pn
noncomputable section
open gb (OkM OkKy keyL putR putE)
theorem get_sG {x : Acts} {n c q k : Nat} {ks1 ks2 : Nat -> Int} {a b : Sd} {la lb ua ub : Value} {o9 o10 : Option Ob} {v : VF} (i : Nat) : (sG x n c q k ks1 ks2 a b la lb ua ub o9 o10 v).heap.get i = if i < 11 then HG x n q ks1 ks2 a b la lb ua ub o9 o10 i else none := Tr.get_rebuild _ 11 i (by decide)
theorem takeL0 {s0 : St} {ρ0 : Nat -> PB} {w0 w : World} {act : Act} {x : Acts} {n c q k r r2 : Nat} {ks1 ks2 : Nat -> Int} {a b : Sd} {lb ua ub : Value} {g : Option Nat} {L : List Int} {v : VF} {o10 : Option Ob} (hg : isAbs g = false) (h : PicG s0 ρ0 w0 (sG x n c q k ks1 ks2 a b (sl 9 0 g r r2) lb ua ub (oBy L) o10 v) w act) :
  ∃ P d, r <= d /\ Keeps x.F (x.put P L).F /\ PicG s0 ρ0 w0 (sG (x.put P L) n c q k ks1 ks2 a b (PS P r d) lb ua ub none o10 v) w act := by
 have h0 : (sG x n c q k ks1 ks2 a b (sl 9 0 g r r2) lb ua ub (oBy L) o10 v).heap.get 0 = some (.fam x.F) := get_sG 0
 have hb : (sG x n c q k ks1 ks2 a b (sl 9 0 g r r2) lb ua ub (oBy L) o10 v).heap.get 9 = some (.cells (.ints .u8 L) 5) := get_sG 9
 have hm : (sG x n c q k ks1 ks2 a b (sl 9 0 g r r2) lb ua ub (oBy L) o10 v).heap.get 4 = some (.cells (.lit (.pointer (some ⟨2, 0, none⟩) :: (rowV .u8 16 a.f1 ++ (rowV .u8 16 a.f2 ++ (rowV .u8 16 a.x ++ [sl 9 0 g r r2]))))) 70) := get_sG 4
 obtain ⟨P, d, h1, h2, h3⟩ := PicG.take (i := 49) (fun P d => (sG (x.put P L) n c q k ks1 ks2 a b (PS P r d) lb ua ub none o10 v)) h h0 hb hm (by rfl) (by decide) (by decide) (by decide) (by rfl) (by rfl) hg (fun P d => by
  refine ⟨rfl, rfl, rfl, rfl, rfl, rfl, ?_, ?_, ?_, fun i e0 eb em => ?_⟩
  ·rw [get_sG, ← Acts.put_F]; rfl
  ·rw [get_sG]; rfl
  ·rw [get_sG]; rfl
  ·rw [get_sG, get_sG]
   by_cases hi : i < 11
   ·rw [if_pos hi, if_pos hi]
    have : i = 1 ∨ i = 2 ∨ i = 3 ∨ i = 4 ∨ i = 5 ∨ i = 6 ∨ i = 7 ∨ i = 8 ∨ i = 9 ∨ i = 10 := by omega
    rcases this with rfl | rfl | rfl | rfl | rfl | rfl | rfl | rfl | rfl | rfl <;> first | rfl | exact absurd rfl eb | exact absurd rfl em
   ·rw [if_neg hi, if_neg hi])
 exact ⟨P, d, h1, by rw [Acts.put_F]; exact h2, h3⟩
theorem takeL1 {s0 : St} {ρ0 : Nat -> PB} {w0 w : World} {act : Act} {x : Acts} {n c q k r r2 : Nat} {ks1 ks2 : Nat -> Int} {a b : Sd} {la ua ub : Value} {g : Option Nat} {L : List Int} {v : VF} {o10 : Option Ob} (hg : isAbs g = false) (h : PicG s0 ρ0 w0 (sG x n c q k ks1 ks2 a b la (sl 9 0 g r r2) ua ub (oBy L) o10 v) w act) :
  ∃ P d, r <= d /\ Keeps x.F (x.put P L).F /\ PicG s0 ρ0 w0 (sG (x.put P L) n c q k ks1 ks2 a b la (PS P r d) ua ub none o10 v) w act := by
 have h0 : (sG x n c q k ks1 ks2 a b la (sl 9 0 g r r2) ua ub (oBy L) o10 v).heap.get 0 = some (.fam x.F) := get_sG 0
 have hb : (sG x n c q k ks1 ks2 a b la (sl 9 0 g r r2) ua ub (oBy L) o10 v).heap.get 9 = some (.cells (.ints .u8 L) 5) := get_sG 9
 have hm : (sG x n c q k ks1 ks2 a b la (sl 9 0 g r r2) ua ub (oBy L) o10 v).heap.get 5 = some (.cells (.lit (.pointer (some ⟨q, 0, none⟩) :: (rowV .u8 16 b.f1 ++ (rowV .u8 16 b.f2 ++ (rowV .u8 16 b.x ++ [sl 9 0 g r r2]))))) 70) := get_sG 5
 obtain ⟨P, d, h1, h2, h3⟩ := PicG.take (i := 49) (fun P d => (sG (x.put P L) n c q k ks1 ks2 a b la (PS P r d) ua ub none o10 v)) h h0 hb hm (by rfl) (by decide) (by decide) (by decide) (by rfl) (by rfl) hg (fun P d => by
  refine ⟨rfl, rfl, rfl, rfl, rfl, rfl, ?_, ?_, ?_, fun i e0 eb em => ?_⟩
  ·rw [get_sG, ← Acts.put_F]; rfl
  ·rw [get_sG]; rfl
  ·rw [get_sG]; rfl
  ·rw [get_sG, get_sG]
   by_cases hi : i < 11
   ·rw [if_pos hi, if_pos hi]
    have : i = 1 ∨ i = 2 ∨ i = 3 ∨ i = 4 ∨ i = 5 ∨ i = 6 ∨ i = 7 ∨ i = 8 ∨ i = 9 ∨ i = 10 := by omega
    rcases this with rfl | rfl | rfl | rfl | rfl | rfl | rfl | rfl | rfl | rfl <;> first | rfl | exact absurd rfl eb | exact absurd rfl em
   ·rw [if_neg hi, if_neg hi])
 exact ⟨P, d, h1, by rw [Acts.put_F]; exact h2, h3⟩
theorem takeA0 {s0 : St} {ρ0 : Nat -> PB} {w0 w : World} {act : Act} {x : Acts} {n c q k r r2 : Nat} {ks1 ks2 : Nat -> Int} {a b : Sd} {la lb ub : Value} {g : Option Nat} {L : List Int} {v : VF} (hg : isAbs g = false) (h : PicG s0 ρ0 w0 (sG x n c q k ks1 ks2 a b la lb (sl 10 0 g r r2) ub none (oBy L) v) w act) :
  ∃ P d, r <= d /\ Keeps x.F (x.put P L).F /\ PicG s0 ρ0 w0 (sG (x.put P L) n c q k ks1 ks2 a b la lb (PS P r d) ub none none v) w act := by
 have h0 : (sG x n c q k ks1 ks2 a b la lb (sl 10 0 g r r2) ub none (oBy L) v).heap.get 0 = some (.fam x.F) := get_sG 0
 have hb : (sG x n c q k ks1 ks2 a b la lb (sl 10 0 g r r2) ub none (oBy L) v).heap.get 10 = some (.cells (.ints .u8 L) 5) := get_sG 10
 have hm : (sG x n c q k ks1 ks2 a b la lb (sl 10 0 g r r2) ub none (oBy L) v).heap.get 8 = some (.cells (.lit ([(sl 10 0 g r r2), ub])) 49) := get_sG 8
 obtain ⟨P, d, h1, h2, h3⟩ := PicG.take (i := 0) (fun P d => (sG (x.put P L) n c q k ks1 ks2 a b la lb (PS P r d) ub none none v)) h h0 hb hm (by rfl) (by decide) (by decide) (by decide) (by rfl) (by rfl) hg (fun P d => by
  refine ⟨rfl, rfl, rfl, rfl, rfl, rfl, ?_, ?_, ?_, fun i e0 eb em => ?_⟩
  ·rw [get_sG, ← Acts.put_F]; rfl
  ·rw [get_sG]; rfl
  ·rw [get_sG]; rfl
  ·rw [get_sG, get_sG]
   by_cases hi : i < 11
   ·rw [if_pos hi, if_pos hi]
    have : i = 1 ∨ i = 2 ∨ i = 3 ∨ i = 4 ∨ i = 5 ∨ i = 6 ∨ i = 7 ∨ i = 8 ∨ i = 9 ∨ i = 10 := by omega
    rcases this with rfl | rfl | rfl | rfl | rfl | rfl | rfl | rfl | rfl | rfl <;> first | rfl | exact absurd rfl eb | exact absurd rfl em
   ·rw [if_neg hi, if_neg hi])
 exact ⟨P, d, h1, by rw [Acts.put_F]; exact h2, h3⟩
theorem takeA1 {s0 : St} {ρ0 : Nat -> PB} {w0 w : World} {act : Act} {x : Acts} {n c q k r r2 : Nat} {ks1 ks2 : Nat -> Int} {a b : Sd} {la lb ua : Value} {g : Option Nat} {L : List Int} {v : VF} (hg : isAbs g = false) (h : PicG s0 ρ0 w0 (sG x n c q k ks1 ks2 a b la lb ua (sl 10 0 g r r2) none (oBy L) v) w act) :
  ∃ P d, r <= d /\ Keeps x.F (x.put P L).F /\ PicG s0 ρ0 w0 (sG (x.put P L) n c q k ks1 ks2 a b la lb ua (PS P r d) none none v) w act := by
 have h0 : (sG x n c q k ks1 ks2 a b la lb ua (sl 10 0 g r r2) none (oBy L) v).heap.get 0 = some (.fam x.F) := get_sG 0
 have hb : (sG x n c q k ks1 ks2 a b la lb ua (sl 10 0 g r r2) none (oBy L) v).heap.get 10 = some (.cells (.ints .u8 L) 5) := get_sG 10
 have hm : (sG x n c q k ks1 ks2 a b la lb ua (sl 10 0 g r r2) none (oBy L) v).heap.get 8 = some (.cells (.lit ([ua, (sl 10 0 g r r2)])) 49) := get_sG 8
 obtain ⟨P, d, h1, h2, h3⟩ := PicG.take (i := 1) (fun P d => (sG (x.put P L) n c q k ks1 ks2 a b la lb ua (PS P r d) none none v)) h h0 hb hm (by rfl) (by decide) (by decide) (by decide) (by rfl) (by rfl) hg (fun P d => by
  refine ⟨rfl, rfl, rfl, rfl, rfl, rfl, ?_, ?_, ?_, fun i e0 eb em => ?_⟩
  ·rw [get_sG, ← Acts.put_F]; rfl
  ·rw [get_sG]; rfl
  ·rw [get_sG]; rfl
  ·rw [get_sG, get_sG]
   by_cases hi : i < 11
   ·rw [if_pos hi, if_pos hi]
    have : i = 1 ∨ i = 2 ∨ i = 3 ∨ i = 4 ∨ i = 5 ∨ i = 6 ∨ i = 7 ∨ i = 8 ∨ i = 9 ∨ i = 10 := by omega
    rcases this with rfl | rfl | rfl | rfl | rfl | rfl | rfl | rfl | rfl | rfl <;> first | rfl | exact absurd rfl eb | exact absurd rfl em
   ·rw [if_neg hi, if_neg hi])
 exact ⟨P, d, h1, by rw [Acts.put_F]; exact h2, h3⟩
structure OkE (x : Acts) (ks : Nat -> Int) (s : Sd) : Prop where
 key : OkKy s.key
 ok : OkM (keyL s.key) ⟨ks, s.f1, s.f2, s.x, [], 0⟩ []
 zero : s.n = 0
structure OkR (x : Acts) (ks : Nat -> Int) (s : Sd) (K : Nat) : Prop where
 key : OkKy s.key
 ok : OkM (keyL s.key) ⟨ks, s.f1, s.f2, s.x, wd (x.D s.P) 0 s.r, s.r⟩ (wd (x.D s.A) 0 s.n)
 len : (wd (x.D s.A) 0 s.n).length = s.n
 pos : 0 < s.n
 few : s.n <= 40 * K
 room : s.r <= s.d
 cap : s.n <= s.c
theorem OkR.r {x : Acts} {ks : Nat -> Int} {s : Sd} {K : Nat} (h : OkR x ks s K) : 0 < s.r /\ s.r <= 16 := h.ok.pos (by rw [h.len]; exact h.pos)
theorem OkR.lenL {x : Acts} {ks : Nat -> Int} {s : Sd} {K : Nat} (h : OkR x ks s K) : (wd (x.D s.P) 0 s.r).length = s.r := h.ok.a.symm
theorem OkE.keep {x y : Acts} {ks : Nat -> Int} {s : Sd} (h : OkE x ks s) : OkE y ks s := ⟨h.key, h.ok, h.zero⟩
theorem OkR.keep {x y : Acts} {ks : Nat -> Int} {s : Sd} {K : Nat} (h : OkR x ks s K) (hk : Keeps x.F y.F) {K2 : Nat} (h2 : K <= K2) : OkR y ks s K2 := by
 have e1 : wd (y.D s.P) 0 s.r = wd (x.D s.P) 0 s.r := Acts.keep hk h.lenL
 have e2 : wd (y.D s.A) 0 s.n = wd (x.D s.A) 0 s.n := Acts.keep hk h.len
 exact ⟨h.key, by rw [e1, e2]; exact h.ok, by rw [e2]; exact h.len, h.pos, by have := h.few; omega, h.room, h.cap⟩
def Rows (x : Acts) (n : Nat) : Prop := ∀ i, i < n -> (wd (x.D (x.Q i)) 0 (x.m i)).length = x.m i
theorem Rows.put {x : Acts} {n : Nat} {P : Nat} {L : List Int} (h : Rows x n) (hk : Keeps x.F (x.put P L).F) : Rows (x.put P L) n := fun i hi => by
 have := Acts.keep hk (h i hi)
 show (wd ((x.put P L).D (x.Q i)) 0 (x.m i)).length = x.m i
 unfold wd
 rw [this]
 exact h i hi
theorem newR {y : Acts} {ks : Nat -> Int} {s : Sd} {K : Nat} {P d A c r N : Nat} {L M : List Int} {X : Nat -> Int} (hkey : OkKy s.key) (hm : OkM (keyL s.key) ⟨ks, s.f1, s.f2, X, L, r⟩ M) (hM : M.length = N) (hP : wd (y.D P) 0 r = L) (hA : wd (y.D A) 0 N = M) (h0 : 0 < N) (hK : N <= 40 * K) (hd : r <= d) (hc : N <= c) :
  OkR y ks ⟨s.key, s.f1, s.f2, X, P, r, d, A, N, c⟩ K := ⟨hkey, by show OkM _ ⟨_, _, _, _, wd (y.D P) 0 r, r⟩ (wd (y.D A) 0 N); rw [hP, hA]; exact hm, by show (wd (y.D A) 0 N).length = N; rw [hA]; exact hM, h0, hK, hd, hc⟩
theorem put_at (x : Acts) (P : Nat) (L : List Int) : (x.put P L).D P = L := if_pos rfl
theorem wd_all {L : List Int} {n : Nat} (h : L.length = n) : wd L 0 n = L := by
 unfold wd
 rw [List.drop_zero]
 exact List.take_of_length_le (by omega)
theorem wd_len0 {L : List Int} {n : Nat} (h : (wd L 0 n).length = n) : n <= L.length := by
 unfold wd at h
 rw [List.drop_zero, List.length_take] at h; omega
theorem row16_at {f g : Nat -> Int} (h : row16 f = row16 g) : ∀ j, j < 16 -> f j = g j := fun j hj => by
 unfold row16 at h
 injection h with h
 have h := congrArg (fun a => intAt a.toList j) h
 rw [← at16 (f := f) hj, ← at16 (f := g) hj]
 exact h
theorem lst_wd (L : List Int) (r : Nat) : lst (wd L 0 r) r = lst L r := by
 funext i
 unfold lst
 split
 ·rename_i h
  unfold wd
  rw [List.drop_zero, List.getD_eq_getElem?_getD, List.getD_eq_getElem?_getD, List.getElem?_take, if_pos h]
 ·rfl
theorem tgS_wd (ks : Nat -> Int) (s : Sd) (L : List Int) (r : Nat) : tgS VT0 ks s L r = tgS VT0 ks s (wd L 0 r) r := by
 show tgL U0 CT0 _ _ _ L r = tgL U0 CT0 _ _ _ (wd L 0 r) r
 unfold tgL
 rw [lst_wd]
theorem OkR.tag {x : Acts} {ks : Nat -> Int} {s : Sd} {K : Nat} (h : OkR x ks s K) : ∀ j, j < 16 -> tgS VT0 ks s (x.D s.P) s.r j = tagF (keyL s.key) (wd (x.D s.A) 0 s.n) j := by
 rw [tgS_wd]
 exact row16_at h.ok.tag
theorem OkE.tag {x : Acts} {ks : Nat -> Int} {s : Sd} (h : OkE x ks s) : ∀ j, j < 16 -> tgS VT0 ks s [] 0 j = tagF (keyL s.key) (wd (x.D s.A) 0 s.n) j := by
 have e : wd (x.D s.A) 0 s.n = [] := by rw [h.zero]; rfl
 rw [e]
 exact row16_at h.ok.tagN
theorem ky0 (a b : Sd) : ky a b 0 = intAt (R16 a.key) := by unfold ky; rfl
theorem ky1 (a b : Sd) : ky a b 16 = intAt (R16 b.key) := by unfold ky; rfl
theorem keyL16 (f : Nat -> Int) : keyL (intAt (R16 f)) = keyL f := by kernel_rfl
theorem okKy16 {f : Nat -> Int} (h : OkKy f) : OkKy (intAt (R16 f)) := fun j hj => by rw [at16 hj]; exact h j hj
theorem hdOk {x : Acts} {n k : Nat} {tw : Bool} (hk : k < n) (h : x.tw (ix k) = tw) : pH x n k tw := by
 refine ⟨⟨⟨⟨trivial, ?_⟩, ?_⟩, ?_⟩, h⟩
 ·simp only [nI, decide_eq_true_eq]; omega
 ·simp only [nI]; omega
 ·omega
theorem fkOk {n k : Nat} (hk : k < n) (hn : n <= 15) : fk k := by
 unfold fk nI
 rw [IntKind.wrap_i64]; omega
theorem beq_t {a b : Int} (h : a = b) : (a == b) = true := by rw [h]; exact beq_self_eq_true _
theorem beq_f {a b : Int} (h : a ≠ b) : (a == b) = false := by simpa using h
theorem rw0_len {x : Acts} {n k : Nat} (h : Rows x n) (hk : k < n) : (rw0 x k).length = x.m (ix k) := by
 unfold rw0; rw [ix_eq]; exact h k hk
theorem q1_ok {x : Acts} {n k : Nat} (h : Rows x n) (hk : k < n) : q1 x k := by
 have := wd_len0 (rw0_len h hk)
 exact .inr (by omega)
theorem qA_ok {x : Acts} {s : Sd} (h : (wd (x.D s.A) 0 s.n).length = s.n) : qA x s := .inr (by have := wd_len0 h; omega)
theorem rw0_nil {x : Acts} {k : Nat} (h : x.m (ix k) = 0) : rw0 x k = [] := by unfold rw0; rw [h]; rfl
theorem rw1_nil {x : Acts} {k : Nat} (h : x.m (ix k) = 0) : rw1 x k = [] := by unfold rw1; rw [rw0_nil h]; rfl
inductive Good (x : Acts) (n c k : Nat) : St -> Prop
 | g3EE {ks1 ks2 : Nat -> Int} {a b : Sd} {v : VF} : (∀ i, DeadV (v i)) -> (OkE x ks1 a) -> (OkE x ks2 b) -> Good x n c k (s3EE x n c k ks1 ks2 a b v)
 | g3ER {ks1 ks2 : Nat -> Int} {a b : Sd} {v : VF} : (∀ i, DeadV (v i)) -> (OkE x ks1 a) -> (OkR x ks2 b k) -> Good x n c k (s3ER x n c k ks1 ks2 a b v)
 | g3RE {ks1 ks2 : Nat -> Int} {a b : Sd} {v : VF} : (∀ i, DeadV (v i)) -> (OkR x ks1 a k) -> (OkE x ks2 b) -> Good x n c k (s3RE x n c k ks1 ks2 a b v)
 | g3RR {ks1 ks2 : Nat -> Int} {a b : Sd} {v : VF} : (∀ i, DeadV (v i)) -> (OkR x ks1 a k) -> (OkR x ks2 b k) -> Good x n c k (s3RR x n c k ks1 ks2 a b v)
 | g2EE {ks1 ks2 : Nat -> Int} {a b : Sd} {v : VF} : (∀ i, DeadV (v i)) -> (OkE x ks1 a) -> (OkE x ks1 b) -> Good x n c k (s2EE x n c k ks1 ks2 a b v)
 | g2ER {ks1 ks2 : Nat -> Int} {a b : Sd} {v : VF} : (∀ i, DeadV (v i)) -> (OkE x ks1 a) -> (OkR x ks1 b k) -> Good x n c k (s2ER x n c k ks1 ks2 a b v)
 | g2RE {ks1 ks2 : Nat -> Int} {a b : Sd} {v : VF} : (∀ i, DeadV (v i)) -> (OkR x ks1 a k) -> (OkE x ks1 b) -> Good x n c k (s2RE x n c k ks1 ks2 a b v)
 | g2RR {ks1 ks2 : Nat -> Int} {a b : Sd} {v : VF} : (∀ i, DeadV (v i)) -> (OkR x ks1 a k) -> (OkR x ks1 b k) -> Good x n c k (s2RR x n c k ks1 ks2 a b v)
structure Hy (x : Acts) (n k : Nat) (v : VF) : Prop where
 hv : ∀ i, DeadV (v i)
 hr : Rows x n
 hk : k < n
 hn : n <= 15
def RD (x0 : Acts) (k1 k2 : Nat -> Int) (n c k : Nat) (s : St) : Prop := StepG Try.prog none (s00 x0 k1 k2 n c) lb s fun e t => e = .normal /\ ∃ y, Rows y n /\ Good y n c (k + 1) t
def TO (x0 : Acts) (k1 k2 : Nat -> Int) (n c : Nat) (s t : St) : Prop := StepG Try.prog none (s00 x0 k1 k2 n c) lb s fun e t' => e = .normal /\ t' = t
theorem stp {K : Given} (hK : GivenOk Try.prog K) {x0 : Acts} {k1 k2 : Nat -> Int} {n c : Nat} {s s2 : St} {o : List (Option Bool)} {B : Nat -> Bool} {σ : List Nat} {n1 : Nat} {p : Prop} {g : Nat -> Option Ob} (hr : gE K s o B s2 σ n1 p) (hp : p) (hd : deadT B 0 s2.tmps) (hR : Go.Cln.RowsIn g) (hh : s2.heap = Tr.rebuild g s2.next) (hk : picOkT B (s00 x0 k1 k2 n c) s2 σ = true) (hn : 2 <= s.next) : TO x0 k1 k2 n c s s2 :=
 StepG.stdT pg hK hr hp hn hd hR hh hk
theorem alF_eq {x : Acts} {s : Sd} {k : Nat} (h : (al x s).length = s.n) : alF x s k = al x s ++ rw0 x k := by
 unfold alF
 rw [List.drop_zero, List.take_of_length_le (by omega)]
theorem layI_nil (l : List Int) (o : Nat) : layI l o [] = l := by
 unfold layI
 simp
theorem al0_nil {x : Acts} {s : Sd} (h : s.n = 0) : al0 x s = [] := by
 unfold al0 al
 rw [h]; rfl
theorem alG_eq {x : Acts} {s : Sd} {k : Nat} (h : s.n = 0) : alG x s k = rw0 x k := by
 unfold alG
 rw [al0_nil h]; simp
theorem alH_eq {x : Acts} {s : Sd} {k : Nat} (h : x.m (ix k) = 0) : alH x s k = al x s ++ rw1 x k := by
 unfold alH
 rw [rw0_nil h, rw1_nil h, layI_nil, List.append_nil]
theorem stepR {x : Acts} {ks : Nat -> Int} {s : Sd} {K P d A c r N : Nat} {L A' M : List Int} {X : Nat -> Int} (hkey : OkKy s.key) (hm : OkM (keyL s.key) ⟨ks, s.f1, s.f2, X, L, r⟩ M) (hAM : A' = M) (hM : M.length = N) (k2 : Keeps (x.put P L).F ((x.put P L).put A A').F) (h0 : 0 < N) (hK : N <= 40 * K) (hd : r <= d) (hc : N <= c) :
  OkR ((x.put P L).put A A') ks ⟨s.key, s.f1, s.f2, X, P, r, d, A, N, c⟩ K := by
 have hl : L.length = r := hm.a.symm
 have e1 : wd ((x.put P L).D P) 0 r = L := by rw [put_at]; exact wd_all hl
 refine newR hkey hm hM ?_ ?_ h0 hK hd hc
 ·have := Acts.keep k2 (B := P) (n := r) (by have h := congrArg List.length e1; unfold wd at h; rw [h]; exact hl)
  exact this.trans e1
 ·rw [put_at, hAM]; exact wd_all hM
theorem copyR {x : Acts} {ks : Nat -> Int} {s : Sd} {K P d : Nat} (h : OkR x ks s K) (k1 : Keeps x.F (x.put P (wd (x.D s.P) 0 s.r)).F) (hd : 0 + s.r <= d) : OkR (x.put P (wd (x.D s.P) 0 s.r)) ks ⟨s.key, s.f1, s.f2, s.x, P, 0 + s.r, d, s.A, s.n, s.c⟩ (K + 1) := by
 have hf := h.few
 refine newR (L := wd (x.D s.P) 0 s.r) h.key (by rw [Nat.zero_add]; exact h.ok) h.len ?_ (Acts.keep k1 h.len) h.pos (by omega) hd h.cap
 rw [put_at]
 exact wd_all (by rw [Nat.zero_add]; exact h.lenL)
theorem StepG.ran {P : Program} (G : PG P) {K : Given} (hK : GivenOk P K) {n : Nat} {f : FuncId} {rd : Option Nat} {s0 s : St} {c : Code} {e : Exit} {p : Prop} {o : List (Option Bool)} {d : List Nat} {t : Nat} {b : Bool}
  (hr : ((mk P K n).code f rd c { s with obl := True, orc := o }).map (fun r => (r.1, r.2.obl, r.2.defers, getL r.2.tmps t)) = some (e, p, d, .bool b)) (hp : p) (hn : s0.next <= s.next) : StepG P rd s0 c s (fun e' s' => e' = e /\ s'.defers = d /\ s'.tmps.getD t undef = .bool b) := by
 cases hc : (mk P K n).code f rd c { s with obl := True, orc := o } with
 | none => rw [hc] at hr; simp at hr
 | some r =>
  obtain ⟨e1, s1⟩ := r
  rw [hc] at hr
  simp only [Option.map_some, Option.some.injEq, Prod.mk.injEq] at hr
  obtain ⟨rfl, h2, h3, h4⟩ := hr
  have l1 : Like s { s with obl := True, orc := o } := ⟨rfl, rfl, rfl, rfl, rfl⟩
  have h := (mk_ok G hK n).okCode hc
  intro m ρ0 w0 w a R g1 g2 ⟨ρ, r, t⟩ g4
  have := h (by rw [h2]; exact hp) m ρ w a R (fun l hl => Nat.lt_of_lt_of_le (g1 l hl) hn) (r.like l1 rfl rfl) fun ρ' w' a' r' t' => g4 _ s1 w' a' ⟨rfl, h3, by rw [← getL_eq]; exact h4⟩ ⟨ρ', r', t.trans (l1.thenTra t')⟩
  rwa [fenceOf_ext g1 t.ext] at this
theorem cw1R {x : Acts} {n k : Nat} {v : VF} {tw : Bool} {ks : Nat -> Int} {s : Sd} {C : Prop} (H : Hy x n k v) (htw : x.tw (ix k) = tw) (hw : x.wh (ix k) = 0) (h40 : x.m (ix k) <= 40) (h0 : x.m (ix k) ≠ 0) (hs : OkR x ks s k) (hC : C) : q_w1R VT0 x n k tw s C := by
 have hd := hdOk H.hk htw
 have hk := H.hk
 have hn := H.hn
 have hq := q1_ok H.hr hk
 have hl := rw0_len H.hr hk
 have hW : (rw0 x k).length = 0 + x.m (ix k) := by omega
 have hr2 := hs.r
 have hp := hs.pos
 have hf := hs.few
 have hal : (al x s).length = s.n := hs.len
 have hqa := qA_ok hs.len
 exact ⟨⟨⟨⟨⟨⟨⟨⟨⟨⟨⟨hd, beq_t hw⟩, (by first | omega | (simp only [nI, decide_eq_true_eq, decide_eq_false_iff_not, mostBytes, List.length_nil]; omega))⟩, (by first | omega | (simp only [nI, decide_eq_true_eq, decide_eq_false_iff_not, mostBytes, List.length_nil]; omega))⟩, ⟨hq, Nat.le_refl _, (by first | omega | (simp only [nI, decide_eq_true_eq, decide_eq_false_iff_not, mostBytes, List.length_nil]; omega)), (by first | omega | (simp only [nI, decide_eq_true_eq, decide_eq_false_iff_not, mostBytes, List.length_nil]; omega))⟩⟩, ⟨rfl, rfl, by omega, by omega, by omega, hW, hs.lenL, by omega⟩⟩, hC⟩, (by first | omega | (simp only [nI, decide_eq_true_eq, decide_eq_false_iff_not, mostBytes, List.length_nil]; omega))⟩, ⟨hqa, Nat.le_refl _, (by first | omega | (simp only [nI, decide_eq_true_eq, decide_eq_false_iff_not, mostBytes, List.length_nil]; omega)), (by first | omega | (simp only [nI, decide_eq_true_eq, decide_eq_false_iff_not, mostBytes, List.length_nil]; omega))⟩⟩, (by first | omega | (simp only [nI, decide_eq_true_eq, decide_eq_false_iff_not, mostBytes, List.length_nil]; omega))⟩, ⟨hq, by rw [hal]; omega, (by first | omega | (simp only [nI, decide_eq_true_eq, decide_eq_false_iff_not, mostBytes, List.length_nil]; omega)), (by first | omega | (simp only [nI, decide_eq_true_eq, decide_eq_false_iff_not, mostBytes, List.length_nil]; omega))⟩⟩, fkOk hk hn⟩
theorem cw0R {x : Acts} {n k : Nat} {v : VF} {tw : Bool} {ks : Nat -> Int} {s : Sd} {C : Prop} (H : Hy x n k v) (htw : x.tw (ix k) = tw) (hw : x.wh (ix k) = 0) (h40 : x.m (ix k) <= 40) (h0 : x.m (ix k) = 0) (hs : OkR x ks s k) (hC : C) : q_w0R VT0 x n k tw s C := by
 have hd := hdOk H.hk htw
 have hk := H.hk
 have hn := H.hn
 have hq := q1_ok H.hr hk
 have hl := rw0_len H.hr hk
 have hW : (rw1 x k).length = 0 + x.m (ix k) := by rw [rw1_nil h0, h0]; rfl
 have hr2 := hs.r
 have hp := hs.pos
 have hf := hs.few
 have hal : (al x s).length = s.n := hs.len
 have hqa := qA_ok hs.len
 exact ⟨⟨⟨⟨⟨⟨⟨⟨⟨⟨⟨hd, beq_t hw⟩, (by first | omega | (simp only [nI, decide_eq_true_eq, decide_eq_false_iff_not, mostBytes, List.length_nil]; omega))⟩, (by first | omega | (simp only [nI, decide_eq_true_eq, decide_eq_false_iff_not, mostBytes, List.length_nil]; omega))⟩, ⟨hq, (by first | omega | (simp only [nI, decide_eq_true_eq, decide_eq_false_iff_not, mostBytes, List.length_nil]; omega))⟩⟩, ⟨rfl, rfl, by omega, by omega, by omega, hW, hs.lenL, by omega⟩⟩, hC⟩, (by first | omega | (simp only [nI, decide_eq_true_eq, decide_eq_false_iff_not, mostBytes, List.length_nil]; omega))⟩, ⟨hqa, Nat.le_refl _, (by first | omega | (simp only [nI, decide_eq_true_eq, decide_eq_false_iff_not, mostBytes, List.length_nil]; omega)), (by first | omega | (simp only [nI, decide_eq_true_eq, decide_eq_false_iff_not, mostBytes, List.length_nil]; omega))⟩⟩, (by first | omega | (simp only [nI, decide_eq_true_eq, decide_eq_false_iff_not, mostBytes, List.length_nil]; omega))⟩, ⟨hq, by rw [hal]; omega⟩⟩, fkOk hk hn⟩
theorem cw1E {x : Acts} {n k : Nat} {v : VF} {tw : Bool} {ks : Nat -> Int} {s : Sd} {C : Prop} (H : Hy x n k v) (htw : x.tw (ix k) = tw) (hw : x.wh (ix k) = 0) (h40 : x.m (ix k) <= 40) (h0 : x.m (ix k) ≠ 0) (hs : OkE x ks s) (hC : C) : q_w1E VT0 x n k tw s C := by
 have hd := hdOk H.hk htw
 have hk := H.hk
 have hn := H.hn
 have hq := q1_ok H.hr hk
 have hl := rw0_len H.hr hk
 have hW : (rw0 x k).length = 0 + x.m (ix k) := by omega
 have hz := hs.zero
 exact ⟨⟨⟨⟨⟨⟨⟨⟨⟨⟨⟨hd, beq_t hw⟩, (by first | omega | (simp only [nI, decide_eq_true_eq, decide_eq_false_iff_not, mostBytes, List.length_nil]; omega))⟩, (by first | omega | (simp only [nI, decide_eq_true_eq, decide_eq_false_iff_not, mostBytes, List.length_nil]; omega))⟩, ⟨hq, Nat.le_refl _, (by first | omega | (simp only [nI, decide_eq_true_eq, decide_eq_false_iff_not, mostBytes, List.length_nil]; omega)), (by first | omega | (simp only [nI, decide_eq_true_eq, decide_eq_false_iff_not, mostBytes, List.length_nil]; omega))⟩⟩, ⟨rfl, by omega, by omega, hW, Nat.le_refl _⟩⟩, hC⟩, (by first | omega | (simp only [nI, decide_eq_true_eq, decide_eq_false_iff_not, mostBytes, List.length_nil]; omega))⟩, ⟨.inl hz, (by first | omega | (simp only [nI, decide_eq_true_eq, decide_eq_false_iff_not, mostBytes, List.length_nil]; omega))⟩⟩, (by first | omega | (simp only [nI, decide_eq_true_eq, decide_eq_false_iff_not, mostBytes, List.length_nil]; omega))⟩, ⟨hq, by omega, (by first | omega | (simp only [nI, decide_eq_true_eq, decide_eq_false_iff_not, mostBytes, List.length_nil]; omega)), (by first | omega | (simp only [nI, decide_eq_true_eq, decide_eq_false_iff_not, mostBytes, List.length_nil]; omega))⟩⟩, fkOk hk hn⟩
theorem cw0E {x : Acts} {n k : Nat} {v : VF} {tw : Bool} {ks : Nat -> Int} {s : Sd} {C : Prop} (H : Hy x n k v) (htw : x.tw (ix k) = tw) (hw : x.wh (ix k) = 0) (h40 : x.m (ix k) <= 40) (h0 : x.m (ix k) = 0) (hs : OkE x ks s) (hC : C) : q_w0E VT0 x n k tw s C := by
 have hd := hdOk H.hk htw
 have hk := H.hk
 have hn := H.hn
 have hq := q1_ok H.hr hk
 have hl := rw0_len H.hr hk
 have hW : (rw1 x k).length = 0 + x.m (ix k) := by rw [rw1_nil h0, h0]; rfl
 have hz := hs.zero
 exact ⟨⟨⟨⟨⟨⟨⟨⟨⟨⟨⟨hd, beq_t hw⟩, (by first | omega | (simp only [nI, decide_eq_true_eq, decide_eq_false_iff_not, mostBytes, List.length_nil]; omega))⟩, (by first | omega | (simp only [nI, decide_eq_true_eq, decide_eq_false_iff_not, mostBytes, List.length_nil]; omega))⟩, ⟨hq, (by first | omega | (simp only [nI, decide_eq_true_eq, decide_eq_false_iff_not, mostBytes, List.length_nil]; omega))⟩⟩, (by first | omega | (simp only [nI, decide_eq_true_eq, decide_eq_false_iff_not, mostBytes, List.length_nil]; omega))⟩, hC⟩, (by first | omega | (simp only [nI, decide_eq_true_eq, decide_eq_false_iff_not, mostBytes, List.length_nil]; omega))⟩, ⟨.inl hz, (by first | omega | (simp only [nI, decide_eq_true_eq, decide_eq_false_iff_not, mostBytes, List.length_nil]; omega))⟩⟩, (by first | omega | (simp only [nI, decide_eq_true_eq, decide_eq_false_iff_not, mostBytes, List.length_nil]; omega))⟩, ⟨hq, by omega⟩⟩, fkOk hk hn⟩
theorem goT {x0 x : Acts} {k1 k2 : Nat -> Int} {n c k : Nat} {v : VF} {s t : St} (st : TO x0 k1 k2 n c s t) (H : Hy x n k v) (g : Keeps x.F x.F -> Good x n c (k + 1) t) : RD x0 k1 k2 n c k s :=
 StepG.mono st (by rintro e t ⟨rfl, rfl⟩; exact ⟨rfl, x, H.hr, g (Keeps.refl _)⟩)
theorem neg0 {x : Acts} {k : Nat} (h0 : x.m (ix k) = 0) : decide ((0 : Int) < nI (0 + mm x k)) = false := by
 unfold mm
 simp only [nI, decide_eq_false_iff_not]; omega
theorem lpJ {H : HF} (hH : HFok H) (h1 : runJ H) (h2 : runJX H) (h3 : okJ H) {x : Acts} {n c k : Nat} {ks1 ks2 : Nat -> Int} {a b : Sd} {v : VF} {kk : Int} {L : List Int} (Y : Hy x n k v) (h40 : x.m (ix k) <= 40) (h0 : x.m (ix k) ≠ 0) : jC H x n c k ks1 ks2 a b v kk L :=
 fun rd => loopJ hH h1 h2 h3 x n c k ks1 ks2 a b (Vpre v) kk (rw0 x k) L (x.m (ix k)) rfl (by omega) (by omega) (rw0_len Y.hr Y.hk) (Vpre_dead Y.hv) rd
theorem qcR {x : Acts} {n k : Nat} {v : VF} {tw : Bool} {ks : Nat -> Int} {s : Sd} (H : Hy x n k v) (htw : x.tw (ix k) = tw) (hw : x.wh (ix k) ≠ 0) (hw1 : x.wh (ix k) ≠ 1) (hs : OkR x ks s k) : q_cR x n k tw s := ⟨⟨⟨⟨hdOk H.hk htw, beq_f hw⟩, beq_f hw1⟩, rfl, hs.lenL, hs.r.1, by have := hs.r; omega, hs.room⟩, fkOk H.hk H.hn⟩
theorem qcE {x : Acts} {n k : Nat} {v : VF} {tw : Bool} (H : Hy x n k v) (htw : x.tw (ix k) = tw) (hw : x.wh (ix k) ≠ 0) (hw1 : x.wh (ix k) ≠ 1) : q_cE x n k tw := ⟨⟨⟨hdOk H.hk htw, beq_f hw⟩, beq_f hw1⟩, fkOk H.hk H.hn⟩
theorem akR {x : Acts} {ks : Nat -> Int} {s : Sd} {K : Nat} {f : Nat -> Int} (hf : f = intAt (R16 s.key)) (hs : OkR x ks s K) (hK : K <= 15) : askK tagF x f s := by
 subst hf
 exact ⟨rfl, rfl, okKy16 hs.key, hs.len, by have := hs.few; omega, hs.cap⟩
theorem akE {x : Acts} {ks : Nat -> Int} {s : Sd} {f : Nat -> Int} (hf : f = intAt (R16 s.key)) (hs : OkE x ks s) : askK tagF x f s := by
 subst hf
 exact ⟨rfl, rfl, okKy16 hs.key, by rw [hs.zero]; rfl, by rw [hs.zero]; omega, by rw [hs.zero]; exact Nat.zero_le _⟩
theorem tgR {x : Acts} {ks : Nat -> Int} {s : Sd} {K : Nat} {f : Nat -> Int} (hf : f = intAt (R16 s.key)) (hs : OkR x ks s K) : ∀ j, j < 16 -> tgS VT0 ks s (x.D s.P) s.r j = tagF (keyL f) (wd (x.D s.A) 0 s.n) j := by
 subst hf
 rw [keyL16]; exact hs.tag
theorem tgE {x : Acts} {ks : Nat -> Int} {s : Sd} {f : Nat -> Int} (hf : f = intAt (R16 s.key)) (hs : OkE x ks s) : ∀ j, j < 16 -> tgS VT0 ks s [] 0 j = tagF (keyL f) (wd (x.D s.A) 0 s.n) j := by
 subst hf
 rw [keyL16]; exact hs.tag
theorem qtR {x : Acts} {n k : Nat} {v : VF} {tw : Bool} {ks : Nat -> Int} {s : Sd} {f : Nat -> Int} (hf : f = intAt (R16 s.key)) (H : Hy x n k v) (htw : x.tw (ix k) = tw) (hw : x.wh (ix k) ≠ 0) (hw1 : x.wh (ix k) = 1) (hs : OkR x ks s k) : q_tR tagF VT0 x n k tw ks s f :=
 ⟨e16 ⟨⟨⟨⟨hdOk H.hk htw, beq_f hw⟩, beq_t hw1⟩, ⟨rfl, rfl, hs.r.2, wd_len0 hs.lenL⟩⟩, akR hf hs (by have := H.hk; have := H.hn; omega)⟩ (tgR hf hs), fkOk H.hk H.hn⟩
theorem qtE {x : Acts} {n k : Nat} {v : VF} {tw : Bool} {ks : Nat -> Int} {s : Sd} {f : Nat -> Int} (hf : f = intAt (R16 s.key)) (H : Hy x n k v) (htw : x.tw (ix k) = tw) (hw : x.wh (ix k) ≠ 0) (hw1 : x.wh (ix k) = 1) (hs : OkE x ks s) : q_tE tagF VT0 x n k tw ks s f :=
 ⟨e16 ⟨⟨⟨⟨hdOk H.hk htw, beq_f hw⟩, beq_t hw1⟩, rfl⟩, akE hf hs⟩ (tgE hf hs), fkOk H.hk H.hn⟩
theorem neww1R {x : Acts} {n k : Nat} {v : VF} {ks : Nat -> Int} {s : Sd} {P d Q c2 : Nat} (H : Hy x n k v) (hs : (OkR x ks s k)) (h40 : x.m (ix k) <= 40) (h0 : x.m (ix k) ≠ 0) (h1 : (wR VT0 ks x s (rw0 x k) k).r <= d) (h3 : NN x s k <= c2) (h4 : Keeps (x.put P (LR VT0 x s (rw0 x k) k)).F ((x.put P (LR VT0 x s (rw0 x k) k)).put Q (alF x s k)).F) :
  OkR ((x.put P (LR VT0 x s (rw0 x k) k)).put Q (alF x s k)) ks ⟨s.key, s.f1, s.f2, (wR VT0 ks x s (rw0 x k) k).x, P, (wR VT0 ks x s (rw0 x k) k).r, d, Q, NN x s k, c2⟩ (k + 1) := by
 have hl := rw0_len H.hr H.hk
 have e : NN x s k = 0 + s.n + x.m (ix k) := rfl
 have hf := hs.few
 have hps := hs.pos
 have hal : (al x s).length = s.n := hs.len
 exact stepR (s := s) hs.key (hs.ok.putR (w := (rw0 x k)) (n := 0 + x.m (ix k)) (by rw [hs.len]; exact hs.pos) (by omega)) (alF_eq hal) (by rw [List.length_append, hs.len, hl]; omega) h4 (by omega) (by omega) h1 h3
theorem neww1E {x : Acts} {n k : Nat} {v : VF} {ks : Nat -> Int} {s : Sd} {P d Q c2 : Nat} (H : Hy x n k v) (hs : (OkE x ks s)) (h40 : x.m (ix k) <= 40) (h0 : x.m (ix k) ≠ 0) (h1 : (wE VT0 ks x s (rw0 x k) k).r <= d) (h3 : NN x s k <= c2) (h4 : Keeps (x.put P (LE VT0 x (rw0 x k) k)).F ((x.put P (LE VT0 x (rw0 x k) k)).put Q (alG x s k)).F) :
  OkR ((x.put P (LE VT0 x (rw0 x k) k)).put Q (alG x s k)) ks ⟨s.key, s.f1, s.f2, (wE VT0 ks x s (rw0 x k) k).x, P, (wE VT0 ks x s (rw0 x k) k).r, d, Q, NN x s k, c2⟩ (k + 1) := by
 have hl := rw0_len H.hr H.hk
 have e : NN x s k = 0 + s.n + x.m (ix k) := rfl
 have hz := hs.zero
 exact stepR (s := s) hs.key (hs.ok.putE (w := (rw0 x k)) (n := 0 + x.m (ix k)) (by omega) (by omega)) (alG_eq hz) (by rw [hl]; omega) h4 (by omega) (by omega) h1 h3
theorem neww0R {x : Acts} {n k : Nat} {v : VF} {ks : Nat -> Int} {s : Sd} {P d Q c2 : Nat} (H : Hy x n k v) (hs : (OkR x ks s k)) (h40 : x.m (ix k) <= 40) (h0 : x.m (ix k) = 0) (h1 : (wR VT0 ks x s (rw1 x k) k).r <= d) (h3 : NN x s k <= c2) (h4 : Keeps (x.put P (LR VT0 x s (rw1 x k) k)).F ((x.put P (LR VT0 x s (rw1 x k) k)).put Q (alH x s k)).F) :
  OkR ((x.put P (LR VT0 x s (rw1 x k) k)).put Q (alH x s k)) ks ⟨s.key, s.f1, s.f2, (wR VT0 ks x s (rw1 x k) k).x, P, (wR VT0 ks x s (rw1 x k) k).r, d, Q, NN x s k, c2⟩ (k + 1) := by
 have hl := rw0_len H.hr H.hk
 have e : NN x s k = 0 + s.n + x.m (ix k) := rfl
 have hf := hs.few
 have hps := hs.pos
 have hal : (al x s).length = s.n := hs.len
 exact stepR (s := s) hs.key (hs.ok.putR (w := (rw1 x k)) (n := 0 + x.m (ix k)) (by rw [hs.len]; exact hs.pos) (by rw [rw1_nil h0, h0]; rfl)) (alH_eq h0) (by rw [List.length_append, hs.len, rw1_nil h0, e, h0]; simp) h4 (by omega) (by omega) h1 h3
theorem goAw1R {x0 x : Acts} {k1 k2 : Nat -> Int} {n c q k : Nat} {ks1 ks2 : Nat -> Int} {a b : Sd} {v v2 : VF} {s : St} {lo : Value} {ks : Nat -> Int} (st : TO x0 k1 k2 n c s (tA x n c q k ks1 ks2 b (wR VT0 ks x a (rw0 x k) k) lo (NN x a k) (NN x a k) (LR VT0 x a (rw0 x k) k) (alF x a k) v2)) (H : Hy x n k v) (hs : (OkR x ks a k)) (h40 : x.m (ix k) <= 40) (h0 : x.m (ix k) ≠ 0) (g : ∀ y z, Keeps x.F y.F -> (OkR y ks z (k + 1)) -> Good y n c (k + 1) (sG y n c q (k + 1) ks1 ks2 z b (PSa z) lo (PAl z) (PAl b) none none v2)) : RD x0 k1 k2 n c k s := by
 refine StepG.turn st fun e s1 ρ0 w0 w act hq hs0 hp => ?_
 obtain ⟨rfl, rfl⟩ := hq
 obtain ⟨P, d, h1, h2, hp⟩ := takeL0 rfl hp
 obtain ⟨Q, c2, h3, h4, hp⟩ := takeA0 rfl hp
 exact ⟨_, ⟨rfl, _, (H.hr.put h2).put h4, g _ _ (h2.trans h4) (neww1R H hs h40 h0 h1 h3 h4)⟩, hp⟩
theorem goAw1E {x0 x : Acts} {k1 k2 : Nat -> Int} {n c q k : Nat} {ks1 ks2 : Nat -> Int} {a b : Sd} {v v2 : VF} {s : St} {lo : Value} {ks : Nat -> Int} (st : TO x0 k1 k2 n c s (tA x n c q k ks1 ks2 b (wE VT0 ks x a (rw0 x k) k) lo (NN x a k) (NN x a k) (LE VT0 x (rw0 x k) k) (alG x a k) v2)) (H : Hy x n k v) (hs : (OkE x ks a)) (h40 : x.m (ix k) <= 40) (h0 : x.m (ix k) ≠ 0) (g : ∀ y z, Keeps x.F y.F -> (OkR y ks z (k + 1)) -> Good y n c (k + 1) (sG y n c q (k + 1) ks1 ks2 z b (PSa z) lo (PAl z) (PAl b) none none v2)) : RD x0 k1 k2 n c k s := by
 refine StepG.turn st fun e s1 ρ0 w0 w act hq hs0 hp => ?_
 obtain ⟨rfl, rfl⟩ := hq
 obtain ⟨P, d, h1, h2, hp⟩ := takeL0 rfl hp
 obtain ⟨Q, c2, h3, h4, hp⟩ := takeA0 rfl hp
 exact ⟨_, ⟨rfl, _, (H.hr.put h2).put h4, g _ _ (h2.trans h4) (neww1E H hs h40 h0 h1 h3 h4)⟩, hp⟩
theorem goAw0R {x0 x : Acts} {k1 k2 : Nat -> Int} {n c q k : Nat} {ks1 ks2 : Nat -> Int} {a b : Sd} {v v2 : VF} {s : St} {lo : Value} {ks : Nat -> Int} (st : TO x0 k1 k2 n c s (tA x n c q k ks1 ks2 b (wR VT0 ks x a (rw1 x k) k) lo (NN x a k) (0 + a.n) (LR VT0 x a (rw1 x k) k) (alH x a k) v2)) (H : Hy x n k v) (hs : (OkR x ks a k)) (h40 : x.m (ix k) <= 40) (h0 : x.m (ix k) = 0) (g : ∀ y z, Keeps x.F y.F -> (OkR y ks z (k + 1)) -> Good y n c (k + 1) (sG y n c q (k + 1) ks1 ks2 z b (PSa z) lo (PAl z) (PAl b) none none v2)) : RD x0 k1 k2 n c k s := by
 refine StepG.turn st fun e s1 ρ0 w0 w act hq hs0 hp => ?_
 obtain ⟨rfl, rfl⟩ := hq
 obtain ⟨P, d, h1, h2, hp⟩ := takeL0 rfl hp
 obtain ⟨Q, c2, h3, h4, hp⟩ := takeA0 rfl hp
 exact ⟨_, ⟨rfl, _, (H.hr.put h2).put h4, g _ _ (h2.trans h4) (neww0R H hs h40 h0 h1 h3 h4)⟩, hp⟩
theorem goAw0E {x0 x : Acts} {k1 k2 : Nat -> Int} {n c q k : Nat} {ks1 ks2 : Nat -> Int} {a b : Sd} {v v2 : VF} {s : St} {lo : Value} {ks : Nat -> Int} (st : TO x0 k1 k2 n c s (tA0 x n c q k ks1 ks2 a b lo (NN x a k) (alI x a k) v2)) (H : Hy x n k v) (hs : (OkE x ks a)) (h40 : x.m (ix k) <= 40) (h0 : x.m (ix k) = 0) (g : ∀ y z, Keeps x.F y.F -> (OkE y ks z) -> Good y n c (k + 1) (sG y n c q (k + 1) ks1 ks2 z b nul lo (PAl z) (PAl b) none none v2)) : RD x0 k1 k2 n c k s := by
 refine StepG.turn st fun e s1 ρ0 w0 w act hq hs0 hp => ?_
 obtain ⟨rfl, rfl⟩ := hq
 obtain ⟨Q, c2, h3, h4, hp⟩ := takeA0 rfl hp
 exact ⟨_, ⟨rfl, _, H.hr.put h4, g _ ⟨a.key, a.f1, a.f2, a.x, a.P, a.r, a.d, Q, NN x a k, c2⟩ h4 ⟨hs.key, hs.ok, by show 0 + a.n + x.m (ix k) = 0; rw [hs.zero, h0]⟩⟩, hp⟩
theorem goAc {x0 x : Acts} {k1 k2 : Nat -> Int} {n c k : Nat} {ks1 ks2 : Nat -> Int} {z : Sd} {v v2 : VF} {s : St} (st : TO x0 k1 k2 n c s (tCA x n c k ks1 ks2 z v2)) (H : Hy x n k v) (hd : ∀ i, DeadV (v2 i)) (hs : OkR x ks1 z k) : RD x0 k1 k2 n c k s := by
 refine StepG.turn st fun e s1 ρ0 w0 w act hq hs0 hp => ?_
 obtain ⟨rfl, rfl⟩ := hq
 obtain ⟨P, d, h1, h2, hp⟩ := takeL0 rfl hp
 exact ⟨_, ⟨rfl, _, H.hr.put h2, Good.g2RR (ks2 := ks2) hd (copyR hs h2 h1) (hs.keep h2 (Nat.le_succ k))⟩, hp⟩
theorem goBw1R {x0 x : Acts} {k1 k2 : Nat -> Int} {n c q k : Nat} {ks1 ks2 : Nat -> Int} {a b : Sd} {v v2 : VF} {s : St} {lo : Value} {ks : Nat -> Int} (st : TO x0 k1 k2 n c s (tB x n c q k ks1 ks2 a (wR VT0 ks x b (rw0 x k) k) lo (NN x b k) (NN x b k) (LR VT0 x b (rw0 x k) k) (alF x b k) v2)) (H : Hy x n k v) (hs : (OkR x ks b k)) (h40 : x.m (ix k) <= 40) (h0 : x.m (ix k) ≠ 0) (g : ∀ y z, Keeps x.F y.F -> (OkR y ks z (k + 1)) -> Good y n c (k + 1) (sG y n c q (k + 1) ks1 ks2 a z lo (PSa z) (PAl a) (PAl z) none none v2)) : RD x0 k1 k2 n c k s := by
 refine StepG.turn st fun e s1 ρ0 w0 w act hq hs0 hp => ?_
 obtain ⟨rfl, rfl⟩ := hq
 obtain ⟨P, d, h1, h2, hp⟩ := takeL1 rfl hp
 obtain ⟨Q, c2, h3, h4, hp⟩ := takeA1 rfl hp
 exact ⟨_, ⟨rfl, _, (H.hr.put h2).put h4, g _ _ (h2.trans h4) (neww1R H hs h40 h0 h1 h3 h4)⟩, hp⟩
theorem goBw1E {x0 x : Acts} {k1 k2 : Nat -> Int} {n c q k : Nat} {ks1 ks2 : Nat -> Int} {a b : Sd} {v v2 : VF} {s : St} {lo : Value} {ks : Nat -> Int} (st : TO x0 k1 k2 n c s (tB x n c q k ks1 ks2 a (wE VT0 ks x b (rw0 x k) k) lo (NN x b k) (NN x b k) (LE VT0 x (rw0 x k) k) (alG x b k) v2)) (H : Hy x n k v) (hs : (OkE x ks b)) (h40 : x.m (ix k) <= 40) (h0 : x.m (ix k) ≠ 0) (g : ∀ y z, Keeps x.F y.F -> (OkR y ks z (k + 1)) -> Good y n c (k + 1) (sG y n c q (k + 1) ks1 ks2 a z lo (PSa z) (PAl a) (PAl z) none none v2)) : RD x0 k1 k2 n c k s := by
 refine StepG.turn st fun e s1 ρ0 w0 w act hq hs0 hp => ?_
 obtain ⟨rfl, rfl⟩ := hq
 obtain ⟨P, d, h1, h2, hp⟩ := takeL1 rfl hp
 obtain ⟨Q, c2, h3, h4, hp⟩ := takeA1 rfl hp
 exact ⟨_, ⟨rfl, _, (H.hr.put h2).put h4, g _ _ (h2.trans h4) (neww1E H hs h40 h0 h1 h3 h4)⟩, hp⟩
theorem goBw0R {x0 x : Acts} {k1 k2 : Nat -> Int} {n c q k : Nat} {ks1 ks2 : Nat -> Int} {a b : Sd} {v v2 : VF} {s : St} {lo : Value} {ks : Nat -> Int} (st : TO x0 k1 k2 n c s (tB x n c q k ks1 ks2 a (wR VT0 ks x b (rw1 x k) k) lo (NN x b k) (0 + b.n) (LR VT0 x b (rw1 x k) k) (alH x b k) v2)) (H : Hy x n k v) (hs : (OkR x ks b k)) (h40 : x.m (ix k) <= 40) (h0 : x.m (ix k) = 0) (g : ∀ y z, Keeps x.F y.F -> (OkR y ks z (k + 1)) -> Good y n c (k + 1) (sG y n c q (k + 1) ks1 ks2 a z lo (PSa z) (PAl a) (PAl z) none none v2)) : RD x0 k1 k2 n c k s := by
 refine StepG.turn st fun e s1 ρ0 w0 w act hq hs0 hp => ?_
 obtain ⟨rfl, rfl⟩ := hq
 obtain ⟨P, d, h1, h2, hp⟩ := takeL1 rfl hp
 obtain ⟨Q, c2, h3, h4, hp⟩ := takeA1 rfl hp
 exact ⟨_, ⟨rfl, _, (H.hr.put h2).put h4, g _ _ (h2.trans h4) (neww0R H hs h40 h0 h1 h3 h4)⟩, hp⟩
theorem goBw0E {x0 x : Acts} {k1 k2 : Nat -> Int} {n c q k : Nat} {ks1 ks2 : Nat -> Int} {a b : Sd} {v v2 : VF} {s : St} {lo : Value} {ks : Nat -> Int} (st : TO x0 k1 k2 n c s (tB0 x n c q k ks1 ks2 a b lo (NN x b k) (alI x b k) v2)) (H : Hy x n k v) (hs : (OkE x ks b)) (h40 : x.m (ix k) <= 40) (h0 : x.m (ix k) = 0) (g : ∀ y z, Keeps x.F y.F -> (OkE y ks z) -> Good y n c (k + 1) (sG y n c q (k + 1) ks1 ks2 a z lo nul (PAl a) (PAl z) none none v2)) : RD x0 k1 k2 n c k s := by
 refine StepG.turn st fun e s1 ρ0 w0 w act hq hs0 hp => ?_
 obtain ⟨rfl, rfl⟩ := hq
 obtain ⟨Q, c2, h3, h4, hp⟩ := takeA1 rfl hp
 exact ⟨_, ⟨rfl, _, H.hr.put h4, g _ ⟨b.key, b.f1, b.f2, b.x, b.P, b.r, b.d, Q, NN x b k, c2⟩ h4 ⟨hs.key, hs.ok, by show 0 + b.n + x.m (ix k) = 0; rw [hs.zero, h0]⟩⟩, hp⟩
theorem goBc {x0 x : Acts} {k1 k2 : Nat -> Int} {n c k : Nat} {ks1 ks2 : Nat -> Int} {z : Sd} {v v2 : VF} {s : St} (st : TO x0 k1 k2 n c s (tCB x n c k ks1 ks2 z v2)) (H : Hy x n k v) (hd : ∀ i, DeadV (v2 i)) (hs : OkR x ks1 z k) : RD x0 k1 k2 n c k s := by
 refine StepG.turn st fun e s1 ρ0 w0 w act hq hs0 hp => ?_
 obtain ⟨rfl, rfl⟩ := hq
 obtain ⟨P, d, h1, h2, hp⟩ := takeL1 rfl hp
 exact ⟨_, ⟨rfl, _, H.hr.put h2, Good.g2RR (ks2 := ks2) hd (hs.keep h2 (Nat.le_succ k)) (copyR hs h2 h1)⟩, hp⟩
theorem exX {x0 x : Acts} {k1 k2 : Nat -> Int} {n c : Nat} {s s2 : St} {g : Nat -> Option Ob} (hr : gX (KM tagF VT0 x.D) s s2 n n) (hd : deadT Bx 0 s2.tmps) (hR : Go.Cln.RowsIn g) (hh : s2.heap = Tr.rebuild g s2.next) (hk : picOkT Bx (s00 x0 k1 k2 n c) s2 i11 = true) (hn : 2 <= s.next) (hg : Good x n c n s2) : StepG Try.prog none (s00 x0 k1 k2 n c) lb s fun e t => e = .exit 0 /\ Good x n c n t :=
 (StepG.stdT pg (KM_ok tagF VT0 x.D) hr ⟨trivial, by simp only [nI, decide_eq_false_iff_not]; omega⟩ hn hd hR hh hk).mono (by rintro e t ⟨rfl, rfl⟩; exact ⟨rfl, hg⟩)
theorem big {x : Acts} {n k : Nat} {v : VF} {tw : Bool} (H : Hy x n k v) (htw : x.tw (ix k) = tw) (hw : x.wh (ix k) = 0) (h40 : 40 < x.m (ix k)) : q_b x n k tw := ⟨⟨⟨hdOk H.hk htw, beq_t hw⟩, by simp only [nI, decide_eq_true_eq]; omega⟩, trivial⟩
open ae ga pm pn
open gb (OkM OkKy keyL putR putE)
variable {x0 x : Acts} {k1 k2 : Nat -> Int} {n c k : Nat} {ks1 ks2 : Nat -> Int} {a b : Sd} {v : VF}
theorem g3EEt0 (H : Hy x n k v) (hA : (OkE x ks1 a)) (hB : (OkE x ks2 b)) (htw : x.tw (ix k) = false) (hw : x.wh (ix k) ≠ 0) (hw1 : x.wh (ix k) = 1) : RD x0 k1 k2 n c k (s3EE x n c k ks1 ks2 a b v) :=
 goT (stp (KM_ok _ _ x.D) (r3EEt0 tagF VT0 x n c k ks1 ks2 a b v) (qtE (ky0 a b) H htw hw hw1 hA) (tmM_dead (Vt_dead H.hv) lvt) (HG_ok (.inl rfl) (.inl rfl)) rfl (by kernel_rfl) (show 2 <= 11 by decide)) H fun u => .g3EE (Vt_dead H.hv) hA.keep hB.keep
theorem g3EEc0 (H : Hy x n k v) (hA : (OkE x ks1 a)) (hB : (OkE x ks2 b)) (htw : x.tw (ix k) = false) (hw : x.wh (ix k) ≠ 0) (hw1 : x.wh (ix k) ≠ 1) : RD x0 k1 k2 n c k (s3EE x n c k ks1 ks2 a b v) :=
 goT (stp (KM_ok _ _ x.D) (r3EEc0 tagF VT0 x n c k ks1 ks2 a b v) (qcE H htw hw hw1) (tmM_dead (Vc_dead H.hv) lvc) (HG_ok (.inl rfl) (.inl rfl)) rfl (by kernel_rfl) (show 2 <= 11 by decide)) H fun u => .g2EE (Vc_dead H.hv) hB.keep hB.keep
theorem g3EEw10 (H : Hy x n k v) (hA : (OkE x ks1 a)) (hB : (OkE x ks2 b)) (htw : x.tw (ix k) = false) (hw : x.wh (ix k) = 0) (h40 : x.m (ix k) <= 40) (h0 : x.m (ix k) ≠ 0) : RD x0 k1 k2 n c k (s3EE x n c k ks1 ks2 a b v) :=
 goAw1E (stp (KJ_ok _ _ x _) (r3EEw10 tagF VT0 x n c k ks1 ks2 a b v) (cw1E H htw hw h40 h0 hA (lpJ hJ03E jn03E jx03E jo03E H h40 h0)) (tmM_dead (Vw1_dead H.hv) lvw1) (HG_ok (.inr ⟨_, rfl⟩) (.inr ⟨_, rfl⟩)) rfl (by kernel_rfl) (show 2 <= 11 by decide)) H hA h40 h0 fun y z u h => .g3RE (Vw1_dead H.hv) h hB.keep
theorem g3EEw00 (H : Hy x n k v) (hA : (OkE x ks1 a)) (hB : (OkE x ks2 b)) (htw : x.tw (ix k) = false) (hw : x.wh (ix k) = 0) (h40 : x.m (ix k) <= 40) (h0 : x.m (ix k) = 0) : RD x0 k1 k2 n c k (s3EE x n c k ks1 ks2 a b v) :=
 goAw0E (stp (KM_ok _ _ x.D) (r3EEw00 tagF VT0 x n c k ks1 ks2 a b v) (cw0E H htw hw h40 h0 hA (neg0 h0)) (tmM_dead (Vw0_dead H.hv) lvw0) (HG_ok (.inl rfl) (.inr ⟨_, rfl⟩)) rfl (by kernel_rfl) (show 2 <= 11 by decide)) H hA h40 h0 fun y z u h => .g3EE (Vw0_dead H.hv) h hB.keep
theorem g3EEt1 (H : Hy x n k v) (hA : (OkE x ks1 a)) (hB : (OkE x ks2 b)) (htw : x.tw (ix k) = true) (hw : x.wh (ix k) ≠ 0) (hw1 : x.wh (ix k) = 1) : RD x0 k1 k2 n c k (s3EE x n c k ks1 ks2 a b v) :=
 goT (stp (KM_ok _ _ x.D) (r3EEt1 tagF VT0 x n c k ks1 ks2 a b v) (qtE (ky1 a b) H htw hw hw1 hB) (tmM_dead (Vt_dead H.hv) lvt) (HG_ok (.inl rfl) (.inl rfl)) rfl (by kernel_rfl) (show 2 <= 11 by decide)) H fun u => .g3EE (Vt_dead H.hv) hA.keep hB.keep
theorem g3EEc1 (H : Hy x n k v) (hA : (OkE x ks1 a)) (hB : (OkE x ks2 b)) (htw : x.tw (ix k) = true) (hw : x.wh (ix k) ≠ 0) (hw1 : x.wh (ix k) ≠ 1) : RD x0 k1 k2 n c k (s3EE x n c k ks1 ks2 a b v) :=
 goT (stp (KM_ok _ _ x.D) (r3EEc1 tagF VT0 x n c k ks1 ks2 a b v) (qcE H htw hw hw1) (tmM_dead (Vc_dead H.hv) lvc) (HG_ok (.inl rfl) (.inl rfl)) rfl (by kernel_rfl) (show 2 <= 11 by decide)) H fun u => .g2EE (Vc_dead H.hv) hA.keep hA.keep
theorem g3EEw11 (H : Hy x n k v) (hA : (OkE x ks1 a)) (hB : (OkE x ks2 b)) (htw : x.tw (ix k) = true) (hw : x.wh (ix k) = 0) (h40 : x.m (ix k) <= 40) (h0 : x.m (ix k) ≠ 0) : RD x0 k1 k2 n c k (s3EE x n c k ks1 ks2 a b v) :=
 goBw1E (stp (KJ_ok _ _ x _) (r3EEw11 tagF VT0 x n c k ks1 ks2 a b v) (cw1E H htw hw h40 h0 hB (lpJ hJ13E jn13E jx13E jo13E H h40 h0)) (tmM_dead (Vw1_dead H.hv) lvw1) (HG_ok (.inr ⟨_, rfl⟩) (.inr ⟨_, rfl⟩)) rfl (by kernel_rfl) (show 2 <= 11 by decide)) H hB h40 h0 fun y z u h => .g3ER (Vw1_dead H.hv) hA.keep h
theorem g3EEw01 (H : Hy x n k v) (hA : (OkE x ks1 a)) (hB : (OkE x ks2 b)) (htw : x.tw (ix k) = true) (hw : x.wh (ix k) = 0) (h40 : x.m (ix k) <= 40) (h0 : x.m (ix k) = 0) : RD x0 k1 k2 n c k (s3EE x n c k ks1 ks2 a b v) :=
 goBw0E (stp (KM_ok _ _ x.D) (r3EEw01 tagF VT0 x n c k ks1 ks2 a b v) (cw0E H htw hw h40 h0 hB (neg0 h0)) (tmM_dead (Vw0_dead H.hv) lvw0) (HG_ok (.inl rfl) (.inr ⟨_, rfl⟩)) rfl (by kernel_rfl) (show 2 <= 11 by decide)) H hB h40 h0 fun y z u h => .g3EE (Vw0_dead H.hv) hA.keep h
theorem gx3EE (hv : ∀ i, DeadV (v i)) (hA : (OkE x ks1 a)) (hB : (OkE x ks2 b)) : StepG Try.prog none (s00 x0 k1 k2 n c) lb (s3EE x n c n ks1 ks2 a b v) fun e t => e = .exit 0 /\ Good x n c n t :=
 exX (rx3EE tagF VT0 x n c n ks1 ks2 a b v) (tmM_dead (Vx_dead hv) lvx) (HG_ok (.inl rfl) (.inl rfl)) rfl (by kernel_rfl) (show 2 <= 11 by decide) (.g3EE (Vx_dead hv) hA hB)
theorem gb3EE0 (H : Hy x n k v) (htw : x.tw (ix k) = false) (hw : x.wh (ix k) = 0) (h40 : 40 < x.m (ix k)) : StepG Try.prog none (s00 x0 k1 k2 n c) lb (s3EE x n c k ks1 ks2 a b v) fun e t => e = .ret /\ t.defers = [] /\ t.tmps.getD 6 undef = .bool true := StepG.ran pg (KM_ok tagF VT0 x.D) (rb3EE0 tagF VT0 x n c k ks1 ks2 a b v) (big H htw hw h40) (show 2 <= 11 by decide)
theorem gb3EE1 (H : Hy x n k v) (htw : x.tw (ix k) = true) (hw : x.wh (ix k) = 0) (h40 : 40 < x.m (ix k)) : StepG Try.prog none (s00 x0 k1 k2 n c) lb (s3EE x n c k ks1 ks2 a b v) fun e t => e = .ret /\ t.defers = [] /\ t.tmps.getD 6 undef = .bool true := StepG.ran pg (KM_ok tagF VT0 x.D) (rb3EE1 tagF VT0 x n c k ks1 ks2 a b v) (big H htw hw h40) (show 2 <= 11 by decide)
open ae ga pm pn
open gb (OkM OkKy keyL putR putE)
variable {x0 x : Acts} {k1 k2 : Nat -> Int} {n c k : Nat} {ks1 ks2 : Nat -> Int} {a b : Sd} {v : VF}
theorem g3ERt0 (H : Hy x n k v) (hA : (OkE x ks1 a)) (hB : (OkR x ks2 b k)) (htw : x.tw (ix k) = false) (hw : x.wh (ix k) ≠ 0) (hw1 : x.wh (ix k) = 1) : RD x0 k1 k2 n c k (s3ER x n c k ks1 ks2 a b v) :=
 goT (stp (KM_ok _ _ x.D) (r3ERt0 tagF VT0 x n c k ks1 ks2 a b v) (qtE (ky0 a b) H htw hw hw1 hA) (tmM_dead (Vt_dead H.hv) lvt) (HG_ok (.inl rfl) (.inl rfl)) rfl (by kernel_rfl) (show 2 <= 11 by decide)) H fun u => .g3ER (Vt_dead H.hv) hA.keep (hB.keep u (Nat.le_succ k))
theorem g3ERc0 (H : Hy x n k v) (hA : (OkE x ks1 a)) (hB : (OkR x ks2 b k)) (htw : x.tw (ix k) = false) (hw : x.wh (ix k) ≠ 0) (hw1 : x.wh (ix k) ≠ 1) : RD x0 k1 k2 n c k (s3ER x n c k ks1 ks2 a b v) :=
 goAc (stp (KM_ok _ _ x.D) (r3ERc0 tagF VT0 x n c k ks1 ks2 a b v) (qcR H htw hw hw1 hB) (tmM_dead (Vc_dead H.hv) lvc) (HG_ok (.inr ⟨_, rfl⟩) (.inl rfl)) rfl (by kernel_rfl) (show 2 <= 11 by decide)) H (Vc_dead H.hv) hB
theorem g3ERw10 (H : Hy x n k v) (hA : (OkE x ks1 a)) (hB : (OkR x ks2 b k)) (htw : x.tw (ix k) = false) (hw : x.wh (ix k) = 0) (h40 : x.m (ix k) <= 40) (h0 : x.m (ix k) ≠ 0) : RD x0 k1 k2 n c k (s3ER x n c k ks1 ks2 a b v) :=
 goAw1E (stp (KJ_ok _ _ x _) (r3ERw10 tagF VT0 x n c k ks1 ks2 a b v) (cw1E H htw hw h40 h0 hA (lpJ hJ03R jn03R jx03R jo03R H h40 h0)) (tmM_dead (Vw1_dead H.hv) lvw1) (HG_ok (.inr ⟨_, rfl⟩) (.inr ⟨_, rfl⟩)) rfl (by kernel_rfl) (show 2 <= 11 by decide)) H hA h40 h0 fun y z u h => .g3RR (Vw1_dead H.hv) h (hB.keep u (Nat.le_succ k))
theorem g3ERw00 (H : Hy x n k v) (hA : (OkE x ks1 a)) (hB : (OkR x ks2 b k)) (htw : x.tw (ix k) = false) (hw : x.wh (ix k) = 0) (h40 : x.m (ix k) <= 40) (h0 : x.m (ix k) = 0) : RD x0 k1 k2 n c k (s3ER x n c k ks1 ks2 a b v) :=
 goAw0E (stp (KM_ok _ _ x.D) (r3ERw00 tagF VT0 x n c k ks1 ks2 a b v) (cw0E H htw hw h40 h0 hA (neg0 h0)) (tmM_dead (Vw0_dead H.hv) lvw0) (HG_ok (.inl rfl) (.inr ⟨_, rfl⟩)) rfl (by kernel_rfl) (show 2 <= 11 by decide)) H hA h40 h0 fun y z u h => .g3ER (Vw0_dead H.hv) h (hB.keep u (Nat.le_succ k))
theorem g3ERt1 (H : Hy x n k v) (hA : (OkE x ks1 a)) (hB : (OkR x ks2 b k)) (htw : x.tw (ix k) = true) (hw : x.wh (ix k) ≠ 0) (hw1 : x.wh (ix k) = 1) : RD x0 k1 k2 n c k (s3ER x n c k ks1 ks2 a b v) :=
 goT (stp (KM_ok _ _ x.D) (r3ERt1 tagF VT0 x n c k ks1 ks2 a b v) (qtR (ky1 a b) H htw hw hw1 hB) (tmM_dead (Vt_dead H.hv) lvt) (HG_ok (.inl rfl) (.inl rfl)) rfl (by kernel_rfl) (show 2 <= 11 by decide)) H fun u => .g3ER (Vt_dead H.hv) hA.keep (hB.keep u (Nat.le_succ k))
theorem g3ERc1 (H : Hy x n k v) (hA : (OkE x ks1 a)) (hB : (OkR x ks2 b k)) (htw : x.tw (ix k) = true) (hw : x.wh (ix k) ≠ 0) (hw1 : x.wh (ix k) ≠ 1) : RD x0 k1 k2 n c k (s3ER x n c k ks1 ks2 a b v) :=
 goT (stp (KM_ok _ _ x.D) (r3ERc1 tagF VT0 x n c k ks1 ks2 a b v) (qcE H htw hw hw1) (tmM_dead (Vc_dead H.hv) lvc) (HG_ok (.inl rfl) (.inl rfl)) rfl (by kernel_rfl) (show 2 <= 11 by decide)) H fun u => .g2EE (Vc_dead H.hv) hA.keep hA.keep
theorem g3ERw11 (H : Hy x n k v) (hA : (OkE x ks1 a)) (hB : (OkR x ks2 b k)) (htw : x.tw (ix k) = true) (hw : x.wh (ix k) = 0) (h40 : x.m (ix k) <= 40) (h0 : x.m (ix k) ≠ 0) : RD x0 k1 k2 n c k (s3ER x n c k ks1 ks2 a b v) :=
 goBw1R (stp (KJ_ok _ _ x _) (r3ERw11 tagF VT0 x n c k ks1 ks2 a b v) (cw1R H htw hw h40 h0 hB (lpJ hJ13E jn13E jx13E jo13E H h40 h0)) (tmM_dead (Vw1_dead H.hv) lvw1) (HG_ok (.inr ⟨_, rfl⟩) (.inr ⟨_, rfl⟩)) rfl (by kernel_rfl) (show 2 <= 11 by decide)) H hB h40 h0 fun y z u h => .g3ER (Vw1_dead H.hv) hA.keep h
theorem g3ERw01 (H : Hy x n k v) (hA : (OkE x ks1 a)) (hB : (OkR x ks2 b k)) (htw : x.tw (ix k) = true) (hw : x.wh (ix k) = 0) (h40 : x.m (ix k) <= 40) (h0 : x.m (ix k) = 0) : RD x0 k1 k2 n c k (s3ER x n c k ks1 ks2 a b v) :=
 goBw0R (stp (KM_ok _ _ x.D) (r3ERw01 tagF VT0 x n c k ks1 ks2 a b v) (cw0R H htw hw h40 h0 hB (neg0 h0)) (tmM_dead (Vw0_dead H.hv) lvw0) (HG_ok (.inr ⟨_, rfl⟩) (.inr ⟨_, rfl⟩)) rfl (by kernel_rfl) (show 2 <= 11 by decide)) H hB h40 h0 fun y z u h => .g3ER (Vw0_dead H.hv) hA.keep h
theorem gx3ER (hv : ∀ i, DeadV (v i)) (hA : (OkE x ks1 a)) (hB : (OkR x ks2 b n)) : StepG Try.prog none (s00 x0 k1 k2 n c) lb (s3ER x n c n ks1 ks2 a b v) fun e t => e = .exit 0 /\ Good x n c n t :=
 exX (rx3ER tagF VT0 x n c n ks1 ks2 a b v) (tmM_dead (Vx_dead hv) lvx) (HG_ok (.inl rfl) (.inl rfl)) rfl (by kernel_rfl) (show 2 <= 11 by decide) (.g3ER (Vx_dead hv) hA hB)
theorem gb3ER0 (H : Hy x n k v) (htw : x.tw (ix k) = false) (hw : x.wh (ix k) = 0) (h40 : 40 < x.m (ix k)) : StepG Try.prog none (s00 x0 k1 k2 n c) lb (s3ER x n c k ks1 ks2 a b v) fun e t => e = .ret /\ t.defers = [] /\ t.tmps.getD 6 undef = .bool true := StepG.ran pg (KM_ok tagF VT0 x.D) (rb3ER0 tagF VT0 x n c k ks1 ks2 a b v) (big H htw hw h40) (show 2 <= 11 by decide)
theorem gb3ER1 (H : Hy x n k v) (htw : x.tw (ix k) = true) (hw : x.wh (ix k) = 0) (h40 : 40 < x.m (ix k)) : StepG Try.prog none (s00 x0 k1 k2 n c) lb (s3ER x n c k ks1 ks2 a b v) fun e t => e = .ret /\ t.defers = [] /\ t.tmps.getD 6 undef = .bool true := StepG.ran pg (KM_ok tagF VT0 x.D) (rb3ER1 tagF VT0 x n c k ks1 ks2 a b v) (big H htw hw h40) (show 2 <= 11 by decide)
open ae ga pm pn
open gb (OkM OkKy keyL putR putE)
variable {x0 x : Acts} {k1 k2 : Nat -> Int} {n c k : Nat} {ks1 ks2 : Nat -> Int} {a b : Sd} {v : VF}
theorem g3REt0 (H : Hy x n k v) (hA : (OkR x ks1 a k)) (hB : (OkE x ks2 b)) (htw : x.tw (ix k) = false) (hw : x.wh (ix k) ≠ 0) (hw1 : x.wh (ix k) = 1) : RD x0 k1 k2 n c k (s3RE x n c k ks1 ks2 a b v) :=
 goT (stp (KM_ok _ _ x.D) (r3REt0 tagF VT0 x n c k ks1 ks2 a b v) (qtR (ky0 a b) H htw hw hw1 hA) (tmM_dead (Vt_dead H.hv) lvt) (HG_ok (.inl rfl) (.inl rfl)) rfl (by kernel_rfl) (show 2 <= 11 by decide)) H fun u => .g3RE (Vt_dead H.hv) (hA.keep u (Nat.le_succ k)) hB.keep
theorem g3REc0 (H : Hy x n k v) (hA : (OkR x ks1 a k)) (hB : (OkE x ks2 b)) (htw : x.tw (ix k) = false) (hw : x.wh (ix k) ≠ 0) (hw1 : x.wh (ix k) ≠ 1) : RD x0 k1 k2 n c k (s3RE x n c k ks1 ks2 a b v) :=
 goT (stp (KM_ok _ _ x.D) (r3REc0 tagF VT0 x n c k ks1 ks2 a b v) (qcE H htw hw hw1) (tmM_dead (Vc_dead H.hv) lvc) (HG_ok (.inl rfl) (.inl rfl)) rfl (by kernel_rfl) (show 2 <= 11 by decide)) H fun u => .g2EE (Vc_dead H.hv) hB.keep hB.keep
theorem g3REw10 (H : Hy x n k v) (hA : (OkR x ks1 a k)) (hB : (OkE x ks2 b)) (htw : x.tw (ix k) = false) (hw : x.wh (ix k) = 0) (h40 : x.m (ix k) <= 40) (h0 : x.m (ix k) ≠ 0) : RD x0 k1 k2 n c k (s3RE x n c k ks1 ks2 a b v) :=
 goAw1R (stp (KJ_ok _ _ x _) (r3REw10 tagF VT0 x n c k ks1 ks2 a b v) (cw1R H htw hw h40 h0 hA (lpJ hJ03E jn03E jx03E jo03E H h40 h0)) (tmM_dead (Vw1_dead H.hv) lvw1) (HG_ok (.inr ⟨_, rfl⟩) (.inr ⟨_, rfl⟩)) rfl (by kernel_rfl) (show 2 <= 11 by decide)) H hA h40 h0 fun y z u h => .g3RE (Vw1_dead H.hv) h hB.keep
theorem g3REw00 (H : Hy x n k v) (hA : (OkR x ks1 a k)) (hB : (OkE x ks2 b)) (htw : x.tw (ix k) = false) (hw : x.wh (ix k) = 0) (h40 : x.m (ix k) <= 40) (h0 : x.m (ix k) = 0) : RD x0 k1 k2 n c k (s3RE x n c k ks1 ks2 a b v) :=
 goAw0R (stp (KM_ok _ _ x.D) (r3REw00 tagF VT0 x n c k ks1 ks2 a b v) (cw0R H htw hw h40 h0 hA (neg0 h0)) (tmM_dead (Vw0_dead H.hv) lvw0) (HG_ok (.inr ⟨_, rfl⟩) (.inr ⟨_, rfl⟩)) rfl (by kernel_rfl) (show 2 <= 11 by decide)) H hA h40 h0 fun y z u h => .g3RE (Vw0_dead H.hv) h hB.keep
theorem g3REt1 (H : Hy x n k v) (hA : (OkR x ks1 a k)) (hB : (OkE x ks2 b)) (htw : x.tw (ix k) = true) (hw : x.wh (ix k) ≠ 0) (hw1 : x.wh (ix k) = 1) : RD x0 k1 k2 n c k (s3RE x n c k ks1 ks2 a b v) :=
 goT (stp (KM_ok _ _ x.D) (r3REt1 tagF VT0 x n c k ks1 ks2 a b v) (qtE (ky1 a b) H htw hw hw1 hB) (tmM_dead (Vt_dead H.hv) lvt) (HG_ok (.inl rfl) (.inl rfl)) rfl (by kernel_rfl) (show 2 <= 11 by decide)) H fun u => .g3RE (Vt_dead H.hv) (hA.keep u (Nat.le_succ k)) hB.keep
theorem g3REc1 (H : Hy x n k v) (hA : (OkR x ks1 a k)) (hB : (OkE x ks2 b)) (htw : x.tw (ix k) = true) (hw : x.wh (ix k) ≠ 0) (hw1 : x.wh (ix k) ≠ 1) : RD x0 k1 k2 n c k (s3RE x n c k ks1 ks2 a b v) :=
 goBc (stp (KM_ok _ _ x.D) (r3REc1 tagF VT0 x n c k ks1 ks2 a b v) (qcR H htw hw hw1 hA) (tmM_dead (Vc_dead H.hv) lvc) (HG_ok (.inr ⟨_, rfl⟩) (.inl rfl)) rfl (by kernel_rfl) (show 2 <= 11 by decide)) H (Vc_dead H.hv) hA
theorem g3REw11 (H : Hy x n k v) (hA : (OkR x ks1 a k)) (hB : (OkE x ks2 b)) (htw : x.tw (ix k) = true) (hw : x.wh (ix k) = 0) (h40 : x.m (ix k) <= 40) (h0 : x.m (ix k) ≠ 0) : RD x0 k1 k2 n c k (s3RE x n c k ks1 ks2 a b v) :=
 goBw1E (stp (KJ_ok _ _ x _) (r3REw11 tagF VT0 x n c k ks1 ks2 a b v) (cw1E H htw hw h40 h0 hB (lpJ hJ13R jn13R jx13R jo13R H h40 h0)) (tmM_dead (Vw1_dead H.hv) lvw1) (HG_ok (.inr ⟨_, rfl⟩) (.inr ⟨_, rfl⟩)) rfl (by kernel_rfl) (show 2 <= 11 by decide)) H hB h40 h0 fun y z u h => .g3RR (Vw1_dead H.hv) (hA.keep u (Nat.le_succ k)) h
theorem g3REw01 (H : Hy x n k v) (hA : (OkR x ks1 a k)) (hB : (OkE x ks2 b)) (htw : x.tw (ix k) = true) (hw : x.wh (ix k) = 0) (h40 : x.m (ix k) <= 40) (h0 : x.m (ix k) = 0) : RD x0 k1 k2 n c k (s3RE x n c k ks1 ks2 a b v) :=
 goBw0E (stp (KM_ok _ _ x.D) (r3REw01 tagF VT0 x n c k ks1 ks2 a b v) (cw0E H htw hw h40 h0 hB (neg0 h0)) (tmM_dead (Vw0_dead H.hv) lvw0) (HG_ok (.inl rfl) (.inr ⟨_, rfl⟩)) rfl (by kernel_rfl) (show 2 <= 11 by decide)) H hB h40 h0 fun y z u h => .g3RE (Vw0_dead H.hv) (hA.keep u (Nat.le_succ k)) h
theorem gx3RE (hv : ∀ i, DeadV (v i)) (hA : (OkR x ks1 a n)) (hB : (OkE x ks2 b)) : StepG Try.prog none (s00 x0 k1 k2 n c) lb (s3RE x n c n ks1 ks2 a b v) fun e t => e = .exit 0 /\ Good x n c n t :=
 exX (rx3RE tagF VT0 x n c n ks1 ks2 a b v) (tmM_dead (Vx_dead hv) lvx) (HG_ok (.inl rfl) (.inl rfl)) rfl (by kernel_rfl) (show 2 <= 11 by decide) (.g3RE (Vx_dead hv) hA hB)
theorem gb3RE0 (H : Hy x n k v) (htw : x.tw (ix k) = false) (hw : x.wh (ix k) = 0) (h40 : 40 < x.m (ix k)) : StepG Try.prog none (s00 x0 k1 k2 n c) lb (s3RE x n c k ks1 ks2 a b v) fun e t => e = .ret /\ t.defers = [] /\ t.tmps.getD 6 undef = .bool true := StepG.ran pg (KM_ok tagF VT0 x.D) (rb3RE0 tagF VT0 x n c k ks1 ks2 a b v) (big H htw hw h40) (show 2 <= 11 by decide)
theorem gb3RE1 (H : Hy x n k v) (htw : x.tw (ix k) = true) (hw : x.wh (ix k) = 0) (h40 : 40 < x.m (ix k)) : StepG Try.prog none (s00 x0 k1 k2 n c) lb (s3RE x n c k ks1 ks2 a b v) fun e t => e = .ret /\ t.defers = [] /\ t.tmps.getD 6 undef = .bool true := StepG.ran pg (KM_ok tagF VT0 x.D) (rb3RE1 tagF VT0 x n c k ks1 ks2 a b v) (big H htw hw h40) (show 2 <= 11 by decide)
open ae ga pm pn
open gb (OkM OkKy keyL putR putE)
variable {x0 x : Acts} {k1 k2 : Nat -> Int} {n c k : Nat} {ks1 ks2 : Nat -> Int} {a b : Sd} {v : VF}
theorem g3RRt0 (H : Hy x n k v) (hA : (OkR x ks1 a k)) (hB : (OkR x ks2 b k)) (htw : x.tw (ix k) = false) (hw : x.wh (ix k) ≠ 0) (hw1 : x.wh (ix k) = 1) : RD x0 k1 k2 n c k (s3RR x n c k ks1 ks2 a b v) :=
 goT (stp (KM_ok _ _ x.D) (r3RRt0 tagF VT0 x n c k ks1 ks2 a b v) (qtR (ky0 a b) H htw hw hw1 hA) (tmM_dead (Vt_dead H.hv) lvt) (HG_ok (.inl rfl) (.inl rfl)) rfl (by kernel_rfl) (show 2 <= 11 by decide)) H fun u => .g3RR (Vt_dead H.hv) (hA.keep u (Nat.le_succ k)) (hB.keep u (Nat.le_succ k))
theorem g3RRc0 (H : Hy x n k v) (hA : (OkR x ks1 a k)) (hB : (OkR x ks2 b k)) (htw : x.tw (ix k) = false) (hw : x.wh (ix k) ≠ 0) (hw1 : x.wh (ix k) ≠ 1) : RD x0 k1 k2 n c k (s3RR x n c k ks1 ks2 a b v) :=
 goAc (stp (KM_ok _ _ x.D) (r3RRc0 tagF VT0 x n c k ks1 ks2 a b v) (qcR H htw hw hw1 hB) (tmM_dead (Vc_dead H.hv) lvc) (HG_ok (.inr ⟨_, rfl⟩) (.inl rfl)) rfl (by kernel_rfl) (show 2 <= 11 by decide)) H (Vc_dead H.hv) hB
theorem g3RRw10 (H : Hy x n k v) (hA : (OkR x ks1 a k)) (hB : (OkR x ks2 b k)) (htw : x.tw (ix k) = false) (hw : x.wh (ix k) = 0) (h40 : x.m (ix k) <= 40) (h0 : x.m (ix k) ≠ 0) : RD x0 k1 k2 n c k (s3RR x n c k ks1 ks2 a b v) :=
 goAw1R (stp (KJ_ok _ _ x _) (r3RRw10 tagF VT0 x n c k ks1 ks2 a b v) (cw1R H htw hw h40 h0 hA (lpJ hJ03R jn03R jx03R jo03R H h40 h0)) (tmM_dead (Vw1_dead H.hv) lvw1) (HG_ok (.inr ⟨_, rfl⟩) (.inr ⟨_, rfl⟩)) rfl (by kernel_rfl) (show 2 <= 11 by decide)) H hA h40 h0 fun y z u h => .g3RR (Vw1_dead H.hv) h (hB.keep u (Nat.le_succ k))
theorem g3RRw00 (H : Hy x n k v) (hA : (OkR x ks1 a k)) (hB : (OkR x ks2 b k)) (htw : x.tw (ix k) = false) (hw : x.wh (ix k) = 0) (h40 : x.m (ix k) <= 40) (h0 : x.m (ix k) = 0) : RD x0 k1 k2 n c k (s3RR x n c k ks1 ks2 a b v) :=
 goAw0R (stp (KM_ok _ _ x.D) (r3RRw00 tagF VT0 x n c k ks1 ks2 a b v) (cw0R H htw hw h40 h0 hA (neg0 h0)) (tmM_dead (Vw0_dead H.hv) lvw0) (HG_ok (.inr ⟨_, rfl⟩) (.inr ⟨_, rfl⟩)) rfl (by kernel_rfl) (show 2 <= 11 by decide)) H hA h40 h0 fun y z u h => .g3RR (Vw0_dead H.hv) h (hB.keep u (Nat.le_succ k))
theorem g3RRt1 (H : Hy x n k v) (hA : (OkR x ks1 a k)) (hB : (OkR x ks2 b k)) (htw : x.tw (ix k) = true) (hw : x.wh (ix k) ≠ 0) (hw1 : x.wh (ix k) = 1) : RD x0 k1 k2 n c k (s3RR x n c k ks1 ks2 a b v) :=
 goT (stp (KM_ok _ _ x.D) (r3RRt1 tagF VT0 x n c k ks1 ks2 a b v) (qtR (ky1 a b) H htw hw hw1 hB) (tmM_dead (Vt_dead H.hv) lvt) (HG_ok (.inl rfl) (.inl rfl)) rfl (by kernel_rfl) (show 2 <= 11 by decide)) H fun u => .g3RR (Vt_dead H.hv) (hA.keep u (Nat.le_succ k)) (hB.keep u (Nat.le_succ k))
theorem g3RRc1 (H : Hy x n k v) (hA : (OkR x ks1 a k)) (hB : (OkR x ks2 b k)) (htw : x.tw (ix k) = true) (hw : x.wh (ix k) ≠ 0) (hw1 : x.wh (ix k) ≠ 1) : RD x0 k1 k2 n c k (s3RR x n c k ks1 ks2 a b v) :=
 goBc (stp (KM_ok _ _ x.D) (r3RRc1 tagF VT0 x n c k ks1 ks2 a b v) (qcR H htw hw hw1 hA) (tmM_dead (Vc_dead H.hv) lvc) (HG_ok (.inr ⟨_, rfl⟩) (.inl rfl)) rfl (by kernel_rfl) (show 2 <= 11 by decide)) H (Vc_dead H.hv) hA
theorem g3RRw11 (H : Hy x n k v) (hA : (OkR x ks1 a k)) (hB : (OkR x ks2 b k)) (htw : x.tw (ix k) = true) (hw : x.wh (ix k) = 0) (h40 : x.m (ix k) <= 40) (h0 : x.m (ix k) ≠ 0) : RD x0 k1 k2 n c k (s3RR x n c k ks1 ks2 a b v) :=
 goBw1R (stp (KJ_ok _ _ x _) (r3RRw11 tagF VT0 x n c k ks1 ks2 a b v) (cw1R H htw hw h40 h0 hB (lpJ hJ13R jn13R jx13R jo13R H h40 h0)) (tmM_dead (Vw1_dead H.hv) lvw1) (HG_ok (.inr ⟨_, rfl⟩) (.inr ⟨_, rfl⟩)) rfl (by kernel_rfl) (show 2 <= 11 by decide)) H hB h40 h0 fun y z u h => .g3RR (Vw1_dead H.hv) (hA.keep u (Nat.le_succ k)) h
theorem g3RRw01 (H : Hy x n k v) (hA : (OkR x ks1 a k)) (hB : (OkR x ks2 b k)) (htw : x.tw (ix k) = true) (hw : x.wh (ix k) = 0) (h40 : x.m (ix k) <= 40) (h0 : x.m (ix k) = 0) : RD x0 k1 k2 n c k (s3RR x n c k ks1 ks2 a b v) :=
 goBw0R (stp (KM_ok _ _ x.D) (r3RRw01 tagF VT0 x n c k ks1 ks2 a b v) (cw0R H htw hw h40 h0 hB (neg0 h0)) (tmM_dead (Vw0_dead H.hv) lvw0) (HG_ok (.inr ⟨_, rfl⟩) (.inr ⟨_, rfl⟩)) rfl (by kernel_rfl) (show 2 <= 11 by decide)) H hB h40 h0 fun y z u h => .g3RR (Vw0_dead H.hv) (hA.keep u (Nat.le_succ k)) h
theorem gx3RR (hv : ∀ i, DeadV (v i)) (hA : (OkR x ks1 a n)) (hB : (OkR x ks2 b n)) : StepG Try.prog none (s00 x0 k1 k2 n c) lb (s3RR x n c n ks1 ks2 a b v) fun e t => e = .exit 0 /\ Good x n c n t :=
 exX (rx3RR tagF VT0 x n c n ks1 ks2 a b v) (tmM_dead (Vx_dead hv) lvx) (HG_ok (.inl rfl) (.inl rfl)) rfl (by kernel_rfl) (show 2 <= 11 by decide) (.g3RR (Vx_dead hv) hA hB)
theorem gb3RR0 (H : Hy x n k v) (htw : x.tw (ix k) = false) (hw : x.wh (ix k) = 0) (h40 : 40 < x.m (ix k)) : StepG Try.prog none (s00 x0 k1 k2 n c) lb (s3RR x n c k ks1 ks2 a b v) fun e t => e = .ret /\ t.defers = [] /\ t.tmps.getD 6 undef = .bool true := StepG.ran pg (KM_ok tagF VT0 x.D) (rb3RR0 tagF VT0 x n c k ks1 ks2 a b v) (big H htw hw h40) (show 2 <= 11 by decide)
theorem gb3RR1 (H : Hy x n k v) (htw : x.tw (ix k) = true) (hw : x.wh (ix k) = 0) (h40 : 40 < x.m (ix k)) : StepG Try.prog none (s00 x0 k1 k2 n c) lb (s3RR x n c k ks1 ks2 a b v) fun e t => e = .ret /\ t.defers = [] /\ t.tmps.getD 6 undef = .bool true := StepG.ran pg (KM_ok tagF VT0 x.D) (rb3RR1 tagF VT0 x n c k ks1 ks2 a b v) (big H htw hw h40) (show 2 <= 11 by decide)
open ae ga pm pn
open gb (OkM OkKy keyL putR putE)
variable {x0 x : Acts} {k1 k2 : Nat -> Int} {n c k : Nat} {ks1 ks2 : Nat -> Int} {a b : Sd} {v : VF}
theorem g2EEt0 (H : Hy x n k v) (hA : (OkE x ks1 a)) (hB : (OkE x ks1 b)) (htw : x.tw (ix k) = false) (hw : x.wh (ix k) ≠ 0) (hw1 : x.wh (ix k) = 1) : RD x0 k1 k2 n c k (s2EE x n c k ks1 ks2 a b v) :=
 goT (stp (KM_ok _ _ x.D) (r2EEt0 tagF VT0 x n c k ks1 ks2 a b v) (qtE (ky0 a b) H htw hw hw1 hA) (tmM_dead (Vt_dead H.hv) lvt) (HG_ok (.inl rfl) (.inl rfl)) rfl (by kernel_rfl) (show 2 <= 11 by decide)) H fun u => .g2EE (Vt_dead H.hv) hA.keep hB.keep
theorem g2EEc0 (H : Hy x n k v) (hA : (OkE x ks1 a)) (hB : (OkE x ks1 b)) (htw : x.tw (ix k) = false) (hw : x.wh (ix k) ≠ 0) (hw1 : x.wh (ix k) ≠ 1) : RD x0 k1 k2 n c k (s2EE x n c k ks1 ks2 a b v) :=
 goT (stp (KM_ok _ _ x.D) (r2EEc0 tagF VT0 x n c k ks1 ks2 a b v) (qcE H htw hw hw1) (tmM_dead (Vc_dead H.hv) lvc) (HG_ok (.inl rfl) (.inl rfl)) rfl (by kernel_rfl) (show 2 <= 11 by decide)) H fun u => .g2EE (Vc_dead H.hv) hB.keep hB.keep
theorem g2EEw10 (H : Hy x n k v) (hA : (OkE x ks1 a)) (hB : (OkE x ks1 b)) (htw : x.tw (ix k) = false) (hw : x.wh (ix k) = 0) (h40 : x.m (ix k) <= 40) (h0 : x.m (ix k) ≠ 0) : RD x0 k1 k2 n c k (s2EE x n c k ks1 ks2 a b v) :=
 goAw1E (stp (KJ_ok _ _ x _) (r2EEw10 tagF VT0 x n c k ks1 ks2 a b v) (cw1E H htw hw h40 h0 hA (lpJ hJ02E jn02E jx02E jo02E H h40 h0)) (tmM_dead (Vw1_dead H.hv) lvw1) (HG_ok (.inr ⟨_, rfl⟩) (.inr ⟨_, rfl⟩)) rfl (by kernel_rfl) (show 2 <= 11 by decide)) H hA h40 h0 fun y z u h => .g2RE (Vw1_dead H.hv) h hB.keep
theorem g2EEw00 (H : Hy x n k v) (hA : (OkE x ks1 a)) (hB : (OkE x ks1 b)) (htw : x.tw (ix k) = false) (hw : x.wh (ix k) = 0) (h40 : x.m (ix k) <= 40) (h0 : x.m (ix k) = 0) : RD x0 k1 k2 n c k (s2EE x n c k ks1 ks2 a b v) :=
 goAw0E (stp (KM_ok _ _ x.D) (r2EEw00 tagF VT0 x n c k ks1 ks2 a b v) (cw0E H htw hw h40 h0 hA (neg0 h0)) (tmM_dead (Vw0_dead H.hv) lvw0) (HG_ok (.inl rfl) (.inr ⟨_, rfl⟩)) rfl (by kernel_rfl) (show 2 <= 11 by decide)) H hA h40 h0 fun y z u h => .g2EE (Vw0_dead H.hv) h hB.keep
theorem g2EEt1 (H : Hy x n k v) (hA : (OkE x ks1 a)) (hB : (OkE x ks1 b)) (htw : x.tw (ix k) = true) (hw : x.wh (ix k) ≠ 0) (hw1 : x.wh (ix k) = 1) : RD x0 k1 k2 n c k (s2EE x n c k ks1 ks2 a b v) :=
 goT (stp (KM_ok _ _ x.D) (r2EEt1 tagF VT0 x n c k ks1 ks2 a b v) (qtE (ky1 a b) H htw hw hw1 hB) (tmM_dead (Vt_dead H.hv) lvt) (HG_ok (.inl rfl) (.inl rfl)) rfl (by kernel_rfl) (show 2 <= 11 by decide)) H fun u => .g2EE (Vt_dead H.hv) hA.keep hB.keep
theorem g2EEc1 (H : Hy x n k v) (hA : (OkE x ks1 a)) (hB : (OkE x ks1 b)) (htw : x.tw (ix k) = true) (hw : x.wh (ix k) ≠ 0) (hw1 : x.wh (ix k) ≠ 1) : RD x0 k1 k2 n c k (s2EE x n c k ks1 ks2 a b v) :=
 goT (stp (KM_ok _ _ x.D) (r2EEc1 tagF VT0 x n c k ks1 ks2 a b v) (qcE H htw hw hw1) (tmM_dead (Vc_dead H.hv) lvc) (HG_ok (.inl rfl) (.inl rfl)) rfl (by kernel_rfl) (show 2 <= 11 by decide)) H fun u => .g2EE (Vc_dead H.hv) hA.keep hA.keep
theorem g2EEw11 (H : Hy x n k v) (hA : (OkE x ks1 a)) (hB : (OkE x ks1 b)) (htw : x.tw (ix k) = true) (hw : x.wh (ix k) = 0) (h40 : x.m (ix k) <= 40) (h0 : x.m (ix k) ≠ 0) : RD x0 k1 k2 n c k (s2EE x n c k ks1 ks2 a b v) :=
 goBw1E (stp (KJ_ok _ _ x _) (r2EEw11 tagF VT0 x n c k ks1 ks2 a b v) (cw1E H htw hw h40 h0 hB (lpJ hJ12E jn12E jx12E jo12E H h40 h0)) (tmM_dead (Vw1_dead H.hv) lvw1) (HG_ok (.inr ⟨_, rfl⟩) (.inr ⟨_, rfl⟩)) rfl (by kernel_rfl) (show 2 <= 11 by decide)) H hB h40 h0 fun y z u h => .g2ER (Vw1_dead H.hv) hA.keep h
theorem g2EEw01 (H : Hy x n k v) (hA : (OkE x ks1 a)) (hB : (OkE x ks1 b)) (htw : x.tw (ix k) = true) (hw : x.wh (ix k) = 0) (h40 : x.m (ix k) <= 40) (h0 : x.m (ix k) = 0) : RD x0 k1 k2 n c k (s2EE x n c k ks1 ks2 a b v) :=
 goBw0E (stp (KM_ok _ _ x.D) (r2EEw01 tagF VT0 x n c k ks1 ks2 a b v) (cw0E H htw hw h40 h0 hB (neg0 h0)) (tmM_dead (Vw0_dead H.hv) lvw0) (HG_ok (.inl rfl) (.inr ⟨_, rfl⟩)) rfl (by kernel_rfl) (show 2 <= 11 by decide)) H hB h40 h0 fun y z u h => .g2EE (Vw0_dead H.hv) hA.keep h
theorem gx2EE (hv : ∀ i, DeadV (v i)) (hA : (OkE x ks1 a)) (hB : (OkE x ks1 b)) : StepG Try.prog none (s00 x0 k1 k2 n c) lb (s2EE x n c n ks1 ks2 a b v) fun e t => e = .exit 0 /\ Good x n c n t :=
 exX (rx2EE tagF VT0 x n c n ks1 ks2 a b v) (tmM_dead (Vx_dead hv) lvx) (HG_ok (.inl rfl) (.inl rfl)) rfl (by kernel_rfl) (show 2 <= 11 by decide) (.g2EE (Vx_dead hv) hA hB)
theorem gb2EE0 (H : Hy x n k v) (htw : x.tw (ix k) = false) (hw : x.wh (ix k) = 0) (h40 : 40 < x.m (ix k)) : StepG Try.prog none (s00 x0 k1 k2 n c) lb (s2EE x n c k ks1 ks2 a b v) fun e t => e = .ret /\ t.defers = [] /\ t.tmps.getD 6 undef = .bool true := StepG.ran pg (KM_ok tagF VT0 x.D) (rb2EE0 tagF VT0 x n c k ks1 ks2 a b v) (big H htw hw h40) (show 2 <= 11 by decide)
theorem gb2EE1 (H : Hy x n k v) (htw : x.tw (ix k) = true) (hw : x.wh (ix k) = 0) (h40 : 40 < x.m (ix k)) : StepG Try.prog none (s00 x0 k1 k2 n c) lb (s2EE x n c k ks1 ks2 a b v) fun e t => e = .ret /\ t.defers = [] /\ t.tmps.getD 6 undef = .bool true := StepG.ran pg (KM_ok tagF VT0 x.D) (rb2EE1 tagF VT0 x n c k ks1 ks2 a b v) (big H htw hw h40) (show 2 <= 11 by decide)
open ae ga pm pn
open gb (OkM OkKy keyL putR putE)
variable {x0 x : Acts} {k1 k2 : Nat -> Int} {n c k : Nat} {ks1 ks2 : Nat -> Int} {a b : Sd} {v : VF}
theorem g2ERt0 (H : Hy x n k v) (hA : (OkE x ks1 a)) (hB : (OkR x ks1 b k)) (htw : x.tw (ix k) = false) (hw : x.wh (ix k) ≠ 0) (hw1 : x.wh (ix k) = 1) : RD x0 k1 k2 n c k (s2ER x n c k ks1 ks2 a b v) :=
 goT (stp (KM_ok _ _ x.D) (r2ERt0 tagF VT0 x n c k ks1 ks2 a b v) (qtE (ky0 a b) H htw hw hw1 hA) (tmM_dead (Vt_dead H.hv) lvt) (HG_ok (.inl rfl) (.inl rfl)) rfl (by kernel_rfl) (show 2 <= 11 by decide)) H fun u => .g2ER (Vt_dead H.hv) hA.keep (hB.keep u (Nat.le_succ k))
theorem g2ERc0 (H : Hy x n k v) (hA : (OkE x ks1 a)) (hB : (OkR x ks1 b k)) (htw : x.tw (ix k) = false) (hw : x.wh (ix k) ≠ 0) (hw1 : x.wh (ix k) ≠ 1) : RD x0 k1 k2 n c k (s2ER x n c k ks1 ks2 a b v) :=
 goAc (stp (KM_ok _ _ x.D) (r2ERc0 tagF VT0 x n c k ks1 ks2 a b v) (qcR H htw hw hw1 hB) (tmM_dead (Vc_dead H.hv) lvc) (HG_ok (.inr ⟨_, rfl⟩) (.inl rfl)) rfl (by kernel_rfl) (show 2 <= 11 by decide)) H (Vc_dead H.hv) hB
theorem g2ERw10 (H : Hy x n k v) (hA : (OkE x ks1 a)) (hB : (OkR x ks1 b k)) (htw : x.tw (ix k) = false) (hw : x.wh (ix k) = 0) (h40 : x.m (ix k) <= 40) (h0 : x.m (ix k) ≠ 0) : RD x0 k1 k2 n c k (s2ER x n c k ks1 ks2 a b v) :=
 goAw1E (stp (KJ_ok _ _ x _) (r2ERw10 tagF VT0 x n c k ks1 ks2 a b v) (cw1E H htw hw h40 h0 hA (lpJ hJ02R jn02R jx02R jo02R H h40 h0)) (tmM_dead (Vw1_dead H.hv) lvw1) (HG_ok (.inr ⟨_, rfl⟩) (.inr ⟨_, rfl⟩)) rfl (by kernel_rfl) (show 2 <= 11 by decide)) H hA h40 h0 fun y z u h => .g2RR (Vw1_dead H.hv) h (hB.keep u (Nat.le_succ k))
theorem g2ERw00 (H : Hy x n k v) (hA : (OkE x ks1 a)) (hB : (OkR x ks1 b k)) (htw : x.tw (ix k) = false) (hw : x.wh (ix k) = 0) (h40 : x.m (ix k) <= 40) (h0 : x.m (ix k) = 0) : RD x0 k1 k2 n c k (s2ER x n c k ks1 ks2 a b v) :=
 goAw0E (stp (KM_ok _ _ x.D) (r2ERw00 tagF VT0 x n c k ks1 ks2 a b v) (cw0E H htw hw h40 h0 hA (neg0 h0)) (tmM_dead (Vw0_dead H.hv) lvw0) (HG_ok (.inl rfl) (.inr ⟨_, rfl⟩)) rfl (by kernel_rfl) (show 2 <= 11 by decide)) H hA h40 h0 fun y z u h => .g2ER (Vw0_dead H.hv) h (hB.keep u (Nat.le_succ k))
theorem g2ERt1 (H : Hy x n k v) (hA : (OkE x ks1 a)) (hB : (OkR x ks1 b k)) (htw : x.tw (ix k) = true) (hw : x.wh (ix k) ≠ 0) (hw1 : x.wh (ix k) = 1) : RD x0 k1 k2 n c k (s2ER x n c k ks1 ks2 a b v) :=
 goT (stp (KM_ok _ _ x.D) (r2ERt1 tagF VT0 x n c k ks1 ks2 a b v) (qtR (ky1 a b) H htw hw hw1 hB) (tmM_dead (Vt_dead H.hv) lvt) (HG_ok (.inl rfl) (.inl rfl)) rfl (by kernel_rfl) (show 2 <= 11 by decide)) H fun u => .g2ER (Vt_dead H.hv) hA.keep (hB.keep u (Nat.le_succ k))
theorem g2ERc1 (H : Hy x n k v) (hA : (OkE x ks1 a)) (hB : (OkR x ks1 b k)) (htw : x.tw (ix k) = true) (hw : x.wh (ix k) ≠ 0) (hw1 : x.wh (ix k) ≠ 1) : RD x0 k1 k2 n c k (s2ER x n c k ks1 ks2 a b v) :=
 goT (stp (KM_ok _ _ x.D) (r2ERc1 tagF VT0 x n c k ks1 ks2 a b v) (qcE H htw hw hw1) (tmM_dead (Vc_dead H.hv) lvc) (HG_ok (.inl rfl) (.inl rfl)) rfl (by kernel_rfl) (show 2 <= 11 by decide)) H fun u => .g2EE (Vc_dead H.hv) hA.keep hA.keep
theorem g2ERw11 (H : Hy x n k v) (hA : (OkE x ks1 a)) (hB : (OkR x ks1 b k)) (htw : x.tw (ix k) = true) (hw : x.wh (ix k) = 0) (h40 : x.m (ix k) <= 40) (h0 : x.m (ix k) ≠ 0) : RD x0 k1 k2 n c k (s2ER x n c k ks1 ks2 a b v) :=
 goBw1R (stp (KJ_ok _ _ x _) (r2ERw11 tagF VT0 x n c k ks1 ks2 a b v) (cw1R H htw hw h40 h0 hB (lpJ hJ12E jn12E jx12E jo12E H h40 h0)) (tmM_dead (Vw1_dead H.hv) lvw1) (HG_ok (.inr ⟨_, rfl⟩) (.inr ⟨_, rfl⟩)) rfl (by kernel_rfl) (show 2 <= 11 by decide)) H hB h40 h0 fun y z u h => .g2ER (Vw1_dead H.hv) hA.keep h
theorem g2ERw01 (H : Hy x n k v) (hA : (OkE x ks1 a)) (hB : (OkR x ks1 b k)) (htw : x.tw (ix k) = true) (hw : x.wh (ix k) = 0) (h40 : x.m (ix k) <= 40) (h0 : x.m (ix k) = 0) : RD x0 k1 k2 n c k (s2ER x n c k ks1 ks2 a b v) :=
 goBw0R (stp (KM_ok _ _ x.D) (r2ERw01 tagF VT0 x n c k ks1 ks2 a b v) (cw0R H htw hw h40 h0 hB (neg0 h0)) (tmM_dead (Vw0_dead H.hv) lvw0) (HG_ok (.inr ⟨_, rfl⟩) (.inr ⟨_, rfl⟩)) rfl (by kernel_rfl) (show 2 <= 11 by decide)) H hB h40 h0 fun y z u h => .g2ER (Vw0_dead H.hv) hA.keep h
theorem gx2ER (hv : ∀ i, DeadV (v i)) (hA : (OkE x ks1 a)) (hB : (OkR x ks1 b n)) : StepG Try.prog none (s00 x0 k1 k2 n c) lb (s2ER x n c n ks1 ks2 a b v) fun e t => e = .exit 0 /\ Good x n c n t :=
 exX (rx2ER tagF VT0 x n c n ks1 ks2 a b v) (tmM_dead (Vx_dead hv) lvx) (HG_ok (.inl rfl) (.inl rfl)) rfl (by kernel_rfl) (show 2 <= 11 by decide) (.g2ER (Vx_dead hv) hA hB)
theorem gb2ER0 (H : Hy x n k v) (htw : x.tw (ix k) = false) (hw : x.wh (ix k) = 0) (h40 : 40 < x.m (ix k)) : StepG Try.prog none (s00 x0 k1 k2 n c) lb (s2ER x n c k ks1 ks2 a b v) fun e t => e = .ret /\ t.defers = [] /\ t.tmps.getD 6 undef = .bool true := StepG.ran pg (KM_ok tagF VT0 x.D) (rb2ER0 tagF VT0 x n c k ks1 ks2 a b v) (big H htw hw h40) (show 2 <= 11 by decide)
theorem gb2ER1 (H : Hy x n k v) (htw : x.tw (ix k) = true) (hw : x.wh (ix k) = 0) (h40 : 40 < x.m (ix k)) : StepG Try.prog none (s00 x0 k1 k2 n c) lb (s2ER x n c k ks1 ks2 a b v) fun e t => e = .ret /\ t.defers = [] /\ t.tmps.getD 6 undef = .bool true := StepG.ran pg (KM_ok tagF VT0 x.D) (rb2ER1 tagF VT0 x n c k ks1 ks2 a b v) (big H htw hw h40) (show 2 <= 11 by decide)
open ae ga pm pn
open gb (OkM OkKy keyL putR putE)
variable {x0 x : Acts} {k1 k2 : Nat -> Int} {n c k : Nat} {ks1 ks2 : Nat -> Int} {a b : Sd} {v : VF}
theorem g2REt0 (H : Hy x n k v) (hA : (OkR x ks1 a k)) (hB : (OkE x ks1 b)) (htw : x.tw (ix k) = false) (hw : x.wh (ix k) ≠ 0) (hw1 : x.wh (ix k) = 1) : RD x0 k1 k2 n c k (s2RE x n c k ks1 ks2 a b v) :=
 goT (stp (KM_ok _ _ x.D) (r2REt0 tagF VT0 x n c k ks1 ks2 a b v) (qtR (ky0 a b) H htw hw hw1 hA) (tmM_dead (Vt_dead H.hv) lvt) (HG_ok (.inl rfl) (.inl rfl)) rfl (by kernel_rfl) (show 2 <= 11 by decide)) H fun u => .g2RE (Vt_dead H.hv) (hA.keep u (Nat.le_succ k)) hB.keep
theorem g2REc0 (H : Hy x n k v) (hA : (OkR x ks1 a k)) (hB : (OkE x ks1 b)) (htw : x.tw (ix k) = false) (hw : x.wh (ix k) ≠ 0) (hw1 : x.wh (ix k) ≠ 1) : RD x0 k1 k2 n c k (s2RE x n c k ks1 ks2 a b v) :=
 goT (stp (KM_ok _ _ x.D) (r2REc0 tagF VT0 x n c k ks1 ks2 a b v) (qcE H htw hw hw1) (tmM_dead (Vc_dead H.hv) lvc) (HG_ok (.inl rfl) (.inl rfl)) rfl (by kernel_rfl) (show 2 <= 11 by decide)) H fun u => .g2EE (Vc_dead H.hv) hB.keep hB.keep
theorem g2REw10 (H : Hy x n k v) (hA : (OkR x ks1 a k)) (hB : (OkE x ks1 b)) (htw : x.tw (ix k) = false) (hw : x.wh (ix k) = 0) (h40 : x.m (ix k) <= 40) (h0 : x.m (ix k) ≠ 0) : RD x0 k1 k2 n c k (s2RE x n c k ks1 ks2 a b v) :=
 goAw1R (stp (KJ_ok _ _ x _) (r2REw10 tagF VT0 x n c k ks1 ks2 a b v) (cw1R H htw hw h40 h0 hA (lpJ hJ02E jn02E jx02E jo02E H h40 h0)) (tmM_dead (Vw1_dead H.hv) lvw1) (HG_ok (.inr ⟨_, rfl⟩) (.inr ⟨_, rfl⟩)) rfl (by kernel_rfl) (show 2 <= 11 by decide)) H hA h40 h0 fun y z u h => .g2RE (Vw1_dead H.hv) h hB.keep
theorem g2REw00 (H : Hy x n k v) (hA : (OkR x ks1 a k)) (hB : (OkE x ks1 b)) (htw : x.tw (ix k) = false) (hw : x.wh (ix k) = 0) (h40 : x.m (ix k) <= 40) (h0 : x.m (ix k) = 0) : RD x0 k1 k2 n c k (s2RE x n c k ks1 ks2 a b v) :=
 goAw0R (stp (KM_ok _ _ x.D) (r2REw00 tagF VT0 x n c k ks1 ks2 a b v) (cw0R H htw hw h40 h0 hA (neg0 h0)) (tmM_dead (Vw0_dead H.hv) lvw0) (HG_ok (.inr ⟨_, rfl⟩) (.inr ⟨_, rfl⟩)) rfl (by kernel_rfl) (show 2 <= 11 by decide)) H hA h40 h0 fun y z u h => .g2RE (Vw0_dead H.hv) h hB.keep
theorem g2REt1 (H : Hy x n k v) (hA : (OkR x ks1 a k)) (hB : (OkE x ks1 b)) (htw : x.tw (ix k) = true) (hw : x.wh (ix k) ≠ 0) (hw1 : x.wh (ix k) = 1) : RD x0 k1 k2 n c k (s2RE x n c k ks1 ks2 a b v) :=
 goT (stp (KM_ok _ _ x.D) (r2REt1 tagF VT0 x n c k ks1 ks2 a b v) (qtE (ky1 a b) H htw hw hw1 hB) (tmM_dead (Vt_dead H.hv) lvt) (HG_ok (.inl rfl) (.inl rfl)) rfl (by kernel_rfl) (show 2 <= 11 by decide)) H fun u => .g2RE (Vt_dead H.hv) (hA.keep u (Nat.le_succ k)) hB.keep
theorem g2REc1 (H : Hy x n k v) (hA : (OkR x ks1 a k)) (hB : (OkE x ks1 b)) (htw : x.tw (ix k) = true) (hw : x.wh (ix k) ≠ 0) (hw1 : x.wh (ix k) ≠ 1) : RD x0 k1 k2 n c k (s2RE x n c k ks1 ks2 a b v) :=
 goBc (stp (KM_ok _ _ x.D) (r2REc1 tagF VT0 x n c k ks1 ks2 a b v) (qcR H htw hw hw1 hA) (tmM_dead (Vc_dead H.hv) lvc) (HG_ok (.inr ⟨_, rfl⟩) (.inl rfl)) rfl (by kernel_rfl) (show 2 <= 11 by decide)) H (Vc_dead H.hv) hA
theorem g2REw11 (H : Hy x n k v) (hA : (OkR x ks1 a k)) (hB : (OkE x ks1 b)) (htw : x.tw (ix k) = true) (hw : x.wh (ix k) = 0) (h40 : x.m (ix k) <= 40) (h0 : x.m (ix k) ≠ 0) : RD x0 k1 k2 n c k (s2RE x n c k ks1 ks2 a b v) :=
 goBw1E (stp (KJ_ok _ _ x _) (r2REw11 tagF VT0 x n c k ks1 ks2 a b v) (cw1E H htw hw h40 h0 hB (lpJ hJ12R jn12R jx12R jo12R H h40 h0)) (tmM_dead (Vw1_dead H.hv) lvw1) (HG_ok (.inr ⟨_, rfl⟩) (.inr ⟨_, rfl⟩)) rfl (by kernel_rfl) (show 2 <= 11 by decide)) H hB h40 h0 fun y z u h => .g2RR (Vw1_dead H.hv) (hA.keep u (Nat.le_succ k)) h
theorem g2REw01 (H : Hy x n k v) (hA : (OkR x ks1 a k)) (hB : (OkE x ks1 b)) (htw : x.tw (ix k) = true) (hw : x.wh (ix k) = 0) (h40 : x.m (ix k) <= 40) (h0 : x.m (ix k) = 0) : RD x0 k1 k2 n c k (s2RE x n c k ks1 ks2 a b v) :=
 goBw0E (stp (KM_ok _ _ x.D) (r2REw01 tagF VT0 x n c k ks1 ks2 a b v) (cw0E H htw hw h40 h0 hB (neg0 h0)) (tmM_dead (Vw0_dead H.hv) lvw0) (HG_ok (.inl rfl) (.inr ⟨_, rfl⟩)) rfl (by kernel_rfl) (show 2 <= 11 by decide)) H hB h40 h0 fun y z u h => .g2RE (Vw0_dead H.hv) (hA.keep u (Nat.le_succ k)) h
theorem gx2RE (hv : ∀ i, DeadV (v i)) (hA : (OkR x ks1 a n)) (hB : (OkE x ks1 b)) : StepG Try.prog none (s00 x0 k1 k2 n c) lb (s2RE x n c n ks1 ks2 a b v) fun e t => e = .exit 0 /\ Good x n c n t :=
 exX (rx2RE tagF VT0 x n c n ks1 ks2 a b v) (tmM_dead (Vx_dead hv) lvx) (HG_ok (.inl rfl) (.inl rfl)) rfl (by kernel_rfl) (show 2 <= 11 by decide) (.g2RE (Vx_dead hv) hA hB)
theorem gb2RE0 (H : Hy x n k v) (htw : x.tw (ix k) = false) (hw : x.wh (ix k) = 0) (h40 : 40 < x.m (ix k)) : StepG Try.prog none (s00 x0 k1 k2 n c) lb (s2RE x n c k ks1 ks2 a b v) fun e t => e = .ret /\ t.defers = [] /\ t.tmps.getD 6 undef = .bool true := StepG.ran pg (KM_ok tagF VT0 x.D) (rb2RE0 tagF VT0 x n c k ks1 ks2 a b v) (big H htw hw h40) (show 2 <= 11 by decide)
theorem gb2RE1 (H : Hy x n k v) (htw : x.tw (ix k) = true) (hw : x.wh (ix k) = 0) (h40 : 40 < x.m (ix k)) : StepG Try.prog none (s00 x0 k1 k2 n c) lb (s2RE x n c k ks1 ks2 a b v) fun e t => e = .ret /\ t.defers = [] /\ t.tmps.getD 6 undef = .bool true := StepG.ran pg (KM_ok tagF VT0 x.D) (rb2RE1 tagF VT0 x n c k ks1 ks2 a b v) (big H htw hw h40) (show 2 <= 11 by decide)
open ae ga pm pn
open gb (OkM OkKy keyL putR putE)
variable {x0 x : Acts} {k1 k2 : Nat -> Int} {n c k : Nat} {ks1 ks2 : Nat -> Int} {a b : Sd} {v : VF}
theorem g2RRt0 (H : Hy x n k v) (hA : (OkR x ks1 a k)) (hB : (OkR x ks1 b k)) (htw : x.tw (ix k) = false) (hw : x.wh (ix k) ≠ 0) (hw1 : x.wh (ix k) = 1) : RD x0 k1 k2 n c k (s2RR x n c k ks1 ks2 a b v) :=
 goT (stp (KM_ok _ _ x.D) (r2RRt0 tagF VT0 x n c k ks1 ks2 a b v) (qtR (ky0 a b) H htw hw hw1 hA) (tmM_dead (Vt_dead H.hv) lvt) (HG_ok (.inl rfl) (.inl rfl)) rfl (by kernel_rfl) (show 2 <= 11 by decide)) H fun u => .g2RR (Vt_dead H.hv) (hA.keep u (Nat.le_succ k)) (hB.keep u (Nat.le_succ k))
theorem g2RRc0 (H : Hy x n k v) (hA : (OkR x ks1 a k)) (hB : (OkR x ks1 b k)) (htw : x.tw (ix k) = false) (hw : x.wh (ix k) ≠ 0) (hw1 : x.wh (ix k) ≠ 1) : RD x0 k1 k2 n c k (s2RR x n c k ks1 ks2 a b v) :=
 goAc (stp (KM_ok _ _ x.D) (r2RRc0 tagF VT0 x n c k ks1 ks2 a b v) (qcR H htw hw hw1 hB) (tmM_dead (Vc_dead H.hv) lvc) (HG_ok (.inr ⟨_, rfl⟩) (.inl rfl)) rfl (by kernel_rfl) (show 2 <= 11 by decide)) H (Vc_dead H.hv) hB
theorem g2RRw10 (H : Hy x n k v) (hA : (OkR x ks1 a k)) (hB : (OkR x ks1 b k)) (htw : x.tw (ix k) = false) (hw : x.wh (ix k) = 0) (h40 : x.m (ix k) <= 40) (h0 : x.m (ix k) ≠ 0) : RD x0 k1 k2 n c k (s2RR x n c k ks1 ks2 a b v) :=
 goAw1R (stp (KJ_ok _ _ x _) (r2RRw10 tagF VT0 x n c k ks1 ks2 a b v) (cw1R H htw hw h40 h0 hA (lpJ hJ02R jn02R jx02R jo02R H h40 h0)) (tmM_dead (Vw1_dead H.hv) lvw1) (HG_ok (.inr ⟨_, rfl⟩) (.inr ⟨_, rfl⟩)) rfl (by kernel_rfl) (show 2 <= 11 by decide)) H hA h40 h0 fun y z u h => .g2RR (Vw1_dead H.hv) h (hB.keep u (Nat.le_succ k))
theorem g2RRw00 (H : Hy x n k v) (hA : (OkR x ks1 a k)) (hB : (OkR x ks1 b k)) (htw : x.tw (ix k) = false) (hw : x.wh (ix k) = 0) (h40 : x.m (ix k) <= 40) (h0 : x.m (ix k) = 0) : RD x0 k1 k2 n c k (s2RR x n c k ks1 ks2 a b v) :=
 goAw0R (stp (KM_ok _ _ x.D) (r2RRw00 tagF VT0 x n c k ks1 ks2 a b v) (cw0R H htw hw h40 h0 hA (neg0 h0)) (tmM_dead (Vw0_dead H.hv) lvw0) (HG_ok (.inr ⟨_, rfl⟩) (.inr ⟨_, rfl⟩)) rfl (by kernel_rfl) (show 2 <= 11 by decide)) H hA h40 h0 fun y z u h => .g2RR (Vw0_dead H.hv) h (hB.keep u (Nat.le_succ k))
theorem g2RRt1 (H : Hy x n k v) (hA : (OkR x ks1 a k)) (hB : (OkR x ks1 b k)) (htw : x.tw (ix k) = true) (hw : x.wh (ix k) ≠ 0) (hw1 : x.wh (ix k) = 1) : RD x0 k1 k2 n c k (s2RR x n c k ks1 ks2 a b v) :=
 goT (stp (KM_ok _ _ x.D) (r2RRt1 tagF VT0 x n c k ks1 ks2 a b v) (qtR (ky1 a b) H htw hw hw1 hB) (tmM_dead (Vt_dead H.hv) lvt) (HG_ok (.inl rfl) (.inl rfl)) rfl (by kernel_rfl) (show 2 <= 11 by decide)) H fun u => .g2RR (Vt_dead H.hv) (hA.keep u (Nat.le_succ k)) (hB.keep u (Nat.le_succ k))
theorem g2RRc1 (H : Hy x n k v) (hA : (OkR x ks1 a k)) (hB : (OkR x ks1 b k)) (htw : x.tw (ix k) = true) (hw : x.wh (ix k) ≠ 0) (hw1 : x.wh (ix k) ≠ 1) : RD x0 k1 k2 n c k (s2RR x n c k ks1 ks2 a b v) :=
 goBc (stp (KM_ok _ _ x.D) (r2RRc1 tagF VT0 x n c k ks1 ks2 a b v) (qcR H htw hw hw1 hA) (tmM_dead (Vc_dead H.hv) lvc) (HG_ok (.inr ⟨_, rfl⟩) (.inl rfl)) rfl (by kernel_rfl) (show 2 <= 11 by decide)) H (Vc_dead H.hv) hA
theorem g2RRw11 (H : Hy x n k v) (hA : (OkR x ks1 a k)) (hB : (OkR x ks1 b k)) (htw : x.tw (ix k) = true) (hw : x.wh (ix k) = 0) (h40 : x.m (ix k) <= 40) (h0 : x.m (ix k) ≠ 0) : RD x0 k1 k2 n c k (s2RR x n c k ks1 ks2 a b v) :=
 goBw1R (stp (KJ_ok _ _ x _) (r2RRw11 tagF VT0 x n c k ks1 ks2 a b v) (cw1R H htw hw h40 h0 hB (lpJ hJ12R jn12R jx12R jo12R H h40 h0)) (tmM_dead (Vw1_dead H.hv) lvw1) (HG_ok (.inr ⟨_, rfl⟩) (.inr ⟨_, rfl⟩)) rfl (by kernel_rfl) (show 2 <= 11 by decide)) H hB h40 h0 fun y z u h => .g2RR (Vw1_dead H.hv) (hA.keep u (Nat.le_succ k)) h
theorem g2RRw01 (H : Hy x n k v) (hA : (OkR x ks1 a k)) (hB : (OkR x ks1 b k)) (htw : x.tw (ix k) = true) (hw : x.wh (ix k) = 0) (h40 : x.m (ix k) <= 40) (h0 : x.m (ix k) = 0) : RD x0 k1 k2 n c k (s2RR x n c k ks1 ks2 a b v) :=
 goBw0R (stp (KM_ok _ _ x.D) (r2RRw01 tagF VT0 x n c k ks1 ks2 a b v) (cw0R H htw hw h40 h0 hB (neg0 h0)) (tmM_dead (Vw0_dead H.hv) lvw0) (HG_ok (.inr ⟨_, rfl⟩) (.inr ⟨_, rfl⟩)) rfl (by kernel_rfl) (show 2 <= 11 by decide)) H hB h40 h0 fun y z u h => .g2RR (Vw0_dead H.hv) (hA.keep u (Nat.le_succ k)) h
theorem gx2RR (hv : ∀ i, DeadV (v i)) (hA : (OkR x ks1 a n)) (hB : (OkR x ks1 b n)) : StepG Try.prog none (s00 x0 k1 k2 n c) lb (s2RR x n c n ks1 ks2 a b v) fun e t => e = .exit 0 /\ Good x n c n t :=
 exX (rx2RR tagF VT0 x n c n ks1 ks2 a b v) (tmM_dead (Vx_dead hv) lvx) (HG_ok (.inl rfl) (.inl rfl)) rfl (by kernel_rfl) (show 2 <= 11 by decide) (.g2RR (Vx_dead hv) hA hB)
theorem gb2RR0 (H : Hy x n k v) (htw : x.tw (ix k) = false) (hw : x.wh (ix k) = 0) (h40 : 40 < x.m (ix k)) : StepG Try.prog none (s00 x0 k1 k2 n c) lb (s2RR x n c k ks1 ks2 a b v) fun e t => e = .ret /\ t.defers = [] /\ t.tmps.getD 6 undef = .bool true := StepG.ran pg (KM_ok tagF VT0 x.D) (rb2RR0 tagF VT0 x n c k ks1 ks2 a b v) (big H htw hw h40) (show 2 <= 11 by decide)
theorem gb2RR1 (H : Hy x n k v) (htw : x.tw (ix k) = true) (hw : x.wh (ix k) = 0) (h40 : 40 < x.m (ix k)) : StepG Try.prog none (s00 x0 k1 k2 n c) lb (s2RR x n c k ks1 ks2 a b v) fun e t => e = .ret /\ t.defers = [] /\ t.tmps.getD 6 undef = .bool true := StepG.ran pg (KM_ok tagF VT0 x.D) (rb2RR1 tagF VT0 x n c k ks1 ks2 a b v) (big H htw hw h40) (show 2 <= 11 by decide)
end
end po
end Go.Proofs.Ytkcngffpnnlmeaa
