/- Read off the code by the clean reading. -/
import Derived.Test.YteknepfcbpoooaaClnNa
import Derived.Test.YteknepfcbpoooaaClnQd
set_option linter.unusedVariables false
set_option linter.unusedSimpArgs false
set_option linter.deprecated false
set_option maxRecDepth 100000
namespace Go.Proofs.Yteknepfcbpoooaa
open Go.ChangeShapes Go.WideShapes Go.ChangeAt Go.RowKit Go.Cln
namespace sk
open hc hx hy hz tb na
set_option linter.unusedVariables false
noncomputable section
structure HX where
  D : Nat → List Int
  C : Nat → List Int
def HX.F (x : HX) (g P : Nat) : Cells := match Nat.beq g 1001 with
  | true => .ints .i64 (x.C P)
  | false => .ints .u8 (x.D P)
abbrev PV (P o n c : Nat) : Value := .slice (some ⟨P, o, some 1000⟩) n c
def wx (x : HX) (P o n : Nat) : List Int := ((x.D P).drop o).take n
def FR (x : HX) (V : List Int → sw.N5) (f : FuncId) (args : List Value) (s : St) : Option (Value × Prop) := if f == 13 then (match args with
  | [.slice (some ⟨b, 0, some 1⟩) m c] => (match s.heap.get 0 with
    | some (.fam F) => (match s.heap.get b with
      | some (.cells (.lit L) _) => some (outV (V (catV x.D L)), V = shaN ∧ F = x.F ∧ L.length = m ∧ m ≤ 40 ∧ RowsOk x.D 3000 L)
      | _ => none)
    | _ => none)
  | [.slice (some ⟨b, 0, none⟩) 1 c] => (match s.heap.get 0 with
    | some (.fam F) => (match s.heap.get b with
      | some (.cells (.lit [.slice (some ⟨r, o, g⟩) n d]) _) => some (outV (V (catV x.D [.slice (some ⟨r, o, g⟩) n d])), V = shaN ∧ F = x.F ∧ RowsOk x.D 3000 [.slice (some ⟨r, o, g⟩) n d])
      | _ => none)
    | _ => none)
  | _ => none) else none
theorem ofC {m : Nat} (hm : m ≤ 40) (x : Nest) (Pl c : Nat) (h : x.Ok Pl) (hN : m ≤ x.N Pl) (hB : ∀ i, i < m → x.m Pl i ≤ 3000) : CallOk Try.prog 13 [.slice (some ⟨Pl, 0, some 1001⟩) m c] (smSt 1 [some (.fam x.F)] []) (outV (shaN (x.cat Pl m))) (smSt 1 (some (.fam x.F) :: List.replicate 20 none) []) := by
  have hl := Nest.cat_len (B := 3000) h m hN hB
  have h2 : m * 3000 ≤ 120000 := by omega
  exact of_ok h hN (by unfold most; omega) (by unfold most; omega)
theorem FR_ok (x : HX) (V : List Int → sw.N5) (f : FuncId) (args : List Value) (s : St) (r : Value × Prop) (h : FR x V f args s = some r) : flat r.1 = true ∧ (r.2 → ∀ (ρ : Nat → PB) (w : World) (args' : List Value), Hs s ρ w → Go.Cln.VL (Dm s) ρ args args' → Calls Try.prog f args'.toArray w fun e w' => e = .returned r.1 ∧ Go.RowKit.Below w.heap.size w w') := by
  unfold FR at h
  split at h
  · rename_i hf
    have hf' : f = 13 := by simpa using hf
    subst hf'
    split at h
    · rename_i b m c
      split at h
      · rename_i F h0
        split at h
        · rename_i L ty hb
          cases h
          refine ⟨rfl, fun ⟨q, q0, q1, q2, q3⟩ ρ w args' hs hl => ?_⟩
          cases (show V = shaN from q)
          cases (show F = x.F from q0)
          obtain ⟨v', t, rfl, hv, ht⟩ := hl.inv_cons
          obtain rfl := ht.inv_nil
          exact listed (V := fun l => outV (shaN l)) (B := 3000) (k := 20) (fun _ => rfl) (ofC q2) hs h0 (fun _ => rfl) hb rfl q1 q3 hv
        · cases h
      · cases h
    · rename_i b c
      split at h
      · rename_i F h0
        split at h
        · rename_i r o g n d ty hb
          cases h
          refine ⟨rfl, fun ⟨q, q0, q3⟩ ρ w args' hs hl => ?_⟩
          cases (show V = shaN from q)
          cases (show F = x.F from q0)
          obtain ⟨v', t, rfl, hv, ht⟩ := hl.inv_cons
          obtain rfl := ht.inv_nil
          exact listed (V := fun l => outV (shaN l)) (B := 3000) (k := 20) (fun _ => rfl) (ofC (m := 1) (by decide)) hs h0 (fun _ => rfl) hb rfl rfl q3 hv
        · cases h
      · cases h
    · cases h
  · cases h
def FT (A : AT) (E : ET) (f : FuncId) (args : List Value) (s : St) : Option Inst := match FO A E f args s with
  | some i => some i
  | none => match F18 f args s with
    | some i => some i
    | none => tc.F10 f args s
theorem FT_ok (A : AT) (E : ET) (f : FuncId) (args : List Value) (s : St) (i : Inst) (h : FT A E f args s = some i) : Fits s i args ∧ (i.ask → CallOk Try.prog f i.args i.s0 i.val i.s1) := by
  unfold FT at h
  split at h
  · rename_i j h1
    cases h; exact FO_ok A E f args s _ h1
  · split at h
    · rename_i j h1
      cases h; exact F18_ok f args s _ h1
    · unfold tc.F10 at h
      split at h
      · rename_i hf
        have hf' : f = 10 := by simpa using hf
        subst hf'
        split at h
        · cases h
          exact ⟨⟨rfl, fun j p ob hp ho => by simp at hp⟩, fun _ => tc.works_ok⟩
        · cases h
      · cases h
def KZ (x : HX) (A : AT) (E : ET) (V : List Int → sw.N5) (B : BF) : Given := { Given.readsP (Given.frames (Given.calls (FB B)) (FT A E)) (FR x V) with fits := true }
theorem KZ_ok (x : HX) (A : AT) (E : ET) (V : List Int → sw.N5) : GivenOk Try.prog (KZ x A E V sw.blk) := frames_fits ((F_eq.frames (FT_ok A E)).readsP (FR_ok x V)) true
def cv (Q n c : Nat) : Value := .slice (some ⟨Q, 0, some 1001⟩) n c
def dropC : Nat → Code → Code
  | 0, c => c
  | k + 1, .seq x y => dropC k y
  | _ + 1, c => c
def fstC : Code → Code
  | .seq x _ => x
  | c => c
noncomputable def bodyC : Code := ((Try.prog.funcs[9]?).bind (·.body)).getD .skip
noncomputable def c5 : Code := dropC 5 bodyC
noncomputable def cX : Code := fstC c5
noncomputable def c6 : Code := dropC 1 c5
noncomputable def lb : Code := loopB Try.prog 9 0
def s00 (x : HX) (P n c Q m d : Nat) (N : Nat) : St := ⟨[PV P 0 n c, cv Q m d] ++ List.replicate N undef, [], Tr.ofL [some (.fam x.F)], 1, 1, [], fun _ => false, True, []⟩
end
end sk
end Go.Proofs.Yteknepfcbpoooaa
namespace Go.Proofs.Yteknepfcbpoooaa
open Go.ChangeShapes Go.WideShapes Go.ChangeAt Go.RowKit Go.Cln
namespace sk
open hc hx hy hz tb na
set_option linter.unusedVariables false
noncomputable section
structure Y where
  P : Nat
  n : Nat
  c : Nat
  Q : Nat
  m : Nat
  d : Nat
def vs (v : Nat → Value) (b : Nat) : Nat → List Value → List Value
  | 0, l => l
  | k + 1, l => vs v b k (v (b + k) :: l)
theorem deadT_vs {B : Nat → Bool} {v : Nat → Value} (h : ∀ i, DeadV (v i)) : ∀ (n : Nat) {a b : Nat} {l : List Value}, deadT B (a + n) l → deadT B a (vs v b n l)
  | 0, _, _, _, g => g
  | n + 1, a, b, l, g => deadT_vs h n (a := a) (b := b) (l := v (b + n) :: l) ⟨fun _ => h _, g⟩
abbrev VF := Nat → Value
def allB : Nat → Bool := fun _ => true
def tmS (v : VF) (y : Y) (pt : Value) (f : Int) (k : Nat) : List Value := (PV y.P 0 y.n y.c :: cv y.Q y.m y.d :: v 2 :: v 3 :: .bool false :: P0 1 0 :: pt :: .int .i64 f :: .int .i64 (nI k) :: vs v 9 141 [])
theorem tmS_dead {v : VF} {y : Y} {pt : Value} {f : Int} {k : Nat} {B : Nat → Bool} (h : ∀ i, DeadV (v i)) (hB : ∀ i, ((Nat.ble 0 i && Nat.ble i 1) || (Nat.ble 4 i && Nat.ble i 8)) = true → B i = true) : deadT B 0 (tmS v y pt f k) :=
  ⟨fun e => absurd e (by rw [hB 0 rfl]; decide), ⟨fun e => absurd e (by rw [hB 1 rfl]; decide), ⟨fun _ => h 2, ⟨fun _ => h 3, ⟨fun e => absurd e (by rw [hB 4 rfl]; decide), ⟨fun e => absurd e (by rw [hB 5 rfl]; decide), ⟨fun e => absurd e (by rw [hB 6 rfl]; decide), ⟨fun e => absurd e (by rw [hB 7 rfl]; decide), ⟨fun e => absurd e (by rw [hB 8 rfl]; decide), deadT_vs h 141 (trivial)⟩⟩⟩⟩⟩⟩⟩⟩⟩
def hS (x : HX) (h : HS) (s : Int) (r : Option Ob) : Nat → Option Ob := fun i => match i with
  | 0 => some (.fam x.F)
  | 1 => some (objH h s)
  | 2 => r
  | _ => none
theorem hS_ok (x : HX) (h : HS) (s : Int) (r : Option Ob) (hr : ∀ n w g t, r ≠ some (.cells (.rows n w g) t)) : Go.Cln.RowsIn (hS x h s r) := by
  intro b n' w' g' t h
  unfold hS at h
  split at h
  · cases h
  · cases h
  · exact absurd h (hr _ _ _ _)
  · cases h
def sS (x : HX) (y : Y) (h : HS) (s : Int) (pt : Value) (r : Option Ob) (f : Int) (k : Nat) (v : VF) (nx : Nat) : St := ⟨tmS v y pt f k, [], Tr.rebuild (hS x h s r) nx, nx, 1, [], fun _ => false, True, []⟩
def sN (x : HX) (y : Y) (h : HS) (s : Int) (f : Int) (k : Nat) (v : VF) : St := sS x y h s (.slice none 0 0) none f k v 2
def oP (k : Nat) (g : Nat → Value) : Option Ob := some (.cells (.fam k g) 22)
def pl (k : Nat) : Value := .slice (some ⟨2, 0, some 1⟩) k k
def sF (x : HX) (y : Y) (h : HS) (s : Int) (g : Nat → Value) (f : Int) (k : Nat) (v : VF) : St := sS x y h s (pl k) (oP k g) f k v 3
def goL (x : HX) (A : AT) (E : ET) (V : List Int → sw.N5) (B : BF) (s : St) (o : List (Option Bool)) : Option (Exit × St) := (mk Try.prog (KZ x A E V B) 300).code 9 none lb { s with obl := True, orc := o }
end
end sk
end Go.Proofs.Yteknepfcbpoooaa
namespace Go.Proofs.Yteknepfcbpoooaa
open Go.ChangeShapes Go.WideShapes Go.ChangeAt Go.RowKit Go.Cln
namespace sk
open hc hx hy hz tb na
set_option linter.unusedVariables false
noncomputable section
def WL (i : Nat) : Bool := Nat.beq i 9 || (Nat.ble 28 i && Nat.ble i 56)
def VL (v : VF) : VF := fun i => match WL i with
  | true => junk
  | false => v i
def BL (i : Nat) : Bool := ((Nat.ble 0 i && Nat.ble i 1) || (Nat.ble 4 i && Nat.ble i 8)) || WL i
theorem VL_dead {v : VF} (h : ∀ i, DeadV (v i)) (i : Nat) : DeadV (VL v i) := by
  unfold VL
  split
  · exact DeadV.junk
  · exact h i
theorem lvL (i : Nat) (h : ((Nat.ble 0 i && Nat.ble i 1) || (Nat.ble 4 i && Nat.ble i 8)) = true) : BL i = true := by
  unfold BL
  simp only [Bool.or_eq_true] at h ⊢
  exact .inl h
def WX (i : Nat) : Bool := (Nat.ble 28 i && Nat.ble i 31)
def VX (v : VF) : VF := fun i => match WX i with
  | true => junk
  | false => v i
def BX (i : Nat) : Bool := ((Nat.ble 0 i && Nat.ble i 1) || (Nat.ble 4 i && Nat.ble i 8)) || WX i
theorem VX_dead {v : VF} (h : ∀ i, DeadV (v i)) (i : Nat) : DeadV (VX v i) := by
  unfold VX
  split
  · exact DeadV.junk
  · exact h i
theorem lvX (i : Nat) (h : ((Nat.ble 0 i && Nat.ble i 1) || (Nat.ble 4 i && Nat.ble i 8)) = true) : BX i = true := by
  unfold BX
  simp only [Bool.or_eq_true] at h ⊢
  exact .inl h
def cut (x : HX) (y : Y) (k : Nat) : Int := (x.C y.Q).getD (0 + k * 1) 0
def pc (y : Y) (f to : Int) : Value := PV y.P (0 + f.toNat * 1) (to.toNat - f.toNat) (y.c - f.toNat)
def wo (x : HX) (y : Y) (f to : Int) : List Int := wx x y.P (0 + f.toNat * 1) (to.toNat - f.toNat)
def pH (x : HX) (y : Y) (k : Nat) (f to : Int) (c1 c2 : Prop) : Prop := (((((True ∧ decide (nI k < nI y.m) = true) ∧ (0 ≤ nI k ∧ nI k < nI y.m)) ∧ 0 + k * 1 < (x.C y.Q).length) ∧ c1) ∧ c2) ∧ (0 ≤ to ∧ to ≤ nI y.c ∧ 0 ≤ f ∧ f ≤ to)
def pQ (y : Y) (f to : Int) : Prop := 0 ≤ to ∧ to ≤ nI y.c ∧ 0 ≤ f ∧ f ≤ to
def wA (A : AT) (x : HX) (y : Y) (h : HS) (s f to : Int) : Prop := A = AB ∧ 0 ≤ intAt (cH h s) 64 ∧ intAt (cH h s) 64 < 64 ∧ to.toNat - f.toNat = (wo x y f to).length ∧ to.toNat - f.toNat ≤ y.c - f.toNat
def fk (k : Nat) : Prop := IntKind.i64.wrap (nI k + 1) = nI k + 1
def gr (k : Nat) : Prop := k < k + 1 ∧ (k + 1) * 24 ≤ mostBytes ∧ k + 1 ≤ mostBytes
def hs' (A : AT) (x : HX) (y : Y) (h : HS) (s f to : Int) : HS := A (wo x y f to) (hOf (cH h s))
def ss (h : HS) (s f to : Int) : Int := IntKind.i64.wrap (intAt (cH h s) 70 + ((to.toNat - f.toNat : Nat) : Int))
def T1 : Option Bool := some true
def F1 : Option Bool := some false
def sM (x : HX) (y : Y) (h : HS) (s f : Int) (k : Nat) (v : VF) : St := sS x y h s (pl k) none f k v 3
def goM (A : AT) (E : ET) (V : List Int → sw.N5) (B : BF) (x : HX) (S : St) (o : List (Option Bool)) (u : St) (σ : List Nat) (m : Nat) : Option (Exit × Prop × Seen × Option Ob) := (goL x A E V B S o).map (fun r => (r.1, r.2.obl, seenInT BL r.2 u σ, r.2.heap.get m))
variable (A : AT) (E : ET) (V : List Int → sw.N5) (B : BF) (x : HX) (y : Y) (h : HS) (s f : Int) (k : Nat) (v : VF) (g : Nat → Value)
theorem kFtt : goM A E V B x (sF x y h s g f k v) [T1, T1, T1, T1, T1, T1, F1, none, F1, none, T1, T1, T1] (sM x y (hs' A x y h s f (cut x y k)) (ss h s f (cut x y k)) (cut x y k) (k + 1) (VL v)) [0, 1, 4] 4 = some (.normal, ((((pH x y k f (cut x y k) (decide (cut x y k < nI y.n) = true) (decide (cut x y k > f) = true) ∧ gr k) ∧ 0 + k * 1 ≤ k) ∧ pQ y f (cut x y k)) ∧ wA A x y h s f (cut x y k)) ∧ fk k, seenAsT BL (sM x y (hs' A x y h s f (cut x y k)) (ss h s f (cut x y k)) (cut x y k) (k + 1) (VL v)) [0, 1, 4] 11, some (.cells (.lit (famList g 0 (k * 1) ++ [pc y f (cut x y k)])) 22)) := by kernel_rfl
theorem kNtt : goM A E V B x (sN x y h s f 0 v) [T1, T1, T1, T1, T1, T1, T1, T1] (sM x y (hs' A x y h s f (cut x y 0)) (ss h s f (cut x y 0)) (cut x y 0) (0 + 1) (VL v)) [0, 1, 3] 3 = some (.normal, (((pH x y 0 f (cut x y 0) (decide (cut x y 0 < nI y.n) = true) (decide (cut x y 0 > f) = true) ∧ pQ y f (cut x y 0)) ∧ wA A x y h s f (cut x y 0)) ∧ fk 0), seenAsT BL (sM x y (hs' A x y h s f (cut x y 0)) (ss h s f (cut x y 0)) (cut x y 0) (0 + 1) (VL v)) [0, 1, 3] 10, some (.cells (.lit (famList g 0 (0 * 1) ++ [pc y f (cut x y 0)])) 22)) := by kernel_rfl
theorem kFft : goM A E V B x (sF x y h s g f k v) [T1, T1, T1, F1, T1, T1, F1, none, F1, none, T1, T1, T1] (sM x y (hs' A x y h s f (nI y.n)) (ss h s f (nI y.n)) (nI y.n) (k + 1) (VL v)) [0, 1, 4] 4 = some (.normal, ((((pH x y k f (nI y.n) (decide (cut x y k < nI y.n) = false) (decide (nI y.n > f) = true) ∧ gr k) ∧ 0 + k * 1 ≤ k) ∧ pQ y f (nI y.n)) ∧ wA A x y h s f (nI y.n)) ∧ fk k, seenAsT BL (sM x y (hs' A x y h s f (nI y.n)) (ss h s f (nI y.n)) (nI y.n) (k + 1) (VL v)) [0, 1, 4] 11, some (.cells (.lit (famList g 0 (k * 1) ++ [pc y f (nI y.n)])) 22)) := by kernel_rfl
theorem kNft : goM A E V B x (sN x y h s f 0 v) [T1, T1, T1, F1, T1, T1, T1, T1] (sM x y (hs' A x y h s f (nI y.n)) (ss h s f (nI y.n)) (nI y.n) (0 + 1) (VL v)) [0, 1, 3] 3 = some (.normal, (((pH x y 0 f (nI y.n) (decide (cut x y 0 < nI y.n) = false) (decide (nI y.n > f) = true) ∧ pQ y f (nI y.n)) ∧ wA A x y h s f (nI y.n)) ∧ fk 0), seenAsT BL (sM x y (hs' A x y h s f (nI y.n)) (ss h s f (nI y.n)) (nI y.n) (0 + 1) (VL v)) [0, 1, 3] 10, some (.cells (.lit (famList g 0 (0 * 1) ++ [pc y f (nI y.n)])) 22)) := by kernel_rfl
theorem kFtf : goM A E V B x (sF x y h s g f k v) [T1, T1, T1, T1, F1, T1, F1, none, F1, none, T1, T1, T1] (sM x y (hs' A x y h s f f) (ss h s f f) f (k + 1) (VL v)) [0, 1, 4] 4 = some (.normal, ((((pH x y k f f (decide (cut x y k < nI y.n) = true) (decide (cut x y k > f) = false) ∧ gr k) ∧ 0 + k * 1 ≤ k) ∧ pQ y f f) ∧ wA A x y h s f f) ∧ fk k, seenAsT BL (sM x y (hs' A x y h s f f) (ss h s f f) f (k + 1) (VL v)) [0, 1, 4] 11, some (.cells (.lit (famList g 0 (k * 1) ++ [pc y f f])) 22)) := by kernel_rfl
theorem kNtf : goM A E V B x (sN x y h s f 0 v) [T1, T1, T1, T1, F1, T1, T1, T1] (sM x y (hs' A x y h s f f) (ss h s f f) f (0 + 1) (VL v)) [0, 1, 3] 3 = some (.normal, (((pH x y 0 f f (decide (cut x y 0 < nI y.n) = true) (decide (cut x y 0 > f) = false) ∧ pQ y f f) ∧ wA A x y h s f f) ∧ fk 0), seenAsT BL (sM x y (hs' A x y h s f f) (ss h s f f) f (0 + 1) (VL v)) [0, 1, 3] 10, some (.cells (.lit (famList g 0 (0 * 1) ++ [pc y f f])) 22)) := by kernel_rfl
theorem kFff : goM A E V B x (sF x y h s g f k v) [T1, T1, T1, F1, F1, T1, F1, none, F1, none, T1, T1, T1] (sM x y (hs' A x y h s f f) (ss h s f f) f (k + 1) (VL v)) [0, 1, 4] 4 = some (.normal, ((((pH x y k f f (decide (cut x y k < nI y.n) = false) (decide (nI y.n > f) = false) ∧ gr k) ∧ 0 + k * 1 ≤ k) ∧ pQ y f f) ∧ wA A x y h s f f) ∧ fk k, seenAsT BL (sM x y (hs' A x y h s f f) (ss h s f f) f (k + 1) (VL v)) [0, 1, 4] 11, some (.cells (.lit (famList g 0 (k * 1) ++ [pc y f f])) 22)) := by kernel_rfl
theorem kNff : goM A E V B x (sN x y h s f 0 v) [T1, T1, T1, F1, F1, T1, T1, T1] (sM x y (hs' A x y h s f f) (ss h s f f) f (0 + 1) (VL v)) [0, 1, 3] 3 = some (.normal, (((pH x y 0 f f (decide (cut x y 0 < nI y.n) = false) (decide (nI y.n > f) = false) ∧ pQ y f f) ∧ wA A x y h s f f) ∧ fk 0), seenAsT BL (sM x y (hs' A x y h s f f) (ss h s f f) f (0 + 1) (VL v)) [0, 1, 3] 10, some (.cells (.lit (famList g 0 (0 * 1) ++ [pc y f f])) 22)) := by kernel_rfl
theorem xF : (goL x A E V B (sF x y h s g f k v) [F1]).map (fun r => (r.1, r.2.obl, seenInT BX r.2 (sM x y h s f k (VX v)) [0, 1, 2], r.2.heap.get 2)) = some (.exit 0, True ∧ decide (nI k < nI y.m) = false, seenAsT BX (sM x y h s f k (VX v)) [0, 1, 2] 3, some (.cells (.fam k g) 22)) := by kernel_rfl
theorem xN : (goL x A E V B (sN x y h s f 0 v) [F1]).map (fun r => (r.1, r.2.obl, seenInT BX r.2 (sN x y h s f 0 (VX v)) [0, 1])) = some (.exit 0, True ∧ decide (nI 0 < nI y.m) = false, seenAsT BX (sN x y h s f 0 (VX v)) [0, 1] 2) := by kernel_rfl
def s0 : St := s00 x y.P y.n y.c y.Q y.m y.d 148
theorem okM4 : picOkT BL (s0 x y) (sM x y h s f k (VL v)) [0, 1, 4] = true := by kernel_rfl
theorem okM3 : picOkT BL (s0 x y) (sM x y h s f k (VL v)) [0, 1, 3] = true := by kernel_rfl
theorem okF : picOkT BX (s0 x y) (sM x y h s f k (VX v)) [0, 1, 2] = true := by kernel_rfl
theorem okN : picOkT BX (s0 x y) (sN x y h s f 0 (VX v)) [0, 1] = true := by kernel_rfl
end
end sk
end Go.Proofs.Yteknepfcbpoooaa
namespace Go.Proofs.Yteknepfcbpoooaa
open Go.ChangeShapes Go.WideShapes Go.ChangeAt Go.RowKit Go.Cln
namespace sk
open hc hx hy hz tb na
set_option linter.unusedVariables false
noncomputable section
def tmZ (v : VF) (y : Y) (k nn q : Nat) (i : Int) : List Value := (PV y.P 0 y.n y.c :: cv y.Q y.m y.d :: v 2 :: v 3 :: .bool false :: P0 1 0 :: pl k :: vs v 7 4 (.int .i64 0 :: .slice (some ⟨3, 0, some 1⟩) nn q :: P0 4 0 :: .int .i64 i :: vs v 15 135 []))
theorem tmZ_dead {v : VF} {y : Y} {k nn q : Nat} {i : Int} {B : Nat → Bool} (h : ∀ i, DeadV (v i)) (hB : ∀ i, ((Nat.ble 0 i && Nat.ble i 1) || (Nat.ble 4 i && Nat.ble i 6) || (Nat.ble 11 i && Nat.ble i 14)) = true → B i = true) : deadT B 0 (tmZ v y k nn q i) :=
  ⟨fun e => absurd e (by rw [hB 0 rfl]; decide), ⟨fun e => absurd e (by rw [hB 1 rfl]; decide), ⟨fun _ => h 2, ⟨fun _ => h 3, ⟨fun e => absurd e (by rw [hB 4 rfl]; decide), ⟨fun e => absurd e (by rw [hB 5 rfl]; decide), ⟨fun e => absurd e (by rw [hB 6 rfl]; decide), deadT_vs h 4 (⟨fun e => absurd e (by rw [hB 11 rfl]; decide), ⟨fun e => absurd e (by rw [hB 12 rfl]; decide), ⟨fun e => absurd e (by rw [hB 13 rfl]; decide), ⟨fun e => absurd e (by rw [hB 14 rfl]; decide), deadT_vs h 135 (trivial)⟩⟩⟩⟩)⟩⟩⟩⟩⟩⟩⟩
def hZ2 (x : HX) (h : HS) (s : Int) (r : Option Ob) (L : List Int) (S5 : sw.N5) : Nat → Option Ob := fun i => match i with
  | 0 => some (.fam x.F)
  | 1 => some (objH h s)
  | 2 => r
  | 3 => some (.cells (.ints .u8 L) 5)
  | 4 => some (.cells (.lit S5.row) 31)
  | _ => none
def sZ (x : HX) (y : Y) (h : HS) (s : Int) (r : Option Ob) (L : List Int) (S5 : sw.N5) (k nn q : Nat) (i : Int) (v : VF) : St := ⟨tmZ v y k nn q i, [], Tr.rebuild (hZ2 x h s r L S5) 5, 5, 1, [], fun _ => false, True, []⟩
def lb2 : Code := loopB Try.prog 9 1
def goZ (x : HX) (A : AT) (E : ET) (V : List Int → sw.N5) (B : BF) (S : St) (o : List (Option Bool)) : Option (Exit × St) := (mk Try.prog (KZ x A E V B) 300).code 9 none lb2 { S with obl := True, orc := o }
end
end sk
end Go.Proofs.Yteknepfcbpoooaa
namespace Go.Proofs.Yteknepfcbpoooaa
open Go.ChangeShapes Go.WideShapes Go.ChangeAt Go.RowKit Go.Cln
namespace sk
open hc hx hy hz tb na
set_option linter.unusedVariables false
noncomputable section
def Z0 : Nat → Int := fun _ => 0
def xb (L : List Int) (i : Int) : Nat → Int := intAt (rowV .u8 64 (nb L (0 + i.toNat * 1) ((i + 64).toNat - i.toNat) Z0 0))
end
end sk
end Go.Proofs.Yteknepfcbpoooaa
