/- Read off the code by the clean reading. -/
import Derived.Test.YteknepfcbpoooabClnVa
import Derived.Test.YteknepfcbpoooabClnNa
import Derived.Test.YteknepfcbpoooabClnSb
import Derived.Test.YteknepfcbpoooabClnQd
set_option linter.unusedVariables false
set_option linter.unusedSimpArgs false
set_option linter.deprecated false
set_option maxRecDepth 100000
namespace Go.Proofs.Yteknepfcbpoooab
open Go.ChangeShapes Go.WideShapes Go.ChangeAt Go.RowKit Go.Cln
namespace si
open sd
open pa (rawN)
open sp (upd)
set_option linter.unusedVariables false
noncomputable section
structure HX where
  D : Nat → List Int
  C : Nat → List Int
def HX.F (x : HX) (g P : Nat) : Cells := match Nat.beq g 1001 with
  | true => .ints .i64 (x.C P)
  | false => .ints .u8 (x.D P)
abbrev PV (P o n c : Nat) : Value := .slice (some ⟨P, o, some 1000⟩) n c
def wx (x : HX) (P o n : Nat) : List Int := ((x.D P).drop o).take n
def oAd (t s : Int) : Option Ob := some (.cells (.lit [.int .u64 t, .int .i64 s, .bool true]) 73)
def oLs (L : List Int) : Option Ob := some (.cells (.ints .u8 L) 5)
def hO (F : Nat → Nat → Cells) (r : Option Ob) (t s : Int) : List (Option Ob) := [some (.fam F), r, oAd t s]
def kO : List Bool := [true, true, true] ++ List.replicate 13 false
def FR (x : HX) (f : FuncId) (args : List Value) (s : St) : Option (Value × Prop) := if f == 12 then (match args with
  | [.slice (some ⟨b, 0, some 1⟩) m c] => (match s.heap.get 0 with
    | some (.fam F) => (match s.heap.get b with
      | some (.cells (.lit L) _) => some (.int .u16 (rawN (catV x.D L)), F = x.F ∧ L.length = m ∧ m ≤ 30 ∧ RowsOk x.D 1000 L)
      | _ => none)
    | _ => none)
  | [.slice (some ⟨b, 0, none⟩) 1 c] => (match s.heap.get b with
    | some (.cells (.lit [.slice (some ⟨r, o, g⟩) n d]) _) => (match isAbs g with
      | true => (match s.heap.get 0 with
        | some (.fam F) => some (.int .u16 (rawN (catV x.D [.slice (some ⟨r, o, g⟩) n d])), F = x.F ∧ RowsOk x.D 1000 [.slice (some ⟨r, o, g⟩) n d])
        | _ => none)
      | false => (match s.heap.get r with
        | some (.cells (.ints .u8 l) _) => some (.int .u16 (rawN ((l.drop o).take n)), Byt ((l.drop o).take n) ∧ 0 < n ∧ ((l.drop o).take n).length = n ∧ n ≤ 1000 ∧ n ≤ d)
        | _ => none))
    | _ => none)
  | _ => none) else none
theorem rawC {m : Nat} (hm : m ≤ 30) (x : Nest) (Pl c : Nat) (h : x.Ok Pl) (hN : m ≤ x.N Pl) (hB : ∀ i, i < m → x.m Pl i ≤ 1000) : CallOk Try.prog 12 [.slice (some ⟨Pl, 0, some 1001⟩) m c] (smSt 1 [some (.fam x.F)] []) (.int .u16 (rawN (x.cat Pl m))) (smSt 1 (some (.fam x.F) :: List.replicate 12 none) []) := pa.rawP h hN hm hB
theorem FR_ok (x : HX) (f : FuncId) (args : List Value) (s : St) (r : Value × Prop) (h : FR x f args s = some r) : flat r.1 = true ∧ (r.2 → ∀ (ρ : Nat → PB) (w : World) (args' : List Value), Hs s ρ w → VL (Dm s) ρ args args' → Calls Try.prog f args'.toArray w fun e w' => e = .returned r.1 ∧ Go.RowKit.Below w.heap.size w w') := by
  unfold FR at h
  split at h
  · rename_i hf
    have hf' : f = 12 := by simpa using hf
    subst hf'
    split at h
    · rename_i b m c
      split at h
      · rename_i F h0
        split at h
        · rename_i L ty hb
          cases h
          refine ⟨rfl, fun ⟨q0, q1, q2, q3⟩ ρ w args' hs hl => ?_⟩
          cases (show F = x.F from q0)
          obtain ⟨v', t, rfl, hv, ht⟩ := hl.inv_cons
          obtain rfl := ht.inv_nil
          exact listed (V := fun l => .int .u16 (rawN l)) (B := 1000) (k := 12) (fun _ => rfl) (rawC q2) hs h0 (fun _ => rfl) hb rfl q1 q3 hv
        · cases h
      · cases h
    · rename_i b c
      split at h
      · rename_i r o g n d ty hb
        split at h
        · rename_i hg
          split at h
          · rename_i F h0
            cases h
            refine ⟨rfl, fun ⟨q0, q3⟩ ρ w args' hs hl => ?_⟩
            cases (show F = x.F from q0)
            obtain ⟨v', t, rfl, hv, ht⟩ := hl.inv_cons
            obtain rfl := ht.inv_nil
            exact listed (V := fun l => .int .u16 (rawN l)) (B := 1000) (k := 12) (fun _ => rfl) (rawC (m := 1) (by decide)) hs h0 (fun _ => rfl) hb rfl rfl q3 hv
          · cases h
        · rename_i hg
          split at h
          · rename_i l t2 hr
            cases h
            refine ⟨rfl, fun ⟨q0, q1, q2, q3, q4⟩ ρ w args' hs hl => ?_⟩
            obtain ⟨v', t, rfl, hv, ht⟩ := hl.inv_cons
            obtain rfl := ht.inv_nil
            exact listed1 (V := fun l => .int .u16 (rawN l)) (B := 1000) (k := 12) (fun _ => rfl) (rawC (m := 1) (by decide)) hs hb hr rfl hg q2 q0 q3 q4 q1 hv
          · cases h
      · cases h
    · cases h
  · cases h
def K1 : Given := Given.frames Given.nothing (fun f args s => sp.F27 f args s)
theorem K1_ok : GivenOk Try.prog K1 := (GivenOk.nothing _).frames sp.F27_ok
def ask1 (l : List Int) (t s : Int) (n c : Nat) : Prop := Byt l ∧ n = l.length ∧ n ≤ 1000 ∧ (0 ≤ t ∧ t ≤ 1000000000000) ∧ (0 ≤ s ∧ s ≤ 1000000000000) ∧ n ≤ c
theorem runO (F : Nat → Nat → Cells) (L : List Int) (o n c : Nat) (t s : Int) : ((mk Try.prog K1 200).call 27 [.pointer (some ⟨2, 0, none⟩), .slice (some ⟨1, o, none⟩) n c] (smSt 2 (hO F (oLs L) t s) [])).map (fun r => (r.1, r.2.obl, r.2.next, keepL kO r.2.heap.get 0)) =
    some (.int .i64 0, True ∧ ask1 ((L.drop o).take n) t s n c, (hO F (oLs L) (upd t s ((L.drop o).take n)) (s + nI n) ++ nones 13).length, hO F (oLs L) (upd t s ((L.drop o).take n)) (s + nI n) ++ nones 13) := by kernel_rfl
theorem hgO {F : Nat → Nat → Cells} {r : Option Ob} {t s : Int} {k b : Nat} : hget (hO F r t s ++ nones k) b = match b with
    | 0 => some (.fam F)
    | 1 => r
    | 2 => oAd t s
    | _ => none := by
  rcases b with _ | _ | _ | b
  · rfl
  · rfl
  · rfl
  · show hget (nones k) b = none
    unfold nones
    unfold Go.Cln.hget
    cases h : (List.replicate k (none : Option Ob))[b]? with
    | none => rfl
    | some v => rw [(List.mem_replicate.1 (List.mem_of_getElem? h)).2]
theorem gtO {F : Nat → Nat → Cells} {r : Option Ob} {t s : Int} {k : Nat} (hk : k ≤ 100) (b : Nat) : (smSt 2 (hO F r t s ++ nones k) []).heap.get b = match b with
    | 0 => some (.fam F)
    | 1 => r
    | 2 => oAd t s
    | _ => none := by
  rw [← hgO (k := k)]; exact ofL_get (by first | (simp [hO, nones]; done) | (simp [hO, nones]; omega)) b
theorem lessO {F : Nat → Nat → Cells} {L : List Int} {t s : Int} {k Pl : Nat} (hk : k ≤ 100) : Less 1 Pl (smSt 2 (hO F (oLs L) t s ++ nones k) []) (smSt 2 (hO F none t s ++ nones k) []) := by
  refine Less.of rfl rfl rfl rfl ?_ (fun b hb => ?_) (fun b o hb ho => ?_)
  · rw [gtO hk]; rfl
  · rw [gtO hk, gtO hk]
    rcases b with _ | _ | _ | b <;> first | rfl | exact absurd rfl hb
  · rw [gtO hk] at ho
    rcases b with _ | _ | _ | b
    · cases ho; trivial
    · exact absurd rfl hb
    · cases ho
      intro i v hv
      rcases i with _ | _ | _ | i <;> first | (cases hv; rfl) | cases hv
    · cases ho
theorem sameO {F : Nat → Nat → Cells} {t s t' s' : Int} {k : Nat} (hk : k ≤ 100) (b : Nat) (hb : (smSt 2 (hO F none t s) []).may b = false) : (smSt 2 (hO F none t' s' ++ nones k) []).heap.get b = (smSt 2 (hO F none t s) []).heap.get b := by
  have hb2 : b < 2 := by
    rcases Nat.lt_or_ge b 2 with h | h
    · exact h
    · have : (smSt 2 (hO F none t s) []).may b = true := by
        unfold St.may
        show (decide (2 ≤ b) && !(List.contains [] b)) = true
        rw [decide_eq_true h]; rfl
      rw [this] at hb; cases hb
  have e := gtO (F := F) (r := none) (t := t) (s := s) (k := 0) (by omega) b
  rw [show hO F none t s ++ nones 0 = hO F none t s from List.append_nil _] at e
  rw [gtO hk, e]
  have : b = 0 ∨ b = 1 := by omega
  rcases this with rfl | rfl <;> rfl
abbrev WrOk (F : Nat → Nat → Cells) (P o n c : Nat) (t s : Int) (w : List Int) : Prop := CallOk Try.prog 27 [.pointer (some ⟨2, 0, none⟩), PV P o n c] (smSt 2 (hO F none t s) []) (.int .i64 0) (smSt 2 (hO F none (upd t s w) (s + nI n) ++ nones 13) [])
theorem wrP (x : HX) {P o n c : Nat} {t s : Int} (h0 : 0 < n) (ha : ask1 (wx x P o n) t s n c) : WrOk x.F P o n c t s (wx x P o n) := by
  obtain ⟨a1, a2, a3, a4, a5, a6⟩ := ha
  have h1 := frame_by sr.pg K1_ok kO (runO x.F (x.D P) o n c t s) ⟨trivial, a1, a2, a3, a4, a5, a6⟩ (by rfl) rfl
  have hl : 0 < (x.D P).length := by
    unfold wx at a2
    rw [List.length_take, List.length_drop] at a2; omega
  have e0 : ∀ (r : Option Ob) (t s : Int), hO x.F r t s = hO x.F r t s ++ nones 0 := fun _ _ _ => (List.append_nil _).symm
  refine h1.place (j := 1) (Pl := P) (L := x.D P) (F := x.F) (ty := 5) trivial (by rw [e0, gtO (by omega)]; rfl) (by rw [e0, gtO (by omega)]; rfl) (show 1 < 2 by decide) (by decide) (fun i y hy => hy) hl (by rw [e0, e0]; exact lessO (by omega)) (lessO (by omega)) (fun b hb => sameO (by omega) b hb) ⟨(show 1 < 3 by decide), rfl⟩ (.inl ⟨rfl, rfl⟩) ⟨rfl, fun i u w hu hw => ?_⟩
  rcases i with _ | _ | i
  · cases hu; cases hw; exact .inl ⟨rfl, rfl⟩
  · cases hu; cases hw; exact .inr ⟨o, n, c, by omega, rfl, rfl⟩
  · cases hu
end
end si
end Go.Proofs.Yteknepfcbpoooab
namespace Go.Proofs.Yteknepfcbpoooab
open Go.ChangeShapes Go.WideShapes Go.ChangeAt Go.RowKit Go.Cln
namespace si
open sd
open pa (rawN)
open sp (upd)
set_option linter.unusedVariables false
noncomputable section
def K0 (x : HX) : Given := { Given.readsP Given.nothing (FR x) with fits := true }
theorem K0_ok (x : HX) : GivenOk Try.prog (K0 x) := frames_fits ((GivenOk.nothing _).readsP (FR_ok x)) true
def cE (x : HX) (t s : Int) (o : List (Option Bool)) : Option (Value × St) := (mk Try.prog (K0 x) 300).call 27 [.pointer (some ⟨2, 0, none⟩), PV 0 0 0 0] (smSt 2 (hO x.F none t s) o)
def hL (F : Nat → Nat → Cells) (r : Option Ob) : List (Option Ob) := [some (.fam F), r]
def cL (x : HX) (L : List Int) (o n c : Nat) (a : Int) (oo : List (Option Bool)) : Option (Value × St) := (mk Try.prog (K0 x) 300).call 24 [.slice (some ⟨1, o, none⟩) n c, .int .i64 a] (smSt 2 (hL x.F (oLs L)) oo)
def cLe (x : HX) (P o n c : Nat) (a : Int) (oo : List (Option Bool)) : Option (Value × St) := (mk Try.prog (K0 x) 300).call 24 [PV P o n c, .int .i64 a] (smSt 1 [some (.fam x.F)] oo)
def oEv : List (Option Bool) := [none, none, none, none, none, none, none, some false, some true, some false, some true, some false, some true, some false, some true]
def oOd : List (Option Bool) := [none, none, none, none, none, none, none, some false, some true, some false, some true, some false, some true, some false, none, some true]
theorem runE0 (x : HX) (t s : Int) : (cE x t s oEv).map (fun r => (r.1, r.2.obl, r.2.next, keepL kO r.2.heap.get 0)) = some (.int .i64 0, True ∧ sp.rem2 s 0, (hO x.F none t (IntKind.i64.wrap (s + nI 0)) ++ nones 13).length, hO x.F none t (IntKind.i64.wrap (s + nI 0)) ++ nones 13) := by kernel_rfl
theorem runE1 (x : HX) (t s : Int) : (cE x t s oOd).map (fun r => (r.1, r.2.obl, r.2.next, keepL kO r.2.heap.get 0)) = some (.int .i64 0, True ∧ sp.rem2 s 1, (hO x.F none (sp.t2 t 0) (IntKind.i64.wrap (s + nI 0)) ++ nones 13).length, hO x.F none (sp.t2 t 0) (IntKind.i64.wrap (s + nI 0)) ++ nones 13) := by kernel_rfl
theorem CallOk.e0 {f : FuncId} {u : Value} {s s1 : St} {v : Value} (h : CallOk Try.prog f [u, PV 0 0 0 0] s v s1) (P o c : Nat) : CallOk Try.prog f [u, PV P o 0 c] s v s1 := by
  intro ho n ρ w args' hs hl
  refine h ho n ρ w args' hs ?_
  obtain ⟨u', r, rfl, h1, h2⟩ := hl.inv_cons
  obtain ⟨v', r2, rfl, h3, h4⟩ := h2.inv_cons
  refine VL.cons h1 (VL.cons ?_ h4)
  cases h3 with
  | same hf => simp [flat0] at hf
  | slice _ _ hk => have := (hk.2.2 1000 rfl).2.2; omega
  | abs k0 _ hk =>
    refine .abs k0 rfl ⟨Nat.le_refl _, .inr ⟨rfl, ?_⟩⟩
    obtain ⟨_, rfl | ⟨_, a, c', rfl⟩⟩ := hk
    · exact ⟨_, _, rfl⟩
    · exact ⟨_, _, rfl⟩
theorem wr0 (x : HX) (P o c : Nat) {t s : Int} (h0 : 0 ≤ t) (h1 : t ≤ 1000000000000) (h2 : 0 ≤ s) (h3 : s ≤ 1000000000000) : CallOk Try.prog 27 [.pointer (some ⟨2, 0, none⟩), PV P o 0 c] (smSt 2 (hO x.F none t s) []) (.int .i64 0) (smSt 2 (hO x.F none t s ++ nones 13) []) := by
  have e : IntKind.i64.wrap (s + nI 0) = s := by rw [IntKind.wrap_i64]; simp only [nI]; omega
  have e2 : sp.t2 t 0 = t := by unfold sp.t2; rw [IntKind.wrap_u64, IntKind.wrap_u64]; omega
  refine CallOk.e0 ?_ P o c
  by_cases hp : s % 2 = 0
  · have := frame_by sr.pg (K0_ok x) kO (runE0 x t s) ⟨trivial, sp.rem2_of h2 hp⟩ (by rfl) rfl
    rw [e] at this; exact this
  · have := frame_by sr.pg (K0_ok x) kO (runE1 x t s) ⟨trivial, sp.rem2_of h2 (by omega)⟩ (by rfl) rfl
    rw [e, e2] at this; exact this
end
end si
end Go.Proofs.Yteknepfcbpoooab
namespace Go.Proofs.Yteknepfcbpoooab
open Go.ChangeShapes Go.WideShapes Go.ChangeAt Go.RowKit Go.Cln
namespace si
open sd se se.rr
open pa (rawN)
open sp (upd)
set_option linter.unusedVariables false
noncomputable section
def okA (n : Nat) (a : Int) : Prop := 0 ≤ a ∧ a ≤ (n : Int) - 2 ∧ a % 2 = 0
def zed (L : List Int) (j : Nat) : List Int := (L.set j 0).set (j + 1) 0
def sm (L : List Int) (j : Nat) : Int := 65535 - sc.car (wsum (zed L j))
def lay (L : List Int) (j : Nat) : List Int := ((zed L j).set j (sm L j / 256)).set (j + 1) (sm L j % 256)
theorem byt_set {L : List Int} (h : Byt L) (j : Nat) {x : Int} (hx : 0 ≤ x ∧ x < 256) : Byt (L.set j x) := fun y hy => by
  rcases List.mem_or_eq_of_mem_set hy with h1 | h1
  · exact h y h1
  · rw [h1]; exact hx
theorem byt_zed {L : List Int} (h : Byt L) (j : Nat) : Byt (zed L j) := byt_set (byt_set h _ (by omega)) _ (by omega)
theorem sm_b (L : List Int) (j : Nat) : 0 ≤ sm L j ∧ sm L j ≤ 65535 := by have := car_b (wsum (zed L j)); unfold sm; omega
theorem zed_len (L : List Int) (j : Nat) : (zed L j).length = L.length := by simp [zed]
theorem lay_len (L : List Int) (j : Nat) : (lay L j).length = L.length := by simp [lay, zed]
theorem byt_lay {L : List Int} (h : Byt L) (j : Nat) : Byt (lay L j) := by
  have := sm_b L j
  exact byt_set (byt_set (byt_zed h j) _ (by omega)) _ (by omega)
theorem wr8 {x : Int} : IntKind.u8.wrap x = x % 256 := by rw [IntKind.wrap_u8]
def C1 (M : List Int) (a : Int) : List Int := layI M (0 + a.toNat * 1) (List.replicate ((a + 2).toNat - a.toNat) 0)
def C2 (M : List Int) (n : Nat) (a : Int) : List Int := List.take (0 + n) (List.drop 0 (C1 M a))
def sc1 (M : List Int) (n : Nat) (a : Int) : Int := 65535 - rawN (C2 M n a)
def C3 (M : List Int) (n : Nat) (a : Int) : List Int := layI (C1 M a) (0 + a.toNat * 1) (List.take (Nat.min (1 + 1) (((0 + n : Nat) : Int).toNat - a.toNat)) (List.drop 0 [IntKind.u8.wrap ((sc1 M n a).fdiv (2 ^ 8)), IntKind.u8.wrap (sc1 M n a)]))
def pA (n : Nat) (a : Int) : Prop := ((True ∧ decide (a < 0) = false) ∧ IntKind.i64.wrap ((n : Int) - 2) = (n : Int) - 2)
def pL1 (n : Nat) (a : Int) : Prop := (pA n a ∧ decide ((n : Int) - 2 < a) = false) ∧ (!(a.tmod 2 == 0)) = false
def pG (L : List Int) (n : Nat) : Prop := (0 + n ≤ L.length ∧ 0 + 0 ≤ 0 ∧ (0 + n) * 1 ≤ mostBytes ∧ 0 + n ≤ mostBytes)
def mn (n : Nat) (a : Int) : Nat := Nat.min (1 + 1) (((0 + n : Nat) : Int).toNat - a.toNat)
def pL2 (L M : List Int) (n : Nat) (a : Int) : Prop := (((((((((pL1 n a ∧ decide (0 + n ≤ 0) = false) ∧ pG L n) ∧ IntKind.i64.wrap (a + 2) = a + 2) ∧
  (0 ≤ a + 2 ∧ a + 2 ≤ ((0 + n : Nat) : Int) ∧ 0 ≤ a ∧ a ≤ a + 2)) ∧ (0 + a.toNat * 1 + ((a + 2).toNat - a.toNat) ≤ M.length)) ∧ (0 ≤ ((0 + n : Nat) : Int) ∧ ((0 + n : Nat) : Int) ≤ ((0 + n : Nat) : Int) ∧ 0 ≤ a ∧ a ≤ ((0 + n : Nat) : Int))) ∧
  (Byt (C2 M n a) ∧ 0 < 0 + n ∧ (C2 M n a).length = 0 + n ∧ 0 + n ≤ 1000 ∧ 0 + n ≤ 0 + n)) ∧ IntKind.u16.wrap (sc1 M n a) = sc1 M n a) ∧ (0 + mn n a ≤ 2 ∧ 0 + a.toNat * 1 + mn n a ≤ (C1 M a).length))
def oL : List (Option Bool) := [some false, none, none, none, some true, none, none, some false, none, none, none, some false, none, some false, some true, some true, some true, some true]
def ksL : List Bool := [true, true, false, true, false, false, false, false, false]
def outL (F : Nat → Nat → Cells) (r : Option Ob) (W : List Int) : List (Option Ob) := [some (.fam F), r, none, oLs W] ++ nones 5
theorem runL (x : HX) (L : List Int) (n c : Nat) (a : Int) : (cL x L 0 n c a oL).map (fun r => (r.1, r.2.obl, r.2.next, keepL ksL r.2.heap.get 0)) =
    some (.tuple #[.slice (some ⟨3, 0, some 1⟩) (0 + n) (0 + n), .int .i64 0], pL2 L (List.take n (List.drop 0 L)) n a, (outL x.F (oLs L) (C3 (List.take n (List.drop 0 L)) n a)).length, outL x.F (oLs L) (C3 (List.take n (List.drop 0 L)) n a)) := by kernel_rfl
def errV : Value := .tuple #[.slice none 0 0, .int .i64 4]
theorem runL0 (x : HX) (P o n c : Nat) (a : Int) : (cLe x P o n c a [some true]).map (fun r => (r.1, r.2.obl, r.2.next, keepL [true] r.2.heap.get 0)) =
    some (errV, True ∧ decide (a < 0) = true, [some (Ob.fam x.F)].length, [some (Ob.fam x.F)]) := by kernel_rfl
theorem runL1 (x : HX) (P o n c : Nat) (a : Int) : (cLe x P o n c a [some false, none, none, none, some true, none, none, some true]).map (fun r => (r.1, r.2.obl, r.2.next, keepL [true] r.2.heap.get 0)) =
    some (errV, pA n a ∧ decide ((n : Int) - 2 < a) = true, [some (Ob.fam x.F)].length, [some (Ob.fam x.F)]) := by kernel_rfl
theorem runL3 (x : HX) (P o n c : Nat) (a : Int) : (cLe x P o n c a [some false, none, none, none, some true, none, none, some false, none, none, none, some true]).map (fun r => (r.1, r.2.obl, r.2.next, keepL [true] r.2.heap.get 0)) =
    some (errV, (pA n a ∧ decide ((n : Int) - 2 < a) = false) ∧ (!(a.tmod 2 == 0)) = true, [some (Ob.fam x.F)].length, [some (Ob.fam x.F)]) := by kernel_rfl
theorem c_eq {M : List Int} {n : Nat} {a : Int} (hn : n = M.length) (h : okA n a) : C1 M a = zed M a.toNat ∧ C2 M n a = zed M a.toNat ∧ sc1 M n a = sm M a.toNat ∧ mn n a = 2 ∧ C3 M n a = lay M a.toNat := by
  obtain ⟨h0, h1, h2⟩ := h
  have e1 : C1 M a = zed M a.toNat := by
    unfold C1
    rw [show (a + 2).toNat - a.toNat = 2 by omega, show 0 + a.toNat * 1 = a.toNat by omega]
    exact set2_get M a.toNat 0 0 (by omega)
  have e2 : C2 M n a = zed M a.toNat := by unfold C2; rw [e1, List.drop_zero, List.take_of_length_le (by rw [zed_len]; omega)]
  have e3 : sc1 M n a = sm M a.toNat := by unfold sc1 sm; rw [e2]; rfl
  have e4 : mn n a = 2 := by
    unfold mn
    show Nat.min 2 _ = 2
    exact Nat.min_eq_left (by omega)
  refine ⟨e1, e2, e3, e4, ?_⟩
  have hm : Nat.min (1 + 1) (((0 + n : Nat) : Int).toNat - a.toNat) = 2 := e4
  unfold C3
  rw [e1, e3, hm, show 0 + a.toNat * 1 = a.toNat by omega]
  have hb := sm_b M a.toNat
  show layI (zed M a.toNat) a.toNat [IntKind.u8.wrap ((sm M a.toNat).fdiv (2 ^ 8)), IntKind.u8.wrap (sm M a.toNat)] = _
  rw [set2_get _ _ _ _ (by rw [zed_len]; omega), wr8, wr8, Int.fdiv_eq_ediv_of_nonneg _ (by decide)]
  unfold lay
  have : sm M a.toNat / 2 ^ 8 % 256 = sm M a.toNat / 256 := by omega
  rw [this]
theorem tm2 {a : Int} (h0 : 0 ≤ a) : a.tmod 2 = a % 2 := Int.tmod_eq_emod_of_nonneg h0
theorem pA_ok {n : Nat} {a : Int} (h0 : 0 ≤ a) (hs : n ≤ 1099511627776) : pA n a := by
  refine ⟨⟨trivial, ?_⟩, ?_⟩
  · rw [decide_eq_false_iff_not]; omega
  · rw [IntKind.wrap_i64]; omega
theorem lay_own (x : HX) (L M : List Int) (n c : Nat) (a : Int) (hM : M = List.take n (List.drop 0 L)) (hB : Byt M) (hn : n = M.length) (hs : n ≤ 1000) (h : okA n a) :
    CallOk Try.prog 24 [.slice (some ⟨1, 0, none⟩) n c, .int .i64 a] (smSt 2 (hL x.F (oLs L)) []) (.tuple #[.slice (some ⟨3, 0, some 1⟩) n n, .int .i64 0]) (smSt 2 (outL x.F (oLs L) (lay M a.toNat)) []) := by
  obtain ⟨e1, e2, e3, e4, e5⟩ := c_eq hn h
  have hb := sm_b M a.toNat
  have hl : n ≤ L.length := by
    have := congrArg List.length hM
    rw [List.length_take, List.drop_zero] at this; omega
  obtain ⟨h0, h1, h2⟩ := h
  have := frame_by sr.pg (K0_ok x) ksL (runL x L n c a) ?_ (by rfl) rfl
  · rw [← hM, e5, Nat.zero_add] at this; exact this
  · rw [← hM]
    unfold pL2 pL1 pG
    rw [e1, e2, e3, e4]
    simp only [Nat.zero_add, zed_len]
    refine ⟨⟨⟨⟨⟨⟨⟨⟨⟨⟨⟨pA_ok h0 (by omega), ?_⟩, ?_⟩, ?_⟩, ?_⟩, ?_⟩, ?_⟩, ?_⟩, ?_⟩, ?_⟩, ?_⟩, ?_⟩
    · rw [decide_eq_false_iff_not]; omega
    · rw [tm2 h0, h2]; rfl
    · rw [decide_eq_false_iff_not]; omega
    · unfold mostBytes; omega
    · rw [IntKind.wrap_i64]; omega
    · omega
    · omega
    · omega
    · exact ⟨byt_zed hB _, by omega, hn.symm, hs, Nat.le_refl _⟩
    · rw [IntKind.wrap_u16]; omega
    · omega
theorem layE (x : HX) (P o n c : Nat) (a : Int) (hs : n ≤ 1000) (h : ¬ okA n a) :
    CallOk Try.prog 24 [PV P o n c, .int .i64 a] (smSt 1 [some (.fam x.F)] []) errV (smSt 1 [some (.fam x.F)] []) := by
  by_cases h0 : a < 0
  · exact frame_by sr.pg (K0_ok x) [true] (runL0 x P o n c a) ⟨trivial, by rw [decide_eq_true_eq]; exact h0⟩ rfl rfl
  · by_cases h1 : (n : Int) - 2 < a
    · exact frame_by sr.pg (K0_ok x) [true] (runL1 x P o n c a) ⟨pA_ok (by omega) (by omega), by rw [decide_eq_true_eq]; exact h1⟩ rfl rfl
    · have h2 : a % 2 = 1 := by
        have : ¬ a % 2 = 0 := fun h2 => h ⟨by omega, by omega, h2⟩
        omega
      exact frame_by sr.pg (K0_ok x) [true] (runL3 x P o n c a) ⟨⟨pA_ok (by omega) (by omega), by rw [decide_eq_false_iff_not]; exact h1⟩, by rw [tm2 (by omega), h2]; rfl⟩ rfl rfl
end
end si
end Go.Proofs.Yteknepfcbpoooab
namespace Go.Proofs.Yteknepfcbpoooab
open Go.ChangeShapes Go.WideShapes Go.ChangeAt Go.RowKit Go.Cln
namespace si
open sd se se.rr
open pa (rawN)
open sp (upd)
set_option linter.unusedVariables false
noncomputable section
theorem free_ints' {j : Nat} {L : List Int} {t : TypeId} : freeO j (.cells (.ints .u8 L) t) := fun i v hv => by
  simp only [Cells.get, Option.map_eq_some_iff] at hv
  obtain ⟨q, _, rfl⟩ := hv; rfl
theorem getL2 {a r : Option Ob} {l : List (Option Ob)} (hl : l.length ≤ 1000) (b : Nat) : (smSt 2 (a :: r :: l) []).heap.get b = hget (a :: r :: l) b := ofL_get (by simp only [List.length_cons]; omega) b
theorem lessL {a r : Option Ob} {l : List (Option Ob)} {Pl : Nat} (hl : l.length ≤ 1000) (h : ∀ o, some o ∈ a :: l → freeO 1 o) : Less 1 Pl (smSt 2 (a :: r :: l) []) (smSt 2 (a :: none :: l) []) := by
  refine Less.of rfl rfl rfl rfl ?_ (fun b hb => ?_) (fun b o hb ho => ?_)
  · rw [getL2 hl]; rfl
  · rw [getL2 hl, getL2 hl]
    rcases b with _ | _ | b
    · rfl
    · exact absurd rfl hb
    · rfl
  · rw [getL2 hl] at ho
    rcases b with _ | _ | b
    · exact h o (by have ho : a = some o := by simpa [Go.Cln.hget] using ho
                    rw [ho]; exact List.mem_cons_self ..)
    · exact absurd rfl hb
    · refine h o (List.mem_cons_of_mem _ ?_)
      have ho : (match l[b]? with
        | some o => o
        | none => none) = some o := ho
      cases hq : l[b]? with
      | none => rw [hq] at ho; cases ho
      | some z => rw [hq] at ho; cases ho; exact List.mem_of_getElem? hq
theorem same2 {a : Option Ob} {l l' : List (Option Ob)} (hl : l.length ≤ 1000) (hl' : l'.length ≤ 1000) (b : Nat) (hb : (smSt 2 (a :: none :: l) []).may b = false) : (smSt 2 (a :: none :: l') []).heap.get b = (smSt 2 (a :: none :: l) []).heap.get b := by
  have hb2 : b < 2 := by
    rcases Nat.lt_or_ge b 2 with h | h
    · exact h
    · have : (smSt 2 (a :: none :: l) []).may b = true := by
        unfold St.may
        show (decide (2 ≤ b) && !(List.contains [] b)) = true
        rw [decide_eq_true h]; rfl
      rw [this] at hb; cases hb
  rw [getL2 hl, getL2 hl']
  have : b = 0 ∨ b = 1 := by omega
  rcases this with rfl | rfl <;> rfl
theorem layP (x : HX) {P n c : Nat} {a : Int} (hB : Byt (wx x P 0 n)) (hn : n = (wx x P 0 n).length) (hs : n ≤ 1000) (hc : n ≤ c) (h : okA n a) :
    CallOk Try.prog 24 [PV P 0 n c, .int .i64 a] (smSt 2 (hL x.F none) []) (.tuple #[.slice (some ⟨3, 0, some 1⟩) n n, .int .i64 0]) (smSt 2 (outL x.F none (lay (wx x P 0 n) a.toNat)) []) := by
  have h1 := lay_own x (x.D P) (wx x P 0 n) n c a rfl hB hn hs h
  have h2 : 2 ≤ n := by obtain ⟨q0, q1, q2⟩ := h; omega
  have hl : 0 < (x.D P).length := by
    have := hn
    unfold wx at this
    rw [List.length_take, List.length_drop] at this; omega
  refine h1.place (j := 1) (Pl := P) (L := x.D P) (F := x.F) (ty := 5) trivial (by rw [hL, getL2 (by decide)]; rfl) (by rw [hL, getL2 (by decide)]; rfl) (show 1 < 2 by decide) (by decide) (fun i y hy => hy) hl ?_ ?_ (fun b hb => ?_) ⟨(show 1 < 2 by decide), rfl⟩ (.inl ⟨rfl, rfl⟩) ⟨rfl, fun i u w hu hw => ?_⟩
  · exact lessL (l := []) (by decide) fun o ho => by
      simp only [List.mem_cons, List.not_mem_nil, or_false, Option.some.injEq] at ho
      subst ho; trivial
  · exact lessL (l := [none, oLs _] ++ nones 5) (show 7 ≤ 1000 by decide) fun o ho => by
      simp only [nones, oLs, List.cons_append, List.nil_append, List.replicate, List.mem_cons, List.not_mem_nil, or_false, Option.some.injEq, reduceCtorEq, false_or] at ho
      rcases ho with rfl | rfl
      · trivial
      · exact free_ints'
  · exact same2 (l := []) (l' := [none, oLs _] ++ nones 5) (by decide) (show 7 ≤ 1000 by decide) b hb
  · rcases i with _ | _ | i
    · cases hu; cases hw; exact .inr ⟨0, n, c, by omega, rfl, rfl⟩
    · cases hu; cases hw; exact .inl ⟨rfl, rfl⟩
    · cases hu
def FW (x : HX) (f : FuncId) (args : List Value) (s : St) : Option (Inst × Nat) := if f == 27 then (match args with
  | [.pointer (some ⟨p, 0, none⟩), .slice (some ⟨P, o, some 1000⟩) n c] => (match s.heap.get 0 with
    | some (.fam F) => (match s.heap.get p with
      | some (.cells (.lit [.int .u64 t, .int .i64 z, .bool true]) _) => (match s.orc with
        | some true :: _ => some (⟨[(0, 0), (0, 0), (p, 0)], 2, hO F none t z, [.pointer (some ⟨2, 0, none⟩), PV P o n c], .int .i64 0, hO F none (upd t z (wx x P o n)) (z + nI n) ++ nones 13, F = x.F ∧ 0 < n ∧ ask1 (wx x P o n) t z n c⟩, 1)
        | some false :: _ => some (⟨[(0, 0), (0, 0), (p, 0)], 2, hO F none t z, [.pointer (some ⟨2, 0, none⟩), PV P o n c], .int .i64 0, hO F none t z ++ nones 13, F = x.F ∧ n = 0 ∧ (0 ≤ t ∧ t ≤ 1000000000000) ∧ 0 ≤ z ∧ z ≤ 1000000000000⟩, 1)
        | _ => none)
      | _ => none)
    | _ => none)
  | _ => none) else if f == 24 then (match args with
  | [.slice (some ⟨P, o, some 1000⟩) n c, .int .i64 a] => (match s.heap.get 0 with
    | some (.fam F) => (match s.orc with
      | some true :: _ => some (⟨[(0, 0), (0, 0)], 2, hL F none, [PV P o n c, .int .i64 a], .tuple #[.slice (some ⟨3, 0, some 1⟩) n n, .int .i64 0], outL F none (lay (wx x P 0 n) a.toNat), F = x.F ∧ o = 0 ∧ Byt (wx x P 0 n) ∧ n = (wx x P 0 n).length ∧ n ≤ 1000 ∧ n ≤ c ∧ okA n a⟩, 1)
      | some false :: _ => some (⟨[(0, 0)], 1, [some (.fam F)], [PV P o n c, .int .i64 a], errV, [some (.fam F)], F = x.F ∧ n ≤ 1000 ∧ ¬ okA n a⟩, 1)
      | _ => none)
    | _ => none)
  | _ => none) else none
theorem FW_ok (x : HX) (f : FuncId) (args : List Value) (s : St) (i : Inst) (k : Nat) (h : FW x f args s = some (i, k)) : Fits s i args ∧ (i.ask → CallOk Try.prog f i.args i.s0 i.val i.s1) := by
  unfold FW at h
  split at h
  · rename_i hf
    have hf' : f = 27 := by simpa using hf
    subst hf'
    split at h
    · rename_i p P o n c
      split at h
      · rename_i F hF
        split at h
        · rename_i t z ty hp
          have fit : ∀ (V : Value) (h' : List (Option Ob)) (q : Prop), Fits s ⟨[(0, 0), (0, 0), (p, 0)], 2, hO F none t z, [.pointer (some ⟨2, 0, none⟩), PV P o n c], V, h', q⟩ [.pointer (some ⟨p, 0, none⟩), .slice (some ⟨P, o, some 1000⟩) n c] := fun V h' q => by
            refine ⟨?_, fun j pp ob h1 hh => ?_⟩
            · show _ = [Value.pointer (some ⟨p, addO 0 0, none⟩), .slice (some ⟨P, o, some 1000⟩) n c]
              rw [addO_eq]
            · rcases j with _ | _ | _ | j
              · simp only [hO, List.getElem?_cons_zero, Option.some.injEq] at h1 hh
                subst h1; subst hh
                exact ⟨_, hF, fun _ _ _ _ hx => hx⟩
              · cases hh
              · simp only [hO, oAd, Nat.zero_add, Nat.reduceAdd, List.getElem?_cons_succ, List.getElem?_cons_zero, Option.some.injEq] at h1 hh
                subst h1; subst hh
                exact ⟨_, hp, fit_flat (fun x v hv => by rw [Nat.zero_add]; exact hv) rfl⟩
              · simp at h1
          split at h
          · cases h
            refine ⟨fit _ _ _, fun hT => ?_⟩
            obtain ⟨q0, q1, q2⟩ := hT
            cases (show F = x.F from q0)
            exact wrP x q1 q2
          · cases h
            refine ⟨fit _ _ _, fun hT => ?_⟩
            obtain ⟨q0, q1, q2, q3⟩ := hT
            cases (show F = x.F from q0)
            cases (show n = 0 from q1)
            exact wr0 x P o c q2.1 q2.2 q3.1 q3.2
          · cases h
        · cases h
      · cases h
    · cases h
  · split at h
    · rename_i hf
      have hf' : f = 24 := by simpa using hf
      subst hf'
      split at h
      · rename_i P o n c a
        split at h
        · rename_i F hF
          split at h
          · cases h
            refine ⟨⟨rfl, fun j pp ob h1 hh => ?_⟩, fun hT => ?_⟩
            · rcases j with _ | _ | j
              · simp only [hL, List.getElem?_cons_zero, Option.some.injEq] at h1 hh
                subst h1; subst hh
                exact ⟨_, hF, fun _ _ _ _ hx => hx⟩
              · cases hh
              · simp at h1
            · obtain ⟨q0, q1, q2, q3, q4, q5, q6⟩ := hT
              cases (show F = x.F from q0)
              cases (show o = 0 from q1)
              exact layP x q2 q3 q4 q5 q6
          · cases h
            refine ⟨⟨rfl, fun j pp ob h1 hh => ?_⟩, fun hT => ?_⟩
            · rcases j with _ | j
              · simp only [List.getElem?_cons_zero, Option.some.injEq] at h1 hh
                subst h1; subst hh
                exact ⟨_, hF, fun _ _ _ _ hx => hx⟩
              · simp at h1
            · obtain ⟨q0, q1, q2⟩ := hT
              cases (show F = x.F from q0)
              exact layE x P o n c a q1 q2
          · cases h
        · cases h
      · cases h
    · cases h
def KZ (x : HX) : Given := { Given.framesO (Given.readsP (Given.frames Given.nothing (fun f args s => match F33 f args s with
  | some i => some i
  | none => pc.F11 f args s)) (FR x)) (FW x) with fits := true }
theorem F33w_ok (f : FuncId) (args : List Value) (s : St) (i : Inst) (h : (match F33 f args s with
  | some i => some i
  | none => pc.F11 f args s) = some i) : Fits s i args ∧ (i.ask → CallOk Try.prog f i.args i.s0 i.val i.s1) := by
  split at h
  · rename_i j h1
    cases h; exact F33_ok f args s _ h1
  · exact pc.F11_ok f args s _ h
theorem KZ_ok (x : HX) : GivenOk Try.prog (KZ x) := frames_fits ((((GivenOk.nothing _).frames F33w_ok).readsP (FR_ok x)).framesO (FW_ok x)) true
end
end si
end Go.Proofs.Yteknepfcbpoooab
namespace Go.Proofs.Yteknepfcbpoooab
open Go.ChangeShapes Go.WideShapes Go.ChangeAt Go.RowKit Go.Cln
namespace si
open sd se se.rr
open pa (rawN)
open sp (upd)
set_option linter.unusedVariables false
noncomputable section
def cv (Q n c : Nat) : Value := .slice (some ⟨Q, 0, some 1001⟩) n c
def wU (word : Int) : Value := .int .u16 word
def dropC : Nat → Code → Code
  | 0, c => c
  | k + 1, .seq x y => dropC k y
  | _ + 1, c => c
def fstC : Code → Code
  | .seq x _ => x
  | c => c
noncomputable def bodyC : Code := ((Try.prog.funcs[9]?).bind (·.body)).getD .skip
noncomputable def c5 : Code := dropC 5 bodyC
noncomputable def cX : Code := fstC c5
noncomputable def c6 : Code := dropC 1 c5
noncomputable def lb : Code := loopB Try.prog 9 0
def s00 (x : HX) (P n c Q m d : Nat) (at' word : Int) (N : Nat) : St := ⟨[PV P 0 n c, cv Q m d, .int .i64 at', wU word] ++ List.replicate N undef, [], Tr.ofL [some (.fam x.F)], 1, 1, [], fun _ => false, True, []⟩
def go0 (x : HX) (P n c Q m d : Nat) (at' word : Int) (N k : Nat) (o : List (Option Bool)) : Option (St × Code) := runRow (mk Try.prog (KZ x) 300) 9 none k bodyC { s00 x P n c Q m d at' word N with obl := True, orc := o }
end
end si
end Go.Proofs.Yteknepfcbpoooab
namespace Go.Proofs.Yteknepfcbpoooab
open Go.ChangeShapes Go.WideShapes Go.ChangeAt Go.RowKit Go.Cln
namespace si
open sd se se.rr
open pa (rawN)
open sp (upd)
set_option linter.unusedVariables false
noncomputable section
structure Y where
  P : Nat
  n : Nat
  c : Nat
  Q : Nat
  m : Nat
  d : Nat
  a : Int
  w : Int
def vs (v : Nat → Value) (b : Nat) : Nat → List Value → List Value
  | 0, l => l
  | k + 1, l => vs v b k (v (b + k) :: l)
theorem deadT_vs {B : Nat → Bool} {v : Nat → Value} (h : ∀ i, DeadV (v i)) : ∀ (n : Nat) {a b : Nat} {l : List Value}, deadT B (a + n) l → deadT B a (vs v b n l)
  | 0, _, _, _, g => g
  | n + 1, a, b, l, g => deadT_vs h n (a := a) (b := b) (l := v (b + n) :: l) ⟨fun _ => h _, g⟩
abbrev VF := Nat → Value
def allB : Nat → Bool := fun _ => true
def tmS (v : VF) (y : Y) (pt : Value) (f : Int) (k : Nat) : List Value := (PV y.P 0 y.n y.c :: cv y.Q y.m y.d :: .int .i64 y.a :: wU y.w :: vs v 4 4 (.bool false :: P0 1 0 :: pt :: .int .i64 f :: .int .i64 (nI k) :: vs v 13 171 []))
theorem tmS_dead {v : VF} {y : Y} {pt : Value} {f : Int} {k : Nat} {B : Nat → Bool} (h : ∀ i, DeadV (v i)) (hB : ∀ i, ((Nat.ble 0 i && Nat.ble i 3) || (Nat.ble 8 i && Nat.ble i 12)) = true → B i = true) : deadT B 0 (tmS v y pt f k) :=
  ⟨fun e => absurd e (by rw [hB 0 rfl]; decide), ⟨fun e => absurd e (by rw [hB 1 rfl]; decide), ⟨fun e => absurd e (by rw [hB 2 rfl]; decide), ⟨fun e => absurd e (by rw [hB 3 rfl]; decide), deadT_vs h 4 (⟨fun e => absurd e (by rw [hB 8 rfl]; decide), ⟨fun e => absurd e (by rw [hB 9 rfl]; decide), ⟨fun e => absurd e (by rw [hB 10 rfl]; decide), ⟨fun e => absurd e (by rw [hB 11 rfl]; decide), ⟨fun e => absurd e (by rw [hB 12 rfl]; decide), deadT_vs h 171 (trivial)⟩⟩⟩⟩⟩)⟩⟩⟩⟩
def hS (x : HX) (t s : Int) (r : Option Ob) : Nat → Option Ob := fun i => match i with
  | 0 => some (.fam x.F)
  | 1 => oAd t s
  | 2 => r
  | _ => none
theorem hS_ok (x : HX) (t s : Int) (r : Option Ob) (hr : ∀ n w g t, r ≠ some (.cells (.rows n w g) t)) : Go.Cln.RowsIn (hS x t s r) := by
  intro b n' w' g' t h
  unfold hS at h
  split at h
  · cases h
  · cases h
  · exact absurd h (hr _ _ _ _)
  · cases h
def sS (x : HX) (y : Y) (t s : Int) (pt : Value) (r : Option Ob) (f : Int) (k : Nat) (v : VF) (nx : Nat) : St := ⟨tmS v y pt f k, [], Tr.rebuild (hS x t s r) nx, nx, 1, [], fun _ => false, True, []⟩
def sN (x : HX) (y : Y) (t s : Int) (f : Int) (k : Nat) (v : VF) : St := sS x y t s (.slice none 0 0) none f k v 2
def oP (k : Nat) (g : Nat → Value) : Option Ob := some (.cells (.fam k g) 23)
def pl (k : Nat) : Value := .slice (some ⟨2, 0, some 1⟩) k k
def sF (x : HX) (y : Y) (t s : Int) (g : Nat → Value) (f : Int) (k : Nat) (v : VF) : St := sS x y t s (pl k) (oP k g) f k v 3
def goL (x : HX) (s : St) (o : List (Option Bool)) : Option (Exit × St) := (mk Try.prog (KZ x) 300).code 9 none lb { s with obl := True, orc := o }
end
end si
end Go.Proofs.Yteknepfcbpoooab
