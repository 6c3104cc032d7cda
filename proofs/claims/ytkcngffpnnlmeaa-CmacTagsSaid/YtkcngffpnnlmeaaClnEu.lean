/- Read off the code by the clean reading. -/
import Derived.Test.YtkcngffpnnlmeaaClnEt
set_option linter.unusedVariables false
set_option linter.unusedSimpArgs false
set_option linter.deprecated false
set_option maxRecDepth 100000
namespace Go.Proofs.Ytkcngffpnnlmeaa
open Go.ChangeShapes Go.WideShapes Go.ChangeAt Go.RowKit Go.Cln
namespace ae
set_option linter.unusedVariables false
noncomputable section
abbrev GT := List Int → List Int → Nat → Int
def wd (K : List Int) (o n : Nat) : List Int := (K.drop o).take n
def okA (K M : List Int) (n : Nat) : Prop := OkK K ∧ M.length = n ∧ n ≤ 1000
def pd (k : Nat) (l : List (Option Ob)) : List (Option Ob) := l ++ List.replicate k none
/-- the document's Tag, Short: told -/
def FQ (F0 : FuncId) (V : (Nat → Int) → Value) (k : Nat) (TG : GT) (f : FuncId) (args : List Value) (s : St) : Option Inst := if f == F0 then (match args with
  | [.slice (some ⟨b, o, none⟩) 16 c, .slice (some ⟨z, q, none⟩) n d] => (match s.heap.get b with
    | some (.cells (.ints .u8 K) _) => (match s.heap.get z with
      | some (.cells (.ints .u8 M) _) => some ⟨[(b, o), (z, q)], 2, h2 (wd K o 16) (wd M q n), [sl 0 0 none 16 c, sl 1 0 none n d], V (TG (wd K o 16) (wd M q n)), pd k (h2 (wd K o 16) (wd M q n)), TG = tagF ∧ okA (wd K o 16) (wd M q n) n⟩
      | none => if n = 0 then some ⟨[(b, o), (z, q)], 2, h2z (wd K o 16), [sl 0 0 none 16 c, sl 1 0 none 0 d], V (TG (wd K o 16) []), pd k (h2z (wd K o 16)), TG = tagF ∧ OkK (wd K o 16)⟩ else none
      | _ => none)
    | _ => none)
  | [.slice (some ⟨b, o, none⟩) 16 c, .slice none 0 0] => (match s.heap.get b with
    | some (.cells (.ints .u8 K) _) => some ⟨[(b, o)], 1, h2n (wd K o 16), [sl 0 0 none 16 c, .slice none 0 0], V (TG (wd K o 16) []), pd k (h2n (wd K o 16)), TG = tagF ∧ OkK (wd K o 16)⟩
    | _ => none)
  | _ => none) else none
def okW (s : St) (b o n : Nat) (k : Option Ob) : Prop := ∀ ob, k = some ob → ∃ K tb, ob = Ob.cells (.ints .u8 ((K.drop o).take n)) 5 ∧ s.heap.get b = some (.cells (.ints .u8 K) tb)
theorem fit2 {s : St} {b o z q n c m d : Nat} {i : Inst} {k w : Option Ob} (hw : i.win = [(b, o), (z, q)]) (hh : i.heap = [k, w]) (ha : i.args = [sl 0 0 none n c, sl 1 0 none m d]) (hk : okW s b o n k) (hz : okW s z q m w) :
    Fits s i [.slice (some ⟨b, o, none⟩) n c, .slice (some ⟨z, q, none⟩) m d] := by
  have e0 : i.nu s.next 0 = b := by unfold Inst.nu; rw [hw]; rfl
  have e2 : i.nu s.next 1 = z := by unfold Inst.nu; rw [hw]; rfl
  have d0 : i.del 0 = o := by unfold Inst.del; rw [hw]; rfl
  have d2 : i.del 1 = q := by unfold Inst.del; rw [hw]; rfl
  refine ⟨?_, fun j pp ob h1 h2 => ?_⟩
  · rw [ha]
    show [Value.slice (some ⟨b, o, none⟩) n c, .slice (some ⟨z, q, none⟩) m d] = [Value.slice (some ⟨i.nu s.next 0, addO (i.del 0) 0, none⟩) n c, .slice (some ⟨i.nu s.next 1, addO (i.del 1) 0, none⟩) m d]
    rw [e0, e2, d0, d2, addO_eq, addO_eq]; rfl
  · rw [hw] at h1
    rw [hh] at h2
    rcases j with _ | _ | j
    · simp only [List.getElem?_cons_zero, Option.some.injEq] at h1 h2
      subst h1
      obtain ⟨K, tb, rfl, hb⟩ := hk ob h2
      exact ⟨_, hb, fit_ints⟩
    · simp only [Nat.zero_add, List.getElem?_cons_succ, List.getElem?_cons_zero, Option.some.injEq] at h1 h2
      subst h1
      obtain ⟨M, tb, rfl, hb⟩ := hz ob h2
      exact ⟨_, hb, fit_ints⟩
    · simp at h1
theorem FQ_ok {F0 : FuncId} {V : (Nat → Int) → Value} {k : Nat} {TG : GT}
    (hI : ∀ K M c n d, okA K M n → CallOk Try.prog F0 [sl 0 0 none 16 c, sl 1 0 none n d] (smSt 2 (h2 K M) []) (V (tagF K M)) (smSt 2 (pd k (h2 K M)) []))
    (hZ : ∀ K c d, OkK K → CallOk Try.prog F0 [sl 0 0 none 16 c, sl 1 0 none 0 d] (smSt 2 (h2z K) []) (V (tagF K [])) (smSt 2 (pd k (h2z K)) []))
    (hN : ∀ K c, OkK K → CallOk Try.prog F0 [sl 0 0 none 16 c, .slice none 0 0] (smSt 1 (h2n K) []) (V (tagF K [])) (smSt 1 (pd k (h2n K)) []))
    (f : FuncId) (args : List Value) (s : St) (i : Inst) (h : FQ F0 V k TG f args s = some i) : Fits s i args ∧ (i.ask → CallOk Try.prog f i.args i.s0 i.val i.s1) := by
  unfold FQ at h
  split at h
  · rename_i hf
    have hf' : f = F0 := by simpa using hf
    subst hf'
    split at h
    · rename_i b o c z q n d
      split at h
      · rename_i K tk hb
        split at h
        · rename_i M tm hz
          cases h
          refine ⟨fit2 rfl rfl rfl (fun ob e => by cases e; exact ⟨_, _, rfl, hb⟩) (fun ob e => by cases e; exact ⟨_, _, rfl, hz⟩), fun ha => ?_⟩
          obtain ⟨rfl, ha⟩ := ha
          exact hI _ _ c n d ha
        · split at h
          · rename_i hn
            subst hn
            cases h
            refine ⟨fit2 rfl rfl rfl (fun ob e => by cases e; exact ⟨_, _, rfl, hb⟩) (fun ob e => by cases e), fun ha => ?_⟩
            obtain ⟨rfl, ha⟩ := ha
            exact hZ _ c d ha
          · cases h
        · cases h
      · cases h
    · rename_i b o c
      split at h
      · rename_i K tk hb
        cases h
        refine ⟨fit_win hb rfl rfl rfl rfl, fun ha => ?_⟩
        obtain ⟨rfl, ha⟩ := ha
        exact hN _ c ha
      · cases h
    · cases h
  · cases h
theorem q15 (TG : GT) : ∀ (f : FuncId) (args : List Value) (s : St) (i : Inst), FQ 15 row16 148 TG f args s = some i → Fits s i args ∧ (i.ask → CallOk Try.prog f i.args i.s0 i.val i.s1) := FQ_ok (F0 := 15) (V := row16) (k := 148) (TG := TG) (fun K M c n d h => rtag_ok K M c n d h.1 h.2.1 (by have := h.2.2; omega)) (fun K c d h => rtagz_ok K c d h) (fun K c h => rtagn_ok K c h)
def K15 (TG : GT) : Given := Given.frames Given.nothing (FQ 15 row16 148 TG)
theorem K15_ok (TG : GT) : GivenOk Try.prog (K15 TG) := (GivenOk.nothing _).frames (q15 TG)
theorem run16i (TG : GT) (K : List Int) (c : Nat) (M : List Int) (n d : Nat) : ((mk Try.prog (K15 TG) 200).call 16 [sl 0 0 none 16 c, sl 1 0 none n d] (smSt 2 (h2 K M) [])).map (fun r => (r.1, r.2.obl, r.2.next, keepL ([true, true] ++ List.replicate 151 false) r.2.heap.get 0)) = some (r12 (TG (wd K 0 16) (wd M 0 n)), True ∧ (TG = tagF ∧ okA (wd K 0 16) (wd M 0 n) n), (pd 151 (h2 K M)).length, pd 151 (h2 K M)) := by kernel_rfl
theorem run16z (TG : GT) (K : List Int) (c : Nat) (d : Nat) : ((mk Try.prog (K15 TG) 200).call 16 [sl 0 0 none 16 c, sl 1 0 none 0 d] (smSt 2 (h2z K) [])).map (fun r => (r.1, r.2.obl, r.2.next, keepL ([true, false] ++ List.replicate 151 false) r.2.heap.get 0)) = some (r12 (TG (wd K 0 16) []), True ∧ (TG = tagF ∧ OkK (wd K 0 16)), (pd 151 (h2z K)).length, pd 151 (h2z K)) := by kernel_rfl
theorem run16n (TG : GT) (K : List Int) (c : Nat) : ((mk Try.prog (K15 TG) 200).call 16 [sl 0 0 none 16 c, .slice none 0 0] (smSt 1 (h2n K) [])).map (fun r => (r.1, r.2.obl, r.2.next, keepL ([true] ++ List.replicate 151 false) r.2.heap.get 0)) = some (r12 (TG (wd K 0 16) []), True ∧ (TG = tagF ∧ OkK (wd K 0 16)), (pd 151 (h2n K)).length, pd 151 (h2n K)) := by kernel_rfl
theorem wdK {K : List Int} (h : K.length = 16) : wd K 0 16 = K := kW_eq h
theorem wdM {M : List Int} {n : Nat} (h : M.length = n) : wd M 0 n = M := mW_eq h
theorem q16 (TG : GT) : ∀ (f : FuncId) (args : List Value) (s : St) (i : Inst), FQ 16 r12 151 TG f args s = some i → Fits s i args ∧ (i.ask → CallOk Try.prog f i.args i.s0 i.val i.s1) := FQ_ok (F0 := 16) (V := r12) (k := 151) (TG := TG)
  (fun K M c n d h => by
    have := frame_by pg (K15_ok tagF) _ (run16i tagF K c M n d) (by rw [wdK h.1.1, wdM h.2.1]; exact ⟨trivial, rfl, h⟩) (by rfl) rfl
    rw [wdK h.1.1, wdM h.2.1] at this; exact this)
  (fun K c d h => by
    have := frame_by pg (K15_ok tagF) _ (run16z tagF K c d) (by rw [wdK h.1]; exact ⟨trivial, rfl, h⟩) (by rfl) rfl
    rw [wdK h.1] at this; exact this)
  (fun K c h => by
    have := frame_by pg (K15_ok tagF) _ (run16n tagF K c) (by rw [wdK h.1]; exact ⟨trivial, rfl, h⟩) (by rfl) rfl
    rw [wdK h.1] at this; exact this)
/-- Tag, Short of one part: told -/
def FP (F0 : FuncId) (V : (Nat → Int) → Value) (k kz : Nat) (TG : GT) (f : FuncId) (args : List Value) (s : St) : Option Inst := if f == F0 then (match args with
  | [.slice (some ⟨b, o, g⟩) 16 c, .slice (some ⟨p, 0, none⟩) 1 1] => if gOk g then (match s.heap.get b with
    | some (.cells (.ints .u8 K) _) => (match s.heap.get p with
      | some (.cells (.lit [.slice (some ⟨z, q, some 1⟩) n d]) _) => (match s.heap.get z with
        | some (.cells (.ints .u8 M) _) => some ⟨[(b, o), (p, 0), (z, q)], 3, hT (wd K o 16) (some 1) n d (wd M q n), [sl 0 0 g 16 c, sl 1 0 none 1 1], .tuple #[V (TG (wd K o 16) (wd M q n)), .int .i64 0], pd k (hT (wd K o 16) (some 1) n d (wd M q n)), TG = tagF ∧ okA (wd K o 16) (wd M q n) n ∧ 0 < n ∧ n ≤ d⟩
        | some (.cells (.lit _) _) => if n = 0 then some ⟨[(b, o), (p, 0), (z, q)], 3, hTz (wd K o 16) (some 1) d, [sl 0 0 g 16 c, sl 1 0 none 1 1], .tuple #[V (TG (wd K o 16) []), .int .i64 0], pd kz (hTz (wd K o 16) (some 1) d), TG = tagF ∧ OkK (wd K o 16)⟩ else none
        | _ => none)
      | _ => none)
    | _ => none) else none
  | _ => none) else none
theorem fit_part {s : St} {b o p z q m d : Nat} {g : Option Nat} {i : Inst} {tp : TypeId} {k w : Option Ob} {n c : Nat} {g0 : Option Nat}
    (hp : s.heap.get p = some (.cells (.lit [.slice (some ⟨z, q, g⟩) m d]) tp)) (hw : i.win = [(b, o), (p, 0), (z, q)]) (hh : i.heap = [k, pt g m d, w]) (ha : i.args = [.slice (some ⟨0, 0, g0⟩) n c, sl 1 0 none 1 1])
    (hk : okW s b o n k) (hz : okW s z q m w) :
    Fits s i [.slice (some ⟨b, o, g0⟩) n c, .slice (some ⟨p, 0, none⟩) 1 1] := by
  have e0 : i.nu s.next 0 = b := by unfold Inst.nu; rw [hw]; rfl
  have e1 : i.nu s.next 1 = p := by unfold Inst.nu; rw [hw]; rfl
  have e2 : i.nu s.next 2 = z := by unfold Inst.nu; rw [hw]; rfl
  have d0 : i.del 0 = o := by unfold Inst.del; rw [hw]; rfl
  have d1 : i.del 1 = 0 := by unfold Inst.del; rw [hw]; rfl
  have d2 : i.del 2 = q := by unfold Inst.del; rw [hw]; rfl
  refine ⟨?_, fun j pp ob h1 h2 => ?_⟩
  · rw [ha]
    show [Value.slice (some ⟨b, o, g0⟩) n c, .slice (some ⟨p, 0, none⟩) 1 1] = [Value.slice (some ⟨i.nu s.next 0, addO (i.del 0) 0, g0⟩) n c, .slice (some ⟨i.nu s.next 1, addO (i.del 1) 0, none⟩) 1 1]
    rw [e0, e1, d0, d1, addO_eq]; rfl
  · rw [hw] at h1
    rw [hh] at h2
    rcases j with _ | _ | _ | j
    · simp only [List.getElem?_cons_zero, Option.some.injEq] at h1 h2
      subst h1
      obtain ⟨K, tb, rfl, hb⟩ := hk ob h2
      exact ⟨_, hb, fit_ints⟩
    · simp only [Nat.zero_add, List.getElem?_cons_succ, List.getElem?_cons_zero, Option.some.injEq] at h1
      subst h1
      simp only [pt, Nat.zero_add, List.getElem?_cons_succ, List.getElem?_cons_zero, Option.some.injEq] at h2
      subst h2
      refine ⟨_, hp, fit_one (V := .slice (some ⟨z, q, g⟩) m d) rfl ?_ (by rw [hw]; rfl)⟩
      show Value.slice (some ⟨z, q, g⟩) m d = Value.slice (some ⟨i.nu s.next 2, addO (i.del 2) 0, g⟩) m d
      rw [e2, d2, addO_eq]; rfl
    · simp only [Nat.zero_add, Nat.reduceAdd, List.getElem?_cons_succ, List.getElem?_cons_zero, Option.some.injEq] at h1 h2
      subst h1
      obtain ⟨M, tb, rfl, hb⟩ := hz ob h2
      exact ⟨_, hb, fit_ints⟩
    · simp at h1
theorem FP_ok {F0 : FuncId} {V : (Nat → Int) → Value} {k kz : Nat} {TG : GT}
    (hI : ∀ K M c g n d, gOk g = true → okA K M n → 0 < n → n ≤ d → CallOk Try.prog F0 [sl 0 0 g 16 c, sl 1 0 none 1 1] (smSt 3 (hT K (some 1) n d M) []) (.tuple #[V (tagF K M), .int .i64 0]) (smSt 3 (pd k (hT K (some 1) n d M)) []))
    (hZ : ∀ K c g d, gOk g = true → OkK K → CallOk Try.prog F0 [sl 0 0 g 16 c, sl 1 0 none 1 1] (smSt 3 (hTz K (some 1) d) []) (.tuple #[V (tagF K []), .int .i64 0]) (smSt 3 (pd kz (hTz K (some 1) d)) []))
    (f : FuncId) (args : List Value) (s : St) (i : Inst) (h : FP F0 V k kz TG f args s = some i) : Fits s i args ∧ (i.ask → CallOk Try.prog f i.args i.s0 i.val i.s1) := by
  unfold FP at h
  split at h
  · rename_i hf
    have hf' : f = F0 := by simpa using hf
    subst hf'
    split at h
    · rename_i b o g c p
      split at h
      · rename_i hg
        split at h
        · rename_i K tk hb
          split at h
          · rename_i z q n d tp hp
            split at h
            · rename_i M tm hz
              cases h
              refine ⟨fit_part hp rfl rfl rfl (fun ob e => by cases e; exact ⟨_, _, rfl, hb⟩) (fun ob e => by cases e; exact ⟨_, _, rfl, hz⟩), fun ha => ?_⟩
              obtain ⟨rfl, ha, h1, h2⟩ := ha
              exact hI _ _ c g n d hg ha h1 h2
            · split at h
              · rename_i hn
                subst hn
                cases h
                refine ⟨fit_part hp rfl rfl rfl (fun ob e => by cases e; exact ⟨_, _, rfl, hb⟩) (fun ob e => by cases e), fun ha => ?_⟩
                obtain ⟨rfl, ha⟩ := ha
                exact hZ _ c g d hg ha
              · cases h
            · cases h
          · cases h
        · cases h
      · cases h
    · cases h
  · cases h
theorem q13 (TG : GT) : ∀ (f : FuncId) (args : List Value) (s : St) (i : Inst), FP 13 row16 198 195 TG f args s = some i → Fits s i args ∧ (i.ask → CallOk Try.prog f i.args i.s0 i.val i.s1) := FP_ok (F0 := 13) (V := row16) (k := 198) (kz := 195) (TG := TG)
  (fun K M c g n d hg h h1 h2 => t13 K c g (gOk_iff hg) M n d h.1 h.2.1 h1 (by have := h.2.2; omega) h2) (fun K c g d hg h => t13z K c g (gOk_iff hg) d h)
theorem q14 (TG : GT) : ∀ (f : FuncId) (args : List Value) (s : St) (i : Inst), FP 14 r12 200 197 TG f args s = some i → Fits s i args ∧ (i.ask → CallOk Try.prog f i.args i.s0 i.val i.s1) := FP_ok (F0 := 14) (V := r12) (k := 200) (kz := 197) (TG := TG)
  (fun K M c g n d hg h h1 h2 => t14 K c g (gOk_iff hg) M n d h.1 h.2.1 h1 (by have := h.2.2; omega) h2) (fun K c g d hg h => t14z K c g (gOk_iff hg) d h)
/-- all that the law calls -/
def F9w (f : FuncId) (args : List Value) (_ : St) : Option Inst := if f == 9 then (match args with
  | [] => some (flI [] (.bool true) True)
  | _ => none) else none
theorem F9w_ok (f : FuncId) (args : List Value) (s : St) (i : Inst) (h : F9w f args s = some i) : Fits s i args ∧ (i.ask → CallOk Try.prog f i.args i.s0 i.val i.s1) := by
  unfold F9w at h
  split at h
  · rename_i hf
    have hf' : f = 9 := by simpa using hf
    subst hf'
    split at h
    · cases h
      exact flI_ok rfl rfl fun _ W => known W
    · cases h
  · cases h
def KL0 : Given := { Given.frames Given.nothing F9w with fits := true }
theorem KL0_ok : GivenOk Try.prog KL0 := frames_fits ((GivenOk.nothing _).frames F9w_ok) true
def KLm (TG : GT) : Given := { Given.frames (Given.frames (Given.frames (Given.frames (Given.frames Given.nothing F9w) (FQ 15 row16 148 TG)) (FQ 16 r12 151 TG)) (FP 13 row16 198 195 TG)) (FP 14 r12 200 197 TG) with fits := true }
theorem KLm_ok (TG : GT) : GivenOk Try.prog (KLm TG) := frames_fits (((((((GivenOk.nothing _).frames F9w_ok).frames (q15 TG)).frames (q16 TG)).frames (q13 TG)).frames (q14 TG))) true
def rM (TG : GT) (x y : Value) (h : List (Option Ob)) (o : List (Option Bool)) : Option (Value × St) := (mk Try.prog (KLm TG) 300).call 4 [x, y] (smSt h.length h o)
def rM0 (x y : Value) (h : List (Option Ob)) (o : List (Option Bool)) : Option (Value × St) := (mk Try.prog KL0 300).call 4 [x, y] (smSt h.length h o)
end
end ae
end Go.Proofs.Ytkcngffpnnlmeaa
namespace Go.Proofs.Ytkcngffpnnlmeaa
open Go.ChangeShapes Go.WideShapes Go.ChangeAt Go.RowKit Go.Cln
namespace ae
set_option linter.unusedVariables false
noncomputable section
noncomputable def oMki : List (Option Bool) := [none, none, none, none, none, none, some false, none, none, none, none, some false, some false, some true, some false, none, none, none, none, none, some false, none, none, none, some true, none, some true, none, none, none, some true, none, some true, none, none, some false, none, none, none, none, none, none, none, some true, some true, some true, some true, some true, some true, some true, some true, some true, some true, some true, some true, some true, some true, some true, some true, none, none, none, none, none, none, some true, some true, some true, some true, some true, some true, some true, some true, some true, some true, some true, some true]
noncomputable def pMki (TG : GT) (K : List Int) (c : Nat) (M : List Int) (m : Nat) (d : Nat) : Prop := (((((((((((((((((((((((((((((((((((((((((((((((((((True ∧ ((decide (200 < (nI m))) = false)) ∧ ((16 ≤ K.length) ∧ ((0 ≤ 0) ∧ ((16 ≤ mostBytes) ∧ (16 ≤ mostBytes))))) ∧ ((decide ((0 + m) ≤ 0)) = false)) ∧ (((0 + m) ≤ M.length) ∧ ((0 ≤ 0) ∧ ((((0 + m) * 1) ≤ mostBytes) ∧ ((0 + m) ≤ mostBytes))))) ∧ ((decide (((0 + m) + 1) ≤ (0 + m))) = false)) ∧ ((1 ≤ 1) ∧ (((0 + (0 + m)) ≤ (List.take m M).length) ∧ (((((0 + m) + 1) * 1) ≤ mostBytes) ∧ (((0 + m) + 1) ≤ mostBytes))))) ∧ ((0 ≤ (nI m)) ∧ (((nI m) ≤ (nI ((0 + m) + 1))) ∧ (((0 : Int) ≤ 0) ∧ (0 ≤ (nI m)))))) ∧ ((TG = tagF) ∧ ((ae.okA (wd (List.take 16 K) 0 16) (wd ((List.take (0 + m) (List.take m M)) ++ [77]) 0 m) m) ∧ ((0 < m) ∧ (m ≤ ((0 + m) + 1)))))) ∧ ((TG = tagF) ∧ ((ae.okA (wd (List.take 16 K) 0 16) (wd ((List.take (0 + m) (List.take m M)) ++ [77]) 0 m) m) ∧ ((0 < m) ∧ (m ≤ ((0 + m) + 1)))))) ∧ (16 ≤ (List.take 16 K).length)) ∧ (16 ≤ K.length)) ∧ ((!((bytesI (List.take 16 (List.take 16 K))).toList == (bytesI (List.take 16 K)).toList)) = false)) ∧ ((0 + m) ≤ ((List.take (0 + m) (List.take m M)) ++ [77]).length)) ∧ ((0 + m) ≤ M.length)) ∧ ((!((bytesI (List.take m ((List.take (0 + m) (List.take m M)) ++ [77]))).toList == (bytesI (List.take m M)).toList)) = false)) ∧ ((IntKind.i64.wrap ((nI m) + 1)) = ((nI m) + 1))) ∧ ((0 ≤ ((nI m) + 1)) ∧ ((((nI m) + 1) ≤ (nI ((0 + m) + 1))) ∧ (((0 : Int) ≤ 0) ∧ (0 ≤ ((nI m) + 1)))))) ∧ ((0 ≤ (nI m)) ∧ ((nI m) < (nI ((nI m) + 1).toNat)))) ∧ ((0 + (m * 1)).succ ≤ ((List.take (0 + m) (List.take m M)) ++ [77]).length)) ∧ ((!((((List.take (0 + m) (List.take m M)) ++ [77]).getD (0 + (m * 1)) 0) == 77)) = false)) ∧ ((TG = tagF) ∧ (ae.okA (wd K 0 16) (wd M 0 m) m))) ∧ ((decide ((TG (wd (List.take 16 K) 0 16) (wd ((List.take (0 + m) (List.take m M)) ++ [77]) 0 m) 0) = (TG (wd K 0 16) (wd M 0 m) 0))) = true)) ∧ ((decide ((TG (wd (List.take 16 K) 0 16) (wd ((List.take (0 + m) (List.take m M)) ++ [77]) 0 m) 1) = (TG (wd K 0 16) (wd M 0 m) 1))) = true)) ∧ ((decide ((TG (wd (List.take 16 K) 0 16) (wd ((List.take (0 + m) (List.take m M)) ++ [77]) 0 m) 2) = (TG (wd K 0 16) (wd M 0 m) 2))) = true)) ∧ ((decide ((TG (wd (List.take 16 K) 0 16) (wd ((List.take (0 + m) (List.take m M)) ++ [77]) 0 m) 3) = (TG (wd K 0 16) (wd M 0 m) 3))) = true)) ∧ ((decide ((TG (wd (List.take 16 K) 0 16) (wd ((List.take (0 + m) (List.take m M)) ++ [77]) 0 m) 4) = (TG (wd K 0 16) (wd M 0 m) 4))) = true)) ∧ ((decide ((TG (wd (List.take 16 K) 0 16) (wd ((List.take (0 + m) (List.take m M)) ++ [77]) 0 m) 5) = (TG (wd K 0 16) (wd M 0 m) 5))) = true)) ∧ ((decide ((TG (wd (List.take 16 K) 0 16) (wd ((List.take (0 + m) (List.take m M)) ++ [77]) 0 m) 6) = (TG (wd K 0 16) (wd M 0 m) 6))) = true)) ∧ ((decide ((TG (wd (List.take 16 K) 0 16) (wd ((List.take (0 + m) (List.take m M)) ++ [77]) 0 m) 7) = (TG (wd K 0 16) (wd M 0 m) 7))) = true)) ∧ ((decide ((TG (wd (List.take 16 K) 0 16) (wd ((List.take (0 + m) (List.take m M)) ++ [77]) 0 m) 8) = (TG (wd K 0 16) (wd M 0 m) 8))) = true)) ∧ ((decide ((TG (wd (List.take 16 K) 0 16) (wd ((List.take (0 + m) (List.take m M)) ++ [77]) 0 m) 9) = (TG (wd K 0 16) (wd M 0 m) 9))) = true)) ∧ ((decide ((TG (wd (List.take 16 K) 0 16) (wd ((List.take (0 + m) (List.take m M)) ++ [77]) 0 m) 10) = (TG (wd K 0 16) (wd M 0 m) 10))) = true)) ∧ ((decide ((TG (wd (List.take 16 K) 0 16) (wd ((List.take (0 + m) (List.take m M)) ++ [77]) 0 m) 11) = (TG (wd K 0 16) (wd M 0 m) 11))) = true)) ∧ ((decide ((TG (wd (List.take 16 K) 0 16) (wd ((List.take (0 + m) (List.take m M)) ++ [77]) 0 m) 12) = (TG (wd K 0 16) (wd M 0 m) 12))) = true)) ∧ ((decide ((TG (wd (List.take 16 K) 0 16) (wd ((List.take (0 + m) (List.take m M)) ++ [77]) 0 m) 13) = (TG (wd K 0 16) (wd M 0 m) 13))) = true)) ∧ ((decide ((TG (wd (List.take 16 K) 0 16) (wd ((List.take (0 + m) (List.take m M)) ++ [77]) 0 m) 14) = (TG (wd K 0 16) (wd M 0 m) 14))) = true)) ∧ ((decide ((TG (wd (List.take 16 K) 0 16) (wd ((List.take (0 + m) (List.take m M)) ++ [77]) 0 m) 15) = (TG (wd K 0 16) (wd M 0 m) 15))) = true)) ∧ ((TG = tagF) ∧ (ae.okA (wd K 0 16) (wd M 0 m) m))) ∧ ((decide ((TG (wd (List.take 16 K) 0 16) (wd ((List.take (0 + m) (List.take m M)) ++ [77]) 0 m) 0) = (TG (wd K 0 16) (wd M 0 m) 0))) = true)) ∧ ((decide ((TG (wd (List.take 16 K) 0 16) (wd ((List.take (0 + m) (List.take m M)) ++ [77]) 0 m) 1) = (TG (wd K 0 16) (wd M 0 m) 1))) = true)) ∧ ((decide ((TG (wd (List.take 16 K) 0 16) (wd ((List.take (0 + m) (List.take m M)) ++ [77]) 0 m) 2) = (TG (wd K 0 16) (wd M 0 m) 2))) = true)) ∧ ((decide ((TG (wd (List.take 16 K) 0 16) (wd ((List.take (0 + m) (List.take m M)) ++ [77]) 0 m) 3) = (TG (wd K 0 16) (wd M 0 m) 3))) = true)) ∧ ((decide ((TG (wd (List.take 16 K) 0 16) (wd ((List.take (0 + m) (List.take m M)) ++ [77]) 0 m) 4) = (TG (wd K 0 16) (wd M 0 m) 4))) = true)) ∧ ((decide ((TG (wd (List.take 16 K) 0 16) (wd ((List.take (0 + m) (List.take m M)) ++ [77]) 0 m) 5) = (TG (wd K 0 16) (wd M 0 m) 5))) = true)) ∧ ((decide ((TG (wd (List.take 16 K) 0 16) (wd ((List.take (0 + m) (List.take m M)) ++ [77]) 0 m) 6) = (TG (wd K 0 16) (wd M 0 m) 6))) = true)) ∧ ((decide ((TG (wd (List.take 16 K) 0 16) (wd ((List.take (0 + m) (List.take m M)) ++ [77]) 0 m) 7) = (TG (wd K 0 16) (wd M 0 m) 7))) = true)) ∧ ((decide ((TG (wd (List.take 16 K) 0 16) (wd ((List.take (0 + m) (List.take m M)) ++ [77]) 0 m) 8) = (TG (wd K 0 16) (wd M 0 m) 8))) = true)) ∧ ((decide ((TG (wd (List.take 16 K) 0 16) (wd ((List.take (0 + m) (List.take m M)) ++ [77]) 0 m) 9) = (TG (wd K 0 16) (wd M 0 m) 9))) = true)) ∧ ((decide ((TG (wd (List.take 16 K) 0 16) (wd ((List.take (0 + m) (List.take m M)) ++ [77]) 0 m) 10) = (TG (wd K 0 16) (wd M 0 m) 10))) = true)) ∧ ((decide ((TG (wd (List.take 16 K) 0 16) (wd ((List.take (0 + m) (List.take m M)) ++ [77]) 0 m) 11) = (TG (wd K 0 16) (wd M 0 m) 11))) = true)) ∧ True)
theorem runMki (TG : GT) (K : List Int) (c : Nat) (M : List Int) (m : Nat) (d : Nat) : (rM TG (sl 0 0 none 16 c) (sl 1 0 none m d) [oI K, oI M] oMki).map (fun r => (r.1, r.2.obl)) = some (.bool true, pMki TG K c M m d) := by kernel_rfl
noncomputable def oMkz : List (Option Bool) := [none, none, none, none, none, none, none, none, none, none, none, none, some false, none, none, none, none, none, none, none, none, none, none, none, none, none, none, none, none, none, none, none, none, none, none, none, none, none, none, none, some true, some true, some true, some true, some true, some true, some true, some true, some true, some true, some true, some true, some true, some true, some true, some true, none, none, none, none, none, none, some true, some true, some true, some true, some true, some true, some true, some true, some true, some true, some true, some true]
noncomputable def pMkz (TG : GT) (K : List Int) (c : Nat) (d : Nat) : Prop := (((((((((((((((((((((((((((((((((((((True ∧ ((16 ≤ K.length) ∧ ((0 ≤ 0) ∧ ((16 ≤ mostBytes) ∧ (16 ≤ mostBytes))))) ∧ ((TG = tagF) ∧ (OkK (wd (List.take 16 K) 0 16)))) ∧ ((TG = tagF) ∧ (OkK (wd (List.take 16 K) 0 16)))) ∧ (16 ≤ (List.take 16 K).length)) ∧ (16 ≤ K.length)) ∧ ((!((bytesI (List.take 16 (List.take 16 K))).toList == (bytesI (List.take 16 K)).toList)) = false)) ∧ ((TG = tagF) ∧ (OkK (wd K 0 16)))) ∧ ((decide ((TG (wd (List.take 16 K) 0 16) [] 0) = (TG (wd K 0 16) [] 0))) = true)) ∧ ((decide ((TG (wd (List.take 16 K) 0 16) [] 1) = (TG (wd K 0 16) [] 1))) = true)) ∧ ((decide ((TG (wd (List.take 16 K) 0 16) [] 2) = (TG (wd K 0 16) [] 2))) = true)) ∧ ((decide ((TG (wd (List.take 16 K) 0 16) [] 3) = (TG (wd K 0 16) [] 3))) = true)) ∧ ((decide ((TG (wd (List.take 16 K) 0 16) [] 4) = (TG (wd K 0 16) [] 4))) = true)) ∧ ((decide ((TG (wd (List.take 16 K) 0 16) [] 5) = (TG (wd K 0 16) [] 5))) = true)) ∧ ((decide ((TG (wd (List.take 16 K) 0 16) [] 6) = (TG (wd K 0 16) [] 6))) = true)) ∧ ((decide ((TG (wd (List.take 16 K) 0 16) [] 7) = (TG (wd K 0 16) [] 7))) = true)) ∧ ((decide ((TG (wd (List.take 16 K) 0 16) [] 8) = (TG (wd K 0 16) [] 8))) = true)) ∧ ((decide ((TG (wd (List.take 16 K) 0 16) [] 9) = (TG (wd K 0 16) [] 9))) = true)) ∧ ((decide ((TG (wd (List.take 16 K) 0 16) [] 10) = (TG (wd K 0 16) [] 10))) = true)) ∧ ((decide ((TG (wd (List.take 16 K) 0 16) [] 11) = (TG (wd K 0 16) [] 11))) = true)) ∧ ((decide ((TG (wd (List.take 16 K) 0 16) [] 12) = (TG (wd K 0 16) [] 12))) = true)) ∧ ((decide ((TG (wd (List.take 16 K) 0 16) [] 13) = (TG (wd K 0 16) [] 13))) = true)) ∧ ((decide ((TG (wd (List.take 16 K) 0 16) [] 14) = (TG (wd K 0 16) [] 14))) = true)) ∧ ((decide ((TG (wd (List.take 16 K) 0 16) [] 15) = (TG (wd K 0 16) [] 15))) = true)) ∧ ((TG = tagF) ∧ (OkK (wd K 0 16)))) ∧ ((decide ((TG (wd (List.take 16 K) 0 16) [] 0) = (TG (wd K 0 16) [] 0))) = true)) ∧ ((decide ((TG (wd (List.take 16 K) 0 16) [] 1) = (TG (wd K 0 16) [] 1))) = true)) ∧ ((decide ((TG (wd (List.take 16 K) 0 16) [] 2) = (TG (wd K 0 16) [] 2))) = true)) ∧ ((decide ((TG (wd (List.take 16 K) 0 16) [] 3) = (TG (wd K 0 16) [] 3))) = true)) ∧ ((decide ((TG (wd (List.take 16 K) 0 16) [] 4) = (TG (wd K 0 16) [] 4))) = true)) ∧ ((decide ((TG (wd (List.take 16 K) 0 16) [] 5) = (TG (wd K 0 16) [] 5))) = true)) ∧ ((decide ((TG (wd (List.take 16 K) 0 16) [] 6) = (TG (wd K 0 16) [] 6))) = true)) ∧ ((decide ((TG (wd (List.take 16 K) 0 16) [] 7) = (TG (wd K 0 16) [] 7))) = true)) ∧ ((decide ((TG (wd (List.take 16 K) 0 16) [] 8) = (TG (wd K 0 16) [] 8))) = true)) ∧ ((decide ((TG (wd (List.take 16 K) 0 16) [] 9) = (TG (wd K 0 16) [] 9))) = true)) ∧ ((decide ((TG (wd (List.take 16 K) 0 16) [] 10) = (TG (wd K 0 16) [] 10))) = true)) ∧ ((decide ((TG (wd (List.take 16 K) 0 16) [] 11) = (TG (wd K 0 16) [] 11))) = true)) ∧ True)
theorem runMkz (TG : GT) (K : List Int) (c : Nat) (d : Nat) : (rM TG (sl 0 0 none 16 c) (sl 1 0 none 0 d) [oI K, none] oMkz).map (fun r => (r.1, r.2.obl)) = some (.bool true, pMkz TG K c d) := by kernel_rfl
noncomputable def oMkn : List (Option Bool) := [none, none, none, none, none, none, none, none, none, none, none, none, some false, none, none, none, none, none, none, none, none, none, none, none, none, none, none, none, none, none, none, none, none, none, none, none, none, none, none, none, some true, some true, some true, some true, some true, some true, some true, some true, some true, some true, some true, some true, some true, some true, some true, some true, none, none, none, none, none, none, some true, some true, some true, some true, some true, some true, some true, some true, some true, some true, some true, some true]
noncomputable def pMkn (TG : GT) (K : List Int) (c : Nat) : Prop := (((((((((((((((((((((((((((((((((((((True ∧ ((16 ≤ K.length) ∧ ((0 ≤ 0) ∧ ((16 ≤ mostBytes) ∧ (16 ≤ mostBytes))))) ∧ ((TG = tagF) ∧ (OkK (wd (List.take 16 K) 0 16)))) ∧ ((TG = tagF) ∧ (OkK (wd (List.take 16 K) 0 16)))) ∧ (16 ≤ (List.take 16 K).length)) ∧ (16 ≤ K.length)) ∧ ((!((bytesI (List.take 16 (List.take 16 K))).toList == (bytesI (List.take 16 K)).toList)) = false)) ∧ ((TG = tagF) ∧ (OkK (wd K 0 16)))) ∧ ((decide ((TG (wd (List.take 16 K) 0 16) [] 0) = (TG (wd K 0 16) [] 0))) = true)) ∧ ((decide ((TG (wd (List.take 16 K) 0 16) [] 1) = (TG (wd K 0 16) [] 1))) = true)) ∧ ((decide ((TG (wd (List.take 16 K) 0 16) [] 2) = (TG (wd K 0 16) [] 2))) = true)) ∧ ((decide ((TG (wd (List.take 16 K) 0 16) [] 3) = (TG (wd K 0 16) [] 3))) = true)) ∧ ((decide ((TG (wd (List.take 16 K) 0 16) [] 4) = (TG (wd K 0 16) [] 4))) = true)) ∧ ((decide ((TG (wd (List.take 16 K) 0 16) [] 5) = (TG (wd K 0 16) [] 5))) = true)) ∧ ((decide ((TG (wd (List.take 16 K) 0 16) [] 6) = (TG (wd K 0 16) [] 6))) = true)) ∧ ((decide ((TG (wd (List.take 16 K) 0 16) [] 7) = (TG (wd K 0 16) [] 7))) = true)) ∧ ((decide ((TG (wd (List.take 16 K) 0 16) [] 8) = (TG (wd K 0 16) [] 8))) = true)) ∧ ((decide ((TG (wd (List.take 16 K) 0 16) [] 9) = (TG (wd K 0 16) [] 9))) = true)) ∧ ((decide ((TG (wd (List.take 16 K) 0 16) [] 10) = (TG (wd K 0 16) [] 10))) = true)) ∧ ((decide ((TG (wd (List.take 16 K) 0 16) [] 11) = (TG (wd K 0 16) [] 11))) = true)) ∧ ((decide ((TG (wd (List.take 16 K) 0 16) [] 12) = (TG (wd K 0 16) [] 12))) = true)) ∧ ((decide ((TG (wd (List.take 16 K) 0 16) [] 13) = (TG (wd K 0 16) [] 13))) = true)) ∧ ((decide ((TG (wd (List.take 16 K) 0 16) [] 14) = (TG (wd K 0 16) [] 14))) = true)) ∧ ((decide ((TG (wd (List.take 16 K) 0 16) [] 15) = (TG (wd K 0 16) [] 15))) = true)) ∧ ((TG = tagF) ∧ (OkK (wd K 0 16)))) ∧ ((decide ((TG (wd (List.take 16 K) 0 16) [] 0) = (TG (wd K 0 16) [] 0))) = true)) ∧ ((decide ((TG (wd (List.take 16 K) 0 16) [] 1) = (TG (wd K 0 16) [] 1))) = true)) ∧ ((decide ((TG (wd (List.take 16 K) 0 16) [] 2) = (TG (wd K 0 16) [] 2))) = true)) ∧ ((decide ((TG (wd (List.take 16 K) 0 16) [] 3) = (TG (wd K 0 16) [] 3))) = true)) ∧ ((decide ((TG (wd (List.take 16 K) 0 16) [] 4) = (TG (wd K 0 16) [] 4))) = true)) ∧ ((decide ((TG (wd (List.take 16 K) 0 16) [] 5) = (TG (wd K 0 16) [] 5))) = true)) ∧ ((decide ((TG (wd (List.take 16 K) 0 16) [] 6) = (TG (wd K 0 16) [] 6))) = true)) ∧ ((decide ((TG (wd (List.take 16 K) 0 16) [] 7) = (TG (wd K 0 16) [] 7))) = true)) ∧ ((decide ((TG (wd (List.take 16 K) 0 16) [] 8) = (TG (wd K 0 16) [] 8))) = true)) ∧ ((decide ((TG (wd (List.take 16 K) 0 16) [] 9) = (TG (wd K 0 16) [] 9))) = true)) ∧ ((decide ((TG (wd (List.take 16 K) 0 16) [] 10) = (TG (wd K 0 16) [] 10))) = true)) ∧ ((decide ((TG (wd (List.take 16 K) 0 16) [] 11) = (TG (wd K 0 16) [] 11))) = true)) ∧ True)
theorem runMkn (TG : GT) (K : List Int) (c : Nat) : (rM TG (sl 0 0 none 16 c) (.slice none 0 0) [oI K] oMkn).map (fun r => (r.1, r.2.obl)) = some (.bool true, pMkn TG K c) := by kernel_rfl
noncomputable def oMoi : List (Option Bool) := [none, none, some false, none, none, none, some false, none, none, none, some false, some false, some false, some true, some true, none, none, none, some true, none, none, none, none, some false, none, none, none, none, none, some false, none, none, none, some true, none, some true, none, none, none, some true, none, some true, none, none, some false, some true]
noncomputable def pMoi (K : List Int) (n : Nat) (c : Nat) (M : List Int) (m : Nat) (d : Nat) : Prop := ((((((((((((((((((((((((True ∧ ((decide (200 < (nI n))) = false)) ∧ ((decide (200 < (nI m))) = false)) ∧ ((decide ((0 + n) ≤ 0)) = false)) ∧ (((0 + n) ≤ K.length) ∧ ((0 ≤ 0) ∧ ((((0 + n) * 1) ≤ mostBytes) ∧ ((0 + n) ≤ mostBytes))))) ∧ ((decide ((0 + m) ≤ 0)) = false)) ∧ (((0 + m) ≤ M.length) ∧ ((0 ≤ 0) ∧ ((((0 + m) * 1) ≤ mostBytes) ∧ ((0 + m) ≤ mostBytes))))) ∧ ((decide (((0 + m) + 1) ≤ (0 + m))) = false)) ∧ ((1 ≤ 1) ∧ (((0 + (0 + m)) ≤ (List.take m M).length) ∧ (((((0 + m) + 1) * 1) ≤ mostBytes) ∧ (((0 + m) + 1) ≤ mostBytes))))) ∧ ((0 ≤ (nI m)) ∧ (((nI m) ≤ (nI ((0 + m) + 1))) ∧ (((0 : Int) ≤ 0) ∧ (0 ≤ (nI m)))))) ∧ ((!((nI (0 + n)) == 16)) = true)) ∧ ((!((nI (0 + n)) == 16)) = true)) ∧ ((0 + (0 + n)) ≤ (List.take n K).length)) ∧ ((0 + n) ≤ K.length)) ∧ ((!((bytesI (List.take (0 + n) (List.take n K))).toList == (bytesI (List.take n K)).toList)) = false)) ∧ ((0 + m) ≤ ((List.take (0 + m) (List.take m M)) ++ [77]).length)) ∧ ((0 + m) ≤ M.length)) ∧ ((!((bytesI (List.take m ((List.take (0 + m) (List.take m M)) ++ [77]))).toList == (bytesI (List.take m M)).toList)) = false)) ∧ ((IntKind.i64.wrap ((nI m) + 1)) = ((nI m) + 1))) ∧ ((0 ≤ ((nI m) + 1)) ∧ ((((nI m) + 1) ≤ (nI ((0 + m) + 1))) ∧ (((0 : Int) ≤ 0) ∧ (0 ≤ ((nI m) + 1)))))) ∧ ((0 ≤ (nI m)) ∧ ((nI m) < (nI ((nI m) + 1).toNat)))) ∧ ((0 + (m * 1)).succ ≤ ((List.take (0 + m) (List.take m M)) ++ [77]).length)) ∧ ((!((((List.take (0 + m) (List.take m M)) ++ [77]).getD (0 + (m * 1)) 0) == 77)) = false)) ∧ ((!((nI n) == 16)) = true)) ∧ True)
theorem runMoi (K : List Int) (n : Nat) (c : Nat) (M : List Int) (m : Nat) (d : Nat) : (rM0 (sl 0 0 none n c) (sl 1 0 none m d) [oI K, oI M] oMoi).map (fun r => (r.1, r.2.obl)) = some (.bool true, pMoi K n c M m d) := by kernel_rfl
noncomputable def oMoz : List (Option Bool) := [none, none, some false, none, none, none, none, none, none, none, some false, none, some true, none, none, none, some true, none, none, none, none, some false, none, none, none, none, none, none, none, none, none, none, none, none, none, none, none, none, none, none, none, none, some true]
noncomputable def pMoz (K : List Int) (n : Nat) (c : Nat) (d : Nat) : Prop := ((((((((((True ∧ ((decide (200 < (nI n))) = false)) ∧ ((decide ((0 + n) ≤ 0)) = false)) ∧ (((0 + n) ≤ K.length) ∧ ((0 ≤ 0) ∧ ((((0 + n) * 1) ≤ mostBytes) ∧ ((0 + n) ≤ mostBytes))))) ∧ ((!((nI (0 + n)) == 16)) = true)) ∧ ((!((nI (0 + n)) == 16)) = true)) ∧ ((0 + (0 + n)) ≤ (List.take n K).length)) ∧ ((0 + n) ≤ K.length)) ∧ ((!((bytesI (List.take (0 + n) (List.take n K))).toList == (bytesI (List.take n K)).toList)) = false)) ∧ ((!((nI n) == 16)) = true)) ∧ True)
theorem runMoz (K : List Int) (n : Nat) (c : Nat) (d : Nat) : (rM0 (sl 0 0 none n c) (sl 1 0 none 0 d) [oI K, none] oMoz).map (fun r => (r.1, r.2.obl)) = some (.bool true, pMoz K n c d) := by kernel_rfl
noncomputable def oMon : List (Option Bool) := [none, none, some false, none, none, none, none, none, none, none, some false, none, some true, none, none, none, some true, none, none, none, none, some false, none, none, none, none, none, none, none, none, none, none, none, none, none, none, none, none, none, none, none, none, some true]
noncomputable def pMon (K : List Int) (n : Nat) (c : Nat) : Prop := ((((((((((True ∧ ((decide (200 < (nI n))) = false)) ∧ ((decide ((0 + n) ≤ 0)) = false)) ∧ (((0 + n) ≤ K.length) ∧ ((0 ≤ 0) ∧ ((((0 + n) * 1) ≤ mostBytes) ∧ ((0 + n) ≤ mostBytes))))) ∧ ((!((nI (0 + n)) == 16)) = true)) ∧ ((!((nI (0 + n)) == 16)) = true)) ∧ ((0 + (0 + n)) ≤ (List.take n K).length)) ∧ ((0 + n) ≤ K.length)) ∧ ((!((bytesI (List.take (0 + n) (List.take n K))).toList == (bytesI (List.take n K)).toList)) = false)) ∧ ((!((nI n) == 16)) = true)) ∧ True)
theorem runMon (K : List Int) (n : Nat) (c : Nat) : (rM0 (sl 0 0 none n c) (.slice none 0 0) [oI K] oMon).map (fun r => (r.1, r.2.obl)) = some (.bool true, pMon K n c) := by kernel_rfl
noncomputable def oMni : List (Option Bool) := [none, none, none, none, none, none, some false, none, none, none, some false, some false, some true, none, none, none, none, none, none, none, none, none, none, none, none, none, none, none, some false, none, none, none, some true, none, some true, none, none, none, some true, none, some true, none, none, some false]
noncomputable def pMni (M : List Int) (m : Nat) (d : Nat) : Prop := (((((((((((((((True ∧ ((decide (200 < (nI m))) = false)) ∧ ((decide ((0 + m) ≤ 0)) = false)) ∧ (((0 + m) ≤ M.length) ∧ ((0 ≤ 0) ∧ ((((0 + m) * 1) ≤ mostBytes) ∧ ((0 + m) ≤ mostBytes))))) ∧ ((decide (((0 + m) + 1) ≤ (0 + m))) = false)) ∧ ((1 ≤ 1) ∧ (((0 + (0 + m)) ≤ (List.take m M).length) ∧ (((((0 + m) + 1) * 1) ≤ mostBytes) ∧ (((0 + m) + 1) ≤ mostBytes))))) ∧ ((0 ≤ (nI m)) ∧ (((nI m) ≤ (nI ((0 + m) + 1))) ∧ (((0 : Int) ≤ 0) ∧ (0 ≤ (nI m)))))) ∧ ((0 + m) ≤ ((List.take (0 + m) (List.take m M)) ++ [77]).length)) ∧ ((0 + m) ≤ M.length)) ∧ ((!((bytesI (List.take m ((List.take (0 + m) (List.take m M)) ++ [77]))).toList == (bytesI (List.take m M)).toList)) = false)) ∧ ((IntKind.i64.wrap ((nI m) + 1)) = ((nI m) + 1))) ∧ ((0 ≤ ((nI m) + 1)) ∧ ((((nI m) + 1) ≤ (nI ((0 + m) + 1))) ∧ (((0 : Int) ≤ 0) ∧ (0 ≤ ((nI m) + 1)))))) ∧ ((0 ≤ (nI m)) ∧ ((nI m) < (nI ((nI m) + 1).toNat)))) ∧ ((0 + (m * 1)).succ ≤ ((List.take (0 + m) (List.take m M)) ++ [77]).length)) ∧ ((!((((List.take (0 + m) (List.take m M)) ++ [77]).getD (0 + (m * 1)) 0) == 77)) = false)) ∧ True)
theorem runMni (M : List Int) (m : Nat) (d : Nat) : (rM0 (.slice none 0 0) (sl 0 0 none m d) [oI M] oMni).map (fun r => (r.1, r.2.obl)) = some (.bool true, pMni M m d) := by kernel_rfl
noncomputable def oMnz : List (Option Bool) := []
noncomputable def pMnz (d : Nat) : Prop := (True ∧ True)
theorem runMnz (d : Nat) : (rM0 (.slice none 0 0) (sl 0 0 none 0 d) [none] oMnz).map (fun r => (r.1, r.2.obl)) = some (.bool true, pMnz d) := by kernel_rfl
noncomputable def oMnn : List (Option Bool) := []
noncomputable def pMnn (n : Nat) : Prop := (True ∧ True)
theorem runMnn (n : Nat) : (rM0 (.slice none 0 0) (.slice none 0 0) [] oMnn).map (fun r => (r.1, r.2.obl)) = some (.bool true, pMnn n) := by kernel_rfl
noncomputable def oMzi : List (Option Bool) := [none, none, none, none, none, none, some false, none, none, none, some false, some false, some true, none, none, none, none, none, none, none, none, none, none, none, none, none, none, none, some false, none, none, none, some true, none, some true, none, none, none, some true, none, some true, none, none, some false]
noncomputable def pMzi (c : Nat) (M : List Int) (m : Nat) (d : Nat) : Prop := (((((((((((((((True ∧ ((decide (200 < (nI m))) = false)) ∧ ((decide ((0 + m) ≤ 0)) = false)) ∧ (((0 + m) ≤ M.length) ∧ ((0 ≤ 0) ∧ ((((0 + m) * 1) ≤ mostBytes) ∧ ((0 + m) ≤ mostBytes))))) ∧ ((decide (((0 + m) + 1) ≤ (0 + m))) = false)) ∧ ((1 ≤ 1) ∧ (((0 + (0 + m)) ≤ (List.take m M).length) ∧ (((((0 + m) + 1) * 1) ≤ mostBytes) ∧ (((0 + m) + 1) ≤ mostBytes))))) ∧ ((0 ≤ (nI m)) ∧ (((nI m) ≤ (nI ((0 + m) + 1))) ∧ (((0 : Int) ≤ 0) ∧ (0 ≤ (nI m)))))) ∧ ((0 + m) ≤ ((List.take (0 + m) (List.take m M)) ++ [77]).length)) ∧ ((0 + m) ≤ M.length)) ∧ ((!((bytesI (List.take m ((List.take (0 + m) (List.take m M)) ++ [77]))).toList == (bytesI (List.take m M)).toList)) = false)) ∧ ((IntKind.i64.wrap ((nI m) + 1)) = ((nI m) + 1))) ∧ ((0 ≤ ((nI m) + 1)) ∧ ((((nI m) + 1) ≤ (nI ((0 + m) + 1))) ∧ (((0 : Int) ≤ 0) ∧ (0 ≤ ((nI m) + 1)))))) ∧ ((0 ≤ (nI m)) ∧ ((nI m) < (nI ((nI m) + 1).toNat)))) ∧ ((0 + (m * 1)).succ ≤ ((List.take (0 + m) (List.take m M)) ++ [77]).length)) ∧ ((!((((List.take (0 + m) (List.take m M)) ++ [77]).getD (0 + (m * 1)) 0) == 77)) = false)) ∧ True)
theorem runMzi (c : Nat) (M : List Int) (m : Nat) (d : Nat) : (rM0 (sl 0 0 none 0 c) (sl 1 0 none m d) [none, oI M] oMzi).map (fun r => (r.1, r.2.obl)) = some (.bool true, pMzi c M m d) := by kernel_rfl
noncomputable def oMzn : List (Option Bool) := []
noncomputable def pMzn (c : Nat) : Prop := (True ∧ True)
theorem runMzn (c : Nat) : (rM0 (sl 0 0 none 0 c) (.slice none 0 0) [none] oMzn).map (fun r => (r.1, r.2.obl)) = some (.bool true, pMzn c) := by kernel_rfl
noncomputable def oMzz : List (Option Bool) := []
noncomputable def pMzz (c : Nat) (d : Nat) : Prop := (True ∧ True)
theorem runMzz (c : Nat) (d : Nat) : (rM0 (sl 0 0 none 0 c) (sl 1 0 none 0 d) [none, none] oMzz).map (fun r => (r.1, r.2.obl)) = some (.bool true, pMzz c d) := by kernel_rfl
noncomputable def oMbi : List (Option Bool) := [none, none, some true]
noncomputable def pMbi (n : Nat) (c : Nat) (m : Nat) (d : Nat) : Prop := ((True ∧ ((decide (200 < (nI n))) = true)) ∧ True)
theorem runMbi (n : Nat) (c : Nat) (m : Nat) (d : Nat) : (rM0 (sl 0 0 none n c) (sl 1 0 none m d) [none, none] oMbi).map (fun r => (r.1, r.2.obl)) = some (.bool true, pMbi n c m d) := by kernel_rfl
noncomputable def oMbn : List (Option Bool) := [none, none, some true]
noncomputable def pMbn (n : Nat) (c : Nat) : Prop := ((True ∧ ((decide (200 < (nI n))) = true)) ∧ True)
theorem runMbn (n : Nat) (c : Nat) : (rM0 (sl 0 0 none n c) (.slice none 0 0) [none] oMbn).map (fun r => (r.1, r.2.obl)) = some (.bool true, pMbn n c) := by kernel_rfl
noncomputable def oMob : List (Option Bool) := [none, none, some false, none, none, none, some true]
noncomputable def pMob (n : Nat) (c : Nat) (m : Nat) (d : Nat) : Prop := (((True ∧ ((decide (200 < (nI n))) = false)) ∧ ((decide (200 < (nI m))) = true)) ∧ True)
theorem runMob (n : Nat) (c : Nat) (m : Nat) (d : Nat) : (rM0 (sl 0 0 none n c) (sl 1 0 none m d) [none, none] oMob).map (fun r => (r.1, r.2.obl)) = some (.bool true, pMob n c m d) := by kernel_rfl
noncomputable def oMnb : List (Option Bool) := [none, none, none, none, none, none, some true]
noncomputable def pMnb (m : Nat) (d : Nat) : Prop := ((True ∧ ((decide (200 < (nI m))) = true)) ∧ True)
theorem runMnb (m : Nat) (d : Nat) : (rM0 (.slice none 0 0) (sl 0 0 none m d) [none] oMnb).map (fun r => (r.1, r.2.obl)) = some (.bool true, pMnb m d) := by kernel_rfl
end
end ae
end Go.Proofs.Ytkcngffpnnlmeaa
namespace Go.Proofs.Ytkcngffpnnlmeaa
open Go.ChangeShapes Go.WideShapes Go.ChangeAt Go.RowKit Go.Cln
namespace ae
set_option linter.unusedVariables false
noncomputable section
theorem keyIn {K : List Int} (h : ∀ x ∈ K, 0 ≤ x ∧ x < 256) : B16 (keyOf K) := fun j _ => bx_in h j
theorem tkM {M : List Int} {m : Nat} (h : M.length = m) : List.take m M = M := take_all h
theorem tkE {M X : List Int} {m : Nat} (h : M.length = m) : List.take m (M ++ X) = M := take_end h
theorem wdE {M X : List Int} {m : Nat} (h : M.length = m) : wd (M ++ X) 0 m = M := by unfold wd; rw [List.drop_zero, take_end h]
theorem gtE {M : List Int} {m : Nat} (h : M.length = m) : (M ++ [77]).getD m 0 = (77 : Int) := getD_end h
theorem nB {x y : List Int} (h : x = y) : (!((bytesI x).toList == (bytesI y).toList)) = false := by
  have := beqB_of h
  unfold beqB at this
  rw [this]; rfl
theorem n16 {n : Nat} (h : n ≠ 16) : (!((n : Int) == 16)) = true := by
  have e : ((n : Int) == 16) = false := by
    rw [Bool.eq_false_iff]
    intro h
    have : (n : Int) = 16 := by simpa using h
    omega
  rw [e]; rfl
theorem wrI {m : Nat} (h : m ≤ 200) : IntKind.i64.wrap ((m : Int) + 1) = (m : Int) + 1 := by rw [IntKind.wrap_i64]; omega
theorem pMki_ok {K : List Int} {c : Nat} {M : List Int} {m d : Nat} (hK : OkK K) (hM : M.length = m) (pM : 0 < m) (qM : m ≤ 200) : pMki tagF K c M m d := by
  have hA : OkK K := hK
  have hB : okA K M m := ⟨hK, hM, by omega⟩
  have l16 : K.length = 16 := hK.1
  have k16 : B16 (keyOf K) := hK.2
  have lE : (M ++ [(77 : Int)]).length = m + 1 := by simp [hM]
  unfold pMki
  simp only [Nat.zero_add, Nat.mul_one, tkM hK.1, wdK hK.1, tkM hM, tkE hM, wdE hM, wdM hM, gtE hM, nI, decide_true, and_true, true_and]
  repeat' apply And.intro
  all_goals first | trivial | assumption | rfl | (unfold mostBytes; omega) | (simp only [decide_eq_true_eq, decide_eq_false_iff_not]; omega) | exact nB rfl | exact wrI ‹_› | omega
theorem pMkz_ok {K : List Int} {c : Nat} {d : Nat} (hK : OkK K) : pMkz tagF K c d := by
  have hA : OkK K := hK
  have l16 : K.length = 16 := hK.1
  have k16 : B16 (keyOf K) := hK.2
  unfold pMkz
  simp only [Nat.zero_add, Nat.mul_one, tkM hK.1, wdK hK.1, nI, decide_true, and_true, true_and]
  repeat' apply And.intro
  all_goals first | trivial | assumption | rfl | (unfold mostBytes; omega) | (simp only [decide_eq_true_eq, decide_eq_false_iff_not]; omega) | exact nB rfl | exact wrI ‹_› | omega
theorem pMkn_ok {K : List Int} {c : Nat} (hK : OkK K) : pMkn tagF K c := by
  have hA : OkK K := hK
  have l16 : K.length = 16 := hK.1
  have k16 : B16 (keyOf K) := hK.2
  unfold pMkn
  simp only [Nat.zero_add, Nat.mul_one, tkM hK.1, wdK hK.1, nI, decide_true, and_true, true_and]
  repeat' apply And.intro
  all_goals first | trivial | assumption | rfl | (unfold mostBytes; omega) | (simp only [decide_eq_true_eq, decide_eq_false_iff_not]; omega) | exact nB rfl | exact wrI ‹_› | omega
theorem pMoi_ok {K : List Int} {n c : Nat} {M : List Int} {m d : Nat} (hK : K.length = n) (pK : 0 < n) (qK : n ≤ 200) (h16 : n ≠ 16) (hM : M.length = m) (pM : 0 < m) (qM : m ≤ 200) : pMoi K n c M m d := by
  have lE : (M ++ [(77 : Int)]).length = m + 1 := by simp [hM]
  unfold pMoi
  simp only [Nat.zero_add, Nat.mul_one, tkM hK, n16 h16, tkM hM, tkE hM, wdE hM, wdM hM, gtE hM, nI, decide_true, and_true, true_and]
  repeat' apply And.intro
  all_goals first | trivial | assumption | rfl | (unfold mostBytes; omega) | (simp only [decide_eq_true_eq, decide_eq_false_iff_not]; omega) | exact nB rfl | exact wrI ‹_› | omega
theorem pMoz_ok {K : List Int} {n c : Nat} {d : Nat} (hK : K.length = n) (pK : 0 < n) (qK : n ≤ 200) (h16 : n ≠ 16) : pMoz K n c d := by
  unfold pMoz
  simp only [Nat.zero_add, Nat.mul_one, tkM hK, n16 h16, nI, decide_true, and_true, true_and]
  repeat' apply And.intro
  all_goals first | trivial | assumption | rfl | (unfold mostBytes; omega) | (simp only [decide_eq_true_eq, decide_eq_false_iff_not]; omega) | exact nB rfl | exact wrI ‹_› | omega
theorem pMon_ok {K : List Int} {n c : Nat} (hK : K.length = n) (pK : 0 < n) (qK : n ≤ 200) (h16 : n ≠ 16) : pMon K n c := by
  unfold pMon
  simp only [Nat.zero_add, Nat.mul_one, tkM hK, n16 h16, nI, decide_true, and_true, true_and]
  repeat' apply And.intro
  all_goals first | trivial | assumption | rfl | (unfold mostBytes; omega) | (simp only [decide_eq_true_eq, decide_eq_false_iff_not]; omega) | exact nB rfl | exact wrI ‹_› | omega
theorem pMni_ok {M : List Int} {m d : Nat} (hM : M.length = m) (pM : 0 < m) (qM : m ≤ 200) : pMni M m d := by
  have lE : (M ++ [(77 : Int)]).length = m + 1 := by simp [hM]
  unfold pMni
  simp only [Nat.zero_add, Nat.mul_one, tkM hM, tkE hM, wdE hM, wdM hM, gtE hM, nI, decide_true, and_true, true_and]
  repeat' apply And.intro
  all_goals first | trivial | assumption | rfl | (unfold mostBytes; omega) | (simp only [decide_eq_true_eq, decide_eq_false_iff_not]; omega) | exact nB rfl | exact wrI ‹_› | omega
theorem pMnz_ok {d : Nat} : pMnz d := by
  exact ⟨trivial, trivial⟩
theorem pMnn_ok : pMnn 0 := by
  exact ⟨trivial, trivial⟩
theorem pMzi_ok {c : Nat} {M : List Int} {m d : Nat} (hM : M.length = m) (pM : 0 < m) (qM : m ≤ 200) : pMzi c M m d := by
  have lE : (M ++ [(77 : Int)]).length = m + 1 := by simp [hM]
  unfold pMzi
  simp only [Nat.zero_add, Nat.mul_one, tkM hM, tkE hM, wdE hM, wdM hM, gtE hM, nI, decide_true, and_true, true_and]
  repeat' apply And.intro
  all_goals first | trivial | assumption | rfl | (unfold mostBytes; omega) | (simp only [decide_eq_true_eq, decide_eq_false_iff_not]; omega) | exact nB rfl | exact wrI ‹_› | omega
theorem pMzn_ok {c : Nat} : pMzn c := by
  exact ⟨trivial, trivial⟩
theorem pMzz_ok {c : Nat} {d : Nat} : pMzz c d := by
  exact ⟨trivial, trivial⟩
theorem cmacTags (W : World) (a0 : Option Addr) (n0 c0 : Nat) (s0 : (a0 = none ∧ n0 = 0 ∧ c0 = 0) ∨ ∃ b o, a0 = some ⟨b, o, none⟩ ∧ n0 ≤ c0 ∧ (c0 : Int) ≤ 9223372036854775807)
    (z0 : n0 = 0 ∨ ∃ (b o : Nat) (L : List Int), a0 = some ⟨b, o, none⟩ ∧ L.length = n0 ∧ (∀ x ∈ L, (Lit.int .u8 x).wf = true) ∧ HasCells W b o (L.map (Value.int .u8)))
    (a1 : Option Addr) (n1 c1 : Nat) (s1 : (a1 = none ∧ n1 = 0 ∧ c1 = 0) ∨ ∃ b o, a1 = some ⟨b, o, none⟩ ∧ n1 ≤ c1 ∧ (c1 : Int) ≤ 9223372036854775807)
    (z1 : n1 = 0 ∨ ∃ (b o : Nat) (L : List Int), a1 = some ⟨b, o, none⟩ ∧ L.length = n1 ∧ (∀ x ∈ L, (Lit.int .u8 x).wf = true) ∧ HasCells W b o (L.map (Value.int .u8))) :
    Calls Try.prog 4 #[.slice a0 n0 c0, .slice a1 n1 c1] W fun e w' => e = .returned (.bool true) ∧ Below W.heap.size W w' := by
  rcases cameIn 200 s0 z0 with ⟨rfl, rfl, rfl⟩ | ⟨b0, o0, rfl, hc, _, rfl | ⟨p0, q0, K, l0, hK, bK, kK⟩ | g0⟩
  · rcases cameIn 200 s1 z1 with ⟨rfl, rfl, rfl⟩ | ⟨b1, o1, rfl, hd, _, rfl | ⟨p1, q1, M, l1, hM, bM, kM⟩ | g1⟩
    · exact ranG pg (KL0_ok) (ρ := pl ⟨0, 0, 0⟩ ⟨0, 0, 0⟩) (runMnn 0) (pMnn_ok) rfl (start_hs (l := []) (orc := oMnn) (by simp) ok0) (VL.cons (.same rfl) (VL.cons (.same rfl) VL.nil))
    · exact ranG pg (KL0_ok) (ρ := pl ⟨b1, o1, 0⟩ ⟨0, 0, 0⟩) (runMnz c1) (pMnz_ok) rfl (start_hs (l := [none]) (orc := oMnz) (by simp) (ok1 trivial)) (VL.cons (.same rfl) (VL.cons (vr_at (by simp) (len := 0) rfl hd) VL.nil))
    · exact ranG pg (KL0_ok) (ρ := pl ⟨b1, o1, l1⟩ ⟨0, 0, 0⟩) (runMni M n1 c1) (pMni_ok hM p1 q1) rfl (start_hs (l := [oI M]) (orc := oMni) (by simp) (ok1 kM)) (VL.cons (.same rfl) (VL.cons (vr_at (by simp) (len := l1) rfl hd) VL.nil))
    · exact ranG pg (KL0_ok) (ρ := pl ⟨b1, o1, 0⟩ ⟨0, 0, 0⟩) (runMnb n1 c1) (⟨⟨trivial, decide_eq_true (show 200 < (n1 : Int) by omega)⟩, trivial⟩) rfl (start_hs (l := [none]) (orc := oMnb) (by simp) (ok1 trivial)) (VL.cons (.same rfl) (VL.cons (vr_at (by simp) (len := 0) rfl hd) VL.nil))
  · rcases cameIn 200 s1 z1 with ⟨rfl, rfl, rfl⟩ | ⟨b1, o1, rfl, hd, _, rfl | ⟨p1, q1, M, l1, hM, bM, kM⟩ | g1⟩
    · exact ranG pg (KL0_ok) (ρ := pl ⟨b0, o0, 0⟩ ⟨0, 0, 0⟩) (runMzn c0) (pMzn_ok) rfl (start_hs (l := [none]) (orc := oMzn) (by simp) (ok1 trivial)) (VL.cons (vr_at (by simp) (len := 0) rfl hc) (VL.cons (.same rfl) VL.nil))
    · exact ranG pg (KL0_ok) (ρ := pl ⟨b0, o0, 0⟩ ⟨b1, o1, 0⟩) (runMzz c0 c1) (pMzz_ok) rfl (start_hs (l := [none, none]) (orc := oMzz) (by simp) (ok2 trivial trivial)) (VL.cons (vr_at (by simp) (len := 0) rfl hc) (VL.cons (vr_at (by simp) (len := 0) rfl hd) VL.nil))
    · exact ranG pg (KL0_ok) (ρ := pl ⟨b0, o0, 0⟩ ⟨b1, o1, l1⟩) (runMzi c0 M n1 c1) (pMzi_ok hM p1 q1) rfl (start_hs (l := [none, oI M]) (orc := oMzi) (by simp) (ok2 trivial kM)) (VL.cons (vr_at (by simp) (len := 0) rfl hc) (VL.cons (vr_at (by simp) (len := l1) rfl hd) VL.nil))
    · exact ranG pg (KL0_ok) (ρ := pl ⟨b0, o0, 0⟩ ⟨b1, o1, 0⟩) (runMob 0 c0 n1 c1) (⟨⟨⟨trivial, decide_eq_false (show ¬ 200 < ((0 : Nat) : Int) by omega)⟩, decide_eq_true (show 200 < (n1 : Int) by omega)⟩, trivial⟩) rfl (start_hs (l := [none, none]) (orc := oMob) (by simp) (ok2 trivial trivial)) (VL.cons (vr_at (by simp) (len := 0) rfl hc) (VL.cons (vr_at (by simp) (len := 0) rfl hd) VL.nil))
  · by_cases h16 : n0 = 16
    · subst h16
      rcases cameIn 200 s1 z1 with ⟨rfl, rfl, rfl⟩ | ⟨b1, o1, rfl, hd, _, rfl | ⟨p1, q1, M, l1, hM, bM, kM⟩ | g1⟩
      · exact ranG pg (KLm_ok tagF) (ρ := pl ⟨b0, o0, l0⟩ ⟨0, 0, 0⟩) (runMkn tagF K c0) (pMkn_ok ⟨hK, keyIn bK⟩) rfl (start_hs (l := [oI K]) (orc := oMkn) (by simp) (ok1 kK)) (VL.cons (vr_at (by simp) (len := l0) rfl hc) (VL.cons (.same rfl) VL.nil))
      · exact ranG pg (KLm_ok tagF) (ρ := pl ⟨b0, o0, l0⟩ ⟨b1, o1, 0⟩) (runMkz tagF K c0 c1) (pMkz_ok ⟨hK, keyIn bK⟩) rfl (start_hs (l := [oI K, none]) (orc := oMkz) (by simp) (ok2 kK trivial)) (VL.cons (vr_at (by simp) (len := l0) rfl hc) (VL.cons (vr_at (by simp) (len := 0) rfl hd) VL.nil))
      · exact ranG pg (KLm_ok tagF) (ρ := pl ⟨b0, o0, l0⟩ ⟨b1, o1, l1⟩) (runMki tagF K c0 M n1 c1) (pMki_ok ⟨hK, keyIn bK⟩ hM p1 q1) rfl (start_hs (l := [oI K, oI M]) (orc := oMki) (by simp) (ok2 kK kM)) (VL.cons (vr_at (by simp) (len := l0) rfl hc) (VL.cons (vr_at (by simp) (len := l1) rfl hd) VL.nil))
      · exact ranG pg (KL0_ok) (ρ := pl ⟨b0, o0, 0⟩ ⟨b1, o1, 0⟩) (runMob 16 c0 n1 c1) (⟨⟨⟨trivial, decide_eq_false (show ¬ 200 < ((16 : Nat) : Int) by omega)⟩, decide_eq_true (show 200 < (n1 : Int) by omega)⟩, trivial⟩) rfl (start_hs (l := [none, none]) (orc := oMob) (by simp) (ok2 trivial trivial)) (VL.cons (vr_at (by simp) (len := 0) rfl hc) (VL.cons (vr_at (by simp) (len := 0) rfl hd) VL.nil))
    · rcases cameIn 200 s1 z1 with ⟨rfl, rfl, rfl⟩ | ⟨b1, o1, rfl, hd, _, rfl | ⟨p1, q1, M, l1, hM, bM, kM⟩ | g1⟩
      · exact ranG pg (KL0_ok) (ρ := pl ⟨b0, o0, l0⟩ ⟨0, 0, 0⟩) (runMon K n0 c0) (pMon_ok hK p0 q0 h16) rfl (start_hs (l := [oI K]) (orc := oMon) (by simp) (ok1 kK)) (VL.cons (vr_at (by simp) (len := l0) rfl hc) (VL.cons (.same rfl) VL.nil))
      · exact ranG pg (KL0_ok) (ρ := pl ⟨b0, o0, l0⟩ ⟨b1, o1, 0⟩) (runMoz K n0 c0 c1) (pMoz_ok hK p0 q0 h16) rfl (start_hs (l := [oI K, none]) (orc := oMoz) (by simp) (ok2 kK trivial)) (VL.cons (vr_at (by simp) (len := l0) rfl hc) (VL.cons (vr_at (by simp) (len := 0) rfl hd) VL.nil))
      · exact ranG pg (KL0_ok) (ρ := pl ⟨b0, o0, l0⟩ ⟨b1, o1, l1⟩) (runMoi K n0 c0 M n1 c1) (pMoi_ok hK p0 q0 h16 hM p1 q1) rfl (start_hs (l := [oI K, oI M]) (orc := oMoi) (by simp) (ok2 kK kM)) (VL.cons (vr_at (by simp) (len := l0) rfl hc) (VL.cons (vr_at (by simp) (len := l1) rfl hd) VL.nil))
      · exact ranG pg (KL0_ok) (ρ := pl ⟨b0, o0, 0⟩ ⟨b1, o1, 0⟩) (runMob n0 c0 n1 c1) (⟨⟨⟨trivial, decide_eq_false (show ¬ 200 < ((n0 : Nat) : Int) by omega)⟩, decide_eq_true (show 200 < (n1 : Int) by omega)⟩, trivial⟩) rfl (start_hs (l := [none, none]) (orc := oMob) (by simp) (ok2 trivial trivial)) (VL.cons (vr_at (by simp) (len := 0) rfl hc) (VL.cons (vr_at (by simp) (len := 0) rfl hd) VL.nil))
  · rcases cameIn 200 s1 z1 with ⟨rfl, rfl, rfl⟩ | ⟨b1, o1, rfl, hd, _, _⟩
    · exact ranG pg (KL0_ok) (ρ := pl ⟨b0, o0, 0⟩ ⟨0, 0, 0⟩) (runMbn n0 c0) ⟨⟨trivial, decide_eq_true (show 200 < (n0 : Int) by omega)⟩, trivial⟩ rfl (start_hs (l := [none]) (orc := oMbn) (by simp) (ok1 trivial)) (VL.cons (vr_at (by simp) (len := 0) rfl hc) (VL.cons (.same rfl) VL.nil))
    · exact ranG pg (KL0_ok) (ρ := pl ⟨b0, o0, 0⟩ ⟨b1, o1, 0⟩) (runMbi n0 c0 n1 c1) ⟨⟨trivial, decide_eq_true (show 200 < (n0 : Int) by omega)⟩, trivial⟩ rfl (start_hs (l := [none, none]) (orc := oMbi) (by simp) (ok2 trivial trivial)) (VL.cons (vr_at (by simp) (len := 0) rfl hc) (VL.cons (vr_at (by simp) (len := 0) rfl hd) VL.nil))
end
end ae
end Go.Proofs.Ytkcngffpnnlmeaa
