/- Read off the code by the clean reading. -/
import Derived.Test.YtmgelikgcfjhhaaGreatClnHd
import Derived.Test.YtmgelikgcfjhhaaGreatClnEs
import Derived.Test.YtmgelikgcfjhhaaGreatClnQc
set_option linter.unusedVariables false
set_option linter.unusedSimpArgs false
set_option linter.deprecated false
set_option maxRecDepth 100000
namespace Go.Proofs.YtmgelikgcfjhhaaGreat
open Go.ChangeShapes Go.WideShapes Go.ChangeAt Go.RowKit Go.Cln
namespace km
set_option linter.unusedVariables false
noncomputable section
theorem run48ni (T : ae.VT) (K : List Int) (c : Nat) (M : List Int) (n d : Nat) : ((mk Tryz.prog (ae.KVT T) 200).call 48 [ae.sl 0 0 none 16 c, ae.sl 1 0 none 1 1] (smSt 3 (ae.hT K none n d M) [])).map (fun r => (r.1, r.2.obl, r.2.next, keepL (ae.ksT 198 true) r.2.heap.get 0)) = some (.tuple #[ae.row16 (ae.tgI T K M n), .int .i64 0], ae.pI T K M n d, (ae.hT K none n d M ++ List.replicate 198 none).length, ae.hT K none n d M ++ List.replicate 198 none) := by kernel_rfl
theorem run481i (T : ae.VT) (K : List Int) (c : Nat) (M : List Int) (n d : Nat) : ((mk Tryz.prog (ae.KVT T) 200).call 48 [ae.sl 0 0 (some 1) 16 c, ae.sl 1 0 none 1 1] (smSt 3 (ae.hT K none n d M) [])).map (fun r => (r.1, r.2.obl, r.2.next, keepL (ae.ksT 198 true) r.2.heap.get 0)) = some (.tuple #[ae.row16 (ae.tgI T K M n), .int .i64 0], ae.pI T K M n d, (ae.hT K none n d M ++ List.replicate 198 none).length, ae.hT K none n d M ++ List.replicate 198 none) := by kernel_rfl
theorem t48i (K : List Int) (c : Nat) (g : Option Nat) (hg : g = none ∨ g = some 1) (gz : Option Nat) (hz : gz = none ∨ gz = some 1) (M : List Int) (n d : Nat) (hK : ae.OkK K) (hM : M.length = n) (h0 : 0 < n) (h1 : n ≤ 1000000) (h2 : n ≤ d) :
    CallOk Tryz.prog 48 [ae.sl 0 0 g 16 c, ae.sl 1 0 none 1 1] (smSt 3 (ae.hT K gz n d M) []) (.tuple #[ae.row16 (ae.tagF K M), .int .i64 0]) (smSt 3 (ae.hT K gz n d M ++ List.replicate 198 none) []) := by
  rcases hz with rfl | rfl
  · rw [← ae.row16_congr (fun j hj => ae.tgI_eq hK.1 hM hj)]
    rcases hg with rfl | rfl
    · exact frame_by ae.pg (ae.KVT_ok ae.VT0) _ (run48ni ae.VT0 K c M n d) (ae.pI_ok hK hM h0 h1 h2) (by rfl) rfl
    · exact frame_by ae.pg (ae.KVT_ok ae.VT0) _ (run481i ae.VT0 K c M n d) (ae.pI_ok hK hM h0 h1 h2) (by rfl) rfl
  · exact ae.t13 K c g hg M n d hK hM h0 h1 h2
abbrev GT := List Int → List Int → Nat → Int
abbrev HT := List Int → List Int → sw.N5
def sl (b : Nat) (g : Option Nat) (n c : Nat) : Value := .slice (some ⟨b, 0, g⟩) n c
def wd (K : List Int) (o n : Nat) : List Int := (K.drop o).take n
def okA (K M : List Int) (n : Nat) : Prop := ae.OkK K ∧ M.length = n ∧ n ≤ 1000
def okH (K : List Int) (n : Nat) : Prop := n = K.length ∧ 0 < n ∧ n ≤ 1000
def okB (K : List Int) (n c : Nat) : Prop := hx.Byt K ∧ okH K n ∧ n ≤ c
def pd (k : Nat) (l : List (Option Ob)) : List (Option Ob) := l ++ List.replicate k none
def okW (s : St) (b o n : Nat) (k : Option Ob) : Prop := ∀ ob, k = some ob → ∃ K T, some ob = ae.oI ((K.drop o).take n) ∧ blockI s .u8 b = some (K, T)
theorem okW.row {s : St} {b o n : Nat} {K : List Int} {T : TypeId} (h : blockI s .u8 b = some (K, T)) : okW s b o n (ae.oI (wd K o n)) := fun ob e => by cases e; exact ⟨K, T, rfl, h⟩
theorem okW.none {s : St} {b o n : Nat} : okW s b o n none := fun ob e => by cases e
theorem fit2 {s : St} {b o z q n c m d : Nat} {g g2 : Option Nat} {i : Inst} {k w : Option Ob} (hw : i.win = [(b, o), (z, q)]) (hh : i.heap = [k, w]) (ha : i.args = [sl 0 g n c, sl 1 g2 m d]) (hk : okW s b o n k) (hz : okW s z q m w) :
    Fits s i [.slice (some ⟨b, o, g⟩) n c, .slice (some ⟨z, q, g2⟩) m d] := by
  have e0 : i.nu s.next 0 = b := by unfold Inst.nu; rw [hw]; rfl
  have e2 : i.nu s.next 1 = z := by unfold Inst.nu; rw [hw]; rfl
  have d0 : i.del 0 = o := by unfold Inst.del; rw [hw]; rfl
  have d2 : i.del 1 = q := by unfold Inst.del; rw [hw]; rfl
  refine ⟨?_, fun j pp ob h1 h2 => ?_⟩
  · rw [ha]
    show [Value.slice (some ⟨b, o, g⟩) n c, .slice (some ⟨z, q, g2⟩) m d] = [Value.slice (some ⟨i.nu s.next 0, addO (i.del 0) 0, g⟩) n c, .slice (some ⟨i.nu s.next 1, addO (i.del 1) 0, g2⟩) m d]
    rw [e0, e2, d0, d2, addO_eq, addO_eq]; rfl
  · rw [hw] at h1
    rw [hh] at h2
    rcases j with _ | _ | j
    · simp only [List.getElem?_cons_zero, Option.some.injEq] at h1 h2
      subst h1
      obtain ⟨K, T, e, hb⟩ := hk ob h2
      cases e; exact fit_bI hb
    · simp only [Nat.zero_add, List.getElem?_cons_succ, List.getElem?_cons_zero, Option.some.injEq] at h1 h2
      subst h1
      obtain ⟨M, T, e, hb⟩ := hz ob h2
      cases e; exact fit_bI hb
    · simp at h1
theorem fit1 {s : St} {b o n c : Nat} {g : Option Nat} {i : Inst} {k : Option Ob} (hw : i.win = [(b, o)]) (hh : i.heap = [k]) (ha : i.args = [sl 0 g n c, .slice none 0 0]) (hk : okW s b o n k) : Fits s i [.slice (some ⟨b, o, g⟩) n c, .slice none 0 0] := by
  have e0 : i.nu s.next 0 = b := by unfold Inst.nu; rw [hw]; rfl
  have d0 : i.del 0 = o := by unfold Inst.del; rw [hw]; rfl
  refine ⟨?_, fun j pp ob h1 h2 => ?_⟩
  · rw [ha]
    show [Value.slice (some ⟨b, o, g⟩) n c, .slice none 0 0] = [Value.slice (some ⟨i.nu s.next 0, addO (i.del 0) 0, g⟩) n c, .slice none 0 0]
    rw [e0, d0, addO_eq]; rfl
  · rw [hw] at h1
    rw [hh] at h2
    rcases j with _ | j
    · simp only [List.getElem?_cons_zero, Option.some.injEq] at h1 h2
      subst h1
      obtain ⟨K, T, e, hb⟩ := hk ob h2
      cases e; exact fit_bI hb
    · simp at h1
theorem fit_part {s : St} {b o p z q m d : Nat} {g : Option Nat} {i : Inst} {tp : TypeId} {k w : Option Ob} {n c : Nat} {g0 : Option Nat}
    (hp : s.heap.get p = some (.cells (.lit [.slice (some ⟨z, q, g⟩) m d]) tp)) (hw : i.win = [(b, o), (p, 0), (z, q)]) (hh : i.heap = [k, ae.pt g m d, w]) (ha : i.args = [sl 0 g0 n c, sl 1 none 1 1])
    (hk : okW s b o n k) (hz : okW s z q m w) :
    Fits s i [.slice (some ⟨b, o, g0⟩) n c, .slice (some ⟨p, 0, none⟩) 1 1] := by
  have e0 : i.nu s.next 0 = b := by unfold Inst.nu; rw [hw]; rfl
  have e1 : i.nu s.next 1 = p := by unfold Inst.nu; rw [hw]; rfl
  have e2 : i.nu s.next 2 = z := by unfold Inst.nu; rw [hw]; rfl
  have d0 : i.del 0 = o := by unfold Inst.del; rw [hw]; rfl
  have d1 : i.del 1 = 0 := by unfold Inst.del; rw [hw]; rfl
  have d2 : i.del 2 = q := by unfold Inst.del; rw [hw]; rfl
  refine ⟨?_, fun j pp ob h1 h2 => ?_⟩
  · rw [ha]
    show [Value.slice (some ⟨b, o, g0⟩) n c, .slice (some ⟨p, 0, none⟩) 1 1] = [Value.slice (some ⟨i.nu s.next 0, addO (i.del 0) 0, g0⟩) n c, .slice (some ⟨i.nu s.next 1, addO (i.del 1) 0, none⟩) 1 1]
    rw [e0, e1, d0, d1, addO_eq]; rfl
  · rw [hw] at h1
    rw [hh] at h2
    rcases j with _ | _ | _ | j
    · simp only [List.getElem?_cons_zero, Option.some.injEq] at h1 h2
      subst h1
      obtain ⟨K, T, e, hb⟩ := hk ob h2
      cases e; exact fit_bI hb
    · simp only [Nat.zero_add, List.getElem?_cons_succ, List.getElem?_cons_zero, Option.some.injEq] at h1
      subst h1
      simp only [ae.pt, Nat.zero_add, List.getElem?_cons_succ, List.getElem?_cons_zero, Option.some.injEq] at h2
      subst h2
      refine ⟨_, hp, fit_one (V := .slice (some ⟨z, q, g⟩) m d) rfl ?_ (by rw [hw]; rfl)⟩
      show Value.slice (some ⟨z, q, g⟩) m d = Value.slice (some ⟨i.nu s.next 2, addO (i.del 2) 0, g⟩) m d
      rw [e2, d2, addO_eq]; rfl
    · simp only [Nat.zero_add, Nat.reduceAdd, List.getElem?_cons_succ, List.getElem?_cons_zero, Option.some.injEq] at h1 h2
      subst h1
      obtain ⟨M, T, e, hb⟩ := hz ob h2
      cases e; exact fit_bI hb
    · simp at h1
def FQ (F0 : FuncId) (V : (Nat → Int) → Value) (k : Nat) (TG : GT) (f : FuncId) (args : List Value) (s : St) : Option Inst := if f == F0 then (match args with
  | [.slice (some ⟨b, o, g⟩) 16 c, .slice (some ⟨z, q, g2⟩) n d] => (match blockI s .u8 b with
    | some (K, _) => (match blockI s .u8 z with
      | some (M, _) => some ⟨[(b, o), (z, q)], 2, ae.h2 (wd K o 16) (wd M q n), [sl 0 g 16 c, sl 1 g2 n d], V (TG (wd K o 16) (wd M q n)), pd k (ae.h2 (wd K o 16) (wd M q n)), TG = ae.tagF ∧ okA (wd K o 16) (wd M q n) n ∧ 16 ≤ c ∧ n ≤ d⟩
      | none => if n = 0 then some ⟨[(b, o), (z, q)], 2, ae.h2z (wd K o 16), [sl 0 g 16 c, sl 1 g2 0 d], V (TG (wd K o 16) []), pd k (ae.h2z (wd K o 16)), TG = ae.tagF ∧ ae.OkK (wd K o 16) ∧ 16 ≤ c⟩ else none)
    | none => none)
  | [.slice (some ⟨b, o, g⟩) 16 c, .slice none 0 0] => (match blockI s .u8 b with
    | some (K, _) => some ⟨[(b, o)], 1, ae.h2n (wd K o 16), [sl 0 g 16 c, .slice none 0 0], V (TG (wd K o 16) []), pd k (ae.h2n (wd K o 16)), TG = ae.tagF ∧ ae.OkK (wd K o 16) ∧ 16 ≤ c⟩
    | none => none)
  | _ => none) else none
theorem FQ_ok {F0 : FuncId} {V : (Nat → Int) → Value} {k : Nat} {TG : GT}
    (hI : ∀ K M c n d, okA K M n → CallOk Tryz.prog F0 [ae.sl 0 0 none 16 c, ae.sl 1 0 none n d] (smSt 2 (ae.h2 K M) []) (V (ae.tagF K M)) (smSt 2 (pd k (ae.h2 K M)) []))
    (hZ : ∀ K c d, ae.OkK K → CallOk Tryz.prog F0 [ae.sl 0 0 none 16 c, ae.sl 1 0 none 0 d] (smSt 2 (ae.h2z K) []) (V (ae.tagF K [])) (smSt 2 (pd k (ae.h2z K)) []))
    (hN : ∀ K c, ae.OkK K → CallOk Tryz.prog F0 [ae.sl 0 0 none 16 c, .slice none 0 0] (smSt 1 (ae.h2n K) []) (V (ae.tagF K [])) (smSt 1 (pd k (ae.h2n K)) []))
    (f : FuncId) (args : List Value) (s : St) (i : Inst) (h : FQ F0 V k TG f args s = some i) : Fits s i args ∧ (i.ask → CallOk Tryz.prog f i.args i.s0 i.val i.s1) := by
  unfold FQ at h
  split at h
  · rename_i hf
    have hf' : f = F0 := by simpa using hf
    subst hf'
    split at h
    · rename_i b o g c z q g2 n d
      split at h
      · rename_i K tk hb
        split at h
        · rename_i M tm hz
          cases h
          refine ⟨fit2 rfl rfl rfl (okW.row hb) (okW.row hz), fun ha => ?_⟩
          obtain ⟨rfl, ha, hc, hd⟩ := ha
          exact CallOk.grows g [] [sl 1 g2 n d] (fun c' _ => CallOk.grows g2 [sl 0 none 16 c'] [] (fun d' _ => hI _ _ c' n d' ha) d hd) c hc
        · split at h
          · rename_i hn
            subst hn
            cases h
            refine ⟨fit2 rfl rfl rfl (okW.row hb) okW.none, fun ha => ?_⟩
            obtain ⟨rfl, ha, hc⟩ := ha
            exact CallOk.grows g [] [sl 1 g2 0 d] (fun c' _ => CallOk.grows g2 [sl 0 none 16 c'] [] (fun d' _ => hZ _ c' d' ha) d (Nat.zero_le _)) c hc
          · cases h
      · cases h
    · rename_i b o g c
      split at h
      · rename_i K tk hb
        cases h
        refine ⟨fit1 rfl rfl rfl (okW.row hb), fun ha => ?_⟩
        obtain ⟨rfl, ha, hc⟩ := ha
        exact CallOk.grows g [] [.slice none 0 0] (fun c' _ => hN _ c' ha) c hc
      · cases h
    · cases h
  · cases h
theorem q46 (TG : GT) : ∀ (f : FuncId) (args : List Value) (s : St) (i : Inst), FQ 46 ae.row16 148 TG f args s = some i → Fits s i args ∧ (i.ask → CallOk Tryz.prog f i.args i.s0 i.val i.s1) := FQ_ok (F0 := 46) (V := ae.row16) (k := 148) (TG := TG) (fun K M c n d h => ae.rtag_ok K M c n d h.1 h.2.1 (by have := h.2.2; omega)) (fun K c d h => ae.rtagz_ok K c d h) (fun K c h => ae.rtagn_ok K c h)
def FP (F0 : FuncId) (V : (Nat → Int) → Value) (k kz : Nat) (TG : GT) (f : FuncId) (args : List Value) (s : St) : Option Inst := if f == F0 then (match args with
  | [.slice (some ⟨b, o, g⟩) 16 c, .slice (some ⟨p, 0, none⟩) 1 1] => if ae.gOk g then (match blockI s .u8 b with
    | some (K, _) => (match s.heap.get p with
      | some (.cells (.lit [.slice (some ⟨z, q, gz⟩) n d]) _) => if ae.gOk gz then (match blockI s .u8 z with
        | some (M, _) => some ⟨[(b, o), (p, 0), (z, q)], 3, ae.hT (wd K o 16) gz n d (wd M q n), [sl 0 g 16 c, sl 1 none 1 1], .tuple #[V (TG (wd K o 16) (wd M q n)), .int .i64 0], pd k (ae.hT (wd K o 16) gz n d (wd M q n)), TG = ae.tagF ∧ okA (wd K o 16) (wd M q n) n ∧ 0 < n ∧ n ≤ d⟩
        | none => none) else none
      | _ => none)
    | none => none) else none
  | _ => none) else none
theorem FP_ok {F0 : FuncId} {V : (Nat → Int) → Value} {k kz : Nat} {TG : GT}
    (hI : ∀ K M c g gz n d, ae.gOk g = true → ae.gOk gz = true → okA K M n → 0 < n → n ≤ d → CallOk Tryz.prog F0 [ae.sl 0 0 g 16 c, ae.sl 1 0 none 1 1] (smSt 3 (ae.hT K gz n d M) []) (.tuple #[V (ae.tagF K M), .int .i64 0]) (smSt 3 (pd k (ae.hT K gz n d M)) []))
    (f : FuncId) (args : List Value) (s : St) (i : Inst) (h : FP F0 V k kz TG f args s = some i) : Fits s i args ∧ (i.ask → CallOk Tryz.prog f i.args i.s0 i.val i.s1) := by
  unfold FP at h
  split at h
  · rename_i hf
    have hf' : f = F0 := by simpa using hf
    subst hf'
    split at h
    · rename_i b o g c p
      split at h
      · rename_i hg
        split at h
        · rename_i K tk hb
          split at h
          · rename_i z q gz n d tp hp
            split at h
            · rename_i hgz
              split at h
              · rename_i M tm hz
                cases h
                refine ⟨fit_part hp rfl rfl rfl (okW.row hb) (okW.row hz), fun ha => ?_⟩
                obtain ⟨rfl, ha, h1, h2⟩ := ha
                exact hI _ _ c g gz n d hg hgz ha h1 h2
              · cases h
            · cases h
          · cases h
        · cases h
      · cases h
    · cases h
  · cases h
theorem q48 (TG : GT) : ∀ (f : FuncId) (args : List Value) (s : St) (i : Inst), FP 48 ae.row16 198 195 TG f args s = some i → Fits s i args ∧ (i.ask → CallOk Tryz.prog f i.args i.s0 i.val i.s1) := FP_ok (F0 := 48) (V := ae.row16) (k := 198) (kz := 195) (TG := TG)
  (fun K M c g gz n d hg hz h h1 h2 => t48i K c g (ae.gOk_iff hg) gz (ae.gOk_iff hz) M n d h.1 h.2.1 h1 (by have := h.2.2; omega) h2) 
def FG (TH : HT) (f : FuncId) (args : List Value) (s : St) : Option Inst := if f == 67 then (match args with
  | [.slice (some ⟨b, o, g⟩) n c, .slice (some ⟨p, 0, none⟩) 1 1] => (match blockI s .u8 b with
    | some (K, _) => (match s.heap.get p with
      | some (.cells (.lit [.slice (some ⟨z, q, some 1⟩) m d]) _) => (match blockI s .u8 z with
        | some (M, _) => some ⟨[(b, o), (p, 0), (z, q)], 3, [ae.oI (wd K o n), ae.pt (some 1) m d, ae.oI (wd M q m)], [sl 0 g n c, sl 1 none 1 1], .tuple #[hy.outV (TH (wd K o n) (wd M q m)), .int .i64 0], hd.h12ii (wd K o n) n c (wd M q m) m d, TH = hd.tgN ∧ okB (wd K o n) n c ∧ okB (wd M q m) m d⟩
        | none => none)
      | some (.cells (.lit [.slice (some ⟨z, q, none⟩) 0 d]) _) => some ⟨[(b, o), (p, 0), (z, q)], 3, [ae.oI (wd K o n), ae.pt none 0 d, none], [sl 0 g n c, sl 1 none 1 1], .tuple #[hy.outV (TH (wd K o n) []), .int .i64 0], hd.h12ie (wd K o n) n c d, TH = hd.tgN ∧ okB (wd K o n) n c⟩
      | _ => none)
    | none => none)
  | _ => none) else none
theorem FG_ok (TH : HT) (f : FuncId) (args : List Value) (s : St) (i : Inst) (h : FG TH f args s = some i) : Fits s i args ∧ (i.ask → CallOk Tryz.prog f i.args i.s0 i.val i.s1) := by
  unfold FG at h
  split at h
  · rename_i hf
    have hf' : f = 67 := by simpa using hf
    subst hf'
    split at h
    · rename_i b o g n c p
      split at h
      · rename_i K tk hb
        split at h
        · rename_i z q m d tp hp
          split at h
          · rename_i M tm hz
            cases h
            refine ⟨fit_part hp rfl rfl rfl (okW.row hb) (okW.row hz), fun ha => ?_⟩
            obtain ⟨rfl, ⟨a1, ⟨a2, a3, a4⟩, a5⟩, b1, ⟨b2, b3, b4⟩, b5⟩ := ha
            exact CallOk.grows g [] [sl 1 none 1 1] (fun c' hc => hd.t12ii (wd K o n) n c' (wd M q m) m d a1 a2 a3 hc a4 b1 b2 b3 b5 b4) c a5
          · cases h
        · rename_i z q d tp hp
          cases h
          refine ⟨fit_part hp rfl rfl rfl (okW.row hb) okW.none, fun ha => ?_⟩
          obtain ⟨rfl, a1, ⟨a2, a3, a4⟩, a5⟩ := ha
          exact CallOk.grows g [] [sl 1 none 1 1] (fun c' hc => hd.t12ie (wd K o n) n c' d a1 a2 a3 hc a4) c a5
        · cases h
      · cases h
    · cases h
  · cases h
def FH (TH : HT) (f : FuncId) (args : List Value) (s : St) : Option Inst := if f == 44 then (match args with
  | [.slice (some ⟨b, o, g⟩) n c, .slice (some ⟨z, q, g2⟩) m d] => (match blockI s .u8 b with
    | some (K, _) => (match blockI s .u8 z with
      | some (M, _) => some ⟨[(b, o), (z, q)], 2, [ae.oI (wd K o n), ae.oI (wd M q m)], [sl 0 g n c, sl 1 g2 m d], hy.outV (TH (wd K o n) (wd M q m)), hd.h14ii (wd K o n) n c (wd M q m) m d, TH = hd.tgN ∧ (okH (wd K o n) n ∧ n ≤ c) ∧ okH (wd M q m) m ∧ m ≤ d⟩
      | none => if m = 0 then some ⟨[(b, o), (z, q)], 2, [ae.oI (wd K o n), none], [sl 0 g n c, sl 1 g2 0 d], hy.outV (TH (wd K o n) []), hd.h14iz (wd K o n) n c d, TH = hd.tgN ∧ (okH (wd K o n) n ∧ n ≤ c)⟩ else none)
    | none => none)
  | [.slice (some ⟨b, o, g⟩) n c, .slice none 0 0] => (match blockI s .u8 b with
    | some (K, _) => some ⟨[(b, o)], 1, [ae.oI (wd K o n)], [sl 0 g n c, .slice none 0 0], hy.outV (TH (wd K o n) []), hd.h14in (wd K o n) n c, TH = hd.tgN ∧ (okH (wd K o n) n ∧ n ≤ c)⟩
    | none => none)
  | _ => none) else none
theorem FH_ok (TH : HT) (f : FuncId) (args : List Value) (s : St) (i : Inst) (h : FH TH f args s = some i) : Fits s i args ∧ (i.ask → CallOk Tryz.prog f i.args i.s0 i.val i.s1) := by
  unfold FH at h
  split at h
  · rename_i hf
    have hf' : f = 44 := by simpa using hf
    subst hf'
    split at h
    · rename_i b o g n c z q g2 m d
      split at h
      · rename_i K tk hb
        split at h
        · rename_i M tm hz
          cases h
          refine ⟨fit2 rfl rfl rfl (okW.row hb) (okW.row hz), fun ha => ?_⟩
          obtain ⟨rfl, ⟨⟨a2, a3, a4⟩, a5⟩, ⟨b2, b3, b4⟩, b5⟩ := ha
          exact CallOk.grows g [] [sl 1 g2 m d] (fun c' _ => CallOk.grows g2 [sl 0 none n c'] [] (fun d' _ => hd.t14ii _ n c' _ m d' a2 a3 a4 b2 b3 b4) d b5) c a5
        · split at h
          · rename_i hm
            subst hm
            cases h
            refine ⟨fit2 rfl rfl rfl (okW.row hb) okW.none, fun ha => ?_⟩
            obtain ⟨rfl, ⟨a2, a3, a4⟩, a5⟩ := ha
            exact CallOk.grows g [] [sl 1 g2 0 d] (fun c' _ => CallOk.grows g2 [sl 0 none n c'] [] (fun d' _ => hd.t14iz _ n c' d' a2 a3 a4) d (Nat.zero_le _)) c a5
          · cases h
      · cases h
    · rename_i b o g n c
      split at h
      · rename_i K tk hb
        cases h
        refine ⟨fit1 rfl rfl rfl (okW.row hb), fun ha => ?_⟩
        obtain ⟨rfl, ⟨a2, a3, a4⟩, a5⟩ := ha
        exact CallOk.grows g [] [.slice none 0 0] (fun c' _ => hd.t14in _ n c' a2 a3 a4) c a5
      · cases h
    · cases h
  · cases h
def FW (f0 : FuncId) (f : FuncId) (args : List Value) (_ : St) : Option Inst := if f == f0 then (match args with
  | [] => some (flI [] (.bool true) True)
  | _ => none) else none
theorem FW_ok {f0 : FuncId} (known : ∀ W : World, Calls Tryz.prog f0 #[] W fun e w' => e = .returned (.bool true) ∧ Go.RowKit.Below W.heap.size W w') (f : FuncId) (args : List Value) (s : St) (i : Inst) (h : FW f0 f args s = some i) : Fits s i args ∧ (i.ask → CallOk Tryz.prog f i.args i.s0 i.val i.s1) := by
  unfold FW at h
  split at h
  · rename_i hf
    have hf' : f = f0 := by simpa using hf
    subst hf'
    split at h
    · cases h
      exact flI_ok rfl rfl fun _ W => known W
    · cases h
  · cases h
def KM (TH : HT) (TG : GT) : Given := { Given.frames (Given.frames (Given.frames (Given.frames Given.nothing (FQ 46 ae.row16 148 TG)) (FP 48 ae.row16 198 195 TG)) (FG TH)) (FH TH) with fits := true }
theorem KM_ok (TH : HT) (TG : GT) : GivenOk Tryz.prog (KM TH TG) := frames_fits (((((GivenOk.nothing _).frames (q46 TG)).frames (q48 TG)).frames (FG_ok TH)).frames (FH_ok TH)) true
def KC (TG : GT) : Given := { Given.frames (Given.frames Given.nothing (FQ 46 ae.row16 148 TG)) (FP 48 ae.row16 198 195 TG) with fits := true }
theorem KC_ok (TG : GT) : GivenOk Tryz.prog (KC TG) := frames_fits (((GivenOk.nothing _).frames (q46 TG)).frames (q48 TG)) true
end
end km
end Go.Proofs.YtmgelikgcfjhhaaGreat
namespace Go.Proofs.YtmgelikgcfjhhaaGreat
open Go.ChangeShapes Go.WideShapes Go.ChangeAt Go.RowKit Go.Cln
namespace km
set_option linter.unusedVariables false
noncomputable section
theorem keyIn {K : List Int} (h : ∀ x ∈ K, 0 ≤ x ∧ x < 256) : ae.B16 (ae.keyOf K) := fun j _ => ae.bx_in h j
theorem tkM {M : List Int} {m : Nat} (h : M.length = m) : List.take m M = M := take_all h
theorem tkE {M X : List Int} {m : Nat} (h : M.length = m) : List.take m (M ++ X) = M := take_end h
theorem wdM {M : List Int} {m : Nat} (h : M.length = m) : wd M 0 m = M := by unfold wd; rw [List.drop_zero, take_all h]
theorem gtE {M : List Int} {m : Nat} (h : M.length = m) : (M ++ [77]).getD m 0 = (77 : Int) := getD_end h
theorem nB {x y : List Int} (h : x = y) : (!((bytesI x).toList == (bytesI y).toList)) = false := by
  have := beqB_of h
  unfold beqB at this
  rw [this]; rfl
theorem yB {x y : List Int} (h : x = y) : ((bytesI x).toList == (bytesI y).toList) = true := beqB_of h
theorem wrI {m : Nat} (h : m ≤ 1000) : IntKind.i64.wrap ((m : Int) + 1) = (m : Int) + 1 := by rw [IntKind.wrap_i64]; omega
def bs (f : Nat → Int) : List Int := (List.range 16).map f
def Zr : List Int := List.replicate 16 0
def In (a b : Int) : List Int := [1, 84, 67, 80, 45, 65, 79, 0, 0, 0, a, 0, 0, 0, b, 0, 0, 0, 0, 0, 0, 0, 0, 0, 0, 0, 0, 0, 128]
def aS (TG : GT) (K M : List Int) (n d : Nat) : Prop := TG = ae.tagF ∧ okA (wd K 0 16) (wd M 0 n) n ∧ 0 < n ∧ n ≤ d
def kS (TG : GT) : List Int := bs (TG (wd Zr 0 16) (wd [107] 0 1))
def p6 (TG : GT) : Prop := (((((((True ∧ aS TG Zr [107] 1 1) ∧ aS TG (kS TG) (In 1 0) 29 29) ∧ aS TG Zr [107] 1 1) ∧ aS TG (kS TG) (In 0 1) 29 29) ∧ aS TG Zr [107] 1 1) ∧ aS TG (kS TG) (In 1 0) 29 29) ∧ aS TG Zr [107] 1 1) ∧ aS TG (kS TG) (In 0 1) 29 29
theorem run6 (TG : GT) : ((mk Tryz.prog (KC TG) 300).call 21 [] (smSt 0 [] [])).map (fun r => (r.1, r.2.obl)) = some (.bool true, p6 TG) := by kernel_rfl
theorem bs_len (f : Nat → Int) : (bs f).length = 16 := by simp [bs]
theorem bs_ok {f : Nat → Int} (h : ae.B16 f) : ae.OkK (bs f) := by
  refine ⟨bs_len f, keyIn fun x hx => ?_⟩
  unfold bs at hx
  obtain ⟨j, hj, rfl⟩ := List.mem_map.1 hx
  exact h j (by simpa using hj)
theorem tag_in (K M : List Int) : ae.B16 (ae.tagF K M) := ae.mkF_in _ _ _
theorem Zr_ok : ae.OkK Zr := ⟨by simp [Zr], keyIn fun x hx => by have := List.eq_of_mem_replicate hx; omega⟩
theorem p6_ok : p6 ae.tagF := by
  have a : aS ae.tagF Zr [107] 1 1 := ⟨rfl, ⟨by rw [wdM (by simp [Zr])]; exact Zr_ok, rfl, by omega⟩, by omega, by omega⟩
  have k : ae.OkK (wd (kS ae.tagF) 0 16) := by unfold kS; rw [wdM (bs_len _)]; exact bs_ok (tag_in _ _)
  have b : ∀ x y, aS ae.tagF (kS ae.tagF) (In x y) 29 29 := fun x y => ⟨rfl, ⟨k, rfl, by omega⟩, by omega, by omega⟩
  exact ⟨⟨⟨⟨⟨⟨⟨⟨trivial, a⟩, b 1 0⟩, a⟩, b 0 1⟩, a⟩, b 1 0⟩, a⟩, b 0 1⟩
theorem hs0 (W : World) (orc : List (Option Bool)) (ρ : Nat → PB) : Hs (smSt 0 [] orc) ρ W := start_hs (l := []) (orc := orc) (by simp) ok0
theorem known6 (W : World) : Calls Tryz.prog 21 #[] W fun e w' => e = .returned (.bool true) ∧ Below W.heap.size W w' :=
  ranG ae.pg (KC_ok ae.tagF) (ρ := fun _ => ⟨0, 0, 0⟩) (run6 ae.tagF) p6_ok rfl (hs0 W _ _) VL.nil
end
end km
end Go.Proofs.YtmgelikgcfjhhaaGreat
namespace Go.Proofs.YtmgelikgcfjhhaaGreat
open Go.ChangeShapes Go.WideShapes Go.ChangeAt Go.RowKit Go.Cln
namespace km
set_option linter.unusedVariables false
noncomputable section
end
end km
end Go.Proofs.YtmgelikgcfjhhaaGreat
namespace Go.Proofs.YtmgelikgcfjhhaaGreat
open Go.ChangeShapes Go.WideShapes Go.ChangeAt Go.RowKit Go.Cln
namespace km
set_option linter.unusedVariables false
noncomputable section
def no (k : Nat) : List (Option Bool) := List.replicate k none
def KKy (TH : HT) (TG : GT) : Given := { Given.frames (Given.frames (Given.frames (Given.frames (Given.frames Given.nothing (FW 21)) (FQ 46 ae.row16 148 TG)) (FP 48 ae.row16 198 195 TG)) (FG TH)) (FH TH) with fits := true }
theorem KKy_ok (TH : HT) (TG : GT) : GivenOk Tryz.prog (KKy TH TG) := frames_fits ((((((GivenOk.nothing _).frames (FW_ok known6)).frames (q46 TG)).frames (q48 TG)).frames (FG_ok TH)).frames (FH_ok TH)) true
def KKe : Given := { Given.frames Given.nothing (FW 21) with fits := true }
theorem KKe_ok : GivenOk Tryz.prog KKe := frames_fits ((GivenOk.nothing _).frames (FW_ok known6)) true
def rG (G : Given) (a x y : Value) (h : List (Option Ob)) (o : List (Option Bool)) : Option (Value × St) := (mk Tryz.prog G 300).call 6 [a, x, y] (smSt h.length h o)
end
end km
end Go.Proofs.YtmgelikgcfjhhaaGreat
