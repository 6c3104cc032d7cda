/- Read off the code by the clean reading. -/
import Derived.Test.YtphiebmgeiekaaaClnQc
import Derived.ChangeOld
import Derived.Lib.SmallJoins
set_option linter.unusedVariables false
set_option linter.unusedSimpArgs false
set_option linter.deprecated false
set_option maxRecDepth 100000
namespace Go.Cln
set_option linter.unusedVariables false
noncomputable section
def OkAt (w : World) (p : PB) : Option Ob → Prop
  | some (.cells (.ints k L) _) => ∃ (pc : Array Value) (ty : TypeId) (fr : Nat × Nat), w.heap[p.blk]? = some (.cells pc ty fr) ∧ pc.size = p.len ∧ ∀ (i : Nat) (v : Value), (L.map (Value.int k))[i]? = some v → pc[p.off + i]? = some v
  | some _ => False
  | none => True
theorem start_hs {w : World} {l : List (Option Ob)} {ρ : Nat → PB} {orc : List (Option Bool)} (hl : l.length ≤ 1000000) (h : ∀ (j : Nat) (o : Option Ob), l[j]? = some o → OkAt w (ρ j) o) : Hs (smSt l.length l orc) ρ w := by
  have dom : ∀ {b : Nat} {o : Ob}, (smSt l.length l orc).heap.get b = some o → b < l.length ∧ l[b]? = some (some o) := fun {b o} hb => by
    have hb : (Tr.ofL l).get b = some o := hb
    rw [ofL_get hl] at hb
    unfold hget at hb
    split at hb
    · rename_i x hx
      refine ⟨?_, by rw [hx, hb]⟩
      rcases Nat.lt_or_ge b l.length with h1 | h1
      · exact h1
      · rw [List.getElem?_eq_none h1] at hx; cases hx
    · cases hb
  refine ⟨⟨fun b o hb => ?_, fun b b' o o' hb hb' hk e => ?_, fun b b' o o' B hb hB hb' hk => absurd (show l.length ≤ b' from hk) (by have := (dom hb').1; omega)⟩, fun _ _ => rfl, ⟨Nat.le_refl _, fun x hx => by simp [smSt] at hx⟩⟩
  · obtain ⟨h1, h2⟩ := dom hb
    have := h b (some o) h2
    refine ⟨⟨h1, rfl⟩, ?_⟩
    cases o with
    | cells c t =>
      cases c with
      | ints k L =>
        obtain ⟨pc, ty, fr, g1, g2, g3⟩ := this
        refine ⟨pc, ty, fr, g1, g2, fun m => absurd (show l.length ≤ b from m) (by omega), fun i v hv => ⟨v, g3 i v ?_, ?_⟩⟩
        · simp only [Cells.get] at hv
          rw [List.getElem?_map]; exact hv
        · simp only [Cells.get, Option.map_eq_some_iff] at hv
          obtain ⟨a, _, rfl⟩ := hv
          exact .same rfl
      | lit l => exact this.elim
      | fam n f => exact this.elim
      | rows n w g => exact this.elim
    | loop l => exact this.elim
    | marks => exact this.elim
    | map es k => exact this.elim
    | fam F => exact this.elim
  · have h1 := (dom hb).1
    have h2 := (dom hb').1
    rcases hk with hk | hk
    · have : l.length ≤ b := hk; omega
    · have : l.length ≤ b' := hk; omega
/-- where a row that came in lies -/
theorem place {w : World} {b o : Nat} {L : List Int} (h : HasCells w b o (L.map (Value.int .u8))) : ∃ len, OkAt w ⟨b, o, len⟩ (some (.cells (.ints .u8 L) 5)) := by
  obtain ⟨pc, t, fr, h1, h2⟩ := h
  exact ⟨pc.size, pc, t, fr, h1, rfl, h2⟩
theorem vr_at {l : List (Option Ob)} {orc : List (Option Bool)} {ρ : Nat → PB} {k b o len n c : Nat} (hk : k < l.length) (hr : ρ k = ⟨b, o, len⟩) (hn : n ≤ c) : VR (Dm (smSt l.length l orc)) ρ (.slice (some ⟨k, 0, none⟩) n c) (.slice (some ⟨b, o, none⟩) n c) := by
  refine .slice ⟨hk, rfl⟩ hn ⟨.inr ?_, fun _ => rfl, fun z hz => by cases hz⟩
  rw [hr]; rfl
def pl (p q : PB) (j : Nat) : PB := if j = 0 then p else q
theorem ok0 {w : World} {ρ : Nat → PB} (j : Nat) (o : Option Ob) (h : ([] : List (Option Ob))[j]? = some o) : OkAt w (ρ j) o := by simp at h
theorem ok1 {w : World} {p q : PB} {x : Option Ob} (hx : OkAt w p x) (j : Nat) (o : Option Ob) (h : [x][j]? = some o) : OkAt w (pl p q j) o := by
  rcases j with _ | j
  · simp only [List.getElem?_cons_zero, Option.some.injEq] at h; subst h; exact hx
  · simp at h
theorem ok2 {w : World} {p q : PB} {x y : Option Ob} (hx : OkAt w p x) (hy : OkAt w q y) (j : Nat) (o : Option Ob) (h : [x, y][j]? = some o) : OkAt w (pl p q j) o := by
  rcases j with _ | _ | j
  · simp only [List.getElem?_cons_zero, Option.some.injEq] at h; subst h; exact hx
  · simp only [Nat.zero_add, List.getElem?_cons_succ, List.getElem?_cons_zero, Option.some.injEq] at h; subst h; exact hy
  · simp at h
/-- what a slice of bytes that came in is: nothing, or cells: none, so many, or more -/
theorem cameIn (N : Nat) {W : World} {a : Option Addr} {n c : Nat} (s0 : (a = none ∧ n = 0 ∧ c = 0) ∨ ∃ b o, a = some ⟨b, o, none⟩ ∧ n ≤ c ∧ (c : Int) ≤ 9223372036854775807)
    (z0 : n = 0 ∨ ∃ (b o : Nat) (L : List Int), a = some ⟨b, o, none⟩ ∧ L.length = n ∧ (∀ x ∈ L, (Lit.int .u8 x).wf = true) ∧ HasCells W b o (L.map (Value.int .u8))) :
    (a = none ∧ n = 0 ∧ c = 0) ∨ ∃ b o, a = some ⟨b, o, none⟩ ∧ n ≤ c ∧ (c : Int) ≤ 9223372036854775807 ∧ (n = 0 ∨ (0 < n ∧ n ≤ N ∧ ∃ (L : List Int) (len : Nat), L.length = n ∧ (∀ x ∈ L, 0 ≤ x ∧ x < 256) ∧ OkAt W ⟨b, o, len⟩ (some (.cells (.ints .u8 L) 5))) ∨ N < n) := by
  rcases s0 with h | ⟨b, o, rfl, h1, hc⟩
  · exact .inl h
  · refine .inr ⟨b, o, rfl, h1, hc, ?_⟩
    by_cases h2 : n = 0
    · exact .inl h2
    · by_cases h3 : N < n
      · exact .inr (.inr h3)
      · rcases z0 with h | ⟨b', o', L, e, q1, q2, q3⟩
        · omega
        · cases e
          obtain ⟨len, q4⟩ := place q3
          exact .inr (.inl ⟨by omega, by omega, L, len, q1, fun x hx => byte_in (q2 x hx), q4⟩)
end
end Go.Cln
namespace Go.Cln
set_option linter.unusedVariables false
theorem mvB_flat0 (ν δ : Nat → Nat) {v : Value} (h : flat0 v = true) : mvA (mvL ν δ) ν δ v = v := by
  cases v with
  | pointer a => cases a <;> first | rfl | (simp [flat0] at h)
  | slice a n c => cases a <;> first | rfl | (simp [flat0] at h)
  | map a => cases a <;> first | rfl | (simp [flat0] at h)
  | func f x y =>
    cases f with
    | func f =>
      simp only [flat0, Bool.and_eq_true, List.isEmpty_iff] at h
      obtain ⟨x⟩ := x; obtain ⟨y⟩ := y
      simp only at h
      obtain ⟨rfl, rfl⟩ := h; rfl
    | _ => simp [flat0] at h
  | agg => simp [flat0] at h
  | tuple => simp [flat0] at h
  | _ => rfl
theorem mv_flat1 (ν δ : Nat → Nat) {v : Value} (h : flat1 v = true) : mv ν δ v = v := by
  cases v with
  | agg x =>
    have h : x.toList.all flat0 = true := h
    show Value.agg (x.toList.map (mvA (mvL ν δ) ν δ)).toArray = .agg x
    have : x.toList.map (mvA (mvL ν δ) ν δ) = x.toList := by
      conv => rhs; rw [← List.map_id x.toList]
      exact List.map_congr_left fun v hv => mvB_flat0 ν δ (List.all_eq_true.1 h v hv)
    rw [this]
  | _ => exact mv_flat0 ν δ h
theorem mv_flats (ν δ : Nat → Nat) {l : List Value} (h : l.all flat1 = true) : l.map (mv ν δ) = l := by
  conv => rhs; rw [← List.map_id l]
  exact List.map_congr_left fun v hv => mv_flat1 ν δ (List.all_eq_true.1 h v hv)
theorem flat_of1 {v : Value} (h : flat1 v = true) : flat v = true := by
  cases v with
  | tuple x => simp [flat1, flat0] at h
  | _ => exact h
theorem flats_of1 {l : List Value} (h : l.all flat1 = true) : l.all flat = true :=
  List.all_eq_true.2 fun v hv => flat_of1 (List.all_eq_true.1 h v hv)
/-- a call that has no memory -/
def flI (args : List Value) (v : Value) (p : Prop) : Inst := ⟨[], 0, [], args, v, [], p⟩
theorem flI_ok {P : Program} {f : FuncId} {args : List Value} {s : St} {v : Value} {p : Prop} (ha : args.all flat1 = true) (hv : flat v = true) (h : p → ∀ W, Calls P f args.toArray W fun e w' => e = .returned v ∧ Go.RowKit.Below W.heap.size W w') :
    Fits s (flI args v p) args ∧ ((flI args v p).ask → CallOk P f (flI args v p).args (flI args v p).s0 (flI args v p).val (flI args v p).s1) :=
  ⟨⟨(mv_flats _ _ ha).symm, fun j pp ob h1 h2 => by simp [flI] at h1⟩, fun hp => CallOk.of_below (h hp) (flats_of1 ha) hv _⟩
/-- a receiver that is a row of whole numbers, only looked at; the rest is plain -/
theorem fit_whole {s : St} {b : Nat} {k : IntKind} {L : List Int} {tb t2 : TypeId} {i : Inst} {vs : List Value} (hb : s.heap.get b = some (.cells (.ints k L) tb)) (hw : i.win = [(b, 0)]) (hh : i.heap = [some (.cells (.ints k L) t2)]) (ha : i.args = P0 0 0 :: vs) (hf : vs.all flat1 = true) :
    Fits s i (P0 b 0 :: vs) := by
  refine ⟨?_, fun j pp ob h1 h2 => ?_⟩
  · rw [ha]
    have e1 : i.nu s.next 0 = b := by unfold Inst.nu; rw [hw]; rfl
    have e2 : i.del 0 = 0 := by unfold Inst.del; rw [hw]; rfl
    show P0 b 0 :: vs = Value.pointer (some ⟨i.nu s.next 0, addO (i.del 0) 0, none⟩) :: vs.map (mv (i.nu s.next) i.del)
    rw [e1, e2, addO_eq, mv_flats _ _ hf]; rfl
  · rw [hw] at h1
    rw [hh] at h2
    rcases j with _ | j
    · simp only [List.getElem?_cons_zero, Option.some.injEq] at h1 h2
      subst h1; subst h2
      refine ⟨_, hb, fun x v hv => ?_⟩
      refine ⟨v, by rw [Nat.zero_add]; exact hv, ?_, ?_⟩
      · simp only [Cells.get, Option.map_eq_some_iff] at hv
        obtain ⟨a, _, rfl⟩ := hv; rfl
      · simp only [Cells.get, Option.map_eq_some_iff] at hv
        obtain ⟨a, _, rfl⟩ := hv; rfl
    · simp at h1
/-- cells that are written out: those of the small picture stand from d on -/
theorem fit_lit {L l0 : List Value} {d m : Nat} {ν δ : Nat → Nat} (h : ∀ x v, l0[x]? = some v → L[d + x]? = some v) (hf : l0.all flat1 = true) :
    ∀ (x : Nat) (v : Value), (Cells.lit l0).get x = some v → ∃ V, (Cells.lit L).get (d + x) = some V ∧ V = mv ν δ v ∧ (flat0 v = true → okN m v = true) := fun x v hv => by
  have hf := List.all_eq_true.1 hf v (List.mem_of_getElem? hv)
  exact ⟨v, h x v hv, (mv_flat1 ν δ hf).symm, fun g => okN_flat0 m g⟩
end Go.Cln
namespace Go.Cln
set_option linter.unusedVariables false
/-- what is told of a slice whatever its room is told of one that grew -/
theorem CallOk.grow {P : Program} {f : FuncId} {b o n z : Nat} {s s1 : St} {v : Value} (pre post : List Value)
    (h : ∀ c, n ≤ c → CallOk P f (pre ++ .slice (some ⟨b, o, none⟩) n c :: post) s v s1) (c : Nat) (hz : isAbs (some z) = false := by first | rfl | assumption) : CallOk P f (pre ++ .slice (some ⟨b, o, some z⟩) n c :: post) s v s1 := by
  intro ho m ρ w args' hs ha
  have hlen : (pre ++ Value.slice (some ⟨b, o, some z⟩) n c :: post).length = args'.length := ha.1
  have hj : pre.length < args'.length := by rw [← hlen]; simp
  have hv := ha.2 pre.length (.slice (some ⟨b, o, some z⟩) n c) args'[pre.length] (by simp) (by simp [hj])
  obtain ⟨a', c', ew, hN, hle, hok⟩ : ∃ a' c', args'[pre.length] = .slice (some a') n c' ∧ Dm s b ∧ n ≤ c' ∧ (c' = 0 ∨ a' = ⟨(ρ b).blk, (ρ b).off + o, none⟩) := by
    generalize args'[pre.length] = w' at hv
    cases hv with
    | same hf => simp [flat0] at hf
    | slice hN hle hok => exact ⟨_, _, rfl, hN, Nat.le_trans hle (hok.2.2 z rfl).1, hok.1⟩
    | abs _ hg _ => rw [hz] at hg; cases hg
  refine h c' hle ho m ρ w args' hs ⟨by rw [← hlen]; simp, fun i x y hx hy => ?_⟩
  by_cases hi : i = pre.length
  · subst hi
    simp at hx
    subst hx
    have : y = args'[pre.length] := by
      have e : args'[pre.length]? = some args'[pre.length] := by simp [hj]
      rw [e] at hy; exact (Option.some.inj hy).symm
    rw [this, ew]
    exact .slice hN hle ⟨hok, fun _ => rfl, fun z hz => by cases hz⟩
  · refine ha.2 i x y ?_ hy
    rw [List.getElem?_append] at hx ⊢
    split at hx
    · rename_i h; rw [if_pos h]; exact hx
    · rename_i h
      rw [if_neg h]
      obtain ⟨k, hk⟩ : ∃ k, i - pre.length = k + 1 := ⟨i - pre.length - 1, by omega⟩
      rw [hk] at hx ⊢
      simpa using hx
theorem CallOk.grows {P : Program} {f : FuncId} {b o n : Nat} {s s1 : St} {v : Value} (g : Option Nat) (pre post : List Value)
    (h : ∀ c, n ≤ c → CallOk P f (pre ++ .slice (some ⟨b, o, none⟩) n c :: post) s v s1) (c : Nat) (hc : n ≤ c) (hg : isAbs g = false := by first | rfl | assumption) : CallOk P f (pre ++ .slice (some ⟨b, o, g⟩) n c :: post) s v s1 := by
  cases g with
  | none => exact h c hc
  | some z => exact CallOk.grow pre post h c hg
/-- a block of numbers, written out or not -/
theorem blockI_get {s : St} {k : IntKind} {b : Nat} {l : List Int} {t : TypeId} (h : blockI s k b = some (l, t)) : ∃ C T, s.heap.get b = some (.cells C T) ∧ ∀ i, (l[i]?).map (Value.int k) = C.get i := by
  unfold blockI at h
  split at h
  · rename_i k' l' t' hb
    split at h
    · rename_i hk
      subst hk; cases h
      exact ⟨_, _, hb, fun i => rfl⟩
    · cases h
  · rename_i vs t' hb
    cases hr : intsOf k vs with
    | none => rw [hr] at h; cases h
    | some r =>
      rw [hr] at h; cases h
      exact ⟨_, _, hb, fun i => intsOf_get hr i⟩
  · cases h
theorem fit_bI {s : St} {k : IntKind} {b d n m : Nat} {l : List Int} {t t2 : TypeId} {ν δ : Nat → Nat} (h : blockI s k b = some (l, t)) :
    ∃ O, s.heap.get b = some O ∧ match (Ob.cells (.ints k ((l.drop d).take n)) t2), O with
      | .cells c _, .cells C _ => ∀ (x : Nat) (v : Value), c.get x = some v → ∃ V, C.get (d + x) = some V ∧ V = mv ν δ v ∧ okN m v = true
      | _, _ => False := by
  obtain ⟨C, T, hb, hg⟩ := blockI_get h
  refine ⟨_, hb, fun x v hv => ?_⟩
  obtain ⟨V, e1, e2⟩ := fit_ints (k := k) (l := l) (d := d) (n := n) (m := m) (ν := ν) (δ := δ) x v hv
  exact ⟨V, by rw [← hg]; exact e1, e2⟩
end Go.Cln
namespace Go.Cln
set_option linter.unusedVariables false
theorem CallOk.last {P : Program} {f : FuncId} {args : List Value} {ro : Nat} {l0 l : List (Option Ob)} {L : List Int} {ty : TypeId} {v : Value} (hl : l.length + 1 ≤ 1000000) (hro : ro ≤ l.length) (h0 : l0.length ≤ 1000000) (hr0 : ro ≤ l0.length) (hs : l.take ro = l0.take ro)
    (h : CallOk P f args (smSt ro l0 []) v (smSt ro (l ++ [some (.cells (.lit (L.map (Value.int .u8))) ty)]) [])) : CallOk P f args (smSt ro l0 []) v (smSt ro (l ++ [some (.cells (.ints .u8 L) ty)]) []) := by
  refine h.sub trivial ⟨by simp [smSt], rfl, rfl, rfl, fun b o' hb => ?_⟩ fun b hb => ?_
  · have hb' : (Tr.ofL (l ++ [some (.cells (.ints .u8 L) ty)])).get b = some o' := hb
    show ∃ o, (Tr.ofL (l ++ [some (.cells (.lit (L.map (Value.int .u8))) ty)])).get b = some o ∧ ObSub o o'
    rw [ofL_get (by simpa using hl)] at hb' ⊢
    unfold hget at hb' ⊢
    rcases Nat.lt_or_ge b l.length with h1 | h1
    · rw [List.getElem?_append_left h1] at hb' ⊢
      exact ⟨o', hb', .refl o'⟩
    · rw [List.getElem?_append_right h1] at hb' ⊢
      cases hk : b - l.length with
      | zero =>
        rw [hk] at hb'
        simp only [List.getElem?_cons_zero, Option.some.injEq] at hb' ⊢
        subst hb'
        refine ⟨_, rfl, .cells fun i v hv => ?_⟩
        simp only [Cells.get] at hv ⊢
        rw [List.getElem?_map]; exact hv
      | succ k => rw [hk] at hb'; simp at hb'
  · have hlt : b < ro := by
      rcases Nat.lt_or_ge b ro with h1 | h1
      · exact h1
      · rw [smMay.2 h1] at hb; cases hb
    show (Tr.ofL (l ++ [some (.cells (.ints .u8 L) ty)])).get b = (Tr.ofL l0).get b
    rw [ofL_get (by simpa using hl), ofL_get h0]
    unfold hget
    rw [List.getElem?_append_left (by omega)]
    have e1 : l[b]? = (l.take ro)[b]? := (List.getElem?_take_of_lt hlt).symm
    have e2 : l0[b]? = (l0.take ro)[b]? := (List.getElem?_take_of_lt hlt).symm
    rw [e1, e2, hs]
end Go.Cln
namespace Go.Cln
set_option linter.unusedVariables false
noncomputable section
def argOk : Value → Bool
  | .pointer (some ⟨b, _, none⟩) => decide (b ≠ 0)
  | v => flat v
theorem argOk_vr {N N' : Nat → Prop} {ρ ρ' : Nat → PB} {v w : Value} (h : VR N ρ v w) (ho : argOk v = true) (hr : ∀ b, b ≠ 0 → N b → N' b ∧ ρ' b = ρ b) : VR N' ρ' v w := by
  by_cases hf : flat v = true
  · rw [h.eq_flat hf]; exact .of_flat hf
  cases h with
  | ptr hN =>
    rename_i b o
    have hb : b ≠ 0 := by simpa [argOk] using ho
    obtain ⟨k1, k2⟩ := hr b hb hN
    rw [← k2]; exact .ptr k1
  | same h => exact .same h
  | _ => exact absurd ho hf
def restOk : Option Ob → Bool
  | none => true
  | some (.cells (.lit l) _) => l.all flat0
  | some (.cells (.ints _ _) _) => true
  | _ => false
theorem restOk_obR {N N' : Nat → Prop} {ρ ρ' : Nat → PB} {may : Prop} {p : PB} {w : World} {o : Ob} (h : ObR N ρ may p w o) (ho : restOk (some o) = true) : ObR N' ρ' may p w o := by
  cases o with
  | cells c t =>
    cases c with
    | lit l =>
      obtain ⟨pc, ty, fr, h1, h2, h3, h4⟩ := h
      refine ⟨pc, ty, fr, h1, h2, h3, fun i v hv => ?_⟩
      obtain ⟨v', k1, k2⟩ := h4 i v hv
      have hf : flat0 v = true := List.all_eq_true.1 ho v (List.mem_of_getElem? hv)
      exact ⟨v', k1, by rw [k2.eq_flat0 hf]; exact .same hf⟩
    | ints k l =>
      obtain ⟨pc, ty, fr, h1, h2, h3, h4⟩ := h
      refine ⟨pc, ty, fr, h1, h2, h3, fun i v hv => ?_⟩
      obtain ⟨v', k1, k2⟩ := h4 i v hv
      simp only [Cells.get, Option.map_eq_some_iff] at hv
      obtain ⟨n, _, rfl⟩ := hv
      exact ⟨v', k1, by rw [k2.eq_flat0 rfl]; exact .same rfl⟩
    | _ => cases ho
  | _ => cases ho
theorem restOk_far {o : Ob} (ho : restOk (some o) = true) {B : Nat} : ¬ o.far B := by
  rintro ⟨F, g, P, i, v, rfl, _⟩
  cases ho
theorem hget_succ (x : Option Ob) (l : List (Option Ob)) (b : Nat) : hget (x :: l) (b + 1) = hget l b := by simp [hget]
theorem hget_zero (x : Option Ob) (l : List (Option Ob)) : hget (x :: l) 0 = x := by simp [hget]
theorem hget_ok {l : List (Option Ob)} (h : l.all restOk = true) {b : Nat} {o : Ob} (hb : hget l b = some o) : restOk (some o) = true := by
  unfold hget at hb
  split at hb
  · rename_i x hx
    subst hb
    exact List.all_eq_true.1 h _ (List.mem_of_getElem? hx)
  · cases hb

theorem CallOk.abs {P : Program} {f : FuncId} {args : List Value} {j P0 o g n c ro : Nat} {rest rest' : List (Option Ob)} {v : Value} {F : Nat → Nat → Cells} {k : IntKind} {L : List Int} {t : TypeId}
    (hro : 1 ≤ ro) (hr1 : ro ≤ rest.length + 1) (hl1 : rest.length ≤ 900000) (hl2 : rest'.length ≤ 900000) (hg : isAbs (some g) = true) (hj : args[j]? = some (.slice (some ⟨P0, o, some g⟩) n c))
    (hF : ∀ (x : Nat) (y : Int), L[x]? = some y → (F g P0).get (o + x) = some (.int k y)) (hn : n = L.length)
    (ha0 : (args.set j (.bool true)).all argOk = true) (h1 : rest.all restOk = true) (h2 : rest'.all restOk = true) (hv : flat v = true)
    (hi : CallOk P f (args.set j (.slice (some ⟨0, 0, none⟩) n c)) (smSt ro (some (.cells (.ints k L) t) :: rest) []) v (smSt ro (some (.cells (.ints k L) t) :: rest') []))
    (h0 : n = 0 → CallOk P f args (smSt ro (some (.fam F) :: rest) []) v (smSt ro (some (.fam F) :: rest') [])) :
    CallOk P f args (smSt ro (some (.fam F) :: rest) []) v (smSt ro (some (.fam F) :: rest') []) := by
  by_cases hn0 : n = 0
  · exact h0 hn0
  intro ho m ρ w args' hs ha
  have gA : ∀ (l : List (Option Ob)) (b : Nat), l.length ≤ 1000000 → (smSt ro l []).heap.get b = hget l b := fun l b hl => ofL_get hl b
  have gA1 : ∀ b, (smSt ro (some (.fam F) :: rest) []).heap.get b = hget (some (.fam F) :: rest) b := fun b => gA _ b (by simp; omega)
  have gA2 : ∀ b, (smSt ro (some (.fam F) :: rest') []).heap.get b = hget (some (.fam F) :: rest') b := fun b => gA _ b (by simp; omega)
  have gB1 : ∀ b, (smSt ro (some (.cells (.ints k L) t) :: rest) []).heap.get b = hget (some (.cells (.ints k L) t) :: rest) b := fun b => gA _ b (by simp; omega)
  have gB2 : ∀ b, (smSt ro (some (.cells (.ints k L) t) :: rest') []).heap.get b = hget (some (.cells (.ints k L) t) :: rest') b := fun b => gA _ b (by simp; omega)
  -- the slice there
  obtain ⟨wj, hwj, hrj⟩ := ha.get hj
  have hfam : (smSt ro (some (.fam F) :: rest) []).heap.get 0 = some (.fam F) := by rw [gA1]; rfl
  obtain ⟨d0, f1, f2, f3⟩ := hs.ob 0 _ hfam
  have hwe : wj = .slice (some ⟨blkOf P0, baseOf P0 + o, none⟩) n c ∧ n ≤ c := by
    cases hrj with
    | same hf => simp [flat0] at hf
    | slice _ _ hok => have := hok.noAbs; rw [hg] at this; cases this
    | abs _ _ hk =>
      obtain ⟨k1, k2 | ⟨k2, _⟩⟩ := hk
      · exact ⟨k2, k1⟩
      · omega
  obtain ⟨rfl, hnc⟩ := hwe
  obtain ⟨y0, hy0⟩ : ∃ y0, L[0]? = some y0 := ⟨L[0], List.getElem?_eq_getElem (by omega)⟩
  obtain ⟨pc, ty, fr, _, q1, _⟩ := f3 g P0 _ _ (hF 0 y0 hy0)
  let ρ0 : Nat → PB := fun b => if b = 0 then ⟨blkOf P0, baseOf P0 + o, pc.size⟩ else ρ b
  have r0 : ρ0 0 = ⟨blkOf P0, baseOf P0 + o, pc.size⟩ := if_pos rfl
  have r1 : ∀ b, b ≠ 0 → ρ0 b = ρ b := fun b hb => if_neg hb
  have dB : ∀ b, Dm (smSt ro (some (.fam F) :: rest) []) b → Dm (smSt ro (some (.cells (.ints k L) t) :: rest) []) b := fun b hb => hb
  have farB : ∀ (b : Nat) (ob : Ob), (smSt ro (some (.fam F) :: rest) []).heap.get b = some ob → ro ≤ b → (ρ b).blk ≠ blkOf P0 := fun b ob hb hm =>
    hs.far 0 b _ ob _ hfam ⟨F, g, P0, _, _, rfl, hF 0 y0 hy0, rfl⟩ hb hm
  have same1 : ∀ (b : Nat), b ≠ 0 → (smSt ro (some (.cells (.ints k L) t) :: rest) []).heap.get b = (smSt ro (some (.fam F) :: rest) []).heap.get b := fun b hb => by
    rw [gA1, gB1]
    obtain ⟨b', rfl⟩ : ∃ b', b = b' + 1 := ⟨b - 1, by omega⟩
    rw [hget_succ, hget_succ]
  have same2 : ∀ (b : Nat), b ≠ 0 → (smSt ro (some (.cells (.ints k L) t) :: rest') []).heap.get b = (smSt ro (some (.fam F) :: rest') []).heap.get b := fun b hb => by
    rw [gA2, gB2]
    obtain ⟨b', rfl⟩ : ∃ b', b = b' + 1 := ⟨b - 1, by omega⟩
    rw [hget_succ, hget_succ]
  have ok1 : ∀ (b : Nat) (ob : Ob), b ≠ 0 → (smSt ro (some (.fam F) :: rest) []).heap.get b = some ob → restOk (some ob) = true := fun b ob hb hg => by
    rw [gA1] at hg
    obtain ⟨b', rfl⟩ : ∃ b', b = b' + 1 := ⟨b - 1, by omega⟩
    rw [hget_succ] at hg
    exact hget_ok h1 hg
  have ok2 : ∀ (b : Nat) (ob : Ob), b ≠ 0 → (smSt ro (some (.fam F) :: rest') []).heap.get b = some ob → restOk (some ob) = true := fun b ob hb hg => by
    rw [gA2] at hg
    obtain ⟨b', rfl⟩ : ∃ b', b = b' + 1 := ⟨b - 1, by omega⟩
    rw [hget_succ] at hg
    exact hget_ok h2 hg
  have hsB : Hs (smSt ro (some (.cells (.ints k L) t) :: rest) []) ρ0 w := by
    refine ⟨⟨fun b ob hb => ?_, fun b b' ob ob' hb hb' hk e => ?_, fun b b' ob ob' B hb hB hb' hk => ?_⟩, fun _ _ => rfl, ⟨by show ro ≤ (some (Ob.cells (.ints k L) t) :: rest).length; simp only [List.length_cons]; omega, fun x hx => by simp [smSt] at hx⟩⟩
    · by_cases hb0 : b = 0
      · subst hb0
        rw [gB1, hget_zero] at hb
        cases hb
        rw [r0]
        refine ⟨d0, pc, ty, fr, q1, rfl, fun hm => absurd (show ro ≤ 0 from hm) (by omega), fun i x hx => ?_⟩
        simp only [Cells.get, Option.map_eq_some_iff] at hx
        obtain ⟨y, hy, rfl⟩ := hx
        obtain ⟨pc2, ty2, fr2, v', k1, k2, k3, _⟩ := f3 g P0 _ _ (hF i y hy)
        rw [q1] at k1; cases k1
        refine ⟨v', by rw [Nat.add_assoc]; exact k2, ?_⟩
        rw [k3.eq_flat0 rfl]; exact .same rfl
      · rw [same1 b hb0] at hb
        obtain ⟨k1, k2⟩ := hs.ob b ob hb
        rw [r1 b hb0]
        exact ⟨k1, restOk_obR k2 (ok1 b ob hb0 hb)⟩
    · by_cases hb0 : b = 0 <;> by_cases hb0' : b' = 0
      · rw [hb0, hb0']
      · exfalso
        subst hb0
        rw [same1 b' hb0'] at hb'
        rw [r0, r1 b' hb0'] at e
        rcases hk with hk | hk
        · have hk : ro ≤ 0 := hk; omega
        · exact farB b' ob' hb' hk e.symm
      · exfalso
        subst hb0'
        rw [same1 b hb0] at hb
        rw [r0, r1 b hb0] at e
        rcases hk with hk | hk
        · exact farB b ob hb hk e
        · have hk : ro ≤ 0 := hk; omega
      · rw [same1 b hb0] at hb
        rw [same1 b' hb0'] at hb'
        rw [r1 b hb0, r1 b' hb0'] at e
        exact hs.inj b b' ob ob' hb hb' hk e
    · exfalso
      by_cases hb0 : b = 0
      · subst hb0
        rw [gB1, hget_zero] at hb
        cases hb
        obtain ⟨_, _, _, _, _, hF', _⟩ := hB
        cases hF'
      · rw [same1 b hb0] at hb
        exact restOk_far (ok1 b ob hb0 hb) hB
  have haB : VL (Dm (smSt ro (some (.cells (.ints k L) t) :: rest) [])) ρ0 (args.set j (.slice (some ⟨0, 0, none⟩) n c)) args' := by
    refine ⟨by rw [List.length_set]; exact ha.1, fun i x y hx hy => ?_⟩
    by_cases hij : j = i
    · subst hij
      rw [List.getElem?_set_self (by rcases Nat.lt_or_ge j args.length with h | h; exact h; rw [List.getElem?_eq_none h] at hj; cases hj)] at hx
      cases hx
      rw [hwj] at hy; cases hy
      exact .slice d0 hnc ⟨.inr (by rw [r0]; rfl), fun _ => rfl, fun z hz => by cases hz⟩
    · rw [List.getElem?_set_ne hij] at hx
      refine argOk_vr (ha.2 i x y hx hy) ?_ fun b hb hN => ⟨hN, r1 b hb⟩
      refine List.all_eq_true.1 ha0 x (List.mem_of_getElem? (i := i) ?_)
      rw [List.getElem?_set_ne hij]; exact hx
  refine callsIn_wide.2 ((callsIn_wide.1 (hi ho m ρ0 w args' hsB haB)).mono ?_)
  rintro e w' ⟨v', ρ', rfl, g1, g2, g3⟩
  let ρ2 : Nat → PB := fun b => if b = 0 then ρ 0 else ρ' b
  have s0 : ρ2 0 = ρ 0 := if_pos rfl
  have s1 : ∀ b, b ≠ 0 → ρ2 b = ρ' b := fun b hb => if_neg hb
  have own : ∀ (b : Nat) (ob : Ob), b ≠ 0 → ro ≤ b → (smSt ro (some (.fam F) :: rest') []).heap.get b = some ob → w.heap.size ≤ (ρ' b).blk ∨ ∃ (b0 : Nat) (o0 : Ob), b0 ≠ 0 ∧ (smSt ro (some (.fam F) :: rest) []).heap.get b0 = some o0 ∧ ro ≤ b0 ∧ (ρ b0).blk = (ρ' b).blk := fun b ob hb0 hm hb => by
    rw [← same2 b hb0] at hb
    rcases g3.own b ob hb (smMay.2 hm) with h | ⟨b0, o0, k1, k2, k3⟩
    · exact .inl h
    · have hm0 : ro ≤ b0 := smMay.1 k2
      have hz : b0 ≠ 0 := by omega
      rw [same1 b0 hz] at k1
      rw [r1 b0 hz] at k3
      exact .inr ⟨b0, o0, hz, k1, hm0, k3⟩
  refine ⟨v', ρ2, rfl, by rw [g1.eq_flat hv]; exact .of_flat hv, ⟨⟨fun b ob hb => ?_, fun b b' ob ob' hb hb' hk e => ?_, fun b b' ob ob' B hb hB hb' hk => ?_⟩, fun _ _ => rfl, g2.wf⟩, ⟨g3.next, fun b hb => ?_, g3.os, g3.tape, g3.output, g3.size, fun x hx hno => ?_, fun b ob hb hm => ?_, rfl, rfl, rfl, fun b hm => ?_⟩⟩
  · by_cases hb0 : b = 0
    · subst hb0
      rw [gA2, hget_zero] at hb
      cases hb
      rw [s0]
      refine ⟨⟨by show 0 < (some (Ob.fam F) :: rest').length; simp, rfl⟩, fun hm => f1 hm, Nat.lt_of_lt_of_le f2 g3.size, fun g' P' i x hx => ?_⟩
      obtain ⟨pc2, ty2, fr2, x', k1, k2, k3, k4⟩ := f3 g' P' i x hx
      refine ⟨pc2, ty2, fr2, x', ?_, k2, famV_vr k3 k4 ⟨by show 0 < (some (Ob.fam F) :: rest').length; simp, rfl⟩, k4⟩
      rw [g3.frame _ (heapObj_lt k1) fun b ob hb hm he => ?_]
      · exact k1
      · have hm' : ro ≤ b := smMay.1 hm
        have hz : b ≠ 0 := by omega
        rw [same1 b hz] at hb
        rw [r1 b hz] at he
        exact hs.far 0 b _ ob _ hfam ⟨F, g', P', i, x, rfl, hx, rfl⟩ hb hm' he
    · have hb2 := hb
      rw [← same2 b hb0] at hb
      obtain ⟨k1, k2⟩ := g2.ob b ob hb
      rw [s1 b hb0]
      exact ⟨k1, restOk_obR k2 (ok2 b ob hb0 hb2)⟩
  · have key : ∀ (b : Nat) (ob : Ob), b ≠ 0 → ro ≤ b → (smSt ro (some (.fam F) :: rest') []).heap.get b = some ob → (ρ 0).blk ≠ (ρ' b).blk := fun b ob hb0 hm hb he => by
      rcases own b ob hb0 hm hb with h | ⟨b0, o0, z, k1, k2, k3⟩
      · omega
      · exact z (hs.inj 0 b0 _ o0 hfam k1 (.inr k2) (he.trans k3.symm)).symm
    by_cases hb0 : b = 0 <;> by_cases hb0' : b' = 0
    · rw [hb0, hb0']
    · exfalso
      subst hb0
      rw [s0, s1 b' hb0'] at e
      rcases hk with hk | hk
      · have hk : ro ≤ 0 := hk; omega
      · exact key b' ob' hb0' hk hb' e
    · exfalso
      subst hb0'
      rw [s0, s1 b hb0] at e
      rcases hk with hk | hk
      · exact key b ob hb0 hk hb e.symm
      · have hk : ro ≤ 0 := hk; omega
    · rw [← same2 b hb0] at hb
      rw [← same2 b' hb0'] at hb'
      rw [s1 b hb0, s1 b' hb0'] at e
      exact g2.inj b b' ob ob' hb hb' hk e
  · by_cases hb0 : b = 0
    · subst hb0
      rw [gA2, hget_zero] at hb
      cases hb
      have hk : ro ≤ b' := hk
      have hz : b' ≠ 0 := by omega
      rw [s1 b' hz]
      intro he
      rcases own b' ob' hz hk hb' with h | ⟨b0, o0, z, k1, k2, k3⟩
      · obtain ⟨F', g', P', i, x, hF', hx, hB'⟩ := hB
        cases hF'
        obtain ⟨_, _, _, _, q, _⟩ := f3 g' P' i x hx
        have := heapObj_lt q
        omega
      · exact hs.far 0 b0 _ o0 B hfam hB k1 k2 (k3.trans he)
    · exact absurd hB (restOk_far (ok2 b ob hb0 hb))
  · by_cases hb0 : b = 0
    · rw [hb0, s0]
    · rw [s1 b hb0, ← r1 b hb0]
      exact g3.ext b hb
  · refine g3.frame x hx fun b ob hb hm he => ?_
    have hm' : ro ≤ b := smMay.1 hm
    have hz : b ≠ 0 := by omega
    rw [same1 b hz] at hb
    rw [r1 b hz] at he
    exact hno b ob hb (smMay.2 hm') he
  · have hm' : ro ≤ b := smMay.1 hm
    have hz : b ≠ 0 := by omega
    rw [s1 b hz]
    rcases own b ob hz hm' hb with h | ⟨b0, o0, z, k1, k2, k3⟩
    · exact .inl h
    · exact .inr ⟨b0, o0, k1, smMay.2 k2, k3⟩
  · by_cases hb0 : b = 0
    · subst hb0
      rw [gA1, gA2, hget_zero, hget_zero]
    · rw [← same2 b hb0, ← same1 b hb0]
      refine g3.same b ?_
      cases hq : (smSt ro (some (.cells (.ints k L) t) :: rest) []).may b with
      | false => rfl
      | true =>
        have : (smSt ro (some (.fam F) :: rest) []).may b = true := smMay.2 (smMay.1 hq)
        rw [this] at hm; cases hm
end
end Go.Cln
namespace Go.Cln
set_option linter.unusedVariables false
/-- at a place so many rows: where each lies, how long it is, what room it has; the bytes at a place -/
structure Nest where
  N : Nat → Nat
  Q : Nat → Nat → Nat
  m : Nat → Nat → Nat
  c : Nat → Nat → Nat
  D : Nat → List Int
def Nest.F (x : Nest) (g P : Nat) : Cells := match Nat.beq g 1000 with
  | true => .ints .u8 (x.D P)
  | false => .fam (x.N P) fun i => .slice (some ⟨x.Q P i, 0, some 1000⟩) (x.m P i) (x.c P i)
def Nest.row (x : Nest) (P i : Nat) : List Int := ((x.D (x.Q P i)).drop 0).take (x.m P i)
def Nest.cat (x : Nest) (P : Nat) : Nat → List Int
  | 0 => []
  | k + 1 => x.cat P k ++ x.row P k
structure Nest.Ok (x : Nest) (P : Nat) : Prop where
  len : ∀ i, i < x.N P → (x.row P i).length = x.m P i
  room : ∀ i, i < x.N P → x.m P i ≤ x.c P i
  byte : ∀ i, i < x.N P → ∀ y ∈ x.row P i, 0 ≤ y ∧ y < 256
theorem Nest.cat_len {x : Nest} {P : Nat} (h : x.Ok P) {B : Nat} : ∀ k, k ≤ x.N P → (∀ i, i < k → x.m P i ≤ B) → (x.cat P k).length ≤ k * B
  | 0, _, _ => Nat.zero_le _
  | k + 1, hk, hB => by
    have := Nest.cat_len h k (by omega) fun i hi => hB i (by omega)
    have h1 := h.len k (by omega)
    have h2 := hB k (by omega)
    simp only [Nest.cat, List.length_append, Nat.add_mul]
    omega
theorem Nest.cat_byte {x : Nest} {P : Nat} (h : x.Ok P) : ∀ k, k ≤ x.N P → ∀ y ∈ x.cat P k, 0 ≤ y ∧ y < 256
  | 0, _, y, hy => by cases hy
  | k + 1, hk, y, hy => by
    rcases List.mem_append.1 hy with hy | hy
    · exact Nest.cat_byte h k (by omega) y hy
    · exact h.byte k (by omega) y hy
theorem Nest.cat_mono {x : Nest} {P : Nat} : ∀ (n k : Nat), k ≤ n → (x.cat P k).length ≤ (x.cat P n).length
  | 0, k, h => by obtain rfl := Nat.le_zero.1 h; exact Nat.le_refl _
  | n + 1, k, h => by
    rcases Nat.lt_or_ge n k with h1 | h1
    · have : k = n + 1 := by omega
      subst this; exact Nat.le_refl _
    · have := Nest.cat_mono (x := x) (P := P) n k h1
      simp only [Nest.cat, List.length_append]; omega
/-- what a world must hold -/
structure Nest.At (x : Nest) (W : World) : Prop where
  bytes : ∀ (P j : Nat) (y : Int), (x.D P)[j]? = some y → ∃ pc t fr, W.heap[blkOf P]? = some (.cells pc t fr) ∧ pc[baseOf P + j]? = some (.int .u8 y)
  rows : ∀ (P i : Nat), i < x.N P → ∃ pc t fr v, W.heap[blkOf P]? = some (.cells pc t fr) ∧ pc[baseOf P + i]? = some v ∧ AbsOk (x.Q P i) 0 (x.m P i) (x.c P i) v
theorem Nest.start {x : Nest} {W : World} (h : x.At W) (hW : 0 < W.heap.size) (orc : List (Option Bool)) :
    ∃ ρ : Nat → PB, Hs (smSt 1 [some (.fam x.F)] orc) ρ W ∧ ∀ (P n c : Nat) (v : Value), AbsOk P 0 n c v → VR (Dm (smSt 1 [some (.fam x.F)] orc)) ρ (.slice (some ⟨P, 0, some 1001⟩) n c) v := by
  have get : ∀ (b : Nat) (o : Ob), (smSt 1 [some (.fam x.F)] orc).heap.get b = some o → b = 0 ∧ o = .fam x.F := fun b o hb => by
    have hb : (Tr.ofL [some (Ob.fam x.F)]).get b = some o := hb
    rw [ofL_get (by simp)] at hb
    rcases b with _ | b
    · simp only [hget, List.getElem?_cons_zero] at hb
      cases hb; exact ⟨rfl, rfl⟩
    · simp [hget] at hb
  have d0 : Dm (smSt 1 [some (.fam x.F)] orc) 0 := ⟨Nat.zero_lt_one, rfl⟩
  refine ⟨fun _ => ⟨0, 0, 0⟩, ⟨⟨fun b o hb => ?_, fun b b' o o' hb hb' _ _ => by rw [(get b o hb).1, (get b' o' hb').1], fun b b' o o' B hb hB hb' hk => ?_⟩, fun _ _ => rfl, ⟨Nat.le_refl _, fun x hx => by simp [smSt] at hx⟩⟩, fun P n c v hv => .abs d0 rfl hv⟩
  · obtain ⟨rfl, rfl⟩ := get b o hb
    refine ⟨d0, fun hm => absurd (show 1 ≤ 0 from hm) (by omega), hW, fun g P i v hv => ?_⟩
    unfold Nest.F at hv
    split at hv
    · simp only [Cells.get, Option.map_eq_some_iff] at hv
      obtain ⟨y, hy, rfl⟩ := hv
      obtain ⟨pc, t, fr, k1, k2⟩ := h.bytes P i y hy
      exact ⟨pc, t, fr, _, k1, k2, .same rfl, rfl⟩
    · simp only [Cells.get] at hv
      split at hv
      · rename_i hi
        cases hv
        obtain ⟨pc, t, fr, w, k1, k2, k3⟩ := h.rows P i hi
        exact ⟨pc, t, fr, w, k1, k2, .abs d0 rfl k3, rfl⟩
      · cases hv
  · have := (get b' o' hb').1
    have hk : 1 ≤ b' := hk
    omega
theorem AbsOk.of {b o n c : Nat} (h : n ≤ c) : AbsOk (plc b o) 0 n c (.slice (some ⟨b, o, none⟩) n c) := ⟨h, .inl (by rw [blkOf_plc, baseOf_plc, Nat.add_zero])⟩
theorem AbsOk.none {P : Nat} {a : Option Addr} {c : Nat} : AbsOk P 0 0 0 (.slice a 0 c) := ⟨Nat.le_refl _, .inr ⟨rfl, _, _, rfl⟩⟩
end Go.Cln
namespace Go.Cln
open Go.ChangeShapes Go.WideShapes Go.ChangeAt Go.RowKit
set_option linter.unusedVariables false
noncomputable section
def bytesAt : List Value → List Int
  | .int .u8 y :: l => y :: bytesAt l
  | _ => []
theorem bytesAt_get : ∀ {l : List Value} {j : Nat} {y : Int}, (bytesAt l)[j]? = some y → l[j]? = some (.int .u8 y)
  | [], j, y, h => by simp [bytesAt] at h
  | v :: l, j, y, h => by
    unfold bytesAt at h
    split at h
    · rename_i z r e
      cases e
      cases j with
      | zero => simp only [List.getElem?_cons_zero, Option.some.injEq] at h ⊢; rw [h]
      | succ j => simp only [List.getElem?_cons_succ] at h ⊢; exact bytesAt_get h
    · simp at h
theorem bytesAt_len : ∀ {l : List Value} {m : Nat}, (∀ j, j < m → ∃ y, l[j]? = some (.int .u8 y)) → m ≤ (bytesAt l).length
  | l, 0, _ => Nat.zero_le _
  | [], m + 1, h => by obtain ⟨y, hy⟩ := h 0 (by omega); simp at hy
  | v :: l, m + 1, h => by
    obtain ⟨y, hy⟩ := h 0 (by omega)
    simp only [List.getElem?_cons_zero, Option.some.injEq] at hy
    subst hy
    have := bytesAt_len (l := l) (m := m) fun j hj => by
      obtain ⟨z, hz⟩ := h (j + 1) (by omega)
      exact ⟨z, by simpa using hz⟩
    simp only [bytesAt, List.length_cons]; omega
/-- the bytes at a place -/
def worldB (W : World) (P : Nat) : List Int := match W.heap[blkOf P]? with
  | some (.cells pc _ _) => bytesAt (pc.toList.drop (baseOf P))
  | _ => []
theorem worldB_get {W : World} {P j : Nat} {y : Int} (h : (worldB W P)[j]? = some y) : ∃ pc t fr, W.heap[blkOf P]? = some (.cells pc t fr) ∧ pc[baseOf P + j]? = some (.int .u8 y) := by
  unfold worldB at h
  split at h
  · rename_i pc t fr hc
    have := bytesAt_get h
    rw [List.getElem?_drop] at this
    exact ⟨pc, t, fr, hc, by simpa using this⟩
  · simp at h
theorem cell_in {W : World} {b o : Nat} {v : Value} (h : W.cell? ⟨b, o, none⟩ = some v) : ∃ pc t fr, W.heap[b]? = some (.cells pc t fr) ∧ pc[o]? = some v := by
  unfold World.cell? at h
  simp only at h
  split at h
  · rename_i pc t fr hc
    exact ⟨pc, t, fr, hc, by simpa using h⟩
  · cases h
/-- a row of bytes that came in -/
def InRow (W : World) (v : Value) : Prop := ∃ a m c, v = .slice a m c ∧ m ≤ c ∧ (m = 0 ∨ ∃ (b o : Nat) (f : Nat → Int), a = some ⟨b, o, none⟩ ∧ ∀ j, j < m → W.cell? ⟨b, o + j, none⟩ = some (.int .u8 (f j)) ∧ (Lit.int .u8 (f j)).wf = true)
def rowQ : Value → Nat
  | .slice (some a) (_ + 1) _ => plc a.block a.off
  | _ => 0
def rowM : Value → Nat
  | .slice _ m _ => m
  | _ => 0
def rowC : Value → Nat
  | .slice _ (_ + 1) c => c
  | _ => 0
theorem worldB_row {W : World} {b o m : Nat} {f : Nat → Int} (h : ∀ j, j < m → W.cell? ⟨b, o + j, none⟩ = some (.int .u8 (f j)) ∧ (Lit.int .u8 (f j)).wf = true) (h0 : m ≠ 0) :
    ((worldB W (plc b o)).take m).length = m ∧ ∀ y ∈ (worldB W (plc b o)).take m, 0 ≤ y ∧ y < 256 := by
  obtain ⟨pc, t, fr, k1, _⟩ := cell_in (h 0 (by omega)).1
  have at_ : ∀ j, j < m → pc[o + j]? = some (.int .u8 (f j)) := fun j hj => by
    obtain ⟨pc', t', fr', q1, q2⟩ := cell_in (h j hj).1
    rw [k1] at q1; cases q1; exact q2
  have hl : m ≤ (worldB W (plc b o)).length := by
    unfold worldB
    rw [blkOf_plc, baseOf_plc, k1]
    refine bytesAt_len fun j hj => ⟨f j, ?_⟩
    rw [List.getElem?_drop]
    simpa using at_ j hj
  refine ⟨by rw [List.length_take]; omega, fun y hy => ?_⟩
  obtain ⟨j, hj⟩ := List.mem_iff_getElem?.1 hy
  rw [List.getElem?_take] at hj
  split at hj
  · rename_i hjm
    obtain ⟨pc', t', fr', q1, q2⟩ := worldB_get hj
    rw [blkOf_plc, k1] at q1; cases q1
    rw [baseOf_plc, at_ j hjm] at q2
    cases q2
    have := (h j hjm).2
    simp [Lit.wf] at this
    have e1 : IntKind.u8.min = 0 := rfl
    have e2 : IntKind.u8.max = 255 := rfl
    rw [e1, e2] at this
    omega
  · cases hj
theorem Nest.of {W : World} {b o n : Nat} (h : ∀ i, i < n → ∃ v, W.cell? ⟨b, o + i, none⟩ = some v ∧ InRow W v) : ∃ x : Nest, x.At W ∧ x.Ok (plc b o) ∧ x.N (plc b o) = n := by
  let v : Nat → Value := fun i => (W.cell? ⟨b, o + i, none⟩).getD undef
  have hv : ∀ i, i < n → W.cell? ⟨b, o + i, none⟩ = some (v i) ∧ InRow W (v i) := fun i hi => by
    obtain ⟨u, h1, h2⟩ := h i hi
    have : v i = u := by show (W.cell? ⟨b, o + i, none⟩).getD undef = u; rw [h1]; rfl
    rw [this]; exact ⟨h1, h2⟩
  have row : ∀ i, i < n → ((worldB W (rowQ (v i))).drop 0).take (rowM (v i)) = (worldB W (rowQ (v i))).take (rowM (v i)) := fun i _ => by rw [List.drop_zero]
  have good : ∀ i, i < n → (((worldB W (rowQ (v i))).take (rowM (v i))).length = rowM (v i) ∧ ∀ y ∈ (worldB W (rowQ (v i))).take (rowM (v i)), 0 ≤ y ∧ y < 256) ∧ rowM (v i) ≤ rowC (v i) ∧ AbsOk (rowQ (v i)) 0 (rowM (v i)) (rowC (v i)) (v i) := fun i hi => by
    obtain ⟨_, a, m, c, e, hle, hm⟩ := hv i hi
    rw [e]
    cases m with
    | zero => exact ⟨⟨by simp [rowM], fun y hy => by simp [rowM] at hy⟩, Nat.zero_le _, Nat.zero_le _, .inr ⟨rfl, a, c, rfl⟩⟩
    | succ m =>
      rcases hm with h0 | ⟨b', o', f, rfl, hf⟩
      · exact absurd h0 (by omega)
      · exact ⟨worldB_row (m := m + 1) hf (Nat.succ_ne_zero m), hle, AbsOk.of hle⟩
  refine ⟨⟨fun P => if P = plc b o then n else 0, fun _ i => rowQ (v i), fun _ i => rowM (v i), fun _ i => rowC (v i), worldB W⟩, ⟨fun P j y hy => worldB_get hy, fun P i hi => ?_⟩, ⟨fun i hi => ?_, fun i hi => ?_, fun i hi => ?_⟩, if_pos rfl⟩
  · by_cases hP : P = plc b o
    · subst hP
      simp only [if_true] at hi
      obtain ⟨pc, t, fr, q1, q2⟩ := cell_in (hv i hi).1
      exact ⟨pc, t, fr, v i, by rw [blkOf_plc]; exact q1, by rw [baseOf_plc]; exact q2, (good i hi).2.2⟩
    · simp only [if_neg hP] at hi; omega
  · simp only [if_true] at hi
    unfold Nest.row; rw [List.drop_zero]; exact (good i hi).1.1
  · simp only [if_true] at hi; exact (good i hi).2.1
  · simp only [if_true] at hi
    unfold Nest.row; rw [List.drop_zero]; exact (good i hi).1.2
section
variable {H : Type} {enc : TypeId × Value → H} {P : Program} {w : World} {base : Nat} {spare : Nat → Bool} {held : Bool}
theorem inner_row {e2 e : TypeId} {m : Nat} {cs : List Value} {y : DataW H × List MemPlace} (he : P.underlying e = some (.slice e2)) (he2 : P.underlying e2 = some (.int .u8)) (hc2 : P.cellsOf e2 = 1)
    (h : DataW.trod enc P w base spare held m e cs = some y) : ∃ v, cs = [v] ∧ InRow w v := by
  rcases DataW.trod_slice he h with ⟨rfl, _⟩ | ⟨a, n, c, elems, rest, k, _, rfl, _, hb, hl, hm, hlen, hel, _, _⟩
  · exact ⟨_, rfl, none, 0, 0, rfl, Nat.le_refl _, .inl rfl⟩
  · refine ⟨_, rfl, some a, n, c, rfl, hl, ?_⟩
    by_cases h0 : n = 0
    · exact .inl h0
    · obtain ⟨b, o, spot⟩ := a
      have each : ∀ i, i < n → ∃ z, w.cell? ((⟨b, o, spot⟩ : Addr).add i) = some (.int .u8 z) ∧ (Lit.int .u8 z).wf = true := fun i hi => by
        have h1 := hel i hi
        have h2 : elems[i]? = some (elems[i]'(by omega)) := List.getElem?_eq_getElem _
        rw [h2, Option.bind_eq_some_iff] at h1
        obtain ⟨cs, hcs, hy⟩ := h1
        obtain ⟨_, q1, q2⟩ := World.cells?_some hcs
        obtain ⟨z, rfl, _, hw⟩ := DataW.trod_int he2 hy
        have := q2 0 (by omega)
        rw [hc2, Nat.mul_one] at this
        refine ⟨z, ?_, hw⟩
        simpa [Addr.add] using this
      obtain ⟨z0, hz0, _⟩ := each 0 (by omega)
      have hs : spot = none := World.cell?_spot (by simpa [Addr.add] using hz0)
      subst hs
      refine .inr ⟨b, o, fun i => match w.cell? ⟨b, o + i, none⟩ with | some (.int _ z) => z | _ => 0, rfl, fun i hi => ?_⟩
      obtain ⟨z, h1, h2⟩ := each i hi
      rw [add_none] at h1
      simp only [h1]; exact ⟨trivial, h2⟩
/-- rows of bytes that came in -/
theorem open_nest {t e e2 : TypeId} {r : Reach} {b0 : Nat} {v : Value} {d : DataW H} {ps : List MemPlace} (ht : P.underlying t = some (.slice e)) (he : P.underlying e = some (.slice e2)) (he2 : P.underlying e2 = some (.int .u8)) (hc : P.cellsOf e = 1) (hc2 : P.cellsOf e2 = 1)
    (hval : Value.okWide P w r b0 t v) (h : DataW.Trod enc P w base spare held t v d ps) :
    ∃ a n c, v = .slice a n c ∧ (n = 0 ∨ ∃ b o, a = some ⟨b, o, none⟩ ∧ b < w.heap.size ∧ ∀ i, i < n → ∃ x, w.cell? ⟨b, o + i, none⟩ = some x ∧ InRow w x) := by
  obtain ⟨a, n, c, rfl⟩ := okWide_slice ht hval
  refine ⟨a, n, c, rfl, ?_⟩
  obtain ⟨fuel, hf⟩ := h
  rcases DataW.trod_slice ht hf with ⟨hx, _⟩ | ⟨x, n', c', elems, rest, m, _, hx, _, hb, hl, hm, hlen, hel, _, _⟩
  · simp [Value.cells] at hx
    exact .inl hx.2.1
  · simp [Value.cells] at hx
    obtain ⟨rfl, rfl, rfl⟩ := hx
    by_cases h0 : n = 0
    · exact .inl h0
    · obtain ⟨b, o, spot⟩ := x
      have each : ∀ i, i < n → ∃ z, w.cell? ((⟨b, o, spot⟩ : Addr).add i) = some z ∧ InRow w z := fun i hi => by
        have h1 := hel i hi
        have h2 : elems[i]? = some (elems[i]'(by omega)) := List.getElem?_eq_getElem _
        rw [h2, Option.bind_eq_some_iff] at h1
        obtain ⟨cs, hcs, hy⟩ := h1
        obtain ⟨_, q1, q2⟩ := World.cells?_some hcs
        obtain ⟨z, rfl, hz⟩ := inner_row he he2 hc2 hy
        have := q2 0 (by omega)
        rw [hc, Nat.mul_one] at this
        refine ⟨z, ?_, hz⟩
        simpa [Addr.add] using this
      obtain ⟨z0, hz0, _⟩ := each 0 (by omega)
      have hs : spot = none := World.cell?_spot (by simpa [Addr.add] using hz0)
      subst hs
      refine .inr ⟨b, o, rfl, by simpa [Addr.add] using World.block_lt_of_cell? _ _ hz0, fun i hi => ?_⟩
      obtain ⟨z, h1, h2⟩ := each i hi
      rw [add_none] at h1
      exact ⟨z, h1, h2⟩
end
end
end Go.Cln
