/- A determinate reading of Go's code over numbered blocks of one's own: the definitions. -/
import Derived.RangeFuncLeaves
import Derived.OrdersIn
import Derived.Below
namespace Go.Cln
set_option linter.unusedVariables false
set_option linter.unusedSimpArgs false
set_option linter.deprecated false
noncomputable section
structure PB where
  blk : Nat
  off : Nat
  len : Nat
inductive Cells where
  | lit (l : List Value)
  | fam (n : Nat) (f : Nat → Value)
  | rows (n w : Nat) (g : Nat → List Value)
  | ints (k : IntKind) (l : List Int)
def Cells.size : Cells → Nat
  | .lit l => l.length
  | .fam n _ => n
  | .rows n w _ => n * w
  | .ints _ l => l.length
def Cells.get : Cells → Nat → Option Value
  | .lit l, i => l[i]?
  | .fam n f, i => if i < n then some (f i) else none
  | .rows n w g, i => if i / w < n then (g (i / w))[i % w]? else none
  | .ints k l, i => (l[i]?).map (Value.int k)
def intsOf (k : IntKind) : List Value → Option (List Int)
  | [] => some []
  | .int k' n :: l => if k' = k then (intsOf k l).bind fun r => some (n :: r) else none
  | _ => none
def layI (l : List Int) (o : Nat) (r : List Int) : List Int := l.take o ++ (r ++ l.drop (o + r.length))
structure CLoop where
  state : LoopState
  pending : Option Code
  tmps : List Value
  params : Array Tmp
  assign : Code
  body : Code
  defers : Nat
def plc (b o : Nat) : Nat := (b + o) * (b + o) + b
theorem plc_inj {b o b' o' : Nat} (h : plc b o = plc b' o') : b = b' ∧ o = o' := by
  unfold plc at h
  have key : ∀ {s a s' a' : Nat}, a ≤ s → s * s + a = s' * s' + a' → ¬ s < s' := fun {s a s' a'} ha e hlt => by
    have h1 : (s + 1) * (s + 1) ≤ s' * s' := Nat.mul_le_mul hlt hlt
    have h2 : (s + 1) * (s + 1) = s * s + s + s + 1 := by rw [Nat.add_mul, Nat.mul_add, Nat.one_mul]; omega
    omega
  have h1 := key (Nat.le_add_right b o) h
  have h2 := key (Nat.le_add_right b' o') h.symm
  have e : b + o = b' + o' := by omega
  rw [e] at h
  omega
def placeOf (P : Nat) : Nat × Nat := open Classical in if h : ∃ x : Nat × Nat, plc x.1 x.2 = P then Classical.choose h else (0, 0)
def blkOf (P : Nat) : Nat := (placeOf P).1
def baseOf (P : Nat) : Nat := (placeOf P).2
theorem placeOf_plc (b o : Nat) : placeOf (plc b o) = (b, o) := by
  have h : ∃ x : Nat × Nat, plc x.1 x.2 = plc b o := ⟨(b, o), rfl⟩
  unfold placeOf
  rw [dif_pos h]
  obtain ⟨h1, h2⟩ := plc_inj (Classical.choose_spec h)
  exact Prod.ext h1 h2
theorem blkOf_plc (b o : Nat) : blkOf (plc b o) = b := by unfold blkOf; rw [placeOf_plc]
theorem baseOf_plc (b o : Nat) : baseOf (plc b o) = o := by unfold baseOf; rw [placeOf_plc]
inductive Ob where
  | cells (c : Cells) (t : TypeId)
  | fam (F : Nat → Nat → Cells)
  | loop (l : CLoop)
  | marks
  | map (es : List MapEntry) (clock : Nat)
inductive Tr where
  | leaf
  | node (l : Tr) (v : Option Ob) (r : Tr)
def Tr.get : Tr → Nat → Option Ob
  | .leaf, _ => none
  | .node l v r, n => if n = 0 then v else if n % 2 = 1 then l.get (n / 2) else r.get (n / 2 - 1)
def Tr.put : Nat → Tr → Nat → Option Ob → Option Tr
  | 0, _, _, _ => none
  | k + 1, .leaf, n, o =>
    if n = 0 then some (.node .leaf o .leaf)
    else if n % 2 = 1 then (Tr.put k .leaf (n / 2) o).bind fun l => some (.node l none .leaf)
    else (Tr.put k .leaf (n / 2 - 1) o).bind fun r => some (.node .leaf none r)
  | k + 1, .node l v r, n, o =>
    if n = 0 then some (.node l o r)
    else if n % 2 = 1 then (Tr.put k l (n / 2) o).bind fun l => some (.node l v r)
    else (Tr.put k r (n / 2 - 1) o).bind fun r => some (.node l v r)
def setLr (l : List Value) : Nat → Value → List Value :=
  List.rec (motive := fun _ => Nat → Value → List Value) (fun _ _ => []) (fun h t ih i v => Nat.rec (motive := fun _ => List Value) (v :: t) (fun n _ => h :: ih n v) i) l
def getLr (l : List Value) : Nat → Value :=
  List.rec (motive := fun _ => Nat → Value) (fun _ => undef) (fun h _ ih i => Nat.rec (motive := fun _ => Value) h (fun n _ => ih n) i) l
def setL (l : List Value) (i : Nat) (v : Value) : List Value := setLr l i v
def getL (l : List Value) (i : Nat) : Value := getLr l i
theorem setL_eq : ∀ (l : List Value) (i : Nat) (v : Value), setL l i v = l.set i v
  | [], _, _ => rfl
  | _ :: _, 0, _ => rfl
  | h :: t, i + 1, v => by
    show h :: setL t i v = h :: t.set i v
    rw [setL_eq t i v]
theorem getL_eq : ∀ (l : List Value) (i : Nat), getL l i = l.getD i undef
  | [], _ => rfl
  | _ :: _, 0 => rfl
  | h :: t, i + 1 => by
    show getL t i = _
    rw [getL_eq t i]; rfl
structure St where
  tmps : List Value
  defers : List Nat
  heap : Tr
  next : Nat
  roB : Nat
  ro : List Nat
  hid : Nat → Bool
  obl : Prop
  orc : List (Option Bool)
def St.need (s : St) (p : Prop) [Decidable p] : Option St :=
  match s.orc with
  | [] => if p then some s else none
  | none :: l => if p then some { s with orc := l } else none
  | some _ :: l => some { s with orc := l, obl := s.obl ∧ p }
def St.branch (s : St) (b : Bool) : Option (Bool × St) :=
  match s.orc with
  | [] => some (b, s)
  | none :: l => some (b, { s with orc := l })
  | some e :: l => some (e, { s with orc := l, obl := s.obl ∧ b = e })
def St.set (s : St) (dst : Option Tmp) (v : Value) : St :=
  match dst with
  | some d => { s with tmps := setL s.tmps d v }
  | none => s
def St.alloc (s : St) (o : Ob) : Option (Nat × St) :=
  (s.heap.put 64 s.next (some o)).bind fun h => some (s.next, { s with heap := h, next := s.next + 1 })
def St.setOb (s : St) (b : Nat) (o : Option Ob) : Option St :=
  (s.heap.put 64 b o).bind fun h => some { s with heap := h }
def St.norm {α : Type} (s : St) (k : St → α) : α :=
  match s with
  | ⟨tm, df, hp, nx, rb, ro, hd, ob, oc⟩ =>
    match oc with
    | [] => match nx with
      | 0 => k ⟨tm, df, hp, 0, rb, ro, hd, ob, []⟩
      | n + 1 => k ⟨tm, df, hp, n + 1, rb, ro, hd, ob, []⟩
    | x :: l => match nx with
      | 0 => k ⟨tm, df, hp, 0, rb, ro, hd, ob, x :: l⟩
      | n + 1 => k ⟨tm, df, hp, n + 1, rb, ro, hd, ob, x :: l⟩
theorem St.norm_eq {α : Type} (s : St) (k : St → α) : s.norm k = k s := by
  obtain ⟨tm, df, hp, nx, rb, ro, hd, ob, oc⟩ := s
  cases oc <;> cases nx <;> rfl
def flat0 : Value → Bool
  | .bool _ | .int _ _ | .string _ | .float _ _ | .complex _ _ _ => true
  | .pointer none | .slice none _ _ | .map none | .chan none | .nilFunc | .nilIface => true
  | .func (.func _) f c => f.toList.isEmpty && c.toList.isEmpty
  | _ => false
def flat1 : Value → Bool
  | .agg cs => cs.toList.all flat0
  | v => flat0 v
def flat : Value → Bool
  | .tuple vs => vs.toList.all flat1
  | v => flat1 v
def quiet {α : Type} (P : Program) : Sem α → Option α
  | .pure a => some a
  | .program k => quiet P (k P)
  | _ => none
def ev (s : St) : Operand → Option Value
  | .tmp t => some (getL s.tmps t)
  | .const v => if flat v then some v else none
  | .func f => some (.func (.func f) #[] #[])
  | .global _ => none
def evD (s : St) (x : Operand) : Value := (ev s x).getD undef
def evs (s : St) : List Operand → Option (List Value)
  | [] => some []
  | x :: l => (ev s x).bind fun v => (evs s l).bind fun r => some (v :: r)
abbrev OpR := Option (Value × St)
def doFlat (P : Program) (s : St) (o : Oper) : OpR :=
  if o.op.operands.toList.all (fun x => match ev s x with | some v => flat v | none => false) then
    match quiet P (execOp (evD s) o) with
    | some (.value v) => if flat v then some (v, s) else none
    | _ => none
  else none
def tsize (P : Program) (t : TypeId) : Option Nat := (P.info? t).bind fun i => some i.size
def isAggB (P : Program) (t : TypeId) : Option Bool :=
  match P.underlying t with
  | some (.struct _) | some (.array _ _) => some true
  | some _ => some false
  | none => none
def unaryA : List (Option Bool) → Nat → Option (Nat × List (Option Bool))
  | none :: l, n => unaryA l (n + 1)
  | some _ :: l, n => some (n, l)
  | [], _ => none
def rowPart (s : St) (n w : Nat) (g : Nat → List Value) (o k : Nat) : Option (List Value × St) :=
  match s.orc with
  | some false :: l => (unaryA l 0).bind fun r =>
    if r.1 + k ≤ w ∧ r.1 + k ≤ (g (o / w)).length then
      some (((g (o / w)).drop r.1).take k, { s with orc := r.2, obl := s.obl ∧ (o % w = r.1 ∧ o / w < n) })
    else none
  | _ => none
def Cells.read1 (s : St) : Cells → Nat → Option (Value × St)
  | .lit l, o => match l[o]? with | some v => some (v, s) | none => none
  | .fam n f, o => (s.need (o < n)).bind fun s => some (f o, s)
  | .rows n w g, o => (rowPart s n w g o 1).bind fun r => match r.1 with
    | v :: _ => some (v, r.2)
    | [] => none
  | .ints k l, o => (s.need (o < l.length)).bind fun s => some (.int k (l.getD o 0), s)
def famList (f : Nat → Value) : Nat → Nat → List Value
  | _, 0 => []
  | o, n + 1 => f o :: famList f (o + 1) n
def Cells.readN (s : St) : Cells → Nat → Nat → Option (List Value × St)
  | .lit l, o, n => if o + n ≤ l.length then some ((l.drop o).take n, s) else none
  | .fam m f, o, n => (s.need (o + n ≤ m)).bind fun s => some (famList f o n, s)
  | .rows m w g, o, n => rowPart s m w g o n
  | .ints k l, o, n => (s.need (o + n ≤ l.length)).bind fun s => some (famList (fun j => .int k (l.getD j 0)) o n, s)
def setAll (l : List Value) (o : Nat) : List Value → List Value
  | [] => l
  | v :: r => setAll (l.set o v) (o + 1) r
def putL (l : List Value) (o : Nat) : List Value → List Value
  | [] => l
  | [v] => l.set o v
  | v :: u :: r => l.take o ++ (v :: u :: r ++ l.drop (o + (r.length + 2)))
def famSet (f : Nat → Value) (o : Nat) : List Value → Nat → Value
  | [] => f
  | v :: r => famSet (fun j => if j = o then v else f j) (o + 1) r
def rowSet (g : Nat → List Value) (i c : Nat) (vs : List Value) (j : Nat) : List Value := match Nat.beq j i with
  | true => putL (g j) c vs
  | false => g j
def rowPut (s : St) (n w : Nat) (g : Nat → List Value) (o : Nat) (vs : List Value) : Option (Cells × St) :=
  match s.orc with
  | some false :: l => (unaryA l 0).bind fun r =>
    if r.1 + vs.length ≤ w ∧ r.1 + vs.length ≤ (g (o / w)).length then
      some (.rows n w (rowSet g (o / w) r.1 vs), { s with orc := r.2, obl := s.obl ∧ (o % w = r.1 ∧ o / w < n) })
    else none
  | _ => none
def Cells.write (s : St) : Cells → Nat → List Value → Option (Cells × St)
  | .lit l, o, vs => if o + vs.length ≤ l.length then some (.lit (putL l o vs), s) else none
  | .fam n f, o, vs => (s.need (o + vs.length ≤ n)).bind fun s => some (.fam n (famSet f o vs), s)
  | .rows n w g, o, vs => rowPut s n w g o vs
  | .ints k l, o, vs => (s.need (o + vs.length ≤ l.length)).bind fun s => (intsOf k vs).bind fun r => match r with
    | [n] => some (.ints k (l.set o n), s)
    | r => some (.ints k (layI l o r), s)
def isAbs : Option Nat → Bool
  | none => false
  | some g => Nat.ble 1000 g
def absMem (s : St) (g B : Nat) : Option Cells :=
  match s.heap.get 0 with
  | some (.fam F) => some (F g B)
  | _ => none
def absLoad (P : Program) (s : St) (t : TypeId) (g B o : Nat) : OpR :=
  if Nat.ble 1000 g then
    (absMem s g B).bind fun c =>
      match isAggB P t, tsize P t with
      | some true, some n => (c.readN s o n).bind fun r => some (.agg r.1.toArray, r.2)
      | some false, _ => c.read1 s o
      | _, _ => none
  else none
def doLoad (P : Program) (s : St) (t : TypeId) : Value → OpR
  | .pointer (some ⟨b, o, none⟩) =>
    match s.heap.get b with
    | some (.cells c _) =>
      match isAggB P t, tsize P t with
      | some true, some n => (c.readN s o n).bind fun r => some (.agg r.1.toArray, r.2)
      | some false, _ => c.read1 s o
      | _, _ => none
    | _ => none
  | .pointer (some ⟨b, o, some g⟩) => absLoad P s t g b o
  | _ => none
def St.may (s : St) (b : Nat) : Bool := decide (s.roB ≤ b) && !s.ro.contains b
def storeAll (s : St) (b o : Nat) (vs : List Value) : Option St :=
  if s.may b = true ∧ vs.all Value.oneCell' = true then
    match s.heap.get b with
    | some (.cells c t) => (c.write s o vs).bind fun r => r.2.setOb b (some (.cells r.1 t))
    | _ => none
  else none
def doStore (P : Program) (s : St) (t : TypeId) (a v : Value) : OpR :=
  match a with
  | .pointer (some ⟨b, o, none⟩) =>
    if some v.cells.toList.length = tsize P t then (storeAll s b o v.cells.toList).bind fun s => some (undef, s) else none
  | _ => none
def compact (l : List Value) : Cells := match l.drop 199 with
  | [] => .lit l
  | _ :: _ => match intsOf .u8 l with
    | some r => .ints .u8 r
    | none => .lit l
theorem intsOf_get {k : IntKind} : ∀ {l : List Value} {r : List Int}, intsOf k l = some r → ∀ (i : Nat), (r[i]?).map (Value.int k) = l[i]?
  | [], r, h, i => by simp only [intsOf, Option.some.injEq] at h; subst h; simp
  | v :: l, r, h, i => by
    cases v with
    | int k' n =>
      simp only [intsOf] at h
      split at h
      · rename_i hk
        subst hk
        cases hr : intsOf k' l with
        | none => rw [hr] at h; cases h
        | some q =>
          rw [hr] at h
          simp only [Option.bind_some, Option.some.injEq] at h
          subst h
          cases i with
          | zero => simp
          | succ i => simpa using intsOf_get hr i
      · cases h
    | _ => simp [intsOf] at h
theorem compact_get {l : List Value} {i : Nat} {v : Value} (h : (compact l).get i = some v) : l[i]? = some v := by
  unfold compact at h
  split at h
  · simpa [Cells.get] using h
  · split at h
    · rename_i r hr
      simp only [Cells.get] at h
      rw [← h, intsOf_get hr]
    · simpa [Cells.get] using h
def newCells (s : St) (t : TypeId) (l : List Value) : OpR :=
  (s.alloc (.cells (compact l) t)).bind fun r => some (.pointer (some ⟨r.1, 0, none⟩), r.2)
def zeroOf (P : Program) (t : TypeId) : Option Value := (P.info? t).bind fun i => i.zero
def doFieldAddr (P : Program) (s : St) (t : TypeId) (x : Value) (f : Nat) : OpR :=
  match P.underlying t, x with
  | some (.struct fs), .pointer (some ⟨b, o, none⟩) =>
    match fs[f]? with
    | some fd => match tsize P fd.type with
      | some (_ + 1) => some (.pointer (some ⟨b, o + fd.offset, none⟩), s)
      | _ => none
    | none => none
  | some (.struct fs), .pointer (some ⟨b, o, some g⟩) =>
    match fs[f]? with
    | some fd => match tsize P fd.type with
      | some (_ + 1) => if Nat.ble 1000 g then some (.pointer (some ⟨b, o + fd.offset, some g⟩), s) else none
      | _ => none
    | none => none
  | _, _ => none
def intVal : Value → Option Int
  | .int _ n => some n
  | _ => none
def doIndexAddr (P : Program) (s : St) (t : TypeId) (x ix : Value) : OpR :=
  match intVal ix with
  | none => none
  | some i =>
    match P.underlying t, x with
    | some (.array len elem), .pointer (some ⟨b, o, none⟩) =>
      match tsize P elem with
      | some n => (s.need (0 ≤ i ∧ i < (len : Int))).bind fun s => some (.pointer (some ⟨b, o + i.toNat * n, none⟩), s)
      | none => none
    | some (.slice elem), .slice (some ⟨b, o, g⟩) len _ =>
      match tsize P elem with
      | some n => (s.need (0 ≤ i ∧ i < (len : Int))).bind fun s => some (.pointer (some ⟨b, o + i.toNat * n, if isAbs g then g else none⟩), s)
      | none => none
    | _, _ => none
def optInt : Option Value → Int → Option Int
  | none, d => some d
  | some v, _ => intVal v
def growFits : Option Nat → Nat → Bool
  | none, _ => true
  | some g, n => if Nat.ble 1000 g then true else g == n
def cutSlice (P : Program) (s : St) (lo hi : Option Value) (b o : Nat) (g : Option Nat) (len cap elem : Nat) : OpR :=
  match optInt lo 0, optInt hi len, tsize P elem with
  | some l, some h, some n =>
    if growFits g n then
      (s.need (0 ≤ h ∧ h ≤ (cap : Int) ∧ 0 ≤ l ∧ l ≤ h)).bind fun s =>
        some (.slice (some ⟨b, o + l.toNat * n, g⟩) (h.toNat - l.toNat) (cap - l.toNat), s)
    else none
  | _, _, _ => none
def cutSlice3 (P : Program) (s : St) (lo hi mx : Option Value) (b o : Nat) (g : Option Nat) (cap elem : Nat) : OpR :=
  match optInt lo 0, hi.bind intVal, mx.bind intVal, tsize P elem with
  | some l, some h, some m, some n =>
    if growFits g n then
      (s.need (0 ≤ m ∧ m ≤ (cap : Int) ∧ 0 ≤ h ∧ h ≤ m ∧ 0 ≤ l ∧ l ≤ h)).bind fun s =>
        some (.slice (some ⟨b, o + l.toNat * n, if isAbs g then g else none⟩) (h.toNat - l.toNat) (m.toNat - l.toNat), s)
    else none
  | _, _, _, _ => none
def doSlice3 (P : Program) (s : St) (t : TypeId) (x : Value) (lo hi mx : Option Value) : OpR :=
  match P.underlying t, x with
  | some (.slice elem), .slice (some ⟨b, o, g⟩) _ cap => cutSlice3 P s lo hi mx b o g cap elem
  | _, _ => none
def doSlice (P : Program) (s : St) (t : TypeId) (x : Value) (lo hi : Option Value) : OpR :=
  match P.underlying t, x with
  | some (.array n elem), .pointer (some ⟨b, o, none⟩) => cutSlice P s lo hi b o none n n elem
  | some (.slice elem), .slice (some ⟨b, o, g⟩) len cap => cutSlice P s lo hi b o g len cap elem
  | _, _ => none
end
end Go.Cln
