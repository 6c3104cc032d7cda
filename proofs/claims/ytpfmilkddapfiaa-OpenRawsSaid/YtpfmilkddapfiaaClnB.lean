/- A determinate reading of Go's code: operations, regions, calls. -/
import Derived.Test.YtpfmilkddapfiaaClnA
namespace Go.Cln
set_option linter.unusedVariables false
set_option linter.unusedSimpArgs false
set_option linter.deprecated false
noncomputable section
def srcCells (s : St) (size n : Nat) : Value → Option (List Value × St)
  | .slice (some ⟨b, o, g⟩) _ _ =>
    if n = 0 then some ([], s) else
    if isAbs g then (absMem s (g.getD 0) b).bind fun c => c.readN s o (n * size) else
    match s.heap.get b with
    | some (.cells c _) => c.readN s o (n * size)
    | _ => none
  | .slice none _ _ => if n = 0 then some ([], s) else none
  | .string t => some (((t.extract 0 n).data.map fun b => Value.int .u8 b.toNat).toList, s)
  | _ => none
def lenV : Value → Option Nat
  | .slice _ n _ => some n
  | .string s => some s.size
  | _ => none
def mostBytes : Nat := 35184372088832
def newRowOf (s : St) (elem : TypeId) (size : Nat) (l : List Value) (n : Nat) : OpR :=
  if Nat.ble 1000 size then none else (s.alloc (.cells (.lit l) elem)).bind fun k => some (.slice (some ⟨k.1, 0, some size⟩) n n, k.2)
def appendIn (s : St) (size sLen sCap n : Nat) (base : Option Addr) (x : Value) : OpR :=
  (srcCells s size n x).bind fun r =>
    match base with
    | none => some (.slice none (sLen + n) sCap, r.2)
    | some ⟨b, o, g⟩ => if r.1.isEmpty then some (.slice (some ⟨b, o, g⟩) (sLen + n) sCap, r.2) else
      if growFits g size then (storeAll r.2 b (o + sLen * size) r.1).bind fun s => some (.slice (some ⟨b, o, g⟩) (sLen + n) sCap, s) else none
def appendNew (s : St) (elem : TypeId) (size sLen sCap n : Nat) (base : Option Addr) (x : Value) : OpR :=
  (srcCells s size n x).bind fun r =>
    match base with
    | none => if sCap = 0 ∧ sLen = 0 then newRowOf r.2 elem size r.1 n else none
    | some ⟨b, o, g⟩ =>
      match g with
      | none => (srcCells r.2 size sLen (.slice (some ⟨b, o, none⟩) sLen sCap)).bind fun q => newRowOf q.2 elem size (q.1 ++ r.1) (sLen + n)
      | some z =>
        if z = size ∧ s.may b = true ∧ r.1.all Value.oneCell' = true then
          match r.2.heap.get b with
          | some (.cells c _) => (c.readN r.2 o (sLen * size)).bind fun q =>
            (q.2.setOb b none).bind fun s => newRowOf s elem size (q.1 ++ r.1) (sLen + n)
          | _ => none
        else none
def isIntD : TypeDesc → Bool
  | .int _ => true
  | _ => false
def zeroBad (i : TypeInfo) : Bool := match i.zero with | some z => z.cells.toList.length != i.size | none => true
def isStr : Value → Bool
  | .string _ => true
  | _ => false
def appendBad (xd : TypeDesc) (i : TypeInfo) (x : Value) : Bool := isIntD xd || zeroBad i || i.size == 0 || (isStr x && i.size != 1)
def zeroRow (z : List Value) : Nat → List Value
  | 0 => []
  | n + 1 => zeroRow z n ++ z
def growMark : List (Option Bool) → Option (List (Option Bool))
  | some false :: none :: some false :: none :: l => some l
  | _ => none
def absB : Option Addr → Bool
  | some ⟨_, _, g⟩ => isAbs g
  | none => false
def doAppend (P : Program) (s : St) (argTypes : Array TypeId) : List Value → OpR
  | [.slice base sLen sCap, x] =>
    if absB base then none else
    match argTypes[0]?, argTypes[1]? with
    | some st, some xt =>
      match P.underlying st with
      | some (.slice elem) =>
        match P.info? elem, lenV x, P.underlying xt with
        | some i, some n, some xd =>
          if appendBad xd i x = true then none
          else match growMark s.orc with
          | some l => appendNew { s with orc := l, obl := s.obl ∧ (sCap < sLen + n ∧ (sLen + n) * i.bytes ≤ mostBytes ∧ sLen + n ≤ mostBytes) } elem i.size sLen sCap n base x
          | none =>
          if sLen + n ≤ sCap then appendIn s i.size sLen sCap n base x
          else if (sLen + n) * i.bytes ≤ mostBytes ∧ sLen + n ≤ mostBytes then appendNew s elem i.size sLen sCap n base x
          else none
        | _, _, _ => none
      | _ => none
    | _, _ => none
  | _ => none
def doZeroes (P : Program) (s : St) (argTypes : Array TypeId) : List Value → OpR
  | [.slice none 0 0, .int _ l] =>
    match argTypes[0]?, argTypes[1]? with
    | some st, some xt =>
      match P.underlying st, P.underlying xt with
      | some (.slice elem), some (.int _) =>
        match P.info? elem with
        | some i =>
          match i.zero with
          | some z =>
            if z.cells.toList.length = i.size ∧ i.size ≠ 0 ∧ 1 ≤ IntKind.i64.wrap l ∧ (IntKind.i64.wrap l).toNat * i.bytes ≤ mostBytes ∧ (IntKind.i64.wrap l).toNat ≤ mostBytes then
              newRowOf s elem i.size (zeroRow z.cells.toList (IntKind.i64.wrap l).toNat) (IntKind.i64.wrap l).toNat
            else none
          | none => none
        | none => none
      | _, _ => none
    | _, _ => none
  | _ => none
def doCopy (P : Program) (s : St) (argTypes : Array TypeId) : List Value → OpR
  | [.slice base dLen _, src] =>
    if absB base then none else
    match argTypes[0]? with
    | some dt =>
      match P.underlying dt, lenV src with
      | some (.slice elem), some m =>
        match tsize P elem with
        | some size =>
          let n := Nat.min m dLen
          (srcCells s size n src).bind fun r =>
            match base with
            | none => some (goInt n, r.2)
            | some ⟨b, o, _⟩ => if r.1.isEmpty then some (goInt n, r.2) else (storeAll r.2 b o r.1).bind fun s => some (goInt n, s)
        | none => none
      | _, _ => none
    | none => none
  | _ => none
def doLen (P : Program) (s : St) (argTypes : Array TypeId) : List Value → OpR
  | [.slice (some _) n _] =>
    match argTypes[0]? with
    | some t => match P.underlying t with | some (.slice _) => some (goInt n, s) | _ => none
    | none => none
  | _ => none
def doClear (P : Program) (s : St) (argTypes : Array TypeId) : List Value → OpR
  | [.slice (some ⟨b, o, g⟩) n _] =>
    if isAbs g then none else
    match argTypes[0]? with
    | some t => match P.underlying t with
      | some (.slice elem) =>
        if n = 0 then some (.tuple #[], s) else
        match zeroOf P elem with
        | some z => (storeAll s b o (Builtin.zeroCells z.cells n).toList).bind fun s => some (.tuple #[], s)
        | none => none
      | _ => none
    | none => none
  | _ => none
def doMakeSlice (P : Program) (s : St) (t : TypeId) (l c : Value) : OpR :=
  match P.underlying t, intVal l, intVal c with
  | some (.slice elem), some l, some c =>
    match P.info? elem with
    | some i => match i.zero with
      | some z => if z.cells.toList.length = i.size ∧ i.size ≠ 0 then
          (s.need (0 ≤ l ∧ l ≤ c ∧ (i.bytes : Int) * c ≤ 35184372088832 ∧ c ≤ 35184372088832)).bind fun s1 =>
            (s1.alloc (.cells (match z.cells.toList, s.orc with
              | [v], some false :: _ => .fam c.toNat fun _ => v
              | [.int k n], some true :: _ => .ints k (List.replicate c.toNat n)
              | _, _ => .lit (zeroRow z.cells.toList c.toNat)) elem)).bind fun r =>
              some (.slice (some ⟨r.1, 0, none⟩) l.toNat c.toNat, r.2)
        else none
      | none => none
    | none => none
  | _, _, _ => none
def fillL (place : Nat → Option (Nat × Nat)) (cells : List Value) : List (Nat × Value) → Option (List Value)
  | [] => some cells
  | (i, v) :: rest =>
    match place i with
    | none => none
    | some (off, size) =>
      if v.cells.toList.length ≠ size ∨ cells.length < off + v.cells.toList.length then none
      else fillL place (setAll cells off v.cells.toList) rest
def evParts (s : St) : List (Nat × Operand) → Option (List (Nat × Value))
  | [] => some []
  | (i, x) :: l => (ev s x).bind fun v => (evParts s l).bind fun r => some ((i, v) :: r)
def fieldPlaces (P : Program) : List Field → Option (List (Nat × Nat))
  | [] => some []
  | f :: l => (tsize P f.type).bind fun n => (fieldPlaces P l).bind fun r => some ((f.offset, n) :: r)
def doBuild (P : Program) (s : St) (t : TypeId) (parts : List (Nat × Operand)) : OpR :=
  (zeroOf P t).bind fun z => (evParts s parts).bind fun vs =>
    match P.underlying t with
    | some (.struct fs) => (fieldPlaces P fs.toList).bind fun ps => (fillL (fun i => ps[i]?) z.cells.toList vs).bind fun l => some (.agg l.toArray, s)
    | some (.array _ elem) => (tsize P elem).bind fun n => (fillL (fun i => some (i * n, n)) z.cells.toList vs).bind fun l => some (.agg l.toArray, s)
    | _ => none
def doBuildSlice (P : Program) (s : St) (t : TypeId) (len : Nat) (parts : List (Nat × Operand)) : OpR :=
  match P.underlying t with
  | some (.slice elem) =>
    match P.info? elem with
    | some i => match i.zero with
      | some z => if z.cells.toList.length = i.size ∧ i.size ≠ 0 ∧ len * i.size ≤ 16777216 then
          (evParts s parts).bind fun vs => (fillL (fun k => some (k * i.size, i.size)) (zeroRow z.cells.toList len) vs).bind fun l =>
            (s.alloc (.cells (.lit l) elem)).bind fun r => some (.slice (some ⟨r.1, 0, none⟩) len len, r.2)
        else none
      | none => none
    | none => none
  | _ => none
def partL (P : Program) (t : TypeId) (cs : List Value) (off : Nat) : Option Value :=
  match isAggB P t, tsize P t with
  | some true, some n => some (.agg ((cs.drop off).take n).toArray)
  | some false, _ => cs[off]?
  | _, _ => none
def doField (P : Program) (s : St) (t : TypeId) (x : Value) (f : Nat) : OpR :=
  match P.underlying t, x with
  | some (.struct fs), .agg cs =>
    match fs[f]? with
    | some fd => (partL P fd.type cs.toList fd.offset).bind fun v => some (v, s)
    | none => none
  | _, _ => none
def doIndex (P : Program) (s : St) (t : TypeId) (x ix : Value) : OpR :=
  match P.underlying t, x, intVal ix with
  | some (.array len elem), .agg cs, some i =>
    match tsize P elem with
    | some n => (s.need (0 ≤ i ∧ i < (len : Int))).bind fun s => (partL P elem cs.toList (i.toNat * n)).bind fun v => some (v, s)
    | none => none
  | _, _, _ => none
def doExtract (s : St) (x : Value) (i : Nat) : OpR :=
  match x with
  | .tuple vs => match vs.toList[i]? with | some v => some (v, s) | none => none
  | _ => none
def byteOfV : Value → Option UInt8
  | .int .u8 n => some (UInt8.ofNat n.toNat)
  | _ => none
def bytesOfV : List Value → Option (List UInt8)
  | [] => some []
  | v :: l => (byteOfV v).bind fun b => (bytesOfV l).bind fun r => some (b :: r)
def doConvert (P : Program) (s : St) (src dst : TypeId) (x : Value) : OpR :=
  match P.underlying src, P.underlying dst, x with
  | some (.slice e), some .string, .slice (some ⟨b, o, g⟩) len _ =>
    match P.underlying e with
    | some (.int .u8) =>
      if len = 0 then some (.string ⟨#[]⟩, s) else
      if isAbs g then (absMem s (g.getD 0) b).bind fun c => (c.readN s o len).bind fun r => (bytesOfV r.1).bind fun l => some (.string ⟨l.toArray⟩, r.2) else
      match s.heap.get b with
      | some (.cells c _) => (c.readN s o len).bind fun r => (bytesOfV r.1).bind fun l => some (.string ⟨l.toArray⟩, r.2)
      | _ => none
    | _ => none
  | some .string, some (.slice e), .string t =>
    match P.underlying e with
    | some (.int .u8) =>
      newRowOf s e 1 (t.data.map fun b => Value.int .u8 b.toNat).toList t.size
    | _ => none
  | some (.slice _), some (.slice e), .slice (some ⟨b, o, g⟩) len cap =>
    if isAbs g then none else
    match P.underlying e, s.heap.get b with
    | some (.int .u8), some (.cells _ _) => if src = dst ∧ s.may b = true ∧ len ≠ 0 then some (.slice (some ⟨b, o, g⟩) len cap, s) else none
    | _, _ => none
  | _, _, _ => none
def bytesI (l : List Int) : ByteArray := ⟨(l.map fun x => UInt8.ofNat x.toNat).toArray⟩
def intsS (t : ByteArray) : List Int := t.data.toList.map fun b => (b.toNat : Int)
def isInts (s : St) : Value → Bool
  | .slice (some ⟨b, o, g⟩) _ _ =>
    if isAbs g then (match absMem s (g.getD 0) b with
      | some (.ints _ _) => true
      | _ => false) else
    match s.heap.get b with
    | some (.cells (.ints _ _) _) => true
    | _ => false
  | _ => false
def absI (s : St) (k : IntKind) (g B o n : Nat) : Option (List Int × Prop) :=
  match absMem s g B with
  | some (.ints k' l) => if k' = k then some ((l.drop o).take n, n = 0 ∨ o + n ≤ l.length) else none
  | _ => none
def blockI (s : St) (k : IntKind) (b : Nat) : Option (List Int × TypeId) := match s.heap.get b with
  | some (.cells (.ints k' l) t) => if k' = k then some (l, t) else none
  | some (.cells (.lit vs) t) => (intsOf k vs).bind fun l => some (l, t)
  | _ => none
def softSrc (s : St) (k : IntKind) (n : Nat) : Value → Option (List Int × Prop)
  | .slice (some ⟨b, o, g⟩) _ _ => if isAbs g then absI s k (g.getD 0) b o n else match blockI s k b with
    | some l => some ((l.1.drop o).take n, o + n ≤ l.1.length)
    | none => match n with
      | 0 => some ([], True)
      | _ + 1 => none
  | .slice none _ _ => some ([], n = 0)
  | .string t => if k = .u8 then some ((intsS t).take n, True) else none
  | _ => none
def St.and (s : St) (p : Prop) : St := { s with obl := s.obl ∧ p }
def softNew (s : St) (elem : TypeId) (k : IntKind) (l : List Int) (n : Nat) : OpR :=
  (s.alloc (.cells (.ints k l) elem)).bind fun r => some (.slice (some ⟨r.1, 0, some 1⟩) n n, r.2)
def softZeroes (P : Program) (s : St) (argTypes : Array TypeId) : List Value → OpR
  | [.slice none 0 0, .int _ l] =>
    match s.orc with
    | some true :: lo =>
      match argTypes[0]?, argTypes[1]? with
      | some st, some xt =>
        match P.underlying st, P.underlying xt with
        | some (.slice elem), some (.int _) =>
          match P.info? elem with
          | some i =>
            match i.zero with
            | some (.int k z) =>
              if i.size = 1 then
                softNew (({ s with orc := lo } : St).and (1 ≤ IntKind.i64.wrap l ∧ (IntKind.i64.wrap l).toNat * i.bytes ≤ mostBytes ∧ (IntKind.i64.wrap l).toNat ≤ mostBytes)) elem k (List.replicate (IntKind.i64.wrap l).toNat z) (IntKind.i64.wrap l).toNat
              else none
            | _ => none
          | none => none
        | _, _ => none
      | _, _ => none
    | _ => none
  | _ => none
def softAppendTo (s : St) (elem : TypeId) (k : IntKind) (bytes sLen sCap n : Nat) (base : Option Addr) (r : List Int × Prop) : OpR :=
  match base with
  | none => (s.branch (decide (n = 0))).bind fun e =>
    if e.1 then some (.slice none 0 0, e.2.and (sLen = 0 ∧ sCap = 0 ∧ r.2))
    else softNew (e.2.and (sLen = 0 ∧ sCap = 0 ∧ r.2 ∧ n * bytes ≤ mostBytes ∧ n ≤ mostBytes)) elem k r.1 n
  | some ⟨b, o, g⟩ => (s.branch (decide (sLen + n ≤ sCap))).bind fun e =>
    if e.1 then
      if growFits g 1 && s.may b then
        (blockI s k b).bind fun l => ((e.2.and (r.2 ∧ o + sLen + n ≤ l.1.length)).setOb b (some (.cells (.ints k (layI l.1 (o + sLen) r.1)) l.2))).bind fun s1 =>
          some (.slice (some ⟨b, o, g⟩) (sLen + n) sCap, s1)
      else some (.slice (some ⟨b, o, g⟩) (sLen + n) sCap, e.2.and (r.2 ∧ n = 0))
    else (blockI s k b).bind fun l =>
      match g with
      | none => softNew (e.2.and (r.2 ∧ o + sLen ≤ l.1.length ∧ (sLen + n) * bytes ≤ mostBytes ∧ sLen + n ≤ mostBytes)) elem k ((l.1.drop o).take sLen ++ r.1) (sLen + n)
      | some z => if z == 1 && s.may b then ((e.2.and (r.2 ∧ o + sLen ≤ l.1.length ∧ (sLen + n) * bytes ≤ mostBytes ∧ sLen + n ≤ mostBytes)).setOb b none).bind fun s1 =>
          softNew s1 elem k ((l.1.drop o).take sLen ++ r.1) (sLen + n)
        else none
def softApp0 (gd : Unit → Bool) (P : Program) (s : St) (argTypes : Array TypeId) : List Value → OpR
  | [.slice base sLen sCap, x] =>
    if absB base then none else
    if gd () then
      match argTypes[0]?, argTypes[1]? with
      | some st, some xt =>
        match P.underlying st with
        | some (.slice elem) =>
          match P.info? elem, lenV x, P.underlying xt, P.underlying elem with
          | some i, some n, some xd, some (.int k) =>
            if appendBad xd i x || i.size != 1 then none
            else (softSrc s k n x).bind fun r => softAppendTo s elem k i.bytes sLen sCap n base r
          | _, _, _, _ => none
        | _ => none
      | _, _ => none
    else none
  | _ => none
def intsIn (s : St) : List Value → Bool
  | [.slice base sLen sCap, x] => isInts s (.slice base sLen sCap) || isInts s x
  | _ => false
def softAppend (P : Program) (s : St) (argTypes : Array TypeId) (vs : List Value) : OpR := softApp0 (fun _ => intsIn s vs) P s argTypes vs
def softAppZ (P : Program) (s : St) (argTypes : Array TypeId) : List Value → OpR
  | [.slice base sLen sCap, .int _ l] =>
    match s.orc with
    | some true :: lo =>
      if absB base then none else
        match argTypes[0]?, argTypes[1]? with
        | some st, some xt =>
          match P.underlying st, P.underlying xt, P.underlying 9 with
          | some (.slice elem), some (.int _), some .string =>
            match P.info? elem, P.underlying elem with
            | some i, some (.int .u8) =>
              match i.zero with
              | some (.int .u8 0) =>
                if i.size = 1 then
                  softAppendTo (({ s with orc := lo } : St).and (0 ≤ IntKind.i64.wrap l ∧ (sLen + (IntKind.i64.wrap l).toNat) * i.bytes ≤ mostBytes ∧ sLen + (IntKind.i64.wrap l).toNat ≤ mostBytes)) elem .u8 i.bytes sLen sCap (IntKind.i64.wrap l).toNat base
                    (List.replicate (IntKind.i64.wrap l).toNat 0, True)
                else none
              | _ => none
            | _, _ => none
          | _, _, _ => none
        | _, _ => none
    | _ => none
  | _ => none
def runK (k : IntKind) : List Value → Nat → Nat × Nat
  | [], i => (i, i)
  | v :: l, i => match v with
    | .int k' _ => if k' = k then (i, runEnd k l (i + 1)) else runK k l (i + 1)
    | _ => runK k l (i + 1)
where runEnd (k : IntKind) : List Value → Nat → Nat
  | [], i => i
  | v :: l, i => match v with
    | .int k' _ => if k' = k then runEnd k l (i + 1) else i
    | _ => i
def layV (k : IntKind) (lo hi o n : Nat) (r : List Int) : List Value → Nat → List Value
  | [], _ => []
  | v :: l, j => (if lo ≤ j ∧ j < hi then (match v with
      | .int _ x => .int k (if o ≤ j ∧ j < o + n then r.getD (j - o) 0 else x)
      | v => v) else v) :: layV k lo hi o n r l (j + 1)
def softCopy (P : Program) (s : St) (argTypes : Array TypeId) : List Value → OpR
  | [.slice (some ⟨b, o, g⟩) dLen dCap, src] =>
    if isAbs g then none else
    if isInts s (.slice (some ⟨b, o, g⟩) dLen dCap) || isInts s src then
      match argTypes[0]? with
      | some dt =>
        match P.underlying dt, lenV src with
        | some (.slice elem), some m =>
          match tsize P elem, P.underlying elem with
          | some 1, some (.int k) =>
            (softSrc s k (Nat.min m dLen) src).bind fun r =>
              if s.may b then
                match s.heap.get b with
                | some (.cells (.ints k' l) t) => if k' = k then
                    ((s.and (r.2 ∧ o + Nat.min m dLen ≤ l.length)).setOb b (some (.cells (.ints k (layI l o r.1)) t))).bind fun s1 => some (goInt (Nat.min m dLen), s1)
                  else none
                | some (.cells (.lit vs) t) =>
                  ((s.and (r.2 ∧ (runK k vs 0).1 ≤ o ∧ o + Nat.min m dLen ≤ (runK k vs 0).2)).setOb b (some (.cells (.lit (layV k (runK k vs 0).1 (runK k vs 0).2 o (Nat.min m dLen) r.1 vs 0)) t))).bind fun s1 => some (goInt (Nat.min m dLen), s1)
                | _ => none
              else none
          | _, _ => none
        | _, _ => none
      | none => none
    else none
  | _ => none
def softClear (P : Program) (s : St) (argTypes : Array TypeId) : List Value → OpR
  | [.slice (some ⟨b, o, g⟩) n c] =>
    if isAbs g then none else
    match s.heap.get b, argTypes[0]? with
    | some (.cells (.ints k l) t), some at0 =>
      match P.underlying at0 with
      | some (.slice elem) => match zeroOf P elem with
        | some (.int k' z) => if k' = k ∧ s.may b = true then
            ((s.and (o + n ≤ l.length)).setOb b (some (.cells (.ints k (layI l o (List.replicate n z))) t))).bind fun s1 => some (.tuple #[], s1)
          else none
        | _ => none
      | _ => none
    | _, _ => none
  | _ => none
def softConvert (P : Program) (s : St) (src dst : TypeId) (x : Value) : OpR :=
  match x with
  | .slice (some ⟨b, o, g⟩) len _ =>
    if isAbs g then
      match P.underlying src, P.underlying dst with
      | some (.slice e), some .string => match P.underlying e with
        | some (.int .u8) => (absI s .u8 (g.getD 0) b o len).bind fun r => some (.string (bytesI r.1), s.and r.2)
        | _ => none
      | _, _ => none
    else
    match s.heap.get b with
    | some (.cells (.ints .u8 l) _) =>
      match P.underlying src, P.underlying dst with
      | some (.slice e), some .string => match P.underlying e with
        | some (.int .u8) => some (.string (bytesI ((l.drop o).take len)), s.and (o + len ≤ l.length))
        | _ => none
      | _, _ => none
    | _ => none
  | .string t =>
    match s.orc with
    | some true :: lo =>
      match P.underlying src, P.underlying dst with
      | some .string, some (.slice e) => match P.underlying e with
        | some (.int .u8) => ({ s with orc := lo }.alloc (.cells (.ints .u8 (intsS t)) e)).bind fun k => some (.slice (some ⟨k.1, 0, some 1⟩) t.size t.size, k.2)
        | _ => none
      | _, _ => none
    | _ => none
  | _ => none
def doEq (P : Program) (s : St) (neg : Bool) (t : TypeId) (x y : Value) : OpR :=
  let is (b : Bool) : OpR := some (.bool (if neg then !b else b), s)
  match P.underlying t, x, y with
  | some (.pointer _), .pointer none, .pointer (some _) => is false
  | some (.pointer _), .pointer (some _), .pointer none => is false
  | some (.slice _), .slice none _ _, .slice (some a) _ _ => if isAbs a.spot then none else is false
  | some (.slice _), .slice (some a) _ _, .slice none _ _ => if isAbs a.spot then none else is false
  | some (.func _ _ _), .nilFunc, .func _ _ _ => is false
  | some (.func _ _ _), .func _ _ _, .nilFunc => is false
  | some (.map _ _), .map none, .map (some _) => is false
  | some (.map _ _), .map (some _), .map none => is false
  | _, _, _ => none
def softNil (P : Program) (s : St) (neg : Bool) (t : TypeId) (x y : Value) : OpR :=
  match P.underlying t with
  | some (.slice _) => (match x with
    | .slice (some a) n c => (match y with
      | .slice none _ _ => if isAbs a.spot then some (.bool (if neg then !false else false), s.and (0 < n ∨ 0 < c)) else none
      | _ => none)
    | _ => none)
  | _ => none
def isMapT (P : Program) (ts : Array TypeId) : Bool :=
  match ts[0]? with
  | some t => match P.underlying t with
    | some (.map _ _) => true
    | _ => false
  | none => false
def basicD : TypeDesc → Bool
  | .int _ | .string | .bool => true
  | _ => false
def findN (kd : TypeDesc) (k : Value) : List MapEntry → Nat → St → Option (Option Nat × St)
  | [], _, s => some (none, s)
  | e :: es, i, s =>
    match Instr.sameNow kd k e.key with
    | some b => (s.branch b).bind fun r => if r.1 then some (some i, r.2) else findN kd k es (i + 1) r.2
    | none => none
def findA (P : Program) (kt : TypeId) (k : Value) : List MapEntry → Nat → St → Option (Option Nat × St)
  | [], _, s => some (none, s)
  | e :: es, i, s =>
    match quiet P (Op.equal kt k e.key) with
    | some b => (s.branch b).bind fun r => if r.1 then some (some i, r.2) else findA P kt k es (i + 1) r.2
    | none => none
def findC (P : Program) (kt : TypeId) (k : Value) (es : List MapEntry) (s : St) : Option (Option Nat × St) :=
  match P.underlying kt with
  | some kd =>
    if basicD kd then findN kd k es 0 s else
    match es with
    | [] => some (none, s)
    | e :: _ => if (Instr.sameNow kd k e.key).isNone then findA P kt k es 0 s else none
  | none => none
def keyOk (P : Program) (empty : Bool) (kt : TypeId) (k : Value) : Bool := flat1 k && (quiet P (Instr.checkKey empty 10000 kt k)).isSome
def entries (s : St) : Value → Option (List MapEntry)
  | .map none => some []
  | .map (some b) => match s.heap.get b with
    | some (.map es _) => some es
    | _ => none
  | _ => none
def withOk (commaOk : Bool) (v : Value) (b : Bool) : Value := if commaOk then .tuple #[v, .bool b] else v
def doLookup (P : Program) (s : St) (xt : TypeId) (x k : Value) (commaOk : Bool) : OpR :=
  match P.underlying xt, entries s x with
  | some (.map kt et), some es =>
    if keyOk P es.isEmpty kt k then
      (findC P kt k es s).bind fun r =>
        match r.1 with
        | some j => (es[j]?).bind fun e => some (withOk commaOk e.val true, r.2)
        | none => (zeroOf P et).bind fun z => some (withOk commaOk z false, r.2)
    else none
  | _, _ => none
def mapAt (s : St) : Value → Option (Nat × List MapEntry × Nat)
  | .map (some b) => if s.may b then match s.heap.get b with
    | some (.map es clock) => some (b, es, clock)
    | _ => none
    else none
  | _ => none
def doMapUpdate (P : Program) (s : St) (mt : TypeId) (m k v : Value) : OpR :=
  match P.underlying mt, mapAt s m with
  | some (.map kt _), some (b, es, clock) =>
    if keyOk P false kt k then
      (findC P kt k es s).bind fun r =>
        match r.1 with
        | some j => (es[j]?).bind fun e => (r.2.need (Instr.sameBits 10000 e.key k = true)).bind fun s1 =>
          (s1.setOb b (some (.map (es.set j { e with key := k, val := v }) clock))).bind fun s2 => some (undef, s2)
        | none => (r.2.setOb b (some (.map (es ++ [{ key := k, val := v, born := clock }]) (clock + 1)))).bind fun s2 => some (undef, s2)
    else none
  | _, _ => none
def doMapEntry (P : Program) (s : St) (mt : TypeId) (m k : Value) : OpR :=
  match P.underlying mt, mapAt s m with
  | some (.map kt et), some (b, es, clock) =>
    if keyOk P false kt k then
      (findC P kt k es s).bind fun r =>
        match r.1 with
        | some j => (es[j]?).bind fun e => (r.2.need (Instr.sameBits 10000 e.key k = true)).bind fun s1 =>
          (s1.setOb b (some (.map (es.set j { e with key := k }) clock))).bind fun s2 => some (.tuple #[e.val, goInt e.born], s2)
        | none => (zeroOf P et).bind fun z => (r.2.setOb b (some (.map (es ++ [{ key := k, val := z, born := clock }]) (clock + 1)))).bind fun s2 => some (.tuple #[z, goInt clock], s2)
    else none
  | _, _ => none
def bornAt (n : Int) : List MapEntry → Nat → Option Nat
  | [], _ => none
  | e :: es, i => if (e.born : Int) == n then some i else bornAt n es (i + 1)
def doEntryStore (s : St) (m stamp v : Value) : OpR :=
  match mapAt s m, intVal stamp with
  | some (b, es, clock), some n =>
    (bornAt n es 0).bind fun j => (es[j]?).bind fun e =>
      (s.setOb b (some (.map (es.set j { e with val := v }) clock))).bind fun s2 => some (undef, s2)
  | _, _ => none
def doDelete (P : Program) (s : St) (argTypes : Array TypeId) : List Value → OpR
  | [m, k] =>
    match argTypes[0]? with
    | some mt => match P.underlying mt, mapAt s m with
      | some (.map kt _), some (b, es, clock) =>
        if keyOk P es.isEmpty kt k then
          (findC P kt k es s).bind fun r =>
            match r.1 with
            | some j => (r.2.setOb b (some (.map (es.eraseIdx j) clock))).bind fun s2 => some (.tuple #[], s2)
            | none => some (.tuple #[], r.2)
        else none
      | _, _ => none
    | none => none
  | _ => none
def doLenMap (s : St) : List Value → OpR
  | [x] => (entries s x).bind fun es => some (goInt es.length, s)
  | _ => none
def doMakeMap (s : St) (reserve : Option (Option Value)) : OpR :=
  match reserve with
  | none => (s.alloc (.map [] 0)).bind fun r => some (.map (some r.1), r.2)
  | _ => none
def eqFieldsC (P : Program) (r : TypeId → Value → Value → St → Option (Bool × St)) (xs ys : List Value) : List Field → St → Option (Bool × St)
  | [], s => some (true, s)
  | f :: fs, s =>
    if f.name = "_" then eqFieldsC P r xs ys fs s else
    match partL P f.type xs f.offset, partL P f.type ys f.offset with
    | some a, some b => (r f.type a b s).bind fun q => if q.1 then eqFieldsC P r xs ys fs q.2 else some (false, q.2)
    | _, _ => none
def eqRowsC (P : Program) (r : TypeId → Value → Value → St → Option (Bool × St)) (elem : TypeId) (z : Nat) (xs ys : List Value) : List Nat → St → Option (Bool × St)
  | [], s => some (true, s)
  | i :: l, s =>
    match partL P elem xs (i * z), partL P elem ys (i * z) with
    | some a, some b => (r elem a b s).bind fun q => if q.1 then eqRowsC P r elem z xs ys l q.2 else some (false, q.2)
    | _, _ => none
def eqV (P : Program) : Nat → TypeId → Value → Value → St → Option (Bool × St)
  | 0, _, _, _, _ => none
  | n + 1, t, x, y, s =>
    match P.underlying t with
    | none => none
    | some d =>
      match Instr.sameNow d x y with
      | some r => s.branch r
      | none =>
        match d, x, y with
        | .struct fs, .agg xs, .agg ys => if P.stoodInHeld t then none else eqFieldsC P (eqV P n) xs.toList ys.toList fs.toList s
        | .array len elem, .agg xs, .agg ys => (tsize P elem).bind fun z => eqRowsC P (eqV P n) elem z xs.toList ys.toList (List.range' 0 len) s
        | _, _, _ => none
def doEqAgg (P : Program) (s : St) (neg : Bool) (t : TypeId) (x y : Value) : OpR :=
  match x, y with
  | .agg _, .agg _ =>
    if flat1 x && flat1 y && !(P.eqGuardType P.depth t) then (eqV P 50 t x y s).bind fun r => some (.bool (if neg then !r.1 else r.1), r.2) else none
  | _, _ => none
def doArrayAt (P : Program) (s : St) (t : TypeId) (x : Value) : OpR :=
  match P.underlying t, x with
  | some (.array (n + 1) _), .slice (some ⟨b, o, g⟩) len _ => if isAbs g then none else (s.need (n + 1 ≤ len)).bind fun s => some (.pointer (some ⟨b, o, none⟩), s)
  | _, _ => none
structure Given where
  call : FuncId → List Value → St → Option (Value × St)
  loop : FuncId → Code → St → Option (Exit × St)
  fits : Bool
def Given.nothing : Given := ⟨fun _ _ _ => none, fun _ _ _ => none, false⟩
structure Orc where
  code : FuncId → Option Nat → Code → St → Option (Exit × St)
  call : FuncId → List Value → St → Option (Value × St)
def setTmps : List Value → List (Tmp × Value) → List Value
  | l, [] => l
  | l, (t, v) :: r => setTmps (l.set t v) r
def getLoop (s : St) (l : Nat) : Option CLoop :=
  match s.heap.get l with
  | some (.loop r) => some r
  | _ => none
def ready? : LoopState → Bool
  | .ready => true
  | _ => false
def busy? : LoopState → Bool
  | .busy => true
  | _ => false
def jumpOf : Exit → Option (Option Code)
  | .normal => some none
  | .ret => some (some .ret)
  | .exit id => some (some (.exit id))
  | .goto l => some (some (.goto l))
  | _ => none
def normal? : Exit → Bool
  | .normal => true
  | _ => false
def doYield (ih : Orc) (s : St) (l : Nat) (args : List Value) : OpR :=
  (getLoop s l).bind fun r =>
    if s.may l = true ∧ args.length = r.params.size ∧ ready? r.state = true then
      (ih.code 0 (some l) r.assign { s with tmps := setTmps r.tmps (r.params.toList.zip args), defers := [] }).bind fun q1 =>
        if normal? q1.1 then
          (getLoop q1.2 l).bind fun r1 => if ready? r1.state = true then
            (q1.2.setOb l (some (.loop { r1 with state := .busy }))).bind fun s2 =>
              (ih.code 0 (some l) r.body s2).bind fun q3 =>
                (jumpOf q3.1).bind fun jump => (getLoop q3.2 l).bind fun r3 =>
                  (q3.2.setOb l (some (.loop { r3 with state := if jump.isNone then .ready else .done, pending := jump }))).bind fun s4 =>
                    some (.bool jump.isNone, { s4 with tmps := s.tmps, defers := s.defers })
          else none
        else none
    else none
def doEnter (P : Program) (ih : Orc) (s : St) (f : FuncId) (args : List Value) : OpR :=
  match P.funcs[f]? with
  | some fn => if fn.body.isSome then ih.call f args s else none
  | none => none
def doCall (P : Program) (ih : Orc) (s : St) (fv : Value) (args : List Value) : OpR :=
  match fv with
  | .func (.func f) first cap => doEnter P ih s f (first.toList ++ args ++ cap.toList)
  | .func (.yield l) first cap => if first.toList.isEmpty && cap.toList.isEmpty then doYield ih s l args else none
  | _ => none
def fastInt (P : Program) (op : BinOp) (k k' : IntKind) (a b : Int) : Option Value :=
  match op with
  | .shl | .shr => quiet P (Op.shift op k a k' b)
  | .add => if k = k' then some (.int k (k.wrap (a + b))) else none
  | .sub => if k = k' then some (.int k (k.wrap (a - b))) else none
  | .mul => if k = k' then some (.int k (k.wrap (a * b))) else none
  | .quo | .rem => if k = k' then quiet P (Op.intDiv op k a b) else none
  | .and | .or | .xor | .andNot => if k = k' then quiet P (Op.intBits op k a b) else none
  | .eql => if k = k' then some (.bool (a == b)) else none
  | .neq => if k = k' then some (.bool (a != b)) else none
  | .lss => if k = k' then some (.bool (a < b)) else none
  | .leq => if k = k' then some (.bool (a ≤ b)) else none
  | .gtr => if k = k' then some (.bool (a > b)) else none
  | .geq => if k = k' then some (.bool (a ≥ b)) else none
def fastBin (P : Program) (op : BinOp) (x y : Value) : Option Value :=
  match x with
  | .int k a => match y with
    | .int k' b => match fastInt P op k k' a b with
      | some r => if flat0 r then some r else none
      | none => none
    | _ => none
  | _ => none
def fastUn (op : UnOp) (x : Value) : Option Value :=
  match x with
  | .bool b => match op with
    | .not => some (.bool !b)
    | _ => none
  | _ => none
def fastConv (P : Program) (src dst : TypeId) (x : Value) : Option Value :=
  match x with
  | .int _ n => match P.underlying dst with
    | some (.int k) => if (P.underlying src).isSome then some (.int k (k.wrap n)) else none
    | _ => none
  | _ => none
def fitBin (K : Given) (op : BinOp) (x y : Value) : Option (IntKind × Int) :=
  if K.fits then
    match x with
    | .int k a => match y with
      | .int k' b => if k = k' then (match op with
        | .add => some (k, a + b)
        | .sub => some (k, a - b)
        | .mul => some (k, a * b)
        | _ => none) else none
      | _ => none
    | _ => none
  else none
def fitConv (P : Program) (K : Given) (src dst : TypeId) (x : Value) : Option (IntKind × Int) :=
  if K.fits then
    match x with
    | .int _ n => match P.underlying dst with
      | some (.int k) => if (P.underlying src).isSome then some (k, n) else none
      | _ => none
    | _ => none
  else none
def unary : List (Option Bool) → Nat → Option (Nat × List (Option Bool))
  | none :: l, n => unary l (n + 1)
  | some _ :: l, n => some (n, l)
  | [], _ => none
def fitted (s : St) : IntKind × Int → OpR
  | (k, x) =>
    match s.orc with
    | some false :: l => match unary l 0 with
      | some (m, l) => some (.int k (Int.ofNat m), { s with orc := l, obl := s.obl ∧ k.wrap x = Int.ofNat m })
      | none => none
    | some true :: l => some (.int k x, { s with orc := l, obl := s.obl ∧ k.wrap x = x })
    | none :: l => some (.int k (k.wrap x), { s with orc := l })
    | [] => some (.int k (k.wrap x), s)
def doMax (s : St) : List Value → OpR
  | [.int k x, .int _ y] => (s.branch (decide (y > x))).bind fun r => match r with
    | (true, s) => some (.int k y, s)
    | (false, s) => some (.int k x, s)
  | _ => none
def doMin (s : St) : List Value → OpR
  | [.int k x, .int _ y] => (s.branch (decide (y < x))).bind fun r => match r with
    | (true, s) => some (.int k y, s)
    | (false, s) => some (.int k x, s)
  | _ => none
def oMove (s : St) (x : Operand) : OpR := (ev s x).bind fun v => some (v, s)
def oPick (s : St) (c a b : Operand) : OpR := (ev s c).bind fun cv => (ev s a).bind fun av => (ev s b).bind fun bv =>
    match cv with
    | .bool t => (s.branch t).bind fun r => some (if r.1 then av else bv, r.2)
    | _ => none
def oAlloc (P : Program) (s : St) (t : TypeId) : OpR := (zeroOf P t).bind fun z => newCells s t z.cells.toList
def oBox (s : St) (t : TypeId) (x : Operand) : OpR := (ev s x).bind fun v => newCells s t v.cells.toList
def oLoad (P : Program) (s : St) (t : TypeId) (a : Operand) : OpR := (ev s a).bind fun a => doLoad P s t a
def oStore (P : Program) (s : St) (t : TypeId) (a x : Operand) : OpR := (ev s a).bind fun a => (ev s x).bind fun v => doStore P s t a v
def oNilCheck (s : St) (x : Operand) : OpR := (ev s x).bind fun v => match v with
    | .pointer (some _) => some (v, s)
    | .func (.func _) _ _ => some (v, s)
    | .func (.yield _) _ _ => some (v, s)
    | _ => none
def oMakeFunc (P : Program) (s : St) (o : Oper) (fn : Fn) (first cap : Array Operand) : OpR :=
  match fn with
  | .func f => (evs s first.toList).bind fun a => (evs s cap.toList).bind fun b => some (.func (.func f) a.toArray b.toArray, s)
  | _ => doFlat P s o
def oFieldAddr (P : Program) (s : St) (t : TypeId) (x : Operand) (f : Nat) : OpR := (ev s x).bind fun v => doFieldAddr P s t v f
def oIndexAddr (P : Program) (s : St) (t : TypeId) (x ix : Operand) : OpR := (ev s x).bind fun v => (ev s ix).bind fun i => doIndexAddr P s t v i
def oSlice (P : Program) (s : St) (o : Oper) (t : TypeId) (x : Operand) (lo hi mx : Option Operand) : OpR :=
  match mx with
  | none => (ev s x).bind fun v =>
      match v with
      | .slice none _ _ | .string _ => doFlat P s o
      | _ => match lo.map (ev s), hi.map (ev s) with
        | some none, _ => none
        | _, some none => none
        | l, h => doSlice P s t v (l.bind id) (h.bind id)
  | some mx => (ev s x).bind fun v => (ev s mx).bind fun m =>
      match v with
      | .slice none _ _ => doFlat P s o
      | _ => match lo.map (ev s), hi.map (ev s) with
        | some none, _ => none
        | _, some none => none
        | l, h => doSlice3 P s t v (l.bind id) (h.bind id) (some m)
def oArrayAt (P : Program) (s : St) (t : TypeId) (x : Operand) : OpR := (ev s x).bind fun v => doArrayAt P s t v
def oMakeSlice (P : Program) (s : St) (t : TypeId) (l c : Operand) : OpR := (ev s l).bind fun l => (ev s c).bind fun c => doMakeSlice P s t l c
def oField (P : Program) (s : St) (t : TypeId) (x : Operand) (f : Nat) : OpR := (ev s x).bind fun v => doField P s t v f
def oIndex (P : Program) (s : St) (o : Oper) (t : TypeId) (x ix : Operand) : OpR := (ev s x).bind fun v => (ev s ix).bind fun i =>
      match v with
      | .agg _ => doIndex P s t v i
      | _ => doFlat P s o
def oExtract (s : St) (x : Operand) (i : Nat) : OpR := (ev s x).bind fun v => doExtract s v i
def oConvert (P : Program) (K : Given) (s : St) (o : Oper) (a b : TypeId) (x : Operand) : OpR := (ev s x).bind fun v =>
      match fitConv P K a b v with
      | some r => fitted s r
      | none =>
      match fastConv P a b v with
      | some r => some (r, s)
      | none =>
      match softConvert P s a b v with
      | some r => some r
      | none =>
      match doConvert P s a b v with
      | some r => some r
      | none => doFlat P s o
def oEq (P : Program) (s : St) (o : Oper) (op : BinOp) (t : TypeId) (v u : Value) : OpR :=
      match op, v, u with
      | .eql, .slice _ _ _, _ => (match doEq P s false t v u with | some r => some r | none => match softNil P s false t v u with | some r => some r | none => doFlat P s o)
      | .neq, .slice _ _ _, _ => (match doEq P s true t v u with | some r => some r | none => match softNil P s true t v u with | some r => some r | none => doFlat P s o)
      | .eql, .pointer _, _ | .eql, .func _ _ _, _ | .eql, .nilFunc, _ | .eql, .map _, _ => (match doEq P s false t v u with | some r => some r | none => doFlat P s o)
      | .neq, .pointer _, _ | .neq, .func _ _ _, _ | .neq, .nilFunc, _ | .neq, .map _, _ => (match doEq P s true t v u with | some r => some r | none => doFlat P s o)
      | .eql, .agg _, _ => (match doEqAgg P s false t v u with | some r => some r | none => doFlat P s o)
      | .neq, .agg _, _ => (match doEqAgg P s true t v u with | some r => some r | none => doFlat P s o)
      | _, _, _ => doFlat P s o
def remPin (K : Given) (s : St) (op : BinOp) (x y : Value) : OpR :=
  if K.fits then
    match op with
    | .rem => match s.orc with
      | some false :: some true :: some false :: some true :: some false :: some true :: some false :: l =>
        match x with
        | .int k a => match y with
          | .int k' b => if k = k' then (match unary l 0 with
            | some (m, l) => some (.int k (Int.ofNat m), { s with orc := l, obl := s.obl ∧ (b ≠ 0 ∧ a.tmod b = Int.ofNat m) })
            | none => none) else none
          | _ => none
        | _ => none
      | _ => none
    | _ => none
  else none
def oBin (P : Program) (K : Given) (s : St) (o : Oper) (op : BinOp) (t : TypeId) (x y : Operand) : OpR := (ev s x).bind fun v => (ev s y).bind fun u =>
      match remPin K s op v u with
      | some r => some r
      | none =>
      match fitBin K op v u with
      | some r => fitted s r
      | none =>
      match fastBin P op v u with
      | some r => some (r, s)
      | none => oEq P s o op t v u
def oUn (P : Program) (s : St) (o : Oper) (op : UnOp) (x : Operand) : OpR := (ev s x).bind fun v =>
      match fastUn op v with
      | some r => some (r, s)
      | none => doFlat P s o
def appendNone (P : Program) (s : St) (argTypes : Array TypeId) : List Value → OpR
  | [.slice base sLen sCap, x] =>
    if absB base then
      match lenV x with
      | some 0 =>
        match argTypes[0]?, argTypes[1]? with
        | some st, some xt =>
          match P.underlying st with
          | some (.slice elem) =>
            match P.info? elem, P.underlying xt with
            | some i, some xd => if appendBad xd i x = true then none else some (.slice base sLen sCap, s)
            | _, _ => none
          | _ => none
        | _, _ => none
      | _ => none
    else none
  | _ => none
def signB : Option Addr → Bool
  | some ⟨_, _, some _⟩ => true
  | _ => false
def rowsAppend (P : Program) (s : St) (argTypes : Array TypeId) : List Value → OpR
  | [.slice base sLen sCap, .slice (some ⟨B, o, some g⟩) n c] =>
    if Nat.ble 1000 g then
      match absMem s g B with
      | some (.rows N w row) =>
        match argTypes[0]?, argTypes[1]? with
        | some st, some xt =>
          match P.underlying st with
          | some (.slice elem) =>
            match P.info? elem, P.underlying xt with
            | some i, some xd =>
              if (appendBad xd i (.slice (some ⟨B, o, some g⟩) n c) || !(Nat.beq i.size w) || absB base || !(Nat.beq sLen 0) || !(Nat.beq sCap 0) || !(Nat.beq o 0) || Nat.ble 1000 w || signB base) = true then none
              else (s.branch (decide (n = 0))).bind fun e =>
                match e.1 with
                | true => some (.slice base 0 0, e.2)
                | false => ((e.2.and (n ≤ N ∧ (∀ i, (row i).length = w) ∧ n * i.bytes ≤ mostBytes ∧ n ≤ mostBytes)).alloc (.cells (.rows n w row) elem)).bind fun r => some (.slice (some ⟨r.1, 0, some w⟩) n n, r.2)
            | _, _ => none
          | _ => none
        | _, _ => none
      | _ => none
    else none
  | _ => none
def oBuiltin (P : Program) (s : St) (o : Oper) (c : Call) (b : Builtin) : OpR :=
    match b with
    | .append => (evs s c.args.toList).bind fun vs => match appendNone P s c.argTypes vs with | some r => some r | none => match rowsAppend P s c.argTypes vs with | some r => some r | none => match softAppend P s c.argTypes vs with | some r => some r | none => match softZeroes P s c.argTypes vs with | some r => some r | none => match softAppZ P s c.argTypes vs with | some r => some r | none => match doZeroes P s c.argTypes vs with | some r => some r | none => doAppend P s c.argTypes vs
    | .copy => (evs s c.args.toList).bind fun vs => match softCopy P s c.argTypes vs with | some r => some r | none => doCopy P s c.argTypes vs
    | .len => if isMapT P c.argTypes then (evs s c.args.toList).bind fun vs => doLenMap s vs else (evs s c.args.toList).bind fun vs => match doLen P s c.argTypes vs with | some r => some r | none => doFlat P s o
    | .clear => (evs s c.args.toList).bind fun vs => match softClear P s c.argTypes vs with | some r => some r | none => doClear P s c.argTypes vs
    | .delete => (evs s c.args.toList).bind fun vs => doDelete P s c.argTypes vs
    | .max => (evs s c.args.toList).bind fun vs => match doMax s vs with | some r => some r | none => doFlat P s o
    | .min => (evs s c.args.toList).bind fun vs => match doMin s vs with | some r => some r | none => doFlat P s o
    | _ => doFlat P s o
def oCall (P : Program) (ih : Orc) (s : St) (o : Oper) (c : Call) : OpR :=
    match c.callee with
    | .builtin b => oBuiltin P s o c b
    | .value f => (ev s f).bind fun fv => (evs s c.args.toList).bind fun vs => doCall P ih s fv vs
    | .invoke _ _ => none
def oLookup (P : Program) (s : St) (t : TypeId) (x k : Operand) (ok : Bool) : OpR := (ev s x).bind fun v => (ev s k).bind fun u => doLookup P s t v u ok
def oMapUpdate (P : Program) (s : St) (t : TypeId) (m k x : Operand) : OpR := (ev s m).bind fun v => (ev s k).bind fun u => (ev s x).bind fun y => doMapUpdate P s t v u y
def oMapEntry (P : Program) (s : St) (t : TypeId) (m k : Operand) : OpR := (ev s m).bind fun v => (ev s k).bind fun u => doMapEntry P s t v u
def oEntryStore (s : St) (m k x : Operand) : OpR := (ev s m).bind fun v => (ev s k).bind fun u => (ev s x).bind fun y => doEntryStore s v u y
def doOp (P : Program) (K : Given) (ih : Orc) (s : St) (o : Oper) : OpR :=
  match o.op with
  | .move x | .assign x => oMove s x
  | .pick c a b => oPick s c a b
  | .alloc t => oAlloc P s t
  | .box t x => oBox s t x
  | .load t a => oLoad P s t a
  | .store t a x => oStore P s t a x
  | .nilCheck x => oNilCheck s x
  | .makeFunc fn first cap => oMakeFunc P s o fn first cap
  | .fieldAddr t x f => oFieldAddr P s t x f
  | .indexAddr t x ix => oIndexAddr P s t x ix
  | .slice t x lo hi mx => oSlice P s o t x lo hi mx
  | .sliceToArrayPointer t x => oArrayAt P s t x
  | .makeSlice t l c => oMakeSlice P s t l c
  | .build t ps => doBuild P s t ps.toList
  | .buildSlice t n ps => doBuildSlice P s t n ps.toList
  | .field t x f => oField P s t x f
  | .index t x ix => oIndex P s o t x ix
  | .extract x i => oExtract s x i
  | .convert a b x => oConvert P K s o a b x
  | .binOp op t x y _ => oBin P K s o op t x y
  | .unOp op _ x => oUn P s o op x
  | .call c => oCall P ih s o c
  | .makeMap _ r => doMakeMap s (r.map (ev s))
  | .lookup t x k ok => oLookup P s t x k ok
  | .mapUpdate t m k x | .insert t m k x => oMapUpdate P s t m k x
  | .mapEntry t m k => oMapEntry P s t m k
  | .entryStore _ m k x => oEntryStore s m k x
  | .select _ _ | .defer _ | .go _ => none
  | _ => doFlat P s o
def wantedC (ops : Array Oper) (s : St) (o : Oper) : Option (Bool × St) :=
  match o.guard with
  | none => some (true, s)
  | some (j, want) =>
    match (ops[j]?).bind (·.dst) with
    | none => some (false, s)
    | some t =>
      match s.tmps[t]? with
      | some (.bool b) => (s.branch b).bind fun r => some (r.1 == want, { r.2 with tmps := setL r.2.tmps t (.bool r.1) })
      | some (.chan _) => none
      | _ => some (false, s)
def runOne (P : Program) (K : Given) (ih : Orc) (ops : Array Oper) (s : St) (i : Nat) : Option St :=
  match ops[i]? with
  | none => none
  | some o => (wantedC ops s o).bind fun r =>
    if r.1 then (doOp P K ih r.2 o).bind fun q => some (({ q.2 with tmps := r.2.tmps, defers := r.2.defers } : St).set o.dst q.1)
    else some (r.2.set o.dst undef)
def runSeq (P : Program) (K : Given) (ih : Orc) (ops : Array Oper) : List Nat → St → Option St
  | [], s => some s
  | i :: l, s => (runOne P K ih ops s i).bind fun s => s.norm (runSeq P K ih ops l)
def pureOp (P : Program) : Op → Bool
  | .move _ | .assign _ | .pick .. | .extract .. | .field .. | .index .. | .build .. | .unOp .. | .binOp .. | .fieldAddr .. | .indexAddr .. | .slice .. | .makeFunc .. | .nilCheck _ | .sliceToArrayPointer .. => true
  | .convert _ dst _ => match P.underlying dst with | some (.int _) => true | _ => false
  | .call { callee := .builtin .len, argTypes, .. } => !isMapT P argTypes
  | _ => false
end
end Go.Cln
