/- A determinate reading of Go's code: regions whose order is drawn, code, calls. -/
import Derived.Test.YtpfmilkddapfiaaClnB
namespace Go.Cln
set_option linter.unusedVariables false
set_option linter.unusedSimpArgs false
set_option linter.deprecated false
noncomputable section
def runVal (P : Program) (K : Given) (ih : Orc) (ops : Array Oper) (s : St) (i : Nat) : OpR :=
  match ops[i]? with
  | none => none
  | some o => (wantedC ops s o).bind fun r => if r.1 then doOp P K ih r.2 o else some (undef, r.2)
def mkOp (P : Program) : Op → Bool
  | .alloc _ | .box _ _ | .buildSlice .. | .makeSlice .. | .makeMap .. => true
  | .convert src _ _ => match P.underlying src with | some .string => true | _ => false
  | _ => false
def readOp (P : Program) : Op → Option Operand
  | .load _ a => some a
  | .lookup _ x _ _ => some x
  | .convert _ dst x => match P.underlying dst with | some .string => some x | _ => none
  | _ => none
def blockOf : Value → Option Nat
  | .pointer (some a) => some (if isAbs a.spot then 0 else a.block)
  | .slice (some a) _ _ => some (if isAbs a.spot then 0 else a.block)
  | .map (some b) => some b
  | _ => none
inductive Kind where
  | wild
  | reader (x : Operand)
  | writer
def kindOf (P : Program) (o : Oper) : Kind :=
  if pureOp P o.op || mkOp P o.op then .wild else match readOp P o.op with | some x => .reader x | none => .writer
def Kind.isWriter : Kind → Bool
  | .writer => true
  | _ => false
def kindAt (P : Program) (ops : Array Oper) (i : Nat) : Kind := match ops[i]? with | some o => kindOf P o | none => .writer
structure Made where
  idx : Nat
  dst : Option Tmp
  val : Value
  lo : Nat
  hi : Nat
  seen : Option Nat
  heap : Tr
  wr : Bool
  hid : Nat → Bool
  prot : List Nat
def putVals (past : Nat → Bool) (l : List Value) : List Made → List Value
  | [] => l
  | m :: r => putVals past (match m.dst with | some d => if past m.idx then l.set d m.val else l | none => l) r
def dropIds (h : Tr) : Nat → Nat → Option Tr
  | _, 0 => some h
  | lo, n + 1 => (h.put 64 lo none).bind fun h => dropIds h (lo + 1) n
def dropMade (past : Nat → Bool) (h : Tr) : List Made → Option Tr
  | [] => some h
  | m :: r => (if past m.idx then some h else dropIds h m.lo (m.hi - m.lo)).bind fun h => dropMade past h r
def copyIds (src h : Tr) : Nat → Nat → Option Tr
  | _, 0 => some h
  | lo, n + 1 => (h.put 64 lo (src.get lo)).bind fun h => copyIds src h (lo + 1) n
def backMade (past : Nat → Bool) (src h : Tr) : List Made → Option Tr
  | [] => some h
  | m :: r => (if past m.idx then some h else copyIds src h m.lo (m.hi - m.lo)).bind fun h => backMade past src h r
def seenOf (past : Nat → Bool) : List Made → List Nat
  | [] => []
  | m :: r => match m.seen with
    | some b => if past m.idx then seenOf past r else b :: seenOf past r
    | none => seenOf past r
def backSeen (src h : Tr) : List Nat → Option Tr
  | [] => some h
  | b :: r => (h.put 64 b (src.get b)).bind fun h => backSeen src h r
structure Grp where
  s : St
  made : List Made
def hidBy (past : Nat → Bool) (made : List Made) (x : Nat) : Bool := made.any fun m => !past m.idx && decide (m.lo ≤ x) && decide (x < m.hi)
def readBlk (s : St) : Kind → Option Nat
  | .reader x => (blockOf (evD s x)).bind fun b => if b < s.next then some b else none
  | _ => none
def oneHeap (h : Tr) : Option Nat → Option Tr
  | some b => Tr.put 64 .leaf b (h.get b)
  | none => some .leaf
def wrBefore (past : Nat → Bool) (rb : Option Nat) (made : List Made) : Bool := made.all fun m => !m.wr || past m.idx || rb.isNone
def fullR (l : List Value) : List Made → List Value
  | [] => l
  | m :: r => match m.dst with
    | some d => setL (fullR l r) d m.val
    | none => fullR l r
def setFrom (full l : List Value) : List Nat → List Value
  | [] => l
  | t :: r => setL (setFrom full l r) t (getL full t)
def lk (ops : Array Oper) (b : Array Nat) (i : Nat) : List Nat :=
  match ops[i]? with
  | some o => (o.looksAt ops).filter fun t => (List.range ops.size).any fun j => (b.getD i 0).testBit j && (ops[j]?).bind (·.dst) == some t
  | none => []
def grpStep (P : Program) (K : Given) (ih : Orc) (ops : Array Oper) (b : Array Nat) (g : Grp) (i : Nat) : Option Grp :=
  let past := fun j => (b.getD i 0).testBit j
  let dst := (ops[i]?).bind (·.dst)
  let tm := setFrom (fullR g.s.tmps g.made) g.s.tmps (lk ops b i)
  let hid := fun x => g.s.hid x || hidBy past g.made x
  if (kindAt P ops i).isWriter = true then
    (dropMade past g.s.heap g.made).bind fun h =>
      (runVal P K ih ops { g.s with tmps := tm, heap := h, hid, ro := seenOf past g.made ++ g.s.ro } i).bind fun q =>
        if g.s.next ≤ q.2.next then
          (backMade past g.s.heap q.2.heap g.made).bind fun h' => (backSeen g.s.heap h' (seenOf past g.made)).bind fun h' =>
            some ⟨{ g.s with heap := h', next := q.2.next, obl := q.2.obl, orc := q.2.orc }, ⟨i, dst, q.1, g.s.next, q.2.next, none, h', true, hid, seenOf past g.made⟩ :: g.made⟩
        else none
  else
    let rb := readBlk { g.s with tmps := tm } (kindAt P ops i)
    if wrBefore past rb g.made = true then
      (oneHeap g.s.heap rb).bind fun h =>
        (runVal P K ih ops { g.s with tmps := tm, heap := h, hid, roB := g.s.next } i).bind fun q =>
          if g.s.next ≤ q.2.next then
            (copyIds q.2.heap g.s.heap g.s.next (q.2.next - g.s.next)).bind fun h' =>
              some ⟨{ g.s with heap := h', next := q.2.next, obl := q.2.obl, orc := q.2.orc }, ⟨i, dst, q.1, g.s.next, q.2.next, rb, h', false, hid, []⟩ :: g.made⟩
          else none
    else none
def grpRun (P : Program) (K : Given) (ih : Orc) (ops : Array Oper) (b : Array Nat) : List Nat → Grp → Option Grp
  | [], g => some g
  | i :: l, g => (grpStep P K ih ops b g i).bind fun g => g.s.norm fun s => grpRun P K ih ops b l ⟨s, g.made⟩
def readyAny (ops : Array Oper) (done : List Nat) (i : Nat) : Bool :=
  !done.contains i && (match ops[i]? with | some o => o.after.toList.all fun e => !Region.binds .any e || done.contains e.on | none => false)
def lateOrder (P : Program) (ops : Array Oper) : Nat → List Nat → List Nat
  | 0, done => done.reverse
  | n + 1, done =>
    match (List.range ops.size).find? fun i => readyAny ops done i && !(kindAt P ops i).isWriter with
    | some i => lateOrder P ops n (i :: done)
    | none => match (List.range ops.size).find? fun i => readyAny ops done i with
      | some i => lateOrder P ops n (i :: done)
      | none => done.reverse
def pastOk (ops : Array Oper) (b : Array Nat) : Bool :=
  (List.range ops.size).all fun i =>
    match ops[i]? with
    | none => false
    | some o =>
      (List.range ops.size).all (fun x => !(b.getD i 0).testBit x || ((o.after.toList.any fun e => Region.binds .any e && (x == e.on || (b.getD e.on 0).testBit x)) && (b.getD x 0 ||| b.getD i 0) == b.getD i 0)) &&
      decide (b.getD i 0 < 2 ^ ops.size)
def writersOk (P : Program) (ops : Array Oper) (b : Array Nat) : Bool :=
  (List.range ops.size).all fun i => !(kindAt P ops i).isWriter || (List.range ops.size).all fun j => !(kindAt P ops j).isWriter || i == j || (b.getD i 0).testBit j || (b.getD j 0).testBit i
def dstsApart (ops : Array Oper) : Bool :=
  (List.range ops.size).all fun i => (List.range i).all fun j =>
    match (ops[i]?).bind (·.dst), (ops[j]?).bind (·.dst) with
    | some d, some e => d != e
    | _, _ => true
def looksOk (ops : Array Oper) (b : Array Nat) : Bool :=
  (List.range ops.size).all fun i => match ops[i]? with
    | none => false
    | some o => (o.looksAt ops).all fun t => (List.range ops.size).all fun j => (ops[j]?).bind (·.dst) != some t || i == j || (b.getD i 0).testBit j || (b.getD j 0).testBit i
def orderOk (md : Region.Mode) (ops : Array Oper) : List Nat → List Nat → Bool
  | _, [] => true
  | done, i :: l => !done.contains i && (match ops[i]? with
    | some o => o.after.toList.all fun e => !Region.binds md e || done.contains e.on
    | none => false) && orderOk md ops (i :: done) l
def goesOn (md : Region.Mode) (ops : Array Oper) (l : List Nat) : Bool :=
  (List.range ops.size).all (fun i => l.contains i) && orderOk md ops [] l
def modesOk (ops : Array Oper) (l : List Nat) : Bool :=
  goesOn .any ops l && (!Region.departs ops || (goesOn .text ops (Region.linearise .text ops 0) && goesOn .gc ops (Region.linearise .gc ops 0)))
def runDraw (P : Program) (K : Given) (ih : Orc) (ops : Array Oper) (s : St) : Option St :=
  let b := Region.before ops
  let l := lateOrder P ops ops.size []
  if pastOk ops b && writersOk P ops b && dstsApart ops && looksOk ops b && modesOk ops l then
    (grpRun P K ih ops b l ⟨s, []⟩).bind fun g =>
      some { g.s with tmps := putVals (fun _ => true) g.s.tmps g.made.reverse }
  else none
def dropMarks (s : St) : List Nat → Option St
  | [] => some s
  | d :: l => match s.heap.get d with
    | some .marks => if s.may d then (s.setOb d none).bind fun s => dropMarks s l else none
    | _ => none
def results1 (P : Program) (s : St) : List ResultVar → Option (List Value × St)
  | [] => some ([], s)
  | .tmp t :: l => (results1 P s l).bind fun r => some (s.tmps.getD t undef :: r.1, r.2)
  | .cell a t :: l => (doLoad P s t (s.tmps.getD a undef)).bind fun q => (results1 P q.2 l).bind fun r => some (q.1 :: r.1, r.2)
def oneOf : List Value → Value
  | [v] => v
  | l => .tuple l.toArray
def leaves? : Exit → Bool
  | .normal | .ret => true
  | _ => false
def stepCall (P : Program) (ih : Orc) (f : FuncId) (args : List Value) (s : St) : OpR :=
  match P.funcs[f]? with
  | none => none
  | some fn => match fn.body with
    | none => none
    | some c =>
      if args.length ≤ fn.ntmps then
        (ih.code f none c { s with tmps := args ++ List.replicate (fn.ntmps - args.length) undef, defers := [] }).bind fun q =>
          if leaves? q.1 = true then
            (dropMarks q.2 q.2.defers).bind fun s2 =>
              (results1 P s2 fn.results.toList).bind fun r => some (oneOf r.1, { r.2 with tmps := s.tmps, defers := s.defers })
          else none
      else none
abbrev CdR := Option (Exit × St)
def blockOut (id : Nat) : Exit → Exit
  | .exit id' => if id' = id then .normal else .exit id'
  | e => e
def doRange (P : Program) (ih : Orc) (f : FuncId) (rd : Option Nat) (s : St) (g : Value) (ps : Array Tmp) (assign body : Code) : CdR :=
  (match rd with
   | none => (s.alloc .marks).bind fun r => some (r.1, { r.2 with defers := r.1 :: r.2.defers })
   | some l => (getLoop s l).bind fun r => some (r.defers, s)).bind fun d =>
    (d.2.alloc (.loop { state := .ready, pending := none, tmps := s.tmps, params := ps, assign, body, defers := d.1 })).bind fun l =>
      match g with
      | .func (.func gf) first cap =>
        (doEnter P ih l.2 gf (first.toList ++ [Value.func (.yield l.1) #[] #[]] ++ cap.toList)).bind fun q =>
          (getLoop q.2 l.1).bind fun r => if busy? r.state || !q.2.may l.1 then none else
            (q.2.setOb l.1 (some (.loop { r with state := .exhausted }))).bind fun s2 =>
              match r.pending with
              | none => some (.normal, { s2 with tmps := l.2.tmps, defers := l.2.defers })
              | some c => ih.code f rd c { s2 with tmps := l.2.tmps, defers := l.2.defers }
      | _ => none
def St.told (s : St) (c : Operand) (b : Bool) : St :=
  match c with
  | .tmp t => { s with tmps := setL s.tmps t (.bool b) }
  | _ => s
def runLoop (ih : Orc) (f : FuncId) (rd : Option Nat) (c : Code) : Nat → St → CdR
  | 0, _ => none
  | n + 1, s => (ih.code f rd c s).bind fun r => if normal? r.1 then runLoop ih f rd c n r.2 else some r
def runScope (ih : Orc) (f : FuncId) (rd : Option Nat) (c : Code) : Nat → Exit × St → CdR
  | n, (.goto l, s) => match findLabel c l with
    | none => some (.goto l, s)
    | some rest => match n with
      | 0 => none
      | n + 1 => (ih.code f rd rest s).bind fun r => runScope ih f rd c n r
  | _, r => some r
def stepCode (P : Program) (K : Given) (ih : Orc) (f : FuncId) (rd : Option Nat) (c : Code) (s : St) : CdR :=
  match c with
  | .skip | .label _ => some (.normal, s)
  | .seq a b => (ih.code f rd a s).bind fun r => if normal? r.1 then ih.code f rd b r.2 else some r
  | .cond c x y => (ev s c).bind fun v => match v with
    | .bool t => (s.branch t).bind fun r => ih.code f rd (if r.1 then x else y) (r.2.told c r.1)
    | _ => none
  | .block id c => (ih.code f rd c s).bind fun r => some (blockOut id r.1, r.2)
  | .loop c =>
    match K.loop f c s with
    | some r => some r
    | none => runLoop ih f rd c 1000000 s
  | .scope c => (ih.code f rd c s).bind fun r => runScope ih f rd c 1000 r
  | .exit id => some (.exit id, s)
  | .goto l => some (.goto l, s)
  | .ret => some (.ret, s)
  | .refuse _ => none
  | .region _ ops false => (runSeq P K ih ops (List.range ops.size) s).bind fun s => some (.normal, s)
  | .region _ ops true => (runDraw P K ih ops s).bind fun s => some (.normal, s)
  | .rangeFunc g ps assign body => (ev s g).bind fun v => doRange P ih f rd s v ps assign body
def mk (P : Program) (K : Given) : Nat → Orc
  | 0 => ⟨fun _ _ _ _ => none, fun _ _ _ => none⟩
  | n + 1 => ⟨fun f rd c s => s.norm (stepCode P K (mk P K n) f rd c), fun f args s => match K.call f args s with | some r => some r | none => stepCall P (mk P K n) f args s⟩
def St.start (next : Nat) (heap : Tr) (orc : List (Option Bool)) : St := ⟨[], [], heap, next, next, [], fun _ => false, True, orc⟩
end
end Go.Cln
