/- A reading of programs, and what its values, memory and operations are in the machine. -/
import GoSem.Step
import Derived.Below
import Derived.Recover
import Derived.WalkKit
namespace Go.AX
inductive Blk where
  | cells (c : List Value) (e : TypeId) (own : Bool)
  | obj (o : Obj)
  | dead
  deriving Inhabited
inductive Bt where
  | nil
  | node (b : Blk) (l r : Bt)
  deriving Inhabited
namespace Bt
def get : Bt → Nat → Option Blk
  | .nil, _ => none
  | .node b l r, i => match i with
    | 0 => some b
    | j + 1 => bif Nat.beq (Nat.mod j 2) 0 then l.get (Nat.div j 2) else r.get (Nat.div j 2)
def cons (b : Blk) : Bt → Bt
  | .nil => .node b .nil .nil
  | .node a l r => .node b (cons a r) l
def set : Bt → Nat → Blk → Bt
  | .nil, _, _ => .nil
  | .node a l r, i, b => match i with
    | 0 => .node b l r
    | j + 1 => bif Nat.beq (Nat.mod j 2) 0 then .node a (l.set (Nat.div j 2) b) r else .node a l (r.set (Nat.div j 2) b)
def ofL : List Blk → Bt
  | [] => .nil
  | b :: l => (ofL l).cons b
end Bt
structure Heap where
  n : Nat
  bs : Bt
  deriving Inhabited
namespace Heap
def get? (h : Heap) (i : Nat) : Option Blk := if i < h.n then h.bs.get (h.n - 1 - i) else none
def push (h : Heap) (b : Blk) : Heap := { n := h.n + 1, bs := h.bs.cons b }
def set (h : Heap) (i : Nat) (b : Blk) : Heap := { n := h.n, bs := h.bs.set (h.n - 1 - i) b }
end Heap
def unk : Nat := 4611686018427387904
def anyCap : Nat := 4611686018427387905
def roomOf (len cap : Nat) : Nat := if anyCap ≤ cap then max len (cap - anyCap) else len
def pe {α : Type} (P : Program) : Sem α → Option α
  | .pure a => some a
  | .program k => pe P (k P)
  | .mark _ k => pe P k
  | _ => none
def plain : Nat → Value → Bool
  | 0, _ => false
  | n + 1, v => match v with
    | .bool _ | .int _ _ | .string _ | .nilFunc | .nilIface | .pointer none | .map none | .slice none 0 0 => true
    | .func (.func _) a b | .func (.method _) a b | .func (.methodOf _ _) a b => a.toList.all (plain n) && b.toList.all (plain n)
    | .iface _ v => plain n v
    | .agg cs | .tuple cs => cs.toList.all (plain n)
    | _ => false
def deep : Nat := 9
def ev (tm : Array Value) : Operand → Value
  | .tmp t => tm.getD t undef
  | .const v => v
  | .global g => .pointer (some ⟨g, 0, none⟩)
  | .func f => .func (.func f) #[] #[]
def put (tm : Array Value) (d : Option Tmp) (v : Value) : Array Value :=
  match d with
  | some d => tm.setIfInBounds d v
  | none => tm
inductive Out where
  | val (v : Value)
  | enter (f : FuncId) (args : Array Value)
  | round (l : Nat) (args : Array Value)
  | defer (d : Deferred)
  | recover
  | panic (v : Value)
def fieldsOf (P : Program) (t : TypeId) : Option (Array Field) :=
  match P.underlying t with
  | some (.struct fs) => some fs
  | _ => none
def aggB (P : Program) (t : TypeId) : Option Bool :=
  match P.underlying t with
  | some (.struct _) | some (.array _ _) => some true
  | some _ => some false
  | none => none
def sizeB (P : Program) (t : TypeId) : Option Nat := (P.info? t).map (·.size)
def bytesB (P : Program) (t : TypeId) : Option Nat := (P.info? t).map (·.bytes)
def zeroB (P : Program) (t : TypeId) : Option Value :=
  match (P.info? t).bind (·.zero) with
  | some z => if plain deep z then some z else none
  | none => none
def partB (P : Program) (t : TypeId) (cs : List Value) (off : Nat) : Option Value :=
  match aggB P t, sizeB P t with
  | some true, some n => if off + n ≤ cs.length then some (.agg ((cs.drop off).take n).toArray) else none
  | some false, some _ => cs[off]?
  | _, _ => none
def readB (P : Program) (h : Heap) (t : TypeId) : Value → Option Value
  | .pointer (some ⟨b, o, none⟩) =>
    match h.get? b with
    | some (.cells c _ _) => partB P t c o
    | _ => none
  | _ => none
def splice (c : List Value) (off : Nat) (new : List Value) : List Value := c.take off ++ new ++ c.drop (off + new.length)
def oneB : Value → Bool
  | .agg _ | .tuple _ => false
  | _ => true
def writeB (P : Program) (h : Heap) (t : TypeId) (v : Value) : Value → Option Heap
  | .pointer (some ⟨b, o, none⟩) =>
    match h.get? b, sizeB P t with
    | some (.cells c e true), some n =>
      if v.cells.size = n ∧ o + n ≤ c.length ∧ v.cells.toList.all oneB then some (h.set b (.cells (splice c o v.cells.toList) e true)) else none
    | _, _ => none
  | _ => none
def newB (h : Heap) (c : List Value) (e : TypeId) : Value × Heap := (.pointer (some ⟨h.n, 0, none⟩), h.push (.cells c e true))
def boxB (P : Program) (h : Heap) (t : TypeId) (v : Value) : Option (Value × Heap) :=
  match sizeB P t with
  | some n => if v.cells.size = n ∧ v.cells.toList.all oneB then some (newB h v.cells.toList t) else none
  | none => none
def placeB (a : Addr) (n : Nat) : Addr := ⟨a.block, a.off + n, none⟩
def fieldAtB (P : Program) (t : TypeId) (x : Value) (f : Nat) : Option Value :=
  match fieldsOf P t, x with
  | some fs, .pointer (some ⟨b, o, none⟩) =>
    match fs[f]? with
    | some fd => match sizeB P fd.type with
      | some (_ + 1) => some (.pointer (some ⟨b, o + fd.offset, none⟩))
      | _ => none
    | none => none
  | _, _ => none
def indexAtB (P : Program) (t : TypeId) (x i : Value) : Option Value :=
  match i with
  | .int _ k =>
    match P.underlying t, x with
    | some (.array len e), .pointer (some ⟨b, o, none⟩) =>
      match sizeB P e with
      | some n => if 0 ≤ k ∧ k < len then some (.pointer (some ⟨b, o + k.toNat * n, none⟩)) else none
      | none => none
    | some (.slice e), .slice (some ⟨b, o, none⟩) len _ =>
      match sizeB P e with
      | some n => if 0 ≤ k ∧ k < len then some (.pointer (some ⟨b, o + k.toNat * n, none⟩)) else none
      | none => none
    | _, _ => none
  | _ => none
def arrayAtB (P : Program) (t : TypeId) (x : Value) : Option Value :=
  match P.underlying t, x with
  | some (.array n _), .slice (some ⟨b, o, none⟩) len _ => if 0 < n ∧ n ≤ len then some (.pointer (some ⟨b, o, none⟩)) else none
  | _, _ => none
def boundB (x : Option Value) (dflt top : Nat) : Option Nat :=
  match x with
  | none => some dflt
  | some (.int _ i) => if 0 ≤ i ∧ i ≤ top then some i.toNat else none
  | some _ => none
def maxB (x : Option Value) (top : Nat) : Option Nat :=
  match x with
  | none => some top
  | some v => boundB (some v) 0 top
def sliceRowB (P : Program) (e : TypeId) (a : Option Addr) (len cap : Nat) (lo hi mx : Option Value) : Option Value :=
  let known := Nat.blt cap unk
  let top := if known then cap else len
  match maxB mx top with
  | none => none
  | some m =>
  match boundB hi len m with
  | none => none
  | some h =>
  match boundB lo 0 h, sizeB P e with
  | some l, some n =>
    if m < unk ∧ len ≤ top then
      match a with
      | none => if known then some (.slice none (h - l) (m - l)) else none
      | some ⟨b, o, none⟩ =>
        if known || mx.isSome then some (.slice (some ⟨b, if m = l then o else o + l * n, none⟩) (h - l) (m - l))
        else some (.slice (some ⟨b, o + l * n, none⟩) (h - l) (if roomOf len cap - l = 0 then anyCap else anyCap + (roomOf len cap - l)))
      | some _ => none
    else none
  | _, _ => none
def sliceB (P : Program) (t : TypeId) (x : Value) (lo hi mx : Option Value) : Option Value :=
  match P.underlying t, x with
  | some (.slice e), .slice a len cap => if mx.isSome && hi.isNone then none else sliceRowB P e a len cap lo hi mx
  | some (.array n e), .pointer (some ⟨b, o, none⟩) => if mx.isSome && hi.isNone || unk ≤ n then none else sliceRowB P e (some ⟨b, o, none⟩) n n lo hi mx
  | _, _ => none
def fillB (P : Program) (t : TypeId) (parts : List (Nat × Value)) : Option Value :=
  match zeroB P t, P.underlying t with
  | some z, some (.struct fs) =>
    match fs.toList.mapM (fun f => (sizeB P f.type).map fun s => (f.offset, s)) with
    | some places => (Instr.fill (places[·]?) z.cells parts).map .agg
    | none => none
  | some z, some (.array _ e) =>
    match sizeB P e with
    | some s => (Instr.fill (fun i => some (i * s, s)) z.cells parts).map .agg
    | none => none
  | _, _ => none
def zerosB (z : Array Value) (n : Nat) : Array Value := (Array.range n).map (z[· % z.size]!)
def buildSliceB (P : Program) (h : Heap) (t : TypeId) (len : Nat) (parts : List (Nat × Value)) : Option (Value × Heap) :=
  match P.underlying t with
  | some (.slice e) =>
    match sizeB P e, zeroB P e with
    | some s, some z =>
      if len * s ≤ 16777216 ∧ z.cells.size = s ∧ len ≤ 16777216 then
        match Instr.fill (fun i => some (i * s, s)) (zerosB z.cells (len * s)) parts with
        | some cells => if !(cells.toList.all oneB) || cells.size != len * s then none else some (.slice (some ⟨h.n, 0, none⟩) len len, h.push (.cells cells.toList e true))
        | none => none
      else none
    | _, _ => none
  | _ => none
def makeSliceB (P : Program) (h : Heap) (t : TypeId) (len cap : Value) : Option (Value × Heap) :=
  match P.underlying t, len, cap with
  | some (.slice e), .int _ l, .int _ c =>
    match sizeB P e, bytesB P e, zeroB P e with
    | some s, some by_, some z =>
      if 0 ≤ l ∧ l ≤ c ∧ c ≤ 1048576 ∧ by_ ≤ 1048576 ∧ (zerosB z.cells (c.toNat * s)).toList.all oneB ∧ z.cells.size = s then
        some (.slice (some ⟨h.n, 0, none⟩) l.toNat c.toNat, h.push (.cells (zerosB z.cells (c.toNat * s)).toList e true))
      else none
    | _, _, _ => none
  | _, _, _ => none
def rowB (h : Heap) (s n : Nat) : Value → Option (List Value)
  | .slice none _ _ => if n = 0 then some [] else none
  | .slice (some ⟨b, o, none⟩) len _ =>
    if len < n then none else
    if n * s = 0 then some [] else
    match h.get? b with
    | some (.cells c _ _) => if o + n * s ≤ c.length then some ((c.drop o).take (n * s)) else none
    | _ => none
  | .string t => if n ≤ t.size ∧ s = 1 then some ((t.extract 0 n).data.toList.map fun b => .int .u8 b.toNat) else none
  | _ => none
def lenB : Value → Option Nat
  | .slice _ n _ => some n
  | .string s => some s.size
  | _ => none
def appendRow (P : Program) (h : Heap) (e : TypeId) (a : Option Addr) (len cap : Nat) (y : Value) : Option (Value × Heap) :=
  match sizeB P e, bytesB P e, zeroB P e, lenB y with
  | some (s + 1), some by_, some z, some m =>
    match rowB h (s + 1) m y with
    | some new =>
      if z.cells.size = s + 1 ∧ new.all oneB ∧ (len + m) * (by_ + 1) ≤ 70368744177664 then
        if m = 0 then (if len ≤ cap then some (.slice a len cap, h) else none) else
        match a with
        | none => if len = 0 ∧ cap = 0 then some (.slice (some ⟨h.n, 0, none⟩) m unk, h.push (.cells new e true)) else none
        | some ⟨b, o, none⟩ =>
          if anyCap ≤ cap ∧ cap - anyCap < len + m then none
          else if cap = unk then
            match h.get? b with
            | some (.cells c e' true) =>
              if e' = e ∧ o = 0 ∧ c.length = len * (s + 1) then
                some (.slice (some ⟨h.n, 0, none⟩) (len + m) unk, (h.set b .dead).push (.cells (c ++ new) e true))
              else none
            | _ => none
          else if len + m ≤ cap then
            match h.get? b with
            | some (.cells c e' true) =>
              if o + len * (s + 1) + new.length ≤ c.length then
                some (.slice (some ⟨b, o, none⟩) (len + m) cap, h.set b (.cells (splice c (o + len * (s + 1)) new) e' true))
              else none
            | _ => none
          else
            match rowB h (s + 1) len (.slice (some ⟨b, o, none⟩) len cap) with
            | some old => some (.slice (some ⟨h.n, 0, none⟩) (len + m) unk, h.push (.cells (old ++ new) e true))
            | none => none
        | some _ => none
      else none
    | none => none
  | _, _, _, _ => none
def appendZ (P : Program) (h : Heap) (e : TypeId) (a : Option Addr) (len cap : Nat) (y : Value) : Option (Value × Heap) :=
  match sizeB P e, bytesB P e, zeroB P e, y with
  | some (s + 1), some by_, some z, .int .i64 (.ofNat n) =>
    if (z.cells.size = s + 1 ∧ (Builtin.zeroCells z.cells n).toList.all oneB ∧ n * (by_ + 1) ≤ 70368744177664 ∧ 0 < n) ∧ a = none ∧ len = 0 ∧ cap = 0 then
      some (.slice (some ⟨h.n, 0, none⟩) n unk, h.push (.cells (Builtin.zeroCells z.cells n).toList e true))
    else none
  | _, _, _, _ => none
def appendB (P : Program) (h : Heap) (argTypes : Array TypeId) (x y : Value) : Option (Value × Heap) :=
  match argTypes[0]?, argTypes[1]?, x with
  | some t, some t', .slice a len cap =>
    match P.underlying t, P.underlying t' with
    | some (.slice e), some (.slice _) => appendRow P h e a len cap y
    | some (.slice e), some .string => appendRow P h e a len cap y
    | some (.slice e), some (.int _) => appendZ P h e a len cap y
    | _, _ => none
  | _, _, _ => none
def copyB (P : Program) (h : Heap) (argTypes : Array TypeId) (x y : Value) : Option (Value × Heap) :=
  match argTypes[0]? with
  | some t =>
    match P.underlying t with
    | some (.slice e) =>
      match sizeB P e, x, lenB y with
      | some s, .slice a len _, some m =>
        let n := min m len
        match rowB h s n y, a with
        | some new, some ⟨b, o, none⟩ =>
          if new.all oneB then
          match h.get? b with
          | some (.cells c e' true) =>
            if o + new.length ≤ c.length then some (goInt n, h.set b (.cells (splice c o new) e' true)) else none
          | _ => if new.isEmpty then some (goInt n, h) else none
          else none
        | some new, none => if new.isEmpty then some (goInt n, h) else none
        | _, _ => none
      | _, _, _ => none
    | _ => none
  | none => none
def clearB (P : Program) (h : Heap) (argTypes : Array TypeId) (x : Value) : Option (Value × Heap) :=
  match argTypes[0]? with
  | some t =>
    match P.underlying t with
    | some (.slice e) =>
      match zeroB P e, x with
      | some _, .slice none _ _ => some (.tuple #[], h)
      | some z, .slice (some ⟨b, o, none⟩) n _ =>
        if n = 0 then some (.tuple #[], h) else
        match h.get? b with
        | some (.cells c e' true) =>
          if o + (Builtin.zeroCells z.cells n).toList.length ≤ c.length ∧ (Builtin.zeroCells z.cells n).toList.all oneB then some (.tuple #[], h.set b (.cells (splice c o (Builtin.zeroCells z.cells n).toList) e' true)) else none
        | _ => none
      | _, _ => none
    | _ => none
  | none => none
def bareE (e : MapEntry) : MapEntry := { e with val := .bool false }
def findB (P : Program) (empty : Bool) (kt : TypeId) (k : Value) (es : List MapEntry) : Option (Option (Nat × Value)) :=
  if plain deep k then
    match pe P (do Instr.checkKey empty 10000 kt k; Instr.findKey kt k (es.map bareE)) with
    | some none => some none
    | some (some (i, _)) => match es[i]? with
      | some e => some (some (i, e.val))
      | none => none
    | none => none
  else none
def mapOf (h : Heap) : Value → Option (Nat × Array MapEntry × Nat)
  | .map (some r) => match h.get? r with
    | some (.obj (.map es c)) => some (r, es, c)
    | _ => none
  | _ => none
def mapRows (h : Heap) : Value → Option (Array MapEntry)
  | .map none => some #[]
  | m => match mapOf h m with
    | some (_, es, _) => some es
    | none => none
def lookupB (P : Program) (h : Heap) (t : TypeId) (m k : Value) (ok : Bool) : Option Value :=
  match P.underlying t with
  | some (.map kt e) =>
    match mapRows h m, zeroB P e with
    | some es, some z =>
      match findB P es.isEmpty kt k es.toList with
      | some (some (_, v)) => some (if ok then .tuple #[v, .bool true] else v)
      | some none => some (if ok then .tuple #[z, .bool false] else z)
      | none => none
    | _, _ => none
  | _ => none
def mapUpdateB (P : Program) (h : Heap) (t : TypeId) (m k v : Value) : Option Heap :=
  match P.underlying t, mapOf h m with
  | some (.map kt _), some (r, es, c) =>
    match findB P false kt k es.toList with
    | some (some (i, _)) =>
      match es[i]? with
      | some e => if Instr.sameBits 10000 e.key k then some (h.set r (.obj (.map (es.modify i fun e => { e with key := k, val := v }) c))) else none
      | none => none
    | some none => some (h.set r (.obj (.map (es.push { key := k, val := v, born := c }) (c + 1))))
    | none => none
  | _, _ => none
def deleteB (P : Program) (h : Heap) (argTypes : Array TypeId) (m k : Value) : Option (Value × Heap) :=
  match argTypes[0]? with
  | some t =>
    match P.underlying t, mapOf h m with
    | some (.map kt _), some (r, es, c) =>
      match findB P es.isEmpty kt k es.toList with
      | some (some (i, _)) => some (.tuple #[], h.set r (.obj (.map (es.eraseIdxIfInBounds i) c)))
      | some none => some (.tuple #[], h.set r (.obj (.map es c)))
      | none => none
    | _, _ => none
  | none => none
def mapEntryB (P : Program) (h : Heap) (t : TypeId) (m k : Value) : Option (Value × Heap) :=
  match P.underlying t, mapOf h m with
  | some (.map kt el), some (r, es, c) =>
    match findB P false kt k es.toList, zeroB P el with
    | some (some (i, v)), _ =>
      match es[i]? with
      | some e => if Instr.sameBits 10000 e.key k then some (.tuple #[v, goInt e.born], h.set r (.obj (.map (es.modify i fun e => { e with key := k }) c))) else none
      | none => none
    | some none, some z => some (.tuple #[z, goInt c], h.set r (.obj (.map (es.push { key := k, val := z, born := c }) (c + 1))))
    | _, _ => none
  | _, _ => none
def entryStoreB (h : Heap) (m stamp v : Value) : Option Heap :=
  match mapOf h m, stamp with
  | some (r, es, c), .int _ born =>
    match es.findIdx? (fun e => (e.born : Int) == born) with
    | some i => some (h.set r (.obj (.map (es.modify i fun e => { e with val := v }) c)))
    | none => none
  | _, _ => none
def rangeB (P : Program) (h : Heap) (t : TypeId) (x : Value) : Option (Value × Heap) :=
  match P.underlying t, x with
  | some .string, .string s => some (.pointer (some ⟨h.n, 0, none⟩), h.push (.obj (.stringIter s 0)))
  | _, _ => none
def nextB (h : Heap) (it : Value) (isString : Bool) : Option (Value × Heap) :=
  match it, isString with
  | .pointer (some ⟨r, 0, none⟩), true =>
    match h.get? r with
    | some (.obj (.stringIter s pos)) =>
      if pos < s.size then
        let (c, width) := Utf8.decode s pos
        some (.tuple #[.bool true, goInt pos, .int .i32 c], h.set r (.obj (.stringIter s (pos + width))))
      else some (.tuple #[.bool false], h)
    | _ => none
  | _, _ => none
def assertB (P : Program) (x : Value) (asserted : TypeId) (ok : Bool) : Option Value :=
  match P.underlying asserted, x with
  | some (.interface ms), .iface t _ =>
    match P.info? t with
    | some i => match Instr.missingMethod ms i.methods with
      | none => some (if ok then .tuple #[x, .bool true] else x)
      | some _ => if ok then (zeroB P asserted).map fun z => .tuple #[z, .bool false] else none
    | none => none
  | some (.interface _), .nilIface => if ok then (zeroB P asserted).map fun z => .tuple #[z, .bool false] else none
  | some _, .iface t v => if t = asserted then some (if ok then .tuple #[v, .bool true] else v) else if ok then (zeroB P asserted).map fun z => .tuple #[z, .bool false] else none
  | some _, .nilIface => if ok then (zeroB P asserted).map fun z => .tuple #[z, .bool false] else none
  | _, _ => none
def nilEqB (P : Program) (t : TypeId) (x y : Value) : Option Bool :=
  match P.underlying t, x, y with
  | some (.slice _), .slice (some _) _ _, .slice none _ _ | some (.slice _), .slice none _ _, .slice (some _) _ _ => some false
  | some (.map _ _), .map (some _), .map none | some (.map _ _), .map none, .map (some _) => some false
  | some (.pointer _), .pointer (some _), .pointer none | some (.pointer _), .pointer none, .pointer (some _) => some false
  | some (.func _ _ _), .func _ _ _, .nilFunc | some (.func _ _ _), .nilFunc, .func _ _ _ => some false
  | some (.interface _), .iface _ _, .nilIface | some (.interface _), .nilIface, .iface _ _ => some false
  | _, _, _ => none
def plainKind (o : Oper) : Bool :=
  match o.op with
  | .slice .. | .binOp .. | .unOp .. | .convert .. | .index .. => true
  | .call c => match c.callee with | .builtin _ => true | _ => false
  | _ => false
def plainOp (P : Program) (tm : Array Value) (o : Oper) : Option Value :=
  if plainKind o && o.op.operands.toList.all (fun x => plain deep (ev tm x)) then
    match pe P (execOp (ev tm) o) with
    | some (.value v) => if plain deep v then some v else none
    | _ => none
  else none
def strOf : List Value → ByteArray → Option ByteArray
  | [], s => some s
  | .int .u8 n :: l, s => strOf l (s.push (UInt8.ofNat n.toNat))
  | _, _ => none
def convertB (P : Program) (tm : Array Value) (h : Heap) (o : Oper) (src dst : TypeId) (x : Value) : Option (Value × Heap) :=
  match x with
  | .slice a len _ =>
    match P.underlying src, P.underlying dst with
    | some (.slice e), some .string =>
      match P.underlying e, rowB h 1 len (.slice a len 0) with
      | some (.int .u8), some c => if sizeB P e != some 1 then none else (strOf c .empty).map fun s => (.string s, h)
      | _, _ => none
    | _, _ => none
  | .string s =>
    match P.underlying dst with
    | some (.slice e) =>
      match P.underlying e with
      | some (.int .u8) => if sizeB P e != some 1 || (P.underlying src).isNone then none else some (.slice (some ⟨h.n, 0, none⟩) s.size anyCap, h.push (.cells (s.data.toList.map fun b => .int .u8 b.toNat) e true))
      | _ => none
    | _ => (plainOp P tm o).map fun v => (v, h)
  | _ => (plainOp P tm o).map fun v => (v, h)
def fieldB (P : Program) (t : TypeId) (x : Value) (f : Nat) : Option Value :=
  match fieldsOf P t, x with
  | some fs, .agg cs => match fs[f]? with
    | some fd => partB P fd.type cs.toList fd.offset
    | none => none
  | _, _ => none
def indexB (P : Program) (t : TypeId) (x i : Value) : Option Value :=
  match i, P.underlying t, x with
  | .int _ k, some (.array len e), .agg cs =>
    match sizeB P e with
    | some n => if 0 ≤ k ∧ k < len then partB P e cs.toList (k.toNat * n) else none
    | none => none
  | _, _, _ => none
def indexV (P : Program) (tm : Array Value) (o : Oper) (t : TypeId) (x i : Value) : Option Value :=
  match plainOp P tm o with
  | some v => some v
  | none => indexB P t x i
def simpleB (P : Program) (tm : Array Value) (h : Heap) (o : Oper) : Option (Value × Heap) :=
  let one (v : Option Value) : Option (Value × Heap) := v.map fun v => (v, h)
  match o.op with
  | .move x | .assign x => some (ev tm x, h)
  | .pick c a b => match ev tm c with | .bool t => some (if t then ev tm a else ev tm b, h) | _ => none
  | .alloc e => match zeroB P e with | some z => boxB P h e z | none => none
  | .box e x => boxB P h e (ev tm x)
  | .build t parts => one (fillB P t (parts.toList.map fun (i, x) => (i, ev tm x)))
  | .buildSlice t len parts => buildSliceB P h t len (parts.toList.map fun (i, x) => (i, ev tm x))
  | .load t a => one (readB P h t (ev tm a))
  | .nilCheck x => match ev tm x with | .pointer (some a) => some (.pointer (some a), h) | .iface t v => some (.iface t v, h) | .func (.func f) a b => some (.func (.func f) a b, h) | _ => none
  | .makeInterface t x => match P.underlying t with | some (.interface _) | none => none | some _ => some (.iface t (ev tm x), h)
  | .makeFunc fn first captured => match fn with | .yield _ => none | fn => some (.func fn (first.map (ev tm)) (captured.map (ev tm)), h)
  | .makeMap _ none => some (.map (some h.n), h.push (.obj (.map #[] 0)))
  | .makeSlice t l c => makeSliceB P h t (ev tm l) (ev tm c)
  | .slice t x lo hi mx => match ev tm x with
    | .string _ => one (plainOp P tm o)
    | x => one (sliceB P t x (lo.map (ev tm)) (hi.map (ev tm)) (mx.map (ev tm)))
  | .fieldAddr t x f => one (fieldAtB P t (ev tm x) f)
  | .field t x f => one (fieldB P t (ev tm x) f)
  | .indexAddr t x i => one (indexAtB P t (ev tm x) (ev tm i))
  | .sliceToArrayPointer t x => one (arrayAtB P t (ev tm x))
  | .extract t i => match ev tm t with | .tuple vs => one vs[i]? | _ => none
  | .lookup t m k ok => one (lookupB P h t (ev tm m) (ev tm k) ok)
  | .range t x => rangeB P h t (ev tm x)
  | .typeAssert x _ asserted ok => one (assertB P (ev tm x) asserted ok)
  | .binOp op t x y _ => match plainOp P tm o with
    | some v => some (v, h)
    | none => match op with
      | .eql => one ((nilEqB P t (ev tm x) (ev tm y)).map .bool)
      | .neq => one ((nilEqB P t (ev tm x) (ev tm y)).map fun b => .bool (!b))
      | _ => none
  | .call { callee := .builtin .len, args, argTypes } =>
    match argTypes[0]?, args[0]? with
    | some t, some x => match P.underlying t, ev tm x with
      | some (.slice _), .slice _ n _ => some (goInt n, h)
      | some (.map _ _), .map (some _) => one ((mapOf h (ev tm x)).map fun r => goInt r.2.1.size)
      | some (.array n _), _ => some (goInt n, h)
      | _, _ => one (plainOp P tm o)
    | _, _ => none
  | .call { callee := .builtin .cap, args, argTypes } =>
    match argTypes[0]?, args[0]? with
    | some t, some x => match P.underlying t, ev tm x with
      | some (.slice _), .slice _ _ c => if c < unk then some (goInt c, h) else none
      | _, _ => none
    | _, _ => none
  | .convert src dst x => convertB P tm h o src dst (ev tm x)
  | .unOp .. => one (plainOp P tm o)
  | .index t x i => one (indexV P tm o t (ev tm x) (ev tm i))
  | .call { callee := .builtin .min, .. } | .call { callee := .builtin .max, .. } => one (plainOp P tm o)
  | _ => none
def isSimple (o : Oper) : Bool :=
  match o.op with
  | .move _ | .assign _ | .pick .. | .alloc _ | .box .. | .build .. | .buildSlice .. | .load .. | .nilCheck _ | .makeInterface .. | .makeFunc .. | .makeMap _ none | .makeSlice ..
  | .slice .. | .fieldAddr .. | .field .. | .indexAddr .. | .sliceToArrayPointer .. | .extract .. | .lookup .. | .range .. | .typeAssert .. | .binOp .. | .index .. | .unOp .. | .convert .. => true
  | .call { callee := .builtin .len, .. } | .call { callee := .builtin .cap, .. } | .call { callee := .builtin .min, .. } | .call { callee := .builtin .max, .. } => true
  | _ => false
def opOK (P : Program) (x : Operand) : Bool :=
  match x with
  | .const v => plain deep v
  | .global g => g < P.globals.size
  | _ => true
def opsOK (P : Program) (o : Oper) : Bool := o.op.operands.toList.all (opOK P)
def callFuncB (P : Program) (f : FuncId) (args : Array Value) : Option Out :=
  match P.funcs[f]? with
  | none => none
  | some fn =>
    if fn.name == "runtime.NumGoroutine" then none
    else if fn.body.isSome then some (.enter f args)
    else if args.toList.all (plain deep) then
      match pe P (callFunc f args) with
      | some (.value v) => if plain deep v then some (.val v) else none
      | _ => none
    else none
def methodB (P : Program) (recv : Value) (name : String) : Option (FuncId × Value) :=
  match recv with
  | .iface t v =>
    match P.info? t with
    | some i =>
      match i.methods.find? (·.name == name) with
      | some m =>
        if m.path.isEmpty then
          match m.func, P.underlying t with
          | some (f, false), some d => match d with | .pointer _ => none | _ => some (f, v)
          | some (f, true), some (.pointer _) => some (f, v)
          | _, _ => none
        else if plain deep v then
          match pe P (method (P.types.size + Made.depth) t v name) with
          | some (f, r) => if plain deep r then some (f, r) else none
          | none => none
        else none
      | none => none
    | none => none
  | _ => none
def callMethodB (P : Program) (recv : Value) (name : String) (args : Array Value) : Option Out :=
  match methodB P recv name with
  | some (f, r) => callFuncB P f (#[r] ++ args)
  | none => none
def callValueB (P : Program) (f : Value) (args : Array Value) : Option Out :=
  match f with
  | .func fn first captured =>
    let args := first ++ args
    match fn with
    | .func g => callFuncB P g (args ++ captured)
    | .method name => match args[0]? with
      | some r => callMethodB P r name (args.extract 1 args.size)
      | none => none
    | .methodOf t name => match args[0]?, P.underlying t with
      | some r, some d => callMethodB P (match d with | .interface _ => r | _ => .iface t r) name (args.extract 1 args.size)
      | _, _ => none
    | .yield l => some (.round l args)
    | _ => none
  | _ => none
def effectB (P : Program) (tm : Array Value) (h : Heap) (o : Oper) : Option (Out × Heap) :=
  let vh (r : Option (Value × Heap)) : Option (Out × Heap) := r.map fun (v, h) => (.val v, h)
  let hh (r : Option Heap) : Option (Out × Heap) := r.map fun h => (.val undef, h)
  match o.op with
  | .store t a x => hh (writeB P h t (ev tm x) (ev tm a))
  | .mapUpdate t m k v | .insert t m k v => hh (mapUpdateB P h t (ev tm m) (ev tm k) (ev tm v))
  | .mapEntry t m k => vh (mapEntryB P h t (ev tm m) (ev tm k))
  | .entryStore _ m s v => hh (entryStoreB h (ev tm m) (ev tm s) (ev tm v))
  | .next it isS => vh (nextB h (ev tm it) isS)
  | .panic x => match ev tm x with | .iface t v => some (.panic (.iface t v), h) | _ => none
  | .call { callee := .builtin .append, args, argTypes } =>
    match args[0]?, args[1]? with
    | some x, some y => vh (appendB P h argTypes (ev tm x) (ev tm y))
    | _, _ => none
  | .call { callee := .builtin .copy, args, argTypes } =>
    match args[0]?, args[1]? with
    | some x, some y => vh (copyB P h argTypes (ev tm x) (ev tm y))
    | _, _ => none
  | .call { callee := .builtin .clear, args, argTypes } =>
    match args[0]? with
    | some x => vh (clearB P h argTypes (ev tm x))
    | none => none
  | .call { callee := .builtin .delete, args, argTypes } =>
    match args[0]?, args[1]? with
    | some x, some y => vh (deleteB P h argTypes (ev tm x) (ev tm y))
    | _, _ => none
  | .call { callee := .builtin .panic, args, .. } =>
    match args[0]? with
    | some x => match ev tm x with | .iface t v => some (.panic (.iface t v), h) | _ => none
    | none => none
  | .call { callee := .builtin .recover, .. } => some (.recover, h)
  | .call { callee := .value f, args, .. } => (callValueB P (ev tm f) (args.map (ev tm))).map fun r => (r, h)
  | .call { callee := .invoke r name, args, .. } => (callMethodB P (ev tm r) name (args.map (ev tm))).map fun r => (r, h)
  | .defer { callee := .value f, args, .. } =>
    match ev tm f with
    | .func (.func g) first captured => some (.defer { target := .fn (.func g) captured, args := first ++ args.map (ev tm) }, h)
    | _ => none
  | _ => none
end Go.AX

namespace Go.AX
structure Ctx where
  fn : FuncId
  round : Option Nat
  dfr : Bool
structure St where
  tm : Array Value
  df : List Deferred
  up : FrameMode
  h : Heap
inductive Ex where
  | normal
  | ret
  | exit (id : Nat)
  | panic (chain : List PanicEntry)
inductive End where
  | ret (v : Value)
  | panic (chain : List PanicEntry)
structure Recs where
  code : Ctx → Code → St → Option (Ex × St)
  call : FuncId → Array Value → Bool → FrameMode → Heap → Option (End × FrameMode × Heap)
  round : Nat → Array Value → Heap → Option (End × Heap)
abbrev Known := FuncId → Array Value → Heap → Option (Value × List (List Value × TypeId))
def killT : Nat := 4611686018427387904
def turnT : Nat := 4611686018427387905
def killed : List Value → Nat
  | .int _ n :: _ => n.toNat
  | _ => 0
def turnB (h : Heap) (c : List Value) : Heap :=
  match h.get? (killed c) with
  | some (.cells _ e true) => h.set (killed c) (.cells c.tail e true)
  | _ => h
def layB (h : Heap) (p : List Value × TypeId) : Heap := bif Nat.beq p.2 killT then h.set (killed p.1) .dead else bif Nat.beq p.2 turnT then turnB h p.1 else h.push (.cells p.1 p.2 true)
def pushAll (h : Heap) : List (List Value × TypeId) → Heap
  | [] => h
  | p :: l => pushAll (layB h p) l
def binds (e : Edge) : Bool := match e.ground with | .textOnly _ | .gcOnly _ => false | _ => true
def preds (ops : List Oper) : List (List Nat) :=
  ops.foldl (fun ps o => ps ++ [o.after.toList.foldl (fun l e => if binds e then e.on :: (ps.getD e.on [] ++ l) else l) []]) []
def recoverB (up : FrameMode) : Value × FrameMode :=
  match up with
  | .panicking ({ v, recovered := false, goexit := false } :: older) => (v, .panicking ({ v, recovered := true } :: older))
  | m => (.nilIface, m)
inductive Did where
  | val (v : Value)
  | panic (chain : List PanicEntry)
def doOp (P : Program) (R : Recs) (x : Ctx) (s : St) (o : Oper) : Option (Did × St) :=
  if !(opsOK P o) then none else
  match simpleB P s.tm s.h o with
  | some (v, h) => some (.val v, { s with h })
  | none => if isSimple o then none else
  match effectB P s.tm s.h o with
  | none => none
  | some (.val v, h) => some (.val v, { s with h })
  | some (.enter f args, h) =>
    match R.call f args false .run h with
    | some (.ret v, _, h) => some (.val v, { s with h })
    | some (.panic c, _, h) => some (.panic c, { s with h })
    | none => none
  | some (.round l args, h) =>
    match R.round l args h with
    | some (.ret v, h) => some (.val v, { s with h })
    | some (.panic c, h) => some (.panic c, { s with h })
    | none => none
  | some (.defer d, h) => if x.round.isSome then none else some (.val undef, { s with h, df := d :: s.df })
  | some (.recover, h) =>
    if x.round.isSome then none
    else if x.dfr then some (.val (recoverB s.up).1, { s with h, up := (recoverB s.up).2 })
    else some (.val .nilIface, { s with h })
  | some (.panic v, h) => some (.panic [{ v, recovered := false }], { s with h })
def wantedB (ops : Array Oper) (tm : Array Value) (o : Oper) : Bool := Region.wanted o (yielded ops tm)
def seqOps (P : Program) (R : Recs) (x : Ctx) (ops : Array Oper) : List Nat → St → Option (Ex × St)
  | [], s => some (.normal, s)
  | i :: l, s =>
    match ops[i]? with
    | none => none
    | some o =>
      if wantedB ops s.tm o then
        match doOp P R x s o with
        | some (.val v, s) => seqOps P R x ops l { s with tm := put s.tm o.dst v }
        | some (.panic c, s) => some (.panic c, s)
        | none => none
      else seqOps P R x ops l { s with tm := put s.tm o.dst undef }
def readsOf (ops : Array Oper) (o : Oper) : List Tmp :=
  (o.op.operands.toList.filterMap fun | .tmp t => some t | _ => none) ++ (match o.guard with | some (g, _) => ((ops[g]?).bind (·.dst)).toList | none => [])
def openOK (ops : Array Oper) : Bool :=
  let ps := preds ops.toList
  let ordered (i j : Nat) : Bool := (ps.getD j []).contains i || (ps.getD i []).contains j
  (List.range ops.size).all fun j =>
    match ops[j]? with
    | none => false
    | some o =>
      (o.after.toList.all fun e => !binds e || e.on < j) &&
      ((List.range ops.size).all fun i => i == j ||
        match ops[i]? with
        | none => false
        | some p =>
          (isSimple o || isSimple p || ordered i j) &&
          (match p.dst with
           | some t => (!((readsOf ops o).contains t) && !(o.dst == some t)) || ordered i j
           | none => true))
def same : Nat → Value → Value → Bool
  | 0, _, _ => false
  | n + 1, a, b => match a, b with
    | .bool a, .bool b => a == b
    | .int j a, .int k b => j == k && a == b
    | .string a, .string b => a.data.toList == b.data.toList
    | .pointer a, .pointer b => a == b
    | .slice a l c, .slice b m d => a == b && l == m && c == d
    | .map a, .map b => a == b
    | .nilFunc, .nilFunc => true
    | .nilIface, .nilIface => true
    | .func f a b, .func g c d => f == g && all2 n a.toList c.toList && all2 n b.toList d.toList
    | .iface t a, .iface u b => t == u && same n a b
    | .agg a, .agg b => all2 n a.toList b.toList
    | .tuple a, .tuple b => all2 n a.toList b.toList
    | _, _ => false
where
  all2 (n : Nat) : List Value → List Value → Bool
    | [], [] => true
    | a :: as, b :: bs => same n a b && all2 n as bs
    | _, _ => false
def looks (o : Oper) : Bool :=
  match o.op with
  | .load .. | .lookup .. | .convert .. => true
  | .call { callee := .builtin .len, .. } => true
  | _ => false
structure Look where
  o : Oper
  tm : Array Value
  v : Value
  n : Nat
  lo : Nat
  hi : Nat
def actsIn (ops : Array Oper) (l : List Nat) : Nat := ((List.range ops.size).filter fun i => l.contains i && (match ops[i]? with | some o => !isSimple o | none => false)).length
def actsMost (ops : Array Oper) (ps : List (List Nat)) (j : Nat) : Nat :=
  ((List.range ops.size).filter fun i => !((ps.getD i []).contains j) && (match ops[i]? with | some o => !isSimple o | none => false)).length
structure Open where
  s : St
  hs : List Heap
  looks : List Look
  news : List (Nat × Nat × Blk)
def hide (l : List (Nat × Nat × Blk)) (h : Heap) : Heap := l.foldl (fun h p => h.set p.2.1 .dead) h
def unhide (l : List (Nat × Nat × Blk)) (h : Heap) : Heap := l.foldl (fun h p => h.set p.2.1 p.2.2) h
def unseen (ps : List (List Nat)) (news : List (Nat × Nat × Blk)) (i : Nat) : List (Nat × Nat × Blk) := news.filter fun p => !(ps.getD i []).contains p.1
def openSimple (P : Program) (ops : Array Oper) (ps : List (List Nat)) (z : Open) (i : Nat) (o : Oper) : Option Open :=
  match (if opsOK P o then simpleB P z.s.tm z.s.h o else none) with
  | none => none
  | some (v, h) =>
    if h.n == z.s.h.n then
      some { z with s := { z.s with tm := put z.s.tm o.dst v }, looks := if looks o then { o, tm := z.s.tm, v, n := z.s.h.n, lo := actsIn ops (ps.getD i []), hi := actsMost ops ps i } :: z.looks else z.looks }
    else
      match h.get? z.s.h.n with
      | some b => some { z with s := { z.s with h, tm := put z.s.tm o.dst v }, news := (i, z.s.h.n, b) :: z.news }
      | none => none
def openAct (P : Program) (R : Recs) (x : Ctx) (ps : List (List Nat)) (z : Open) (i : Nat) (o : Oper) : Option Open :=
  match doOp P R x { z.s with h := hide (unseen ps z.news i) z.s.h } o with
  | some (.val v, s) =>
    if (unseen ps z.news i).all fun p => (s.h.get? p.2.1).isSome then some { z with s := { s with tm := put s.tm o.dst v, h := unhide (unseen ps z.news i) s.h }, hs := unhide (unseen ps z.news i) s.h :: z.hs } else none
  | _ => none
def openStep (P : Program) (R : Recs) (x : Ctx) (ops : Array Oper) (ps : List (List Nat)) (z : Open) (i : Nat) : Option Open :=
  match ops[i]? with
  | none => none
  | some o =>
    if isSimple o then
      if wantedB ops z.s.tm o then openSimple P ops ps z i o
      else some { z with s := { z.s with tm := put z.s.tm o.dst undef } }
    else if wantedB ops z.s.tm o then openAct P R x ps z i o
    else some { z with s := { z.s with tm := put z.s.tm o.dst undef }, hs := z.s.h :: z.hs }
def within : Nat → Nat → Value → Bool
  | 0, _, _ => false
  | k + 1, n, v => match v with
    | .bool _ | .int _ _ | .string _ | .nilFunc | .nilIface | .pointer none | .map none | .slice none _ _ => true
    | .pointer (some a) | .slice (some a) _ _ => a.block < n
    | .map (some r) => r < n
    | .func f a b => (match f with | .yield l => l < n | _ => true) && a.toList.all (within k n) && b.toList.all (within k n)
    | .iface _ v => within k n v
    | .agg cs | .tuple cs => cs.toList.all (within k n)
    | _ => false
def lookOK (P : Program) (hs : List Heap) (l : Look) : Bool :=
  (List.range (hs.length)).all fun k => k < l.lo || l.hi < k ||
    match hs[hs.length - 1 - k]? with
    | some h => match simpleB P l.tm h l.o with
      | some (v, h1) => same 20 v l.v && h1.n == h.n && within 20 l.n l.v
      | none => false
    | none => false
def openOps (P : Program) (R : Recs) (x : Ctx) (ops : Array Oper) (s : St) : Option (Ex × St) :=
  if openOK ops then
    match (List.range ops.size).foldlM (openStep P R x ops (preds ops.toList)) { s, hs := [s.h], looks := [], news := [] } with
    | some z => if z.hs.length ≤ 1 || z.looks.all (lookOK P z.hs) then some (.normal, z.s) else none
    | none => none
  else none
def loopB (h : Heap) (l : Nat) : Option Loop :=
  match h.get? l with
  | some (.obj (.loop r)) => some r
  | _ => none
def enterLoopB (x : Ctx) (s : St) (params : Array Tmp) (assign body : Code) : Option (Nat × List Deferred × Heap) :=
  match x.round with
  | some l =>
    match loopB s.h l with
    | some r => some (s.h.n, [], s.h.push (.obj (.loop { state := .ready, pending := none, fn := x.fn, tmps := s.tm, params, assign, body, defers := r.defers })))
    | none => none
  | none =>
    let h := s.h.push (.obj (.deferred (some [])))
    some (h.n, [{ target := .collected s.h.n, args := #[] }], h.push (.obj (.loop { state := .ready, pending := none, fn := x.fn, tmps := s.tm, params, assign, body, defers := s.h.n })))
def rangeFuncB (P : Program) (R : Recs) (x : Ctx) (s : St) (f : Operand) (params : Array Tmp) (assign body : Code) : Option (Ex × St) :=
  match enterLoopB x s params assign body with
  | none => none
  | some (l, mark, h) =>
    let s := { s with h, df := mark ++ s.df }
    if !(opOK P f) then none else
    match callValueB P (ev s.tm f) #[.func (.yield l) #[] #[]] with
    | some (.enter g args) =>
      match R.call g args false .run s.h with
      | some (.ret _, _, h) =>
        match loopB h l with
        | some r =>
          if r.state == .busy then none else
          let s := { s with h := h.set l (.obj (.loop { r with state := .exhausted })) }
          match r.pending with
          | none => some (.normal, s)
          | some c => R.code x c s
        | none => none
      | some (.panic c, _, h) => some (.panic c, { s with h })
      | none => none
    | _ => none
def codeF (P : Program) (R : Recs) (x : Ctx) : Code → St → Option (Ex × St)
  | .skip, s | .label _, s => some (.normal, s)
  | .region _ ops draw, s => if draw then openOps P R x ops s else seqOps P R x ops (List.range ops.size) s
  | .seq a b, s =>
    match R.code x a s with
    | some (.normal, s) => R.code x b s
    | r => r
  | .cond c a b, s =>
    match ev s.tm c with
    | .bool t => R.code x (if t then a else b) s
    | _ => none
  | .block id b, s =>
    match R.code x b s with
    | some (.exit i, s) => if i = id then some (.normal, s) else some (.exit i, s)
    | r => r
  | .loop b, s =>
    match R.code x b s with
    | some (.normal, s) => R.code x (.loop b) s
    | r => r
  | .scope b, s => R.code x b s
  | .exit id, s => some (.exit id, s)
  | .ret, s => some (.ret, s)
  | .rangeFunc f params assign body, s => rangeFuncB P R x s f params assign body
  | .goto _, _ | .refuse _, _ => none
def settleB : FrameMode → FrameMode
  | .panicking ({ recovered := true, .. } :: older) =>
    match older.dropWhile (!·.goexit) with
    | [] => .returning
    | rest => .panicking rest
  | m => m
def raisedB (u : FrameMode) (chain : List PanicEntry) : FrameMode :=
  match u with
  | .panicking old => .panicking (chain ++ old)
  | _ => .panicking chain
def resultB (P : Program) (tm : Array Value) (h : Heap) : ResultVar → Option Value
  | .tmp t => some (tm.getD t undef)
  | .cell a t => readB P h t (tm.getD a undef)
def resultsB (P : Program) (fn : Func) (tm : Array Value) (h : Heap) : Option Value :=
  (fn.results.toList.mapM (resultB P tm h)).map fun vs => match vs with
    | [v] => v
    | vs => .tuple vs.toArray
def isRun : FrameMode → Bool
  | .run => true
  | _ => false
def leaveB (P : Program) (R : Recs) (fn : Func) (tm : Array Value) : List Deferred → FrameMode → Heap → Option (End × Heap)
  | [], .returning, h => (resultsB P fn tm h).map fun v => (.ret v, h)
  | [], .panicking c, h => some (.panic c, h)
  | [], .run, _ => none
  | d :: ds, u, h =>
    if isRun u then none else
    match d.target with
    | .collected r =>
      match h.get? r with
      | some (.obj (.deferred (some []))) => leaveB P R fn tm ds u (h.set r (.obj (.deferred none)))
      | _ => none
    | .fn (.func g) captured =>
      match callFuncB P g (d.args ++ captured) with
      | some (.enter g args) =>
        match R.call g args true u h with
        | some (.ret _, u, h) => leaveB P R fn tm ds (settleB u) h
        | some (.panic c, u, h) => leaveB P R fn tm ds (raisedB u c) h
        | none => none
      | _ => none
    | _ => none
def callF (P : Program) (K : Known) (R : Recs) (f : FuncId) (args : Array Value) (dfr : Bool) (up : FrameMode) (h : Heap) : Option (End × FrameMode × Heap) :=
  match (if dfr then none else K f args h) with
  | some r => some (.ret r.1, up, pushAll h r.2)
  | none =>
  match P.funcs[f]? with
  | none => none
  | some fn =>
    match fn.body with
    | none => none
    | some c =>
      match R.code { fn := f, round := none, dfr } c { tm := args ++ Array.replicate (fn.ntmps - args.size) undef, df := [], up, h } with
      | some (.normal, s) | some (.ret, s) => (leaveB P R fn s.tm s.df .returning s.h).map fun (e, h) => (e, s.up, h)
      | some (.panic ch, s) => (leaveB P R fn s.tm s.df (.panicking ch) s.h).map fun (e, h) => (e, s.up, h)
      | _ => none
def endRoundB (l : Nat) (jump : Option Code) (h : Heap) : Option (End × Heap) :=
  match loopB h l with
  | some r => some (.ret (.bool jump.isNone), h.set l (.obj (.loop { r with state := if jump.isNone then .ready else .done, pending := jump })))
  | none => none
def roundF (P : Program) (R : Recs) (l : Nat) (args : Array Value) (h : Heap) : Option (End × Heap) :=
  match loopB h l with
  | none => none
  | some r0 =>
    if args.size ≠ r0.params.size then none else
    match R.code { fn := r0.fn, round := some l, dfr := false } r0.assign { tm := (r0.params.zip args).foldl (fun tm (t, a) => tm.setIfInBounds t a) r0.tmps, df := [], up := .run, h } with
    | some (.normal, s) =>
      match loopB s.h l with
      | some r1 =>
        if r1.state == .ready then
          match R.code { fn := r0.fn, round := some l, dfr := false } r0.body { s with h := s.h.set l (.obj (.loop { r1 with state := .busy })) } with
          | some (.normal, s) => endRoundB l none s.h
          | some (.ret, s) => endRoundB l (some .ret) s.h
          | some (.exit id, s) => endRoundB l (some (.exit id)) s.h
          | some (.panic c, s) => if s.df.isEmpty && (P.funcs[r0.fn]?).isSome then some (.panic c, s.h) else none
          | none => none
        else none
      | none => none
    | _ => none
def run (P : Program) (K : Known) : Nat → Recs
  | 0 => { code := fun _ _ _ => none, call := fun _ _ _ _ _ => none, round := fun _ _ _ => none }
  | n + 1 => { code := codeF P (run P K n), call := callF P K (run P K n), round := roundF P (run P K n) }
end Go.AX

namespace Go.AX
open Go.RowKit
structure Slot where
  g : Nat
  d : Nat
  cap : Nat
abbrev Ren := Nat → Option Slot
def Le (ρ ρ' : Ren) : Prop := ∀ a s, ρ a = some s → ρ' a = some s
theorem Le.refl (ρ : Ren) : Le ρ ρ := fun _ _ h => h
theorem Le.trans {a b c : Ren} (h : Le a b) (k : Le b c) : Le a c := fun x s e => k x s (h x s e)
def AR (ρ : Ren) (a a' : Addr) : Prop := ∃ s, ρ a.block = some s ∧ a.spot = none ∧ a' = ⟨s.g, a.off + s.d, none⟩
def CapR (s : Slot) (a : Addr) (l c c' : Nat) : Prop :=
  (c < unk ∧ c = c') ∨ (c = unk ∧ l ≤ c' ∧ a.off = 0 ∧ s.d = 0 ∧ c' = s.cap ∧ c' ≤ 9223372036854775807) ∨ (anyCap ≤ c ∧ c - anyCap ≤ c' ∧ l ≤ c')
def FnR (ρ : Ren) : Fn → Fn → Prop
  | .yield l, .yield l' => ∃ s, ρ l = some s ∧ l' = s.g
  | .yield _, _ => False
  | _, .yield _ => False
  | a, b => a = b
inductive VR (ρ : Ren) : Value → Value → Prop
  | bool (b : Bool) : VR ρ (.bool b) (.bool b)
  | int (k : IntKind) (n : Int) : VR ρ (.int k n) (.int k n)
  | string (s : ByteArray) : VR ρ (.string s) (.string s)
  | nilFunc : VR ρ .nilFunc .nilFunc
  | nilIface : VR ρ .nilIface .nilIface
  | nilPtr : VR ρ (.pointer none) (.pointer none)
  | nilMap : VR ρ (.map none) (.map none)
  | nilSlice (l c : Nat) : VR ρ (.slice none l c) (.slice none l c)
  | ptr {a a' : Addr} (h : AR ρ a a') : VR ρ (.pointer (some a)) (.pointer (some a'))
  | slice {a a' : Addr} {l c c' : Nat} (s : Slot) (h0 : ρ a.block = some s) (h1 : a.spot = none) (h2 : a' = ⟨s.g, a.off + s.d, none⟩) (hc : CapR s a l c c') : VR ρ (.slice (some a) l c) (.slice (some a') l c')
  | slice0 {a a' : Addr} {c c' : Nat} (h : a.spot = none) (h' : c' = 0 ∨ a'.spot = none) (hc : c = anyCap ∨ c = 0 ∧ c' = 0) : VR ρ (.slice (some a) 0 c) (.slice (some a') 0 c')
  | map {r : Nat} {s : Slot} (h : ρ r = some s) : VR ρ (.map (some r)) (.map (some s.g))
  | func {f f' : Fn} {a a' b b' : Array Value} (h : FnR ρ f f') (ha : a.size = a'.size) (hb : b.size = b'.size)
      (ia : ∀ (i : Nat) (v v' : Value), a[i]? = some v → a'[i]? = some v' → VR ρ v v') (ib : ∀ (i : Nat) (v v' : Value), b[i]? = some v → b'[i]? = some v' → VR ρ v v') : VR ρ (.func f a b) (.func f' a' b')
  | iface (t : TypeId) {v v' : Value} (h : VR ρ v v') : VR ρ (.iface t v) (.iface t v')
  | agg {a a' : Array Value} (ha : a.size = a'.size) (ia : ∀ (i : Nat) (v v' : Value), a[i]? = some v → a'[i]? = some v' → VR ρ v v') : VR ρ (.agg a) (.agg a')
  | tuple {a a' : Array Value} (ha : a.size = a'.size) (ia : ∀ (i : Nat) (v v' : Value), a[i]? = some v → a'[i]? = some v' → VR ρ v v') : VR ρ (.tuple a) (.tuple a')
def LR (ρ : Ren) (l l' : List Value) : Prop := l.length = l'.length ∧ ∀ (i : Nat) (v v' : Value), l[i]? = some v → l'[i]? = some v' → VR ρ v v'
theorem FnR.mono {ρ ρ' : Ren} (h : Le ρ ρ') {f f' : Fn} (k : FnR ρ f f') : FnR ρ' f f' := by
  cases f <;> cases f' <;> simp_all [FnR]
  obtain ⟨s, a, b⟩ := k
  exact ⟨s, h _ _ a, b⟩
theorem AR.mono {ρ ρ' : Ren} (h : Le ρ ρ') {a a' : Addr} (k : AR ρ a a') : AR ρ' a a' := by
  obtain ⟨s, e, r⟩ := k; exact ⟨s, h _ _ e, r⟩
theorem VR.mono {ρ ρ' : Ren} (h : Le ρ ρ') {v v' : Value} (k : VR ρ v v') : VR ρ' v v' := by
  induction k with
  | bool b => exact .bool b
  | int k n => exact .int k n
  | string s => exact .string s
  | nilFunc => exact .nilFunc
  | nilIface => exact .nilIface
  | nilPtr => exact .nilPtr
  | nilMap => exact .nilMap
  | nilSlice l c => exact .nilSlice l c
  | ptr a => exact .ptr (a.mono h)
  | slice s h0 h1 h2 hc => exact .slice s (h _ _ h0) h1 h2 hc
  | slice0 a b c => exact .slice0 a b c
  | map e => exact .map (h _ _ e)
  | func f ha hb _ _ ia ib => exact .func (f.mono h) ha hb ia ib
  | iface t _ ih => exact .iface t ih
  | agg ha _ ia => exact .agg ha ia
  | tuple ha _ ia => exact .tuple ha ia
theorem LR.mono {ρ ρ' : Ren} (h : Le ρ ρ') {l l' : List Value} (k : LR ρ l l') : LR ρ' l l' := ⟨k.1, fun i v v' a b => (k.2 i v v' a b).mono h⟩
theorem LR.nil (ρ : Ren) : LR ρ [] [] := ⟨rfl, by simp⟩
theorem LR.cons {ρ : Ren} {a a' : Value} {l l' : List Value} (h : VR ρ a a') (k : LR ρ l l') : LR ρ (a :: l) (a' :: l') := by
  refine ⟨by simp [k.1], fun i v v' e e' => ?_⟩
  cases i with
  | zero => simp at e e'; subst e; subst e'; exact h
  | succ i => simp at e e'; exact k.2 i v v' e e'
theorem LR.head {ρ : Ren} {a a' : Value} {l l' : List Value} (k : LR ρ (a :: l) (a' :: l')) : VR ρ a a' := k.2 0 a a' rfl rfl
theorem LR.tail {ρ : Ren} {a a' : Value} {l l' : List Value} (k : LR ρ (a :: l) (a' :: l')) : LR ρ l l' :=
  ⟨by simpa using k.1, fun i v v' e e' => k.2 (i + 1) v v' (by simpa using e) (by simpa using e')⟩
theorem LR.get {ρ : Ren} {l l' : List Value} (k : LR ρ l l') {i : Nat} {v : Value} (e : l[i]? = some v) : ∃ v', l'[i]? = some v' ∧ VR ρ v v' := by
  have hi : i < l'.length := by rw [← k.1]; exact (List.getElem?_eq_some_iff.1 e).1
  exact ⟨l'[i], List.getElem?_eq_getElem hi, k.2 i v _ e (List.getElem?_eq_getElem hi)⟩
theorem LR.none {ρ : Ren} {l l' : List Value} (k : LR ρ l l') {i : Nat} (e : l[i]? = none) : l'[i]? = none := by
  rw [List.getElem?_eq_none_iff] at e ⊢; rw [← k.1]; exact e
theorem LR.of_get {ρ : Ren} {l l' : List Value} (hl : l.length = l'.length) (h : ∀ (i : Nat) (v : Value), l[i]? = some v → ∃ v', l'[i]? = some v' ∧ VR ρ v v') : LR ρ l l' :=
  ⟨hl, fun i v v' e e' => by obtain ⟨u, hu, r⟩ := h i v e; rw [hu] at e'; cases e'; exact r⟩
theorem LR.append {ρ : Ren} {a a' b b' : List Value} (h : LR ρ a a') (k : LR ρ b b') : LR ρ (a ++ b) (a' ++ b') := by
  refine ⟨by simp [h.1, k.1], fun i v v' e e' => ?_⟩
  rw [List.getElem?_append] at e e'
  rw [← h.1] at e'
  split at e
  · rename_i hi; rw [if_pos hi] at e'; exact h.2 i v v' e e'
  · rename_i hi; rw [if_neg hi] at e'; exact k.2 _ v v' e e'
theorem LR.take {ρ : Ren} {a a' : List Value} (h : LR ρ a a') (n : Nat) : LR ρ (a.take n) (a'.take n) := by
  refine ⟨by simp [h.1], fun i v v' e e' => ?_⟩
  rw [List.getElem?_take] at e e'
  split at e
  · rename_i hi; rw [if_pos hi] at e'; exact h.2 i v v' e e'
  · cases e
theorem LR.drop {ρ : Ren} {a a' : List Value} (h : LR ρ a a') (n : Nat) : LR ρ (a.drop n) (a'.drop n) := by
  refine ⟨by simp [h.1], fun i v v' e e' => ?_⟩
  rw [List.getElem?_drop] at e e'
  exact h.2 _ v v' e e'
theorem LR.set {ρ : Ren} {a a' : List Value} (h : LR ρ a a') (n : Nat) {x x' : Value} (hx : VR ρ x x') : LR ρ (a.set n x) (a'.set n x') := by
  refine ⟨by simp [h.1], fun i v v' e e' => ?_⟩
  rw [List.getElem?_set] at e e'
  rw [← h.1] at e'
  split at e
  · rename_i hi; rw [if_pos hi] at e'
    split at e
    · rename_i hj; rw [if_pos hj] at e'; cases e; cases e'; exact hx
    · cases e
  · rename_i hi; rw [if_neg hi] at e'; exact h.2 i v v' e e'
theorem LR.map {ρ : Ren} {α : Type} (f g : α → Value) (l : List α) (h : ∀ x ∈ l, VR ρ (f x) (g x)) : LR ρ (l.map f) (l.map g) := by
  refine ⟨by simp, fun i v v' e e' => ?_⟩
  rw [List.getElem?_map] at e e'
  cases hl : l[i]? with
  | none => simp [hl] at e
  | some x => simp [hl] at e e'; subst e; subst e'; exact h x (List.mem_of_getElem? hl)
def XR (ρ : Ren) (a a' : Array Value) : Prop := LR ρ a.toList a'.toList
theorem XR.size {ρ : Ren} {a a' : Array Value} (h : XR ρ a a') : a.size = a'.size := by simpa using h.1
theorem XR.at {ρ : Ren} {a a' : Array Value} (h : XR ρ a a') {i : Nat} {v v' : Value} (e : a[i]? = some v) (e' : a'[i]? = some v') : VR ρ v v' := h.2 i v v' (by simpa using e) (by simpa using e')
theorem XR.get {ρ : Ren} {a a' : Array Value} (h : XR ρ a a') {i : Nat} {v : Value} (e : a[i]? = some v) : ∃ v', a'[i]? = some v' ∧ VR ρ v v' := by
  obtain ⟨v', e', r⟩ := LR.get h (i := i) (v := v) (by simpa using e)
  exact ⟨v', by simpa using e', r⟩
theorem XR.none {ρ : Ren} {a a' : Array Value} (h : XR ρ a a') {i : Nat} (e : a[i]? = none) : a'[i]? = none := by
  have := LR.none h (i := i) (by simpa using e); simpa using this
theorem XR.mk {ρ : Ren} {a a' : Array Value} (hs : a.size = a'.size) (h : ∀ (i : Nat) (v v' : Value), a[i]? = some v → a'[i]? = some v' → VR ρ v v') : XR ρ a a' :=
  ⟨by simpa using hs, fun i v v' e e' => h i v v' (by simpa using e) (by simpa using e')⟩
theorem XR.mono {ρ ρ' : Ren} (h : Le ρ ρ') {a a' : Array Value} (k : XR ρ a a') : XR ρ' a a' := LR.mono h k
theorem XR.append {ρ : Ren} {a a' b b' : Array Value} (h : XR ρ a a') (k : XR ρ b b') : XR ρ (a ++ b) (a' ++ b') := by
  unfold XR; simp only [Array.toList_append]; exact LR.append h k
theorem XR.setIf {ρ : Ren} {a a' : Array Value} (h : XR ρ a a') (n : Nat) {x x' : Value} (hx : VR ρ x x') : XR ρ (a.setIfInBounds n x) (a'.setIfInBounds n x') := by
  unfold XR; simp only [Array.toList_setIfInBounds]; exact LR.set h n hx
theorem XR.put {ρ : Ren} {a a' : Array Value} (h : XR ρ a a') (d : Option Tmp) {x x' : Value} (hx : VR ρ x x') : XR ρ (put a d x) (put a' d x') := by
  cases d with
  | none => exact h
  | some d => exact h.setIf d hx
theorem VR.agg' {ρ : Ren} {a a' : Array Value} (h : XR ρ a a') : VR ρ (.agg a) (.agg a') := .agg h.size fun _ _ _ e e' => h.at e e'
theorem VR.tuple' {ρ : Ren} {a a' : Array Value} (h : XR ρ a a') : VR ρ (.tuple a) (.tuple a') := .tuple h.size fun _ _ _ e e' => h.at e e'
theorem VR.func' {ρ : Ren} {f f' : Fn} {a a' b b' : Array Value} (h : FnR ρ f f') (ha : XR ρ a a') (hb : XR ρ b b') : VR ρ (.func f a b) (.func f' a' b') :=
  .func h ha.size hb.size (fun _ _ _ e e' => ha.at e e') (fun _ _ _ e e' => hb.at e e')
theorem VR.undef (ρ : Ren) : VR ρ undef undef := VR.tuple' ⟨rfl, by simp⟩
theorem XR.getD {ρ : Ren} {a a' : Array Value} (h : XR ρ a a') (t : Nat) : VR ρ (a.getD t undef) (a'.getD t undef) := by
  rw [Array.getD_eq_getD_getElem?, Array.getD_eq_getD_getElem?]
  cases e : a[t]? with
  | none => rw [h.none e]; exact VR.undef ρ
  | some v => obtain ⟨v', e', r⟩ := h.get e; rw [e']; exact r
theorem zaP {ρ : Ren} : ∀ (n : Nat) {v v' : Value}, plain n v = true → VR ρ v v' → v' = v := by
  intro n
  induction n with
  | zero => intro v v' h; simp [plain] at h
  | succ n ih =>
    have hl : ∀ {a a' : Array Value}, a.toList.all (plain n) = true → a.size = a'.size → (∀ (i : Nat) (v v' : Value), a[i]? = some v → a'[i]? = some v' → VR ρ v v') → a' = a := by
      intro a a' hp hs ha
      apply Array.ext hs.symm
      intro i h1 h2
      rw [List.all_eq_true] at hp
      exact ih (hp _ (by simp)) (ha i a[i] a'[i] (by simp [h2]) (by simp [h1]))
    intro v v' h k
    cases k with
    | func f ha hb ia ib =>
      rename_i fn fn' a a' b b'
      cases fn <;> simp [plain] at h <;> cases fn' <;> simp [FnR] at f
      all_goals
        rw [hl (by simpa using h.1) ha ia, hl (by simpa using h.2) hb ib]
        simp_all
    | iface t k => simp only [plain] at h; rw [ih h k]
    | agg ha ia => simp only [plain] at h; rw [hl h ha ia]
    | tuple ha ia => simp only [plain] at h; rw [hl h ha ia]
    | ptr => simp [plain] at h
    | slice => simp [plain] at h
    | slice0 => simp [plain] at h
    | map => simp [plain] at h
    | _ => rfl
theorem zaW {ρ : Ren} : ∀ (n : Nat) {v : Value}, plain n v = true → VR ρ v v := by
  intro n
  induction n with
  | zero => intro v h; simp [plain] at h
  | succ n ih =>
    have hl : ∀ {a : Array Value}, a.toList.all (plain n) = true → XR ρ a a := by
      intro a hp
      rw [List.all_eq_true] at hp
      exact ⟨rfl, fun i v v' e e' => by rw [e] at e'; cases e'; exact ih (hp _ (List.mem_of_getElem? e))⟩
    intro v h
    unfold plain at h
    split at h
    all_goals first
      | exact .bool _
      | exact .int _ _
      | exact .string _
      | exact .nilFunc
      | exact .nilIface
      | exact .nilPtr
      | exact .nilMap
      | exact .nilSlice _ _
      | (simp at h; done)
      | (simp only [Bool.and_eq_true] at h; exact VR.func' (by simp [FnR]) (hl h.1) (hl h.2))
      | exact .iface _ (ih h)
      | exact VR.agg' (hl h)
      | exact VR.tuple' (hl h)
theorem zfY {α : Type} (P : Program) (s : Sem α) (a : α) (h : pe P s = some a) (w : World) : s.run P w = .ok a w := by
  induction s generalizing w with
  | pure x => simp [pe] at h; subst h; rfl
  | program k ih => simp only [pe] at h; simp only [Sem.run]; exact ih P h w
  | mark m k ih => simp only [pe] at h; simp only [Sem.run]; exact ih h w
  | _ => simp [pe] at h
def own : Blk → Bool
  | .cells _ _ b => b
  | .obj _ => true
  | .dead => false
def live : Blk → Bool
  | .dead => false
  | _ => true
def EnR (ρ : Ren) (e e' : MapEntry) : Prop := e'.key = e.key ∧ e'.born = e.born ∧ VR ρ e.val e'.val
def EsR (ρ : Ren) (l l' : List MapEntry) : Prop := l.length = l'.length ∧ ∀ (i : Nat) (e e' : MapEntry), l[i]? = some e → l'[i]? = some e' → EnR ρ e e'
inductive OR (ρ : Ren) : Obj → Obj → Prop
  | map {es es' : Array MapEntry} (c : Nat) (h : EsR ρ es.toList es'.toList) : OR ρ (.map es c) (.map es' c)
  | iter (s : ByteArray) (p : Nat) : OR ρ (.stringIter s p) (.stringIter s p)
  | loop {l l' : Loop} {s : Slot} (h1 : l'.state = l.state) (h2 : l'.pending = l.pending) (h3 : l'.fn = l.fn) (h4 : XR ρ l.tmps l'.tmps) (h5 : l'.params = l.params) (h6 : l'.assign = l.assign) (h7 : l'.body = l.body)
      (h8 : ρ l.defers = some s) (h9 : l'.defers = s.g) : OR ρ (.loop l) (.loop l')
  | none : OR ρ (.deferred none) (.deferred none)
  | empty : OR ρ (.deferred (some [])) (.deferred (some []))
def byteT (P : Program) (e : TypeId) : Bool :=
  match P.underlying e with
  | some (.int .u8) => true
  | _ => false
inductive BR (P : Program) (ρ : Ren) (w : World) (s : Slot) : Blk → Prop
  | own {c : List Value} {e : TypeId} (cur : Array Value) (fr : Nat × Nat) (hd : s.d = 0) (hw : w.heap[s.g]? = some (.cells cur e fr)) (hf : ∀ i, i < cur.size ∨ byteT P e = false → ¬(fr.1 ≤ i ∧ i < fr.2))
      (hs : cur.size = s.cap * P.cellsOf e) (hc : ∀ (i : Nat) (v : Value), c[i]? = some v → oneB v = true ∧ ∃ v', cur[i]? = some v' ∧ VR ρ v v') : BR P ρ w s (.cells c e true)
  | ro {c : List Value} {e : TypeId} (cur : Array Value) (e' : TypeId) (fr : Nat × Nat) (hw : w.heap[s.g]? = some (.cells cur e' fr))
      (hc : ∀ (i : Nat) (v : Value), c[i]? = some v → oneB v = true ∧ ∃ v', cur[s.d + i]? = some v' ∧ VR ρ v v') : BR P ρ w s (.cells c e false)
  | obj {o : Obj} (o' : Obj) (hd : s.d = 0) (hw : w.heap[s.g]? = some o') (h : OR ρ o o') : BR P ρ w s (.obj o)
  | dead : BR P ρ w s .dead
structure Kept (N : Nat → Prop) (w w' : World) : Prop where
  os : w'.os = w.os
  tape : w'.tape = w.tape
  output : w'.output = w.output
  size : w.heap.size ≤ w'.heap.size
  block : ∀ k, N k → w'.heap[k]? = w.heap[k]?
theorem Kept.refl (N : Nat → Prop) (w : World) : Kept N w w := ⟨rfl, rfl, rfl, Nat.le_refl _, fun _ _ => rfl⟩
theorem Kept.trans {N : Nat → Prop} {a b c : World} (h : Kept N a b) (k : Kept N b c) : Kept N a c :=
  ⟨k.os.trans h.os, k.tape.trans h.tape, k.output.trans h.output, Nat.le_trans h.size k.size, fun i hi => (k.block i hi).trans (h.block i hi)⟩
structure R (P : Program) (N : Nat → Prop) (w0 : World) (ρ : Ren) (h : Heap) (w : World) : Prop where
  below : Kept N w0 w
  size : ∀ g, N g → g < w.heap.size
  dom : ∀ A s, ρ A = some s → A < h.n
  glob : ∀ g, g < P.globals.size → ∃ s, ρ g = some s ∧ s.g = g ∧ s.d = 0
  blk : ∀ A s b, ρ A = some s → h.get? A = some b → BR P ρ w s b
  mine : ∀ A s b, ρ A = some s → h.get? A = some b → own b = true → ¬ N s.g ∧ s.g < w.heap.size
  inj : ∀ A B s t b c, ρ A = some s → ρ B = some t → h.get? A = some b → h.get? B = some c → own b = true → live c = true → A ≠ B → s.g ≠ t.g
structure Fr (ρ : Ren) (h : Heap) (w w' : World) : Prop where
  size : w.heap.size ≤ w'.heap.size
  rest : ∀ g, g < w.heap.size → (∀ A s b, ρ A = some s → h.get? A = some b → own b = true → s.g ≠ g) → w'.heap[g]? = w.heap[g]?
end Go.AX

namespace Go.AX
open Go.RowKit
theorem Bt.get_cons (t : Bt) : ∀ (b : Blk), (t.cons b).get 0 = some b ∧ ∀ i, (t.cons b).get (i + 1) = t.get i := by
  induction t with
  | nil =>
    intro b
    refine ⟨rfl, fun i => ?_⟩
    simp only [Bt.cons, Bt.get]
    cases Nat.beq (Nat.mod i 2) 0 <;> rfl
  | node a l r _ ihr =>
    intro b
    refine ⟨rfl, fun i => ?_⟩
    simp only [Bt.cons, Bt.get]
    cases i with
    | zero => simp only [show Nat.beq (Nat.mod 0 2) 0 = true from rfl, cond_true]; exact (ihr a).1
    | succ k =>
      simp only []
      have e : Nat.mod (k + 1) 2 = (k + 1) % 2 := rfl
      have e' : Nat.mod k 2 = k % 2 := rfl
      have f : Nat.div (k + 1) 2 = (k + 1) / 2 := rfl
      have f' : Nat.div k 2 = k / 2 := rfl
      rw [e, e', f, f']
      rcases Nat.mod_two_eq_zero_or_one k with h | h
      · rw [h, show (k + 1) % 2 = 1 from by omega, show (k + 1) / 2 = k / 2 from by omega]
        rfl
      · rw [h, show (k + 1) % 2 = 0 from by omega, show (k + 1) / 2 = k / 2 + 1 from by omega]
        exact (ihr a).2 _
theorem Bt.get_set (t : Bt) : ∀ (i : Nat) (b : Blk) (j : Nat), (t.set i b).get j = if j = i then (t.get i).map (fun _ => b) else t.get j := by
  induction t with
  | nil => intro i b j; simp [Bt.set, Bt.get]
  | node a l r ihl ihr =>
    intro i b j
    cases i with
    | zero => cases j with
      | zero => rfl
      | succ j => simp [Bt.set, Bt.get]
    | succ i =>
      simp only [Bt.set, Bt.get]
      have e : Nat.mod i 2 = i % 2 := rfl
      have f : Nat.div i 2 = i / 2 := rfl
      rw [e, f]
      cases j with
      | zero =>
        rw [if_neg (by omega)]
        cases Nat.beq (i % 2) 0 <;> rfl
      | succ j =>
        have e' : Nat.mod j 2 = j % 2 := rfl
        have f' : Nat.div j 2 = j / 2 := rfl
        rcases Nat.mod_two_eq_zero_or_one i with h | h <;> rcases Nat.mod_two_eq_zero_or_one j with h' | h' <;> rw [h] <;> simp only [Nat.beq, cond_true, cond_false, Bt.get, e', h', f']
        · rw [ihl]; by_cases c : j / 2 = i / 2
          · rw [if_pos c, if_pos (by omega)]
          · rw [if_neg c, if_neg (by omega)]
        · rw [if_neg (by omega)]
        · rw [if_neg (by omega)]
        · rw [ihr]; by_cases c : j / 2 = i / 2
          · rw [if_pos c, if_pos (by omega)]
          · rw [if_neg c, if_neg (by omega)]
theorem Heap.get_push (h : Heap) (b : Blk) (i : Nat) : (h.push b).get? i = if i = h.n then some b else h.get? i := by
  unfold Heap.get? Heap.push
  dsimp only
  by_cases e : i = h.n
  · subst e
    rw [if_pos rfl, if_pos (by omega), show h.n + 1 - 1 - h.n = 0 from by omega]
    exact (Bt.get_cons _ _).1
  · rw [if_neg e]
    by_cases l : i < h.n
    · rw [if_pos (by omega), if_pos l, show h.n + 1 - 1 - i = (h.n - 1 - i) + 1 from by omega, (Bt.get_cons _ _).2]
    · rw [if_neg (by omega), if_neg l]
theorem Heap.get_lt {h : Heap} {i : Nat} {b : Blk} (e : h.get? i = some b) : i < h.n := by
  unfold Heap.get? at e; split at e
  · assumption
  · cases e
theorem Heap.get_set' (h : Heap) {i : Nat} (hi : i < h.n) (b : Blk) (j : Nat) : (h.set i b).get? j = if j = i then (h.get? i).map (fun _ => b) else h.get? j := by
  unfold Heap.get? Heap.set
  dsimp only
  rw [if_pos hi]
  by_cases l : j < h.n
  · rw [if_pos l, if_pos l, Bt.get_set]
    by_cases c : j = i
    · rw [if_pos (by omega), if_pos c]
    · rw [if_neg (by omega), if_neg c]
  · rw [if_neg l, if_neg l, if_neg (by omega)]
theorem Heap.get_set {h : Heap} {i : Nat} {x : Blk} (e : h.get? i = some x) (b : Blk) (j : Nat) : (h.set i b).get? j = if j = i then some b else h.get? j := by
  rw [Heap.get_set' h (Heap.get_lt e), e]; rfl
def upd (ρ : Ren) (a : Nat) (s : Slot) : Ren := fun x => if x = a then some s else ρ x
theorem zbn (ρ : Ren) (a : Nat) (s : Slot) : upd ρ a s a = some s := by simp [upd]
theorem Le.upd {ρ : Ren} {a : Nat} (s : Slot) (h : ρ a = none) : Le ρ (upd ρ a s) := by
  intro x t e
  unfold AX.upd
  by_cases c : x = a
  · subst c; rw [h] at e; cases e
  · rw [if_neg c]; exact e
theorem BR.keep {P : Program} {ρ ρ' : Ren} {w w' : World} {s : Slot} {b : Blk} (k : BR P ρ w s b) (h : Le ρ ρ') (e : w'.heap[s.g]? = w.heap[s.g]?) : BR P ρ' w' s b := by
  cases k with
  | own cur fr hd hw hf hs hc => exact .own cur fr hd (e.trans hw) hf hs fun i v a => ⟨(hc i v a).1, by obtain ⟨v', x, y⟩ := (hc i v a).2; exact ⟨v', x, y.mono h⟩⟩
  | ro cur e' fr hw hc => exact .ro cur e' fr (e.trans hw) fun i v a => ⟨(hc i v a).1, by obtain ⟨v', x, y⟩ := (hc i v a).2; exact ⟨v', x, y.mono h⟩⟩
  | obj o' hd hw k =>
    refine .obj o' hd (e.trans hw) ?_
    cases k with
    | map c k => exact .map c ⟨k.1, fun i x y p q => ⟨(k.2 i x y p q).1, (k.2 i x y p q).2.1, (k.2 i x y p q).2.2.mono h⟩⟩
    | iter s p => exact .iter s p
    | loop h1 h2 h3 h4 h5 h6 h7 h8 h9 => exact .loop h1 h2 h3 (h4.mono h) h5 h6 h7 (h _ _ h8) h9
    | none => exact .none
    | empty => exact .empty
  | dead => exact .dead
theorem BR.lt {P : Program} {ρ : Ren} {w : World} {s : Slot} {b : Blk} (k : BR P ρ w s b) (hl : live b = true) : s.g < w.heap.size := by
  cases k with
  | own cur fr hd hw => exact (Array.getElem?_eq_some_iff.1 hw).1
  | ro cur e' fr hw => exact (Array.getElem?_eq_some_iff.1 hw).1
  | obj o' hd hw => exact (Array.getElem?_eq_some_iff.1 hw).1
  | dead => simp [live] at hl
theorem zcH {b : Blk} (h : own b = true) : live b = true := by cases b <;> simp_all [own, live]
theorem Fr.refl (ρ : Ren) (h : Heap) (w : World) : Fr ρ h w w := ⟨Nat.le_refl _, fun _ _ _ => rfl⟩
structure More (w w' : World) : Prop where
  os : w'.os = w.os
  tape : w'.tape = w.tape
  output : w'.output = w.output
  size : w.heap.size ≤ w'.heap.size
  old : ∀ g, g < w.heap.size → w'.heap[g]? = w.heap[g]?
theorem More.refl (w : World) : More w w := ⟨rfl, rfl, rfl, Nat.le_refl _, fun _ _ => rfl⟩
theorem More.trans {a b c : World} (h : More a b) (k : More b c) : More a c :=
  ⟨k.os.trans h.os, k.tape.trans h.tape, k.output.trans h.output, Nat.le_trans h.size k.size, fun g hg => (k.old g (Nat.lt_of_lt_of_le hg h.size)).trans (h.old g hg)⟩
theorem More.alloc (w : World) (o : Obj) : More w (w.alloc o) := ⟨rfl, rfl, rfl, by simp, fun g hg => by show (w.heap.push o)[g]? = _; rw [Array.getElem?_push, if_neg (by omega)]⟩
theorem More.drew (w : World) : More w w.drew := ⟨rfl, rfl, rfl, Nat.le_refl _, fun _ _ => rfl⟩
theorem More.fr {ρ : Ren} {h : Heap} {w w' : World} (m : More w w') : Fr ρ h w w' := ⟨m.size, fun g hg _ => m.old g hg⟩
section
variable {P : Program} {N : Nat → Prop} {w0 w : World} {ρ : Ren} {h : Heap}
theorem R.fresh (r : R P N w0 ρ h w) : ρ h.n = none := by
  cases e : ρ h.n with
  | none => rfl
  | some s => have := r.dom _ _ e; omega
theorem R.more (r : R P N w0 ρ h w) {w' : World} (m : More w w') : R P N w0 ρ h w' where
  below := r.below.trans ⟨m.os, m.tape, m.output, m.size, fun k hk => m.old k (r.size k hk)⟩
  size := fun g hg => Nat.lt_of_lt_of_le (r.size g hg) m.size
  dom := r.dom
  glob := r.glob
  blk := fun A s b e f => by
    by_cases hl : live b = true
    · exact (r.blk A s b e f).keep (Le.refl _) (m.old _ ((r.blk A s b e f).lt hl))
    · cases b <;> simp [live] at hl; exact .dead
  mine := fun A s b e f o => ⟨(r.mine A s b e f o).1, Nat.lt_of_lt_of_le (r.mine A s b e f o).2 m.size⟩
  inj := r.inj
theorem R.push (r : R P N w0 ρ h w) {w' : World} (m : More w w') (b : Blk) (s : Slot) (hg : w.heap.size ≤ s.g) (hg' : s.g < w'.heap.size) (hb : BR P (upd ρ h.n s) w' s b) :
    Le ρ (upd ρ h.n s) ∧ R P N w0 (upd ρ h.n s) (h.push b) w' := by
  have hle : Le ρ (upd ρ h.n s) := Le.upd s r.fresh
  have r' := r.more m
  have hcase : ∀ A t, upd ρ h.n s A = some t → (A = h.n ∧ t = s) ∨ (A ≠ h.n ∧ ρ A = some t) := by
    intro A t e
    unfold AX.upd at e
    by_cases c : A = h.n
    · rw [if_pos c] at e; cases e; exact .inl ⟨c, rfl⟩
    · rw [if_neg c] at e; exact .inr ⟨c, e⟩
  have old : ∀ A t x, ρ A = some t → h.get? A = some x → live x = true → t.g < w.heap.size := fun A t x e f l => (r.blk A t x e f).lt l
  refine ⟨hle, r'.below, r'.size, ?_, ?_, ?_, ?_, ?_⟩
  · intro A t e
    rcases hcase A t e with ⟨rfl, _⟩ | ⟨_, e⟩
    · exact Nat.lt_succ_self _
    · have := r.dom A t e; show A < h.n + 1; omega
  · intro g hg0
    obtain ⟨t, e, k⟩ := r.glob g hg0
    exact ⟨t, hle _ _ e, k⟩
  · intro A t x e f
    rw [Heap.get_push] at f
    rcases hcase A t e with ⟨rfl, rfl⟩ | ⟨c, e⟩
    · rw [if_pos rfl] at f; cases f; exact hb
    · rw [if_neg c] at f; exact (r'.blk A t x e f).keep hle rfl
  · intro A t x e f o
    rw [Heap.get_push] at f
    rcases hcase A t e with ⟨rfl, rfl⟩ | ⟨c, e⟩
    · exact ⟨fun hn => by have := r.size _ hn; omega, hg'⟩
    · rw [if_neg c] at f; exact r'.mine A t x e f o
  · intro A B t u x y e1 e2 f1 f2 o l ne
    rw [Heap.get_push] at f1 f2
    rcases hcase A t e1 with ⟨a1, b1⟩ | ⟨c1, e1⟩
    · rcases hcase B u e2 with ⟨a2, _⟩ | ⟨c2, e2⟩
      · exact absurd (a1.trans a2.symm) ne
      · rw [if_neg c2] at f2
        have := old B u y e2 f2 l
        rw [b1]; omega
    · rw [if_neg c1] at f1
      rcases hcase B u e2 with ⟨a2, b2⟩ | ⟨c2, e2⟩
      · have := old A t x e1 f1 (zcH o)
        rw [b2]; omega
      · rw [if_neg c2] at f2; exact r.inj A B t u x y e1 e2 f1 f2 o l ne
theorem R.change (r : R P N w0 ρ h w) {A : Nat} {s : Slot} {b : Blk} (hA : ρ A = some s) (hb : h.get? A = some b) (ho : own b = true) {w' : World}
    (hos : w'.os = w.os) (ht : w'.tape = w.tape) (hout : w'.output = w.output) (hsz : w'.heap.size = w.heap.size) (hoth : ∀ g, g ≠ s.g → w'.heap[g]? = w.heap[g]?)
    (b' : Blk) (hb' : BR P ρ w' s b') : R P N w0 ρ (h.set A b') w' ∧ Fr ρ h w w' := by
  have hmine := r.mine A s b hA hb ho
  refine ⟨⟨r.below.trans ⟨hos, ht, hout, by omega, fun k hk => hoth k (fun x => hmine.1 (x ▸ hk))⟩, by rw [hsz]; exact r.size, r.dom, r.glob, ?_, ?_, ?_⟩, ⟨by omega, fun g _ hg => hoth g fun e => hg A s b hA hb ho e.symm⟩⟩
  · intro B t c e f
    rw [Heap.get_set hb] at f
    by_cases x : B = A
    · subst x; rw [if_pos rfl] at f; cases f; rw [hA] at e; cases e; exact hb'
    · rw [if_neg x] at f
      by_cases hl : live c = true
      · exact (r.blk B t c e f).keep (Le.refl _) (hoth _ fun k => r.inj A B s t b c hA e hb f ho hl (Ne.symm x) k.symm)
      · cases c <;> simp [live] at hl; exact .dead
  · intro B t c e f o
    rw [Heap.get_set hb] at f
    by_cases x : B = A
    · subst x; rw [hA] at e; cases e; rw [hsz]; exact hmine
    · rw [if_neg x] at f; rw [hsz]; exact r.mine B t c e f o
  · intro B C t u c d e1 e2 f1 f2 o l ne
    rw [Heap.get_set hb] at f1 f2
    by_cases x : B = A
    · subst x
      rw [if_neg (Ne.symm ne)] at f2
      exact r.inj B C t u b d e1 e2 hb f2 ho l ne
    · rw [if_neg x] at f1
      by_cases y : C = A
      · subst y; exact r.inj B C t u c b e1 e2 f1 hb o (zcH ho) ne
      · rw [if_neg y] at f2; exact r.inj B C t u c d e1 e2 f1 f2 o l ne
theorem R.die (r : R P N w0 ρ h w) {A : Nat} {b : Blk} (hb : h.get? A = some b) : R P N w0 ρ (h.set A .dead) w := by
  refine ⟨r.below, r.size, r.dom, r.glob, ?_, ?_, ?_⟩
  · intro B t c e f
    rw [Heap.get_set hb] at f
    by_cases x : B = A
    · rw [if_pos x] at f; cases f; exact .dead
    · rw [if_neg x] at f; exact r.blk B t c e f
  · intro B t c e f o
    rw [Heap.get_set hb] at f
    by_cases x : B = A
    · rw [if_pos x] at f; cases f; simp [own] at o
    · rw [if_neg x] at f; exact r.mine B t c e f o
  · intro B C t u c d e1 e2 f1 f2 o l ne
    rw [Heap.get_set hb] at f1 f2
    by_cases x : B = A
    · rw [if_pos x] at f1; cases f1; simp [own] at o
    · rw [if_neg x] at f1
      by_cases y : C = A
      · rw [if_pos y] at f2; cases f2; simp [live] at l
      · rw [if_neg y] at f2; exact r.inj B C t u c d e1 e2 f1 f2 o l ne
theorem zcM {w : World} {g o : Nat} {cur : Array Value} {e : TypeId} {fr : Nat × Nat} (h : w.heap[g]? = some (.cells cur e fr)) : w.cell? ⟨g, o, none⟩ = cur[o]? := by
  simp [World.cell?, h]
theorem zec {w : World} {g o : Nat} {cur : Array Value} {e : TypeId} {fr : Nat × Nat} (h : w.heap[g]? = some (.cells cur e fr)) (k : ¬(fr.1 ≤ o ∧ o < fr.2)) : w.frozen? ⟨g, o, none⟩ = false := by
  simp only [World.frozen?, h]
  simpa [decide_eq_true_eq] using k
theorem zfk {v v' : Value} (h : VR ρ v v') (k : oneB v = true) : v'.oneCell' = true := by
  cases h <;> simp_all [oneB, Value.oneCell']
theorem VR.cells {v v' : Value} (h : VR ρ v v') : XR ρ v.cells v'.cells := by
  cases h with
  | agg ha ia => exact XR.mk ha ia
  | bool b => exact LR.cons (.bool b) (LR.nil ρ)
  | int k n => exact LR.cons (.int k n) (LR.nil ρ)
  | string s => exact LR.cons (.string s) (LR.nil ρ)
  | nilFunc => exact LR.cons .nilFunc (LR.nil ρ)
  | nilIface => exact LR.cons .nilIface (LR.nil ρ)
  | nilPtr => exact LR.cons .nilPtr (LR.nil ρ)
  | nilMap => exact LR.cons .nilMap (LR.nil ρ)
  | nilSlice l c => exact LR.cons (.nilSlice l c) (LR.nil ρ)
  | ptr a => exact LR.cons (.ptr a) (LR.nil ρ)
  | slice s h0 h1 h2 hc => exact LR.cons (.slice s h0 h1 h2 hc) (LR.nil ρ)
  | slice0 a b c => exact LR.cons (.slice0 a b c) (LR.nil ρ)
  | map e => exact LR.cons (.map e) (LR.nil ρ)
  | func f ha hb ia ib => exact LR.cons (.func f ha hb ia ib) (LR.nil ρ)
  | iface t k => exact LR.cons (.iface t k) (LR.nil ρ)
  | tuple ha ia => exact LR.cons (.tuple ha ia) (LR.nil ρ)
theorem BR.reads {s : Slot} {c : List Value} {e : TypeId} {o : Bool} (k : BR P ρ w s (.cells c e o)) :
    ∃ (cur : Array Value) (e' : TypeId) (fr : Nat × Nat), w.heap[s.g]? = some (.cells cur e' fr) ∧ ∀ (i : Nat) (v : Value), c[i]? = some v → oneB v = true ∧ ∃ v', cur[i + s.d]? = some v' ∧ VR ρ v v' := by
  cases k with
  | own cur fr hd hw hf hs hc => exact ⟨cur, e, fr, hw, fun i v a => by rw [hd]; exact hc i v a⟩
  | ro cur e' fr hw hc => exact ⟨cur, e', fr, hw, fun i v a => by rw [Nat.add_comm]; exact hc i v a⟩
theorem BR.row {s : Slot} {c : List Value} {e : TypeId} {o : Bool} (k : BR P ρ w s (.cells c e o)) (off n : Nat) (hn : off + n ≤ c.length) :
    ∃ l', LR ρ ((c.drop off).take n) l' ∧ l'.length = n ∧ (∀ (j : Nat) (v : Value), l'[j]? = some v → w.cell? ⟨s.g, off + s.d + j, none⟩ = some v) ∧ (∀ v ∈ l', v.oneCell' = true) := by
  obtain ⟨cur, e', fr, hw, hc⟩ := k.reads
  have hex : ∀ j, j < n → ∃ v', cur[off + s.d + j]? = some v' ∧ ∃ v, c[off + j]? = some v ∧ oneB v = true ∧ VR ρ v v' := by
    intro j hj
    have hl : off + j < c.length := by omega
    obtain ⟨ho, v', e1, r⟩ := hc (off + j) c[off + j] (List.getElem?_eq_getElem hl)
    exact ⟨v', by rw [show off + s.d + j = off + j + s.d from by omega]; exact e1, _, List.getElem?_eq_getElem hl, ho, r⟩
  refine ⟨(List.range n).map fun j => (cur[off + s.d + j]?).getD undef, ?_, by simp, ?_, ?_⟩
  · refine LR.of_get (by simp; omega) fun i v hv => ?_
    rw [List.getElem?_take] at hv
    split at hv
    · rename_i hi
      rw [List.getElem?_drop] at hv
      obtain ⟨v', e1, u, e2, _, r⟩ := hex i hi
      rw [hv] at e2; cases e2
      exact ⟨v', by simp [hi, e1], r⟩
    · cases hv
  · intro j v hv
    rw [zcM hw]
    simp only [List.getElem?_map] at hv
    by_cases hj : j < n
    · obtain ⟨v', e1, _⟩ := hex j hj
      simp [hj, e1] at hv
      rw [e1, hv]
    · simp [hj] at hv
  · intro v hv
    simp only [List.mem_map, List.mem_range] at hv
    obtain ⟨j, hj, rfl⟩ := hv
    obtain ⟨v', e1, u, _, ho, r⟩ := hex j hj
    rw [e1]
    exact zfk r ho
theorem zdF {t : TypeId} {b : Bool} (h : aggB P t = some b) : (isAgg t).run P w = .ok b w := by
  unfold aggB at h
  unfold isAgg
  split at h
  · rename_i fs e; cases h; simp [run_underlying e]
  · rename_i n e1 e; cases h; simp [run_underlying e]
  · rename_i d h1 h2 e
    cases h
    simp only [Sem.run_bind, run_underlying e, Result.andThen_ok]
    cases d <;> first | rfl | (exfalso; exact h1 _ e) | (exfalso; exact h2 _ _ e)
  · cases h
theorem zaO {t : TypeId} {n : Nat} (h : sizeB P t = some n) : (sizeOf t).run P w = .ok n w := by
  unfold sizeB at h
  cases e : P.info? t with
  | none => simp [e] at h
  | some i => simp [e] at h; simp [sizeOf, typeInfo, e, h]
theorem zbr {t : TypeId} {n : Nat} (h : bytesB P t = some n) : ∃ i, (typeInfo t).run P w = .ok i w ∧ i.bytes = n := by
  unfold bytesB at h
  cases e : P.info? t with
  | none => simp [e] at h
  | some i => simp [e] at h; exact ⟨i, by simp [typeInfo, e], h⟩
theorem zaY {t : TypeId} {v : Value} (h : zeroB P t = some v) : (zeroValue t).run P w = .ok v w := by
  unfold zeroB at h
  cases e : P.info? t with
  | none => simp [e] at h
  | some i =>
    cases z : i.zero with
    | none => simp [e, z] at h
    | some u => simp [e, z] at h; obtain ⟨_, rfl⟩ := h; simp [zeroValue, typeInfo, e, z]
theorem za7 {t : TypeId} {v : Value} (h : zeroB P t = some v) : plain deep v = true := by
  unfold zeroB at h
  split at h
  · split at h
    · cases h; assumption
    · cases h
  · cases h
theorem zhZ (r : R P N w0 ρ h w) {t : TypeId} {a a' v : Value} (ha : VR ρ a a') (e : readB P h t a = some v) :
    ∃ v', (Instr.loadAt t a').run P w = .ok v' w ∧ VR ρ v v' := by
  unfold readB at e
  split at e
  case h_2 => cases e
  case h_1 b o =>
    cases ha with
    | ptr k =>
      obtain ⟨s, hs, _, rfl⟩ := k
      dsimp only at hs
      split at e
      case h_2 => cases e
      case h_1 c ty ow hg =>
        have hb := r.blk b s _ hs hg
        unfold partB at e
        have hla : (Instr.loadAt t (.pointer (some ⟨s.g, o + s.d, none⟩))) = loadVar t ⟨s.g, o + s.d, none⟩ := rfl
        rw [hla]
        split at e
        · rename_i n h1 h2
          split at e
          · rename_i hle
            cases e
            obtain ⟨l', hl, hn, hcell, _⟩ := hb.row o n hle
            have hrun := run_loadCells_list (P := P) (w := w) ⟨s.g, o + s.d, none⟩ l' (fun j u hu => by rw [Addr.add_lit]; exact hcell j u hu)
            refine ⟨.agg l'.toArray, ?_, VR.agg' (by unfold XR; simpa using hl)⟩
            unfold loadVar
            rw [hn] at hrun
            simp [zdF h1, zaO h2, hrun]
          · cases e
        · rename_i n h1 h2
          obtain ⟨cur, e', fr, hw, hc⟩ := hb.reads
          obtain ⟨_, v', e1, rr⟩ := hc o v e
          refine ⟨v', ?_, rr⟩
          unfold loadVar
          simp [zdF h1, zcM hw, e1]
        · cases e
end
end Go.AX

namespace Go.AX
open Go.RowKit
def OR' (ρ : Ren) (tm tm' : Array Value) (x : Operand) : Prop := VR ρ (ev tm x) (ev tm' x)
def PairsR (ρ : Ren) (l l' : List (Nat × Value)) : Prop := l.length = l'.length ∧ ∀ (i : Nat) (p p' : Nat × Value), l[i]? = some p → l'[i]? = some p' → p'.1 = p.1 ∧ VR ρ p.2 p'.2
theorem PairsR.cons {ρ : Ren} {p : Nat × Value} {l : List (Nat × Value)} {l' : List (Nat × Value)} (k : PairsR ρ (p :: l) l') :
    ∃ v' r', l' = (p.1, v') :: r' ∧ VR ρ p.2 v' ∧ PairsR ρ l r' := by
  cases l' with
  | nil => have := k.1; simp at this
  | cons q r =>
    have h0 := k.2 0 p q rfl rfl
    refine ⟨q.2, r, by rw [← h0.1], h0.2, by simpa using k.1, fun i a b e e' => k.2 (i + 1) a b (by simpa using e) (by simpa using e')⟩
theorem zk0 {ρ : Ren} (off : Nat) : ∀ (l l' : List Value) (i : Nat) (c c' : Array Value), LR ρ l l' → XR ρ c c' →
    XR ρ ((l.zipIdx i).foldl (fun cs (p : Value × Nat) => cs.setIfInBounds (off + p.2) p.1) c) ((l'.zipIdx i).foldl (fun cs (p : Value × Nat) => cs.setIfInBounds (off + p.2) p.1) c') := by
  intro l
  induction l with
  | nil => intro l' i c c' h k; cases l' with
    | nil => exact k
    | cons a b => have := h.1; simp at this
  | cons a l ih =>
    intro l' i c c' h k
    cases l' with
    | nil => have := h.1; simp at this
    | cons b l' =>
      simp only [List.zipIdx_cons, List.foldl_cons]
      exact ih l' (i + 1) _ _ h.tail (k.setIf _ h.head)
theorem zdi {ρ : Ren} (place : Nat → Option (Nat × Nat)) : ∀ (parts parts' : List (Nat × Value)) (c c' r : Array Value), PairsR ρ parts parts' → XR ρ c c' →
    Instr.fill place c parts = some r → ∃ r', Instr.fill place c' parts' = some r' ∧ XR ρ r r' := by
  intro parts
  induction parts with
  | nil =>
    intro parts' c c' r h k e
    cases parts' with
    | nil => simp only [Instr.fill] at e ⊢; cases e; exact ⟨c', rfl, k⟩
    | cons a b => have := h.1; simp at this
  | cons p parts ih =>
    intro parts' c c' r h k e
    obtain ⟨v', r', rfl, hv, hr⟩ := h.cons
    obtain ⟨i, v⟩ := p
    simp only [Instr.fill] at e ⊢
    cases hp : place i with
    | none => simp [hp] at e
    | some os =>
      obtain ⟨o, s⟩ := os
      simp only [hp] at e ⊢
      have hc : XR ρ v.cells v'.cells := hv.cells
      rw [← hc.size, ← k.size]
      split at e
      · cases e
      · rename_i hcond
        rw [if_neg hcond]
        refine ih r' _ _ r hr ?_ e
        have := zk0 (ρ := ρ) o v.cells.toList v'.cells.toList 0 c c' hc k
        rw [← Array.foldl_toList, ← Array.foldl_toList]
        simpa [Array.toList_zipIdx] using this
section
variable {P : Program} {N : Nat → Prop} {w0 w : World} {ρ : Ren} {h : Heap}
theorem zd0 {t : TypeId} {c c' : List Value} {off : Nat} {v : Value} (hc : LR ρ c c') (e : partB P t c off = some v) :
    ∃ v', (part t c'.toArray off).run P w = .ok v' w ∧ VR ρ v v' := by
  unfold partB at e
  split at e
  · rename_i n h1 h2
    split at e
    · rename_i hle
      cases e
      refine ⟨.agg ((c'.drop off).take n).toArray, ?_, VR.agg' (by unfold XR; simpa using (hc.drop off).take n)⟩
      unfold part
      simp [zdF h1, zaO h2, List.extract_eq_take_drop]
    · cases e
  · rename_i n h1 h2
    obtain ⟨v', e1, r⟩ := hc.get e
    refine ⟨v', ?_, r⟩
    unfold part
    simp [zdF h1, e1]
  · cases e
theorem zj3 {t : TypeId} {x x' v : Value} {f : Nat} (hx : VR ρ x x') (e : fieldB P t x f = some v) : ∃ v', (Instr.field t x' f).run P w = .ok v' w ∧ VR ρ v v' := by
  unfold fieldB at e
  split at e
  · rename_i fs cs hf
    split at e
    · rename_i fd hfd
      cases hx with
      | agg ha ia =>
        rename_i cs'
        have hxr : XR ρ cs cs' := XR.mk ha ia
        obtain ⟨v', hrun, r⟩ := zd0 (w := w) (P := P) hxr e
        have hu : P.underlying t = some (.struct fs) := by
          unfold fieldsOf at hf; split at hf
          · rename_i e2; cases hf; exact e2
          · cases hf
        refine ⟨v', ?_, r⟩
        unfold Instr.field
        simp only [Sem.run_bind, run_underlying hu, Result.andThen_ok, hfd]
        simp only [asAgg, Sem.run_pure, Result.andThen_ok]
        simpa using hrun
    · cases e
  · cases e
theorem zfr {t : TypeId} {fs : Array Field} (hf : fieldsOf P t = some fs) : P.underlying t = some (.struct fs) := by
  unfold fieldsOf at hf; split at hf
  · rename_i e2; cases hf; exact e2
  · cases hf
theorem zgW {t : TypeId} {x x' v : Value} {f : Nat} (hx : VR ρ x x') (e : fieldAtB P t x f = some v) : ∃ v', (Instr.fieldAt t x' f).run P w = .ok v' w ∧ VR ρ v v' := by
  unfold fieldAtB at e
  split at e
  · rename_i fs b o hf
    split at e
    · rename_i fd hfd
      split at e
      · rename_i k hk
        cases e
        cases hx with
        | ptr hk' =>
          obtain ⟨s, hs, _, rfl⟩ := hk'
          refine ⟨.pointer (some ⟨s.g, o + s.d + fd.offset, none⟩), ?_, .ptr ⟨s, hs, rfl, by simp; omega⟩⟩
          unfold Instr.fieldAt
          simp [run_underlying (zfr hf), hfd, Instr.sureAddr, fieldPlace, zaO hk, Addr.add_lit]
      · cases e
    · cases e
  · cases e
theorem zgV {t : TypeId} {x x' i i' v : Value} (hx : VR ρ x x') (hi : VR ρ i i') (e : indexAtB P t x i = some v) : ∃ v', (Instr.indexAt t x' i').run P w = .ok v' w ∧ VR ρ v v' := by
  unfold indexAtB at e
  split at e
  · rename_i k n
    cases hi
    split at e
    · rename_i len el b o hu
      split at e
      · rename_i sz hsz
        split at e
        · rename_i hr
          cases e
          cases hx with
          | ptr hk' =>
            obtain ⟨s, hs, _, rfl⟩ := hk'
            refine ⟨.pointer (some ⟨s.g, o + s.d + n.toNat * sz, none⟩), ?_, .ptr ⟨s, hs, rfl, by simp; omega⟩⟩
            unfold Instr.indexAt
            simp [run_underlying hu, asIntOf, Instr.sureAddr, hr, zaO hsz, Addr.add_lit]
        · cases e
      · cases e
    · rename_i el b o len cap hu
      split at e
      · rename_i sz hsz
        split at e
        · rename_i hr
          cases e
          cases hx with
          | slice s hs _ h2 hc =>
            subst h2
            refine ⟨.pointer (some ⟨s.g, o + s.d + n.toNat * sz, none⟩), ?_, .ptr ⟨s, hs, rfl, by simp; omega⟩⟩
            unfold Instr.indexAt
            simp [run_underlying hu, asIntOf, hr, zaO hsz, Addr.add_lit]
          | slice0 => omega
        · cases e
      · cases e
    · cases e
  · cases e
theorem zgZ {t : TypeId} {x x' v : Value} (hx : VR ρ x x') (e : arrayAtB P t x = some v) : ∃ v', (Instr.arrayAt t x').run P w = .ok v' w ∧ VR ρ v v' := by
  unfold arrayAtB at e
  split at e
  · rename_i n el b o len cap hu
    split at e
    · rename_i hr
      cases e
      cases hx with
      | slice s hs _ h2 hc =>
        subst h2
        refine ⟨.pointer (some ⟨s.g, o + s.d, none⟩), ?_, .ptr ⟨s, hs, rfl, rfl⟩⟩
        unfold Instr.arrayAt
        have hlt : ¬ len < n := by omega
        simp [run_underlying hu, hlt]
      | slice0 => omega
    · cases e
  · cases e
theorem zj2 {t : TypeId} {x x' i i' v : Value} (hx : VR ρ x x') (hi : VR ρ i i') (e : indexB P t x i = some v) : ∃ v', (Instr.index t x' i').run P w = .ok v' w ∧ VR ρ v v' := by
  unfold indexB at e
  split at e
  · rename_i ik k len el cs hu
    cases hi
    split at e
    · rename_i sz hsz
      split at e
      · rename_i hr
        cases hx with
        | agg ha ia =>
          rename_i cs'
          have hxr : XR ρ cs cs' := XR.mk ha ia
          obtain ⟨v', hrun, r⟩ := zd0 (w := w) (P := P) hxr e
          refine ⟨v', ?_, r⟩
          unfold Instr.index
          simp [run_underlying hu, asIntOf, hr, zaO hsz]
          simpa using hrun
      · cases e
    · cases e
  · cases e
theorem zgX {t t' v : Value} {i : Nat} (ht : VR ρ t t') (e : (match t with | .tuple vs => vs[i]? | _ => none) = some v) : ∃ v', (Instr.extract t' i).run P w = .ok v' w ∧ VR ρ v v' := by
  cases ht with
  | tuple ha ia =>
    obtain ⟨v', e1, r⟩ := (XR.mk ha ia).get e
    exact ⟨v', by simp [Instr.extract, e1], r⟩
  | _ => cases e
theorem zj5 {t : TypeId} {parts parts' : List (Nat × Value)} {v : Value} (hp : PairsR ρ parts parts') (e : fillB P t parts = some v) :
    ∃ v', (Instr.build t parts'.toArray).run P w = .ok v' w ∧ VR ρ v v' := by
  unfold fillB at e
  split at e
  · rename_i z fs h1 h2
    split at e
    · rename_i places hpl
      cases hf : Instr.fill (places[·]?) z.cells parts with
      | none => simp [hf] at e
      | some r =>
        simp [hf] at e
        subst e
        obtain ⟨r', e1, hr⟩ := zdi _ parts parts' z.cells z.cells r hp ((zaW deep (za7 h1)).cells) hf
        refine ⟨.agg r', ?_, VR.agg' hr⟩
        have hm : ∀ (l : List Field) (pl : List (Nat × Nat)), l.mapM (fun f => (sizeB P f.type).map fun s => (f.offset, s)) = some pl →
            (l.mapM (m := Sem) (fun f => do pure (f.offset, ← sizeOf f.type))).run P w = .ok pl w := by
          intro l
          induction l with
          | nil => intro pl h; simp at h; subst h; simp
          | cons f l ih =>
            intro pl h
            rw [List.mapM_cons] at h
            cases hs : sizeB P f.type with
            | none => simp [hs] at h
            | some s =>
              simp only [hs, Option.map_some, Option.bind_eq_bind, Option.bind_some] at h
              cases hl : l.mapM (fun f => (sizeB P f.type).map fun s => (f.offset, s)) with
              | none => rw [hl] at h; simp at h
              | some pl' =>
                rw [hl] at h
                simp at h
                subst h
                simp only [List.mapM_cons, Sem.run_bind, zaO hs, Result.andThen_ok, Sem.run_pure, ih pl' hl]
        have hmA := hm fs.toList places hpl
        unfold Instr.build
        simp only [Sem.run_bind, zaY h1, Result.andThen_ok, run_underlying h2]
        rw [show fs.mapM (m := Sem) (fun f => do pure (f.offset, ← sizeOf f.type)) = List.toArray <$> fs.toList.mapM (m := Sem) (fun f => do pure (f.offset, ← sizeOf f.type)) from Array.mapM_eq_mapM_toList]
        simp only [Sem.run_map, hmA, Result.andThen_ok]
        simp only [List.getElem?_toArray, e1]
        rfl
    · cases e
  · rename_i z n el h1 h2
    split at e
    · rename_i s hs
      cases hf : Instr.fill (fun i => some (i * s, s)) z.cells parts with
      | none => simp [hf] at e
      | some r =>
        simp [hf] at e
        subst e
        obtain ⟨r', e1, hr⟩ := zdi _ parts parts' z.cells z.cells r hp ((zaW deep (za7 h1)).cells) hf
        refine ⟨.agg r', ?_, VR.agg' hr⟩
        unfold Instr.build
        simp [zaY h1, run_underlying h2, zaO hs, e1]
    · cases e
  · cases e
end
end Go.AX

namespace Go.AX
open Go.RowKit
def OVR (ρ : Ren) : Option Value → Option Value → Prop
  | none, none => True
  | some a, some b => VR ρ a b
  | _, _ => False
theorem OVR.map {ρ : Ren} {tm tm' : Array Value} (x : Option Operand) (h : ∀ y, x = some y → VR ρ (ev tm y) (ev tm' y)) : OVR ρ (x.map (ev tm)) (x.map (ev tm')) := by
  cases x with
  | none => trivial
  | some y => exact h y rfl
section
variable {P : Program} {N : Nat → Prop} {w0 w : World} {ρ : Ren} {h : Heap}
theorem zcl {x x' : Value} {d top top' n : Nat} {code : BoundsCode} (hx : VR ρ x x') (e : boundB (some x) d top = some n) (ht : top ≤ top') :
    (Instr.sliceBound x' top' code).run P w = .ok n w ∧ n ≤ top := by
  unfold boundB at e
  cases hx with
  | int k i =>
    dsimp only at e
    split at e
    · rename_i hr
      cases e
      have hc : 0 ≤ i ∧ i ≤ (top' : Int) := ⟨hr.1, by omega⟩
      refine ⟨?_, by omega⟩
      unfold Instr.sliceBound
      simp [asIntOf, hc]
    · cases e
  | _ => cases e
theorem zi7 {isS : Bool} {len cap top m hh l : Nat} {lo hi mx lo' hi' mx' : Option Value} (h1 : OVR ρ lo lo') (h2 : OVR ρ hi hi') (h3 : OVR ρ mx mx') (hmh : ¬(mx.isSome = true ∧ hi.isNone = true))
    (hlen : len ≤ top) (htop : top ≤ cap) (em : maxB mx top = some m) (eh : boundB hi len m = some hh) (el : boundB lo 0 hh = some l) :
    (Instr.sliceBounds isS len cap lo' hi' mx').run P w = .ok (l, hh, if mx.isSome then m else cap) w ∧ l ≤ hh ∧ hh ≤ m ∧ m ≤ top := by
  have hlow : l ≤ hh ∧ ∀ code, (match lo' with | some v => Instr.sliceBound v hh code | none => pure 0 : Sem Nat).run P w = .ok l w := by
    cases lo with
    | none => cases lo' with
      | none => simp [boundB] at el; subst el; exact ⟨Nat.zero_le _, fun _ => rfl⟩
      | some _ => exact h1.elim
    | some x => cases lo' with
      | none => exact h1.elim
      | some x' => exact ⟨(zcl (P := P) (w := w) (code := .sliceB) h1 el (Nat.le_refl _)).2, fun code => (zcl h1 el (Nat.le_refl _)).1⟩
  cases mx with
  | none =>
    cases mx' with
    | some _ => exact h3.elim
    | none =>
      simp [maxB] at em; subst em
      cases hi with
      | none =>
        cases hi' with
        | some _ => exact h2.elim
        | none =>
          simp [boundB] at eh; subst eh
          refine ⟨?_, hlow.1, hlen, Nat.le_refl _⟩
          have := hlow.2 .sliceB
          unfold Instr.sliceBounds
          cases lo' <;> simp_all
      | some x =>
        cases hi' with
        | none => exact h2.elim
        | some x' =>
          have hb := fun code => zcl (P := P) (w := w) (code := code) h2 eh htop
          refine ⟨?_, hlow.1, (hb .sliceB).2, Nat.le_refl _⟩
          have := hlow.2 .sliceB
          have hb1 := fun code => (hb code).1
          unfold Instr.sliceBounds
          cases lo' <;> simp_all
  | some y =>
    cases mx' with
    | none => exact h3.elim
    | some y' =>
      have hm := fun code => zcl (P := P) (w := w) (code := code) h3 (show boundB (some y) 0 top = some m from em) htop
      cases hi with
      | none => simp at hmh
      | some x =>
        cases hi' with
        | none => exact h2.elim
        | some x' =>
          have hb := fun code => zcl (P := P) (w := w) (code := code) h2 eh (Nat.le_refl _)
          refine ⟨?_, hlow.1, (hb .sliceB).2, (hm .sliceB).2⟩
          have := hlow.2 .slice3C
          have hb1 := fun code => (hb code).1
          have hm1 := fun code => (hm code).1
          unfold Instr.sliceBounds
          cases lo' <;> simp_all
theorem ze3 {n : Nat} (h : n < unk) : n < unk ∧ True := ⟨h, trivial⟩
theorem zgN : unk < anyCap := by decide
theorem zdo {el : TypeId} {a a' : Option Addr} {len cap cap' : Nat} {lo hi mx lo' hi' mx' : Option Value} {v : Value} (hx : VR ρ (.slice a len cap) (.slice a' len cap'))
    (h1 : OVR ρ lo lo') (h2 : OVR ρ hi hi') (h3 : OVR ρ mx mx') (hmh : ¬(mx.isSome = true ∧ hi.isNone = true)) (isS : Bool)
    (e : sliceRowB P el a len cap lo hi mx = some v) :
    ∃ l hh m n, (Instr.sliceBounds isS len cap' lo' hi' mx').run P w = .ok (l, hh, m) w ∧ (sizeOf el).run P w = .ok n w ∧ VR ρ v (.slice (if m = l then a' else a'.map (·.add (l * n))) (hh - l) (m - l)) := by
  unfold sliceRowB at e
  dsimp only at e
  have hk : (Nat.blt cap unk) = true ↔ cap < unk := ⟨fun q => Nat.le_of_ble_eq_true q, fun q => Nat.ble_eq_true_of_le q⟩
  have hua := zgN
  generalize hkn : (Nat.blt cap unk) = known at e hk
  have hcc : known = true → cap = cap' := by
    intro hkk
    have := hk.1 hkk
    cases hx with
    | nilSlice => rfl
    | slice s _ _ _ hc => rcases hc with ⟨_, x⟩ | ⟨x, _⟩ | ⟨x, _⟩
                          · exact x
                          · omega
                          · omega
    | slice0 _ _ hc => rcases hc with x | ⟨x, y⟩
                       · omega
                       · rw [x, y]
  generalize htop : (if known = true then cap else len) = top at e
  split at e
  · cases e
  · rename_i m em
    split at e
    · cases e
    · rename_i hh eh
      split at e
      · rename_i l n elo en
        split at e
        · rename_i hmu
          obtain ⟨hmu, hlt⟩ := hmu
          have hlc : cap < unk → len ≤ cap := fun hh => by rw [← htop, if_pos (hk.2 hh)] at hlt; exact hlt
          have hle : len ≤ cap' ∨ a = none := by
            cases hx with
            | nilSlice => exact .inr rfl
            | slice s _ _ _ hc => rcases hc with ⟨x, z⟩ | ⟨_, x, _⟩ | ⟨_, _, x⟩
                                  · exact .inl (z ▸ hlc x)
                                  · exact .inl x
                                  · exact .inl x
            | slice0 => exact .inl (Nat.zero_le _)
          by_cases hnil : a = none ∧ known = false
          · obtain ⟨rfl, rfl⟩ := hnil
            simp at e
          have htc : top ≤ cap' := by
            cases hkc : known with
            | true => rw [← htop, hkc, ← hcc hkc]; simp
            | false =>
              rw [← htop, hkc]; simp
              rcases hle with x | x
              · exact x
              · exact absurd ⟨x, hkc⟩ hnil
          obtain ⟨hrun, hlh, hhm, hmt⟩ := zi7 (P := P) (w := w) (isS := isS) h1 h2 h3 hmh hlt htc em eh elo
          refine ⟨l, hh, _, n, hrun, zaO en, ?_⟩
          have hexact : (known || mx.isSome) = true → (if mx.isSome = true then m else cap') = m := by
            intro hq
            by_cases hmx : mx.isSome = true
            · rw [if_pos hmx]
            · rw [if_neg hmx]
              have hkk : known = true := by simpa [hmx] using hq
              rw [← hcc hkk]
              cases mx with
              | some _ => simp at hmx
              | none => simp [maxB] at em; rw [← em, ← htop, hkk]; simp
          cases a with
          | none =>
            dsimp only at e
            have hkt : known = true := by cases known with
              | true => rfl
              | false => simp at e
            rw [if_pos hkt] at e
            cases e
            rw [hexact (by simp [hkt])]
            cases hx
            simp
            exact .nilSlice _ _
          | some ad =>
            obtain ⟨b, o, sp⟩ := ad
            cases sp with
            | some _ => simp at e
            | none =>
              dsimp only at e
              cases hx with
              | slice s hs _ h2' hc =>
                subst h2'
                dsimp only at hs
                by_cases hq : (known || mx.isSome) = true
                · rw [if_pos hq] at e
                  rw [hexact hq]
                  cases e
                  by_cases hml : m = l
                  · simp only [hml, if_true, Nat.sub_self]
                    have : hh - l = 0 := by omega
                    exact .slice s hs rfl rfl (.inl ⟨by decide, rfl⟩)
                  · simp only [hml, if_false, Option.map_some, Addr.add_lit]
                    refine .slice s hs rfl (by simp; omega) (.inl ⟨?_, rfl⟩)
                    exact (ze3 (n := m - l) (by omega)).1
                · rw [if_neg hq] at e
                  cases e
                  have hmx : mx.isSome = false := by cases hmx : mx.isSome <;> simp_all
                  have hkf : known = false := by cases hkf : known <;> simp_all
                  simp only [hmx, Bool.false_eq_true, if_false]
                  have hml : m = len := by
                    cases mx with
                    | some _ => simp at hmx
                    | none => simp [maxB] at em; rw [← em, ← htop, hkf]; simp
                  have hroom : roomOf len cap ≤ cap' := by
                    unfold roomOf
                    rcases hc with ⟨x, z⟩ | ⟨x, y, _⟩ | ⟨x, y, z⟩
                    · rw [if_neg (by omega)]; rw [← z]; exact hlc x
                    · rw [if_neg (by omega)]; exact y
                    · rw [if_pos x]; omega
                  have hrl : len ≤ roomOf len cap := by unfold roomOf; split <;> omega
                  by_cases h0 : roomOf len cap - l = 0
                  · have h0' : hh - l = 0 := by omega
                    rw [h0', if_pos h0]
                    split
                    · exact .slice0 rfl (.inr rfl) (.inl rfl)
                    · simp only [Option.map_some, Addr.add_lit]; exact .slice0 rfl (.inr rfl) (.inl rfl)
                  · have hne : cap' ≠ l := by omega
                    simp only [hne, if_false, Option.map_some, Addr.add_lit]
                    exact .slice s hs rfl (by simp; omega) (.inr (.inr ⟨by rw [if_neg h0]; exact Nat.le_add_right _ _, by rw [if_neg h0, Nat.add_sub_cancel_left]; exact Nat.sub_le_sub_right hroom _, by omega⟩))
              | slice0 hs1 hs2 hc =>
                rename_i a2
                have hr0 : roomOf 0 cap = 0 := by
                  rcases hc with rfl | ⟨rfl, _⟩
                  · decide
                  · decide
                rcases hs2 with hz | hs2
                · subst hz
                  by_cases hq : (known || mx.isSome) = true
                  · rw [if_pos hq] at e
                    rw [hexact hq]
                    have hm0 : m = 0 := by
                      have hkt : top = 0 := by
                        rw [← htop]; split
                        · rename_i hkk
                          rcases hc with hc | ⟨hc, _⟩
                          · exact absurd (hk.1 hkk) (by omega)
                          · exact hc
                        · rfl
                      omega
                    have hl0 : l = 0 := by omega
                    have hh0 : hh = 0 := by omega
                    subst hm0; subst hl0; subst hh0
                    cases e
                    simp
                    exact .slice0 rfl (.inl rfl) (.inr ⟨rfl, rfl⟩)
                  · rw [if_neg hq] at e
                    cases e
                    have hmx : mx.isSome = false := by cases hmx : mx.isSome <;> simp_all
                    have hkf : known = false := by cases hkf : known <;> simp_all
                    have hml : m = 0 := by
                      cases mx with
                      | some _ => simp at hmx
                      | none => simp [maxB] at em; rw [← em, ← htop, hkf]; simp
                    have h0 : hh - l = 0 := by omega
                    have hl0 : l = 0 := by omega
                    have hh0 : hh = 0 := by omega
                    subst hl0; subst hh0
                    simp only [hmx, Bool.false_eq_true, if_false]
                    simp [hr0]
                    exact .slice0 rfl (.inl rfl) (.inl rfl)
                · obtain ⟨b2, o2, sp2⟩ := a2
                  dsimp only at hs2
                  subst hs2
                  by_cases hq : (known || mx.isSome) = true
                  · rw [if_pos hq] at e
                    rw [hexact hq]
                    have hm0 : m = 0 := by
                      have hkt : top = 0 := by
                        rw [← htop]; split
                        · rename_i hkk
                          rcases hc with hc | ⟨hc, _⟩
                          · exact absurd (hk.1 hkk) (by omega)
                          · exact hc
                        · rfl
                      omega
                    have hl0 : l = 0 := by omega
                    have hh0 : hh = 0 := by omega
                    subst hm0; subst hl0; subst hh0
                    cases e
                    simp
                    exact .slice0 rfl (.inr rfl) (.inr ⟨rfl, rfl⟩)
                  · rw [if_neg hq] at e
                    cases e
                    have hmx : mx.isSome = false := by cases hmx : mx.isSome <;> simp_all
                    have hkf : known = false := by cases hkf : known <;> simp_all
                    have hml : m = 0 := by
                      cases mx with
                      | some _ => simp at hmx
                      | none => simp [maxB] at em; rw [← em, ← htop, hkf]; simp
                    have h0 : hh - l = 0 := by omega
                    rw [h0, hr0, Nat.zero_sub, if_pos rfl]
                    simp only [hmx, Bool.false_eq_true, if_false]
                    split
                    · exact .slice0 rfl (.inr rfl) (.inl rfl)
                    · simp only [Option.map_some, Addr.add_lit]; exact .slice0 rfl (.inr rfl) (.inl rfl)
        · cases e
      · cases e
theorem zjZ {t : TypeId} {x x' : Value} {lo hi mx lo' hi' mx' : Option Value} {v : Value} (hx : VR ρ x x') (h1 : OVR ρ lo lo') (h2 : OVR ρ hi hi') (h3 : OVR ρ mx mx')
    (e : sliceB P t x lo hi mx = some v) : ∃ v', (Instr.sliceAt t x' lo' hi' mx').run P w = .ok v' w ∧ VR ρ v v' := by
  unfold sliceB at e
  split at e
  · rename_i el a len cap hu
    split at e
    · cases e
    · rename_i hmh
      have hmh' : ¬(mx.isSome = true ∧ hi.isNone = true) := by simpa using hmh
      obtain ⟨a', cap', rfl⟩ : ∃ a' cap', x' = .slice a' len cap' := by cases hx <;> exact ⟨_, _, rfl⟩
      obtain ⟨l, hh, m, n, hr1, hr2, hv⟩ := zdo (P := P) (w := w) hx h1 h2 h3 hmh' true e
      refine ⟨_, ?_, hv⟩
      unfold Instr.sliceAt
      simp only [Sem.run_bind, run_underlying hu, Result.andThen_ok]
      unfold Instr.slice
      simp [run_underlying hu, hr1, hr2]
  · rename_i n el b o hu
    split at e
    · cases e
    · rename_i hmh
      simp only [Bool.or_eq_true, Bool.and_eq_true, decide_eq_true_eq, not_or, Nat.not_le] at hmh
      obtain ⟨hmh', hn⟩ := hmh
      cases hx with
      | ptr hk =>
        obtain ⟨s, hs, _, rfl⟩ := hk
        have hx2 : VR ρ (.slice (some ⟨b, o, none⟩) n n) (.slice (some ⟨s.g, o + s.d, none⟩) n n) := .slice s hs rfl rfl (.inl ⟨(ze3 hn).1, rfl⟩)
        obtain ⟨l, hh, m, k, hr1, hr2, hv⟩ := zdo (P := P) (w := w) hx2 h1 h2 h3 hmh' false e
        refine ⟨_, ?_, hv⟩
        unfold Instr.sliceAt
        simp only [Sem.run_bind, run_underlying hu, Result.andThen_ok, Instr.sureAddr, Sem.run_pure, hr1, hr2]
        split <;> simp_all
  · cases e
end
end Go.AX

namespace Go.AX
open Go.RowKit
section
variable {P : Program} {N : Nat → Prop} {w0 w : World} {ρ : Ren} {h : Heap}
theorem zjx (f g : Operand → Value) (o : Oper) (hk : plainKind o = true)
    (hx : ∀ x ∈ o.op.operands, f x = g x) : execOp f o = execOp g o := by
  obtain ⟨dst, op, ty, pos, aft, gd⟩ := o
  unfold plainKind at hk
  dsimp only at hk hx ⊢
  cases op with
  | slice t x lo hi mx =>
    have h0 : f x = g x := hx x (by simp [Op.operands])
    have h1 : lo.map f = lo.map g := by cases lo with
      | none => rfl
      | some y => simp [hx y (by simp [Op.operands])]
    have h2 : hi.map f = hi.map g := by cases hi with
      | none => rfl
      | some y => simp [hx y (by simp [Op.operands])]
    have h3 : mx.map f = mx.map g := by cases mx with
      | none => rfl
      | some y => simp [hx y (by simp [Op.operands])]
    simp only [execOp, h0, h1, h2, h3]
  | binOp op xt x y yt => simp only [execOp, hx x (by simp [Op.operands]), hx y (by simp [Op.operands])]
  | unOp op xt x => simp only [execOp, hx x (by simp [Op.operands])]
  | convert s d x => simp only [execOp, hx x (by simp [Op.operands])]
  | index t x i => simp only [execOp, hx x (by simp [Op.operands]), hx i (by simp [Op.operands])]
  | call c =>
    obtain ⟨cal, args, ats⟩ := c
    cases cal with
    | builtin b =>
      have ha : args.map f = args.map g := Array.map_congr_left fun x hxm => hx x (by simp [Op.operands, Call.operands, hxm])
      simp only [execOp, resolve, ha]
    | _ => simp at hk
  | _ => simp at hk
theorem zfI {tm tm' : Array Value} {o : Oper} {v : Value} (hx : ∀ x ∈ o.op.operands, VR ρ (ev tm x) (ev tm' x)) (e : plainOp P tm o = some v) (w : World) :
    (execOp (ev tm') o).run P w = .ok (.value v) w ∧ VR ρ v v := by
  unfold plainOp at e
  split at e
  · rename_i hc
    simp only [Bool.and_eq_true, List.all_eq_true] at hc
    have heq : execOp (ev tm') o = execOp (ev tm) o := zjx _ _ o hc.1 fun x hxm => zaP deep (hc.2 x (by simpa using hxm)) (hx x hxm)
    split at e
    · rename_i u hu
      split at e
      · rename_i hp
        cases e
        exact ⟨by rw [heq]; exact zfY P _ _ hu w, zaW deep hp⟩
      · cases e
    · cases e
  · cases e
theorem zgx (kind : TypeDesc) (k : Value) : ∀ (es : List MapEntry) (n : Nat),
    Instr.findNow kind k es n = (Instr.findNow kind k (es.map bareE) n).map fun r => r.map fun p => (p.1, ((es[p.1 - n]?).map (·.val)).getD undef) := by
  intro es
  induction es with
  | nil => intro n; simp [Instr.findNow]
  | cons e es ih =>
    intro n
    simp only [List.map_cons, Instr.findNow, bareE]
    cases hs : Instr.sameNow kind k e.key with
    | none => simp
    | some b =>
      cases b with
      | true => simp
      | false =>
        simp only
        rw [ih (n + 1)]
        have hge : ∀ (l : List MapEntry) (m i : Nat) (u : Value), Instr.findNow kind k l m = some (some (i, u)) → m ≤ i := by
          intro l
          induction l with
          | nil => intro m i u h; simp [Instr.findNow] at h
          | cons a l ihl =>
            intro m i u h
            simp only [Instr.findNow] at h
            split at h
            · simp at h; omega
            · have := ihl _ _ _ h; omega
            · cases h
        cases hf : Instr.findNow kind k (es.map bareE) (n + 1) with
        | none => rfl
        | some r =>
          cases r with
          | none => rfl
          | some p =>
            obtain ⟨i, u⟩ := p
            have := hge _ _ _ _ hf
            simp only [Option.map_some]
            rw [show i - n = (i - (n + 1)) + 1 from by omega, List.getElem?_cons_succ]
theorem zef (kt : TypeId) (k : Value) : ∀ (es : List MapEntry) (n : Nat) (w w' : World) (r : Option (Nat × Value)),
    (Instr.findAsking kt k (es.map bareE) n).run P w = .ok r w' →
    (Instr.findAsking kt k es n).run P w = .ok (r.map fun p => (p.1, ((es[p.1 - n]?).map (·.val)).getD undef)) w' ∧ ∀ p, r = some p → n ≤ p.1 := by
  intro es
  induction es with
  | nil => intro n w w' r h; simp [Instr.findAsking] at h ⊢; obtain ⟨rfl, rfl⟩ := h; simp
  | cons e es ih =>
    intro n w w' r h
    simp only [List.map_cons, Instr.findAsking, bareE, Sem.run_bind] at h ⊢
    cases hq : (Op.equal kt k e.key).run P w with
    | halt a b => simp [hq] at h
    | ok b w1 =>
      simp only [hq, Result.andThen_ok] at h ⊢
      cases b with
      | true => simp at h ⊢; obtain ⟨rfl, rfl⟩ := h; simp
      | false =>
        simp only [Bool.false_eq_true, if_false] at h ⊢
        obtain ⟨h1, h2⟩ := ih (n + 1) w1 w' r h
        refine ⟨?_, fun p hp => by have := h2 p hp; omega⟩
        rw [h1]
        cases r with
        | none => rfl
        | some p =>
          have := h2 p rfl
          simp only [Option.map_some]
          rw [show p.1 - n = (p.1 - (n + 1)) + 1 from by omega, List.getElem?_cons_succ]
theorem zgy (kt : TypeId) (k : Value) (es : List MapEntry) (w w' : World) (r : Option (Nat × Value)) (h : (Instr.findKey kt k (es.map bareE)).run P w = .ok r w') :
    (Instr.findKey kt k es).run P w = .ok (r.map fun p => (p.1, ((es[p.1]?).map (·.val)).getD undef)) w' := by
  unfold Instr.findKey at h ⊢
  simp only [Sem.run_bind] at h ⊢
  cases hu : (underlying kt).run P w with
  | halt a b => simp [hu] at h
  | ok d w1 =>
    simp only [hu, Result.andThen_ok] at h ⊢
    have hb := zgx d k es 0
    cases hf : Instr.findNow d k (es.map bareE) 0 with
    | none =>
      rw [hf] at h hb
      simp only [Option.map_none] at hb
      rw [hb]
      simpa using (zef kt k es 0 w1 w' r h).1
    | some q =>
      rw [hf] at h hb
      simp only [Sem.run_pure] at h
      cases h
      rw [hb]
      simp
theorem EsR.bare {es es' : List MapEntry} (h : EsR ρ es es') : es'.map bareE = es.map bareE := by
  apply List.ext_getElem?
  intro i
  simp only [List.getElem?_map]
  cases e : es[i]? with
  | none =>
    have : es'[i]? = none := by rw [List.getElem?_eq_none_iff] at e ⊢; have := h.1; omega
    rw [this]
  | some x =>
    have hi : i < es'.length := by rw [← h.1]; exact (List.getElem?_eq_some_iff.1 e).1
    have e' := List.getElem?_eq_getElem hi
    have := h.2 i x _ e e'
    rw [e']
    simp only [Option.map_some, bareE]
    rw [this.1, this.2.1]
theorem EsR.get {es es' : List MapEntry} (h : EsR ρ es es') {i : Nat} {x : MapEntry} (e : es[i]? = some x) : ∃ x', es'[i]? = some x' ∧ EnR ρ x x' := by
  have hi : i < es'.length := by rw [← h.1]; exact (List.getElem?_eq_some_iff.1 e).1
  exact ⟨_, List.getElem?_eq_getElem hi, h.2 i x _ e (List.getElem?_eq_getElem hi)⟩
theorem zbO {kt : TypeId} {k : Value} {em : Bool} {es es' : List MapEntry} {r : Option (Nat × Value)} (h : EsR ρ es es') (e : findB P em kt k es = some r) (w : World) :
    plain deep k = true ∧ (Instr.checkKey em 10000 kt k).run P w = .ok () w ∧
      match r with
      | none => (Instr.findKey kt k es').run P w = .ok none w
      | some (i, v) => ∃ x x', es[i]? = some x ∧ es'[i]? = some x' ∧ x.val = v ∧ EnR ρ x x' ∧ (Instr.findKey kt k es').run P w = .ok (some (i, x'.val)) w := by
  unfold findB at e
  split at e
  · rename_i hp
    refine ⟨hp, ?_⟩
    have key : ∀ q, pe P (do Instr.checkKey em 10000 kt k; Instr.findKey kt k (es.map bareE)) = some q →
        (Instr.checkKey em 10000 kt k).run P w = .ok () w ∧ (Instr.findKey kt k es').run P w = .ok (q.map fun p => (p.1, ((es'[p.1]?).map (·.val)).getD undef)) w := by
      intro q hq
      have hr := zfY P _ _ hq w
      simp only [Sem.run_bind] at hr
      cases hc : (Instr.checkKey em 10000 kt k).run P w with
      | halt a b => simp [hc] at hr
      | ok u w1 =>
        simp only [hc, Result.andThen_ok] at hr
        have hw1 : w1 = w := by
          -- checkKey asks nothing of the world either
          have hpe : ∀ {α β : Type} (s : Sem α) (f : α → Sem β) (b : β), pe P (s.bind f) = some b → ∃ a, pe P s = some a := by
            intro α β s f b
            induction s with
            | pure a => intro _; exact ⟨a, rfl⟩
            | program k ih => intro hh; simp only [Sem.bind, pe] at hh ⊢; exact ih P hh
            | mark m k ih => intro hh; simp only [Sem.bind, pe] at hh ⊢; exact ih hh
            | _ => intro hh; simp [Sem.bind, pe] at hh
          obtain ⟨a, ha⟩ := hpe _ _ _ hq
          have := zfY P _ _ ha w
          rw [hc] at this
          cases this; rfl
        subst hw1
        refine ⟨rfl, ?_⟩
        rw [← h.bare] at hr
        exact zgy kt k es' w1 w1 q hr
    split at e
    · rename_i hq
      cases e
      exact ⟨(key _ hq).1, by simpa using (key _ hq).2⟩
    · rename_i i u hq
      split at e
      · rename_i x hx
        cases e
        obtain ⟨x', hx', hen⟩ := h.get hx
        refine ⟨(key _ hq).1, x, x', hx, hx', rfl, hen, ?_⟩
        have := (key _ hq).2
        simpa [hx'] using this
      · cases e
    · cases e
  · cases e
theorem BR.map_at {s : Slot} {es : Array MapEntry} {c : Nat} (k : BR P ρ w s (.obj (.map es c))) : ∃ es', w.heap[s.g]? = some (.map es' c) ∧ EsR ρ es.toList es'.toList := by
  cases k with
  | obj o' hd hw k => cases k with
    | map c k => exact ⟨_, hw, k⟩
theorem zb3 (r : R P N w0 ρ h w) {m m' : Value} {x : Nat × Array MapEntry × Nat} (hm : VR ρ m m') (e : mapOf h m = some x) :
    ∃ s es', m = .map (some x.1) ∧ m' = .map (some s.g) ∧ ρ x.1 = some s ∧ h.get? x.1 = some (.obj (.map x.2.1 x.2.2)) ∧ w.heap[s.g]? = some (.map es' x.2.2) ∧ EsR ρ x.2.1.toList es'.toList := by
  unfold mapOf at e
  split at e
  · split at e
    · rename_i es c hg
      cases e
      cases hm with
      | map hs =>
        rename_i s
        obtain ⟨es', a, b⟩ := (r.blk _ s _ hs hg).map_at
        exact ⟨s, es', rfl, rfl, hs, hg, a, b⟩
    · cases e
  · cases e
theorem zaK {b : Nat} {es : Array MapEntry} {c : Nat} (h : w.heap[b]? = some (.map es c)) : (getObj b).run P w = .ok (.map es c) w := by
  simp [getObj, Sem.run, h]
theorem zi2 (r : R P N w0 ρ h w) {t : TypeId} {m m' k k' v : Value} {ok : Bool} (hm : VR ρ m m') (hk : VR ρ k k')
    (e : lookupB P h t m k ok = some v) : ∃ v', (Instr.lookup t m' k' ok).run P w = .ok v' w ∧ VR ρ v v' := by
  unfold lookupB at e
  split at e
  · rename_i kt el hu
    split at e
    · rename_i es z hes hz0
      have hzz : VR ρ z z := zaW deep (za7 hz0)
      -- the rows there
      have hrows : ∃ es', EsR ρ es.toList es'.toList ∧ (m' = .map none ∧ es' = #[] ∨ ∃ g c, m' = .map (some g) ∧ w.heap[g]? = some (.map es' c)) := by
        unfold mapRows at hes
        split at hes
        · cases hes
          cases hm
          exact ⟨#[], ⟨rfl, by simp⟩, .inl ⟨rfl, rfl⟩⟩
        · split at hes
          · rename_i b es2 c hmo
            cases hes
            obtain ⟨s, es', _, rfl, _, _, hw, hE⟩ := zb3 r hm hmo
            exact ⟨es', hE, .inr ⟨s.g, c, rfl, hw⟩⟩
          · cases hes
      obtain ⟨es', hE, hcase⟩ := hrows
      have hem : es'.isEmpty = es.isEmpty := by
        have := hE.1
        simp only [Array.length_toList] at this
        simp [Array.isEmpty, this]
      split at e
      · rename_i i u hf
        obtain ⟨hp, hck, x, x', hx, hx', rfl, hen, hfk⟩ := zbO (P := P) hE hf w
        have hkk := zaP deep hp hk
        subst hkk
        refine ⟨if ok = true then .tuple #[x'.val, .bool true] else x'.val, ?_, ?_⟩
        · unfold Instr.lookup
          rcases hcase with ⟨rfl, rfl⟩ | ⟨g, c, rfl, hw⟩
          · have hem' : es.isEmpty = true := by rw [← hem]; rfl
            simp at hx'
          · simp only [Sem.run_bind, run_underlying hu, Result.andThen_ok, zaK hw, Sem.run_pure, hem, hck, hfk]
        · cases e
          have hv := hen.2.2
          cases ok with
          | true => exact VR.tuple' (LR.cons hv (LR.cons (.bool true) (LR.nil ρ)))
          | false => exact hv
      · rename_i hf
        obtain ⟨hp, hck, hfk⟩ := zbO (P := P) hE hf w
        have hkk := zaP deep hp hk
        subst hkk
        refine ⟨if ok = true then .tuple #[z, .bool false] else z, ?_, ?_⟩
        · unfold Instr.lookup
          rcases hcase with ⟨rfl, rfl⟩ | ⟨g, c, rfl, hw⟩
          · simp only [Sem.run_bind, run_underlying hu, Result.andThen_ok, Sem.run_pure, hem, hck, hfk, zaY hz0]
          · simp only [Sem.run_bind, run_underlying hu, Result.andThen_ok, zaK hw, Sem.run_pure, hem, hck, hfk, zaY hz0]
        · cases e
          cases ok with
          | true => exact VR.tuple' (LR.cons hzz (LR.cons (.bool false) (LR.nil ρ)))
          | false => exact hzz
      · cases e
    · cases e
  · cases e
end
end Go.AX

namespace Go.AX
open Go.RowKit
def Simp (P : Program) (N : Nat → Prop) (w0 : World) (ρ : Ren) (h : Heap) (w : World) (s : Sem Value) (v : Value) (h1 : Heap) : Prop :=
  ∃ ρ' v' w', Le ρ ρ' ∧ (∀ A, A < h.n → ρ' A = ρ A) ∧ R P N w0 ρ' h1 w' ∧ VR ρ' v v' ∧ s.run P w = .ok v' w' ∧ More w w'
section
variable {P : Program} {N : Nat → Prop} {w0 w : World} {ρ : Ren} {h : Heap}
theorem Simp.still (r : R P N w0 ρ h w) {s : Sem Value} {v : Value} (k : ∃ v', s.run P w = .ok v' w ∧ VR ρ v v') : Simp P N w0 ρ h w s v h := by
  obtain ⟨v', a, b⟩ := k
  exact ⟨ρ, v', w, Le.refl _, fun _ _ => rfl, r, b, a, More.refl w⟩
theorem zbJ {A : Nat} {s : Slot} (hA : A < h.n) : upd ρ h.n s A = ρ A := by unfold upd; rw [if_neg (by omega)]
theorem zcu {t : TypeId} {n : Nat} (h : sizeB P t = some n) : P.cellsOf t = n := by unfold sizeB at h; unfold Program.cellsOf; rw [h]; rfl
theorem R.row (r : R P N w0 ρ h w) {c : List Value} {cur : Array Value} {e : TypeId} {cap n : Nat} (hl : LR ρ c (cur.toList.take c.length)) (_hle : c.length ≤ cur.size) (hone : c.all oneB = true) (he : sizeB P e = some n)
    (hs : cur.size = cap * n) {w' : World} (m : More w w') (fr : Nat × Nat) (hw : w'.heap[w.heap.size]? = some (.cells cur e fr)) (hf : ∀ i, i < cur.size ∨ byteT P e = false → ¬(fr.1 ≤ i ∧ i < fr.2)) :
    Le ρ (upd ρ h.n ⟨w.heap.size, 0, cap⟩) ∧ R P N w0 (upd ρ h.n ⟨w.heap.size, 0, cap⟩) (h.push (.cells c e true)) w' := by
  have hlt : w.heap.size < w'.heap.size := (Array.getElem?_eq_some_iff.1 hw).1
  refine r.push m (.cells c e true) ⟨w.heap.size, 0, cap⟩ (Nat.le_refl _) hlt ?_
  refine .own cur fr rfl hw hf (by rw [zcu he]; exact hs) ?_
  intro i v hv
  refine ⟨List.all_eq_true.1 hone _ (List.mem_of_getElem? hv), ?_⟩
  obtain ⟨v', e1, k⟩ := hl.get hv
  rw [List.getElem?_take] at e1
  split at e1
  · exact ⟨v', by simpa using e1, k.mono (Le.upd _ r.fresh)⟩
  · cases e1
theorem zgT (r : R P N w0 ρ h w) {c : List Value} {cur : Array Value} {e : TypeId} {cap n : Nat} (hl : LR ρ c cur.toList) (hone : c.all oneB = true) (he : sizeB P e = some n)
    (hs : cur.size = cap * n) (s : Sem Value) (f : Addr → Value) (v : Value) (hrun : s.run P w = .ok (f ⟨w.heap.size, 0, none⟩) (w.alloc (.cells cur e)))
    (hv : ∀ ρ', Le ρ ρ' → ρ' h.n = some ⟨w.heap.size, 0, cap⟩ → VR ρ' v (f ⟨w.heap.size, 0, none⟩)) : Simp P N w0 ρ h w s v (h.push (.cells c e true)) := by
  have hlen : c.length = cur.size := by simpa using hl.1
  obtain ⟨hle, hr⟩ := r.row (c := c) (cur := cur) (e := e) (cap := cap) (n := n) (by rw [hlen, ← Array.length_toList, List.take_length]; exact hl) (by omega) hone he hs (More.alloc w (.cells cur e)) (0, 0)
    (by show (w.heap.push _)[w.heap.size]? = _; simp) (by intro i _; simp)
  exact ⟨_, _, _, hle, fun A hA => zbJ hA, hr, hv _ hle (zbn _ _ _), hrun, More.alloc w _⟩
theorem zj6 (r : R P N w0 ρ h w) {t : TypeId} {u u' v : Value} {h1 : Heap} (hu : VR ρ u u') (e : boxB P h t u = some (v, h1)) : Simp P N w0 ρ h w (Instr.box t u') v h1 := by
  unfold boxB at e
  split at e
  · rename_i n hn
    split at e
    · rename_i hc
      unfold newB at e
      cases e
      have hx := hu.cells
      refine zgT r (cur := u'.cells) (cap := 1) (n := n) hx hc.2 hn (by rw [← hx.size, hc.1]; omega) _ (fun a => .pointer (some a)) _ ?_ ?_
      · simp [Instr.box, newVar, newRow]
      · intro ρ' hle hh
        exact .ptr ⟨_, hh, rfl, rfl⟩
    · cases e
  · cases e
theorem zj7 (r : R P N w0 ρ h w) {t : TypeId} {z v : Value} {h1 : Heap} (hz : zeroB P t = some z) (e : boxB P h t z = some (v, h1)) : Simp P N w0 ρ h w (Instr.alloc t true (.tuple #[])) v h1 := by
  have hb := zj6 r (zaW deep (za7 hz)) e
  obtain ⟨ρ', v', w', a, b, c, d, hrun, m⟩ := hb
  refine ⟨ρ', v', w', a, b, c, d, ?_, m⟩
  unfold Instr.alloc
  simp only [Sem.run_bind, zaY hz, Result.andThen_ok]
  simpa [Instr.box] using hrun
theorem zb6 {z : Value} (hz : plain deep z = true) (n : Nat) (hn : n = 0 ∨ 0 < z.cells.size) : XR ρ (zerosB z.cells n) (zerosB z.cells n) := by
  have hx : XR ρ z.cells z.cells := (zaW deep hz).cells
  refine ⟨rfl, fun i v v' e e' => ?_⟩
  rw [e] at e'; cases e'
  unfold zerosB at e
  simp only [Array.toList_map, List.getElem?_map, Array.toList_range] at e
  by_cases hi : i < n
  · have hpos : 0 < z.cells.size := by rcases hn with x | x <;> omega
    have hlt := Nat.mod_lt i hpos
    simp [hi] at e
    subst e
    have : z.cells[i % z.cells.size]? = some z.cells[i % z.cells.size]! := by
      rw [Array.getElem!_eq_getD, Array.getD_eq_getD_getElem?, Array.getElem?_eq_getElem hlt]; rfl
    exact hx.at this this
  · simp [hi] at e
theorem zew (r : R P N w0 ρ h w) {t : TypeId} {len : Nat} {parts parts' : List (Nat × Value)} {v : Value} {h1 : Heap} (hp : PairsR ρ parts parts')
    (e : buildSliceB P h t len parts = some (v, h1)) : Simp P N w0 ρ h w (Instr.buildSlice t len parts'.toArray) v h1 := by
  unfold buildSliceB at e
  split at e
  · rename_i el hu
    split at e
    · rename_i s z hs hz
      split at e
      · rename_i hc
        split at e
        · rename_i cells hf
          split at e
          · cases e
          · rename_i hone
            simp only [Bool.or_eq_true, not_or, Bool.not_eq_true', Bool.not_eq_true, bne_eq_false_iff_eq] at hone
            cases e
            have hzz : XR ρ (zerosB z.cells (len * s)) (zerosB z.cells (len * s)) := zb6 (za7 hz) _ (by
              by_cases h0 : len * s = 0
              · exact .inl h0
              · right; rw [hc.2.1]; exact Nat.pos_of_ne_zero fun x => h0 (by rw [x]; simp))
            obtain ⟨cells', e1, hx⟩ := zdi _ parts parts' _ _ cells hp hzz hf
            refine zgT r (cur := cells') (cap := len) (n := s) hx (by simpa using hone.1) hs (by rw [← hx.size, hone.2]) _ (fun a => .slice (some a) len len) _ ?_ ?_
            · unfold Instr.buildSlice
              have hnb : ¬ len * s > 2 ^ 24 := by have := hc.1; simpa using this
              simp only [Sem.run_bind, run_underlying hu, Result.andThen_ok, zaO hs, Sem.run_ite, hnb, if_false]
              by_cases h0 : len * s = 0
              · have hz0 : zerosB z.cells (len * s) = #[] := by simp [zerosB, h0]
                rw [hz0] at e1
                simp [h0, Array.range_zero', e1, newRow]
              · unfold zerosB at e1
                simp [h0, zaY hz, e1, newRow]
            · intro ρ' hle hh
              have hb := ze3 (n := len) (by have := hc.2.2; unfold unk; omega)
              exact .slice _ hh rfl rfl (.inl ⟨hb.1, rfl⟩)
        · cases e
      · cases e
    · cases e
  · cases e
theorem zeJ {n : Int} (h0 : 0 ≤ n) (h1 : n ≤ 1048576) : IntKind.i64.wrap n = n := by
  unfold IntKind.wrap
  have : n % (2 ^ IntKind.i64.bits : Int) = n := Int.emod_eq_of_lt h0 (by simp [IntKind.bits]; omega)
  simp only [this]
  have h2 : ¬ n ≥ (2 ^ (IntKind.i64.bits - 1) : Int) := by simp [IntKind.bits]; omega
  simp [h2]
theorem ze5 (r : R P N w0 ρ h w) {t : TypeId} {l l' c c' v : Value} {h1 : Heap} (hl : VR ρ l l') (hc : VR ρ c c') (e : makeSliceB P h t l c = some (v, h1)) :
    Simp P N w0 ρ h w (Instr.makeSlice t l' c') v h1 := by
  unfold makeSliceB at e
  split at e
  · rename_i el k1 a k2 b hu
    cases hl; cases hc
    split at e
    · rename_i s by_ z hs hb hz
      split at e
      · rename_i hcond
        obtain ⟨q1, q2, q3, q4, q5, q6⟩ := hcond
        cases e
        have hzz : XR ρ (zerosB z.cells (b.toNat * s)) (zerosB z.cells (b.toNat * s)) := zb6 (za7 hz) _ (by
          by_cases h0 : b.toNat * s = 0
          · exact .inl h0
          · right; rw [q6]; exact Nat.pos_of_ne_zero fun x => h0 (by rw [x]; simp))
        refine zgT r (cur := zerosB z.cells (b.toNat * s)) (cap := b.toNat) (n := s) hzz q5 hs (by simp [zerosB]) _ (fun x => .slice (some x) a.toNat b.toNat) _ ?_ ?_
        · obtain ⟨ti, hti, hby⟩ := zbr (w := w) hb
          unfold Instr.makeSlice
          simp only [Sem.run_bind, run_underlying hu, Result.andThen_ok, asInt, asIntOf, Sem.run_pure, hti, hby]
          have hw1 := zeJ (n := a) q1 (by omega)
          have hw2 := zeJ (n := b) (by omega) q3
          have hbig : ¬ ((by_ : Int) * b > 2 ^ 48) := by
            have : (by_ : Int) * b ≤ 1048576 * 1048576 := Int.mul_le_mul (by omega) q3 (by omega) (by omega)
            omega
          have hbig' : ¬ (281474976710656 < (by_ : Int) * b) := by simpa using hbig
          have hnot : ¬(((b < 0 ∨ 281474976710656 < (by_ : Int) * b) ∨ a < 0) ∨ b < a) := by
            rintro (((x | x) | x) | x)
            · omega
            · exact hbig' x
            · omega
            · omega
          by_cases h0 : b.toNat * s = 0
          · have hz0 : zerosB z.cells (b.toNat * s) = #[] := by simp [zerosB, h0]
            rw [hz0]
            simp only [Sem.run_ite, hw1, hw2, Sem.run_bind, run_askRoom, Result.andThen_ok, zaO hs, h0, if_true, Sem.run_pure]
            simp [Array.range_zero', newRow]
            intro hbad; exact absurd hbad hnot
          · simp only [Sem.run_ite, hw1, hw2, Sem.run_bind, run_askRoom, Result.andThen_ok, zaO hs, h0, zaY hz, Sem.run_pure]
            simp [newRow, zerosB]
            intro hbad; exact absurd hbad hnot
        · intro ρ' hle hh
          have hb := ze3 (n := b.toNat) (by unfold unk; omega)
          exact .slice _ hh rfl rfl (.inl ⟨hb.1, rfl⟩)
      · cases e
    · cases e
  · cases e
theorem zj1 (r : R P N w0 ρ h w) (o o' : Obj) (ho : ∀ ρ', Le ρ ρ' → OR ρ' o o') (s : Sem Value) (f : Nat → Value) (v : Value) (hrun : s.run P w = .ok (f w.heap.size) (w.alloc o'))
    (hv : ∀ ρ', Le ρ ρ' → ρ' h.n = some ⟨w.heap.size, 0, 0⟩ → VR ρ' v (f w.heap.size)) : Simp P N w0 ρ h w s v (h.push (.obj o)) := by
  obtain ⟨hle, hr⟩ := r.push (More.alloc w o') (.obj o) ⟨w.heap.size, 0, 0⟩ (Nat.le_refl _) (by simp) (.obj o' rfl (by show (w.heap.push _)[w.heap.size]? = _; simp) (ho _ (Le.upd _ r.fresh)))
  exact ⟨_, _, _, hle, fun A hA => zbJ hA, hr, hv _ hle (zbn _ _ _), hrun, More.alloc w _⟩
theorem zgU (r : R P N w0 ρ h w) (t : TypeId) : Simp P N w0 ρ h w (Instr.makeMap t none) (.map (some h.n)) (h.push (.obj (.map #[] 0))) := by
  refine zj1 r (.map #[] 0) (.map #[] 0) (fun ρ' _ => .map 0 ⟨rfl, by simp⟩) _ (fun g => .map (some g)) _ ?_ fun ρ' _ hh => .map hh
  simp [Instr.makeMap]
theorem zj0 (r : R P N w0 ρ h w) {t : TypeId} {x x' v : Value} {h1 : Heap} (hx : VR ρ x x') (e : rangeB P h t x = some (v, h1)) : Simp P N w0 ρ h w (Instr.range t x') v h1 := by
  unfold rangeB at e
  split at e
  · rename_i s hu
    cases e
    cases hx
    refine zj1 r (.stringIter s 0) (.stringIter s 0) (fun ρ' _ => .iter s 0) _ (fun g => .pointer (some ⟨g, 0, none⟩)) _ ?_ fun ρ' _ hh => .ptr ⟨_, hh, rfl, rfl⟩
    simp [Instr.range, run_underlying hu]
  · cases e
theorem zcF (r : R P N w0 ρ h w) {s n : Nat} {y y' : Value} {new : List Value} (hy : VR ρ y y') (e : rowB h s n y = some new) :
    ∃ new', (Builtin.firstCells s n y').run P w = .ok new' w ∧ LR ρ new new'.toList ∧ new.length = n * s := by
  unfold rowB at e
  split at e
  · split at e
    · rename_i h0
      cases e
      cases hy
      exact ⟨#[], by simp [Builtin.firstCells], LR.nil ρ, by simp [h0]⟩
    · cases e
  · rename_i b o len cap
    split at e
    · cases e
    · rename_i hlen
      split at e
      · rename_i h0
        cases e
        cases hy with
        | slice s1 hs _ h2 hc => exact ⟨#[], by simp [Builtin.firstCells, h0, loadCells, loadCellsFrom], LR.nil ρ, by simp [h0]⟩
        | slice0 _ _ hc => exact ⟨#[], by simp [Builtin.firstCells, h0, loadCells, loadCellsFrom], LR.nil ρ, by simp [h0]⟩
      · rename_i h0
        split at e
        · rename_i c ty ow hg
          split at e
          · rename_i hle
            cases e
            cases hy with
            | slice s1 hs _ h2 hc =>
              subst h2
              dsimp only at hs
              obtain ⟨l', hl, hn, hcell, _⟩ := (r.blk b s1 _ hs hg).row o (n * s) hle
              have hrun := run_loadCells_list (P := P) (w := w) ⟨s1.g, o + s1.d, none⟩ l' (fun j u hu => by rw [Addr.add_lit]; exact hcell j u hu)
              rw [hn] at hrun
              exact ⟨l'.toArray, by simpa [Builtin.firstCells] using hrun, by simpa using hl, by simp; omega⟩
            | slice0 => exfalso; apply h0; have : n = 0 := by omega
                        rw [this]; simp
          · cases e
        · cases e
  · rename_i t
    split at e
    · rename_i hle
      obtain ⟨hle, rfl⟩ := hle
      cases e
      cases hy
      refine ⟨_, rfl, ?_, ?_⟩
      · simpa using LR.map (ρ := ρ) (fun b : UInt8 => Value.int .u8 b.toNat) (fun b : UInt8 => Value.int .u8 b.toNat) (t.extract 0 n).data.toList fun x _ => .int _ _
      · simp [ByteArray.data_extract]; exact Nat.min_eq_left hle
    · cases e
  · cases e
end
end Go.AX

namespace Go.AX
open Go.RowKit
section
variable {P : Program} {N : Nat → Prop} {w0 w : World} {ρ : Ren} {h : Heap}
theorem zgO : ∀ (c c' : List Value) (s : ByteArray) (t : ByteArray), LR ρ c c' → strOf c s = some t → ∃ ns : List Int, c' = ns.map (Value.int .u8) ∧ ns.foldl (fun r n => r.push (UInt8.ofNat n.toNat)) s = t := by
  intro c
  induction c with
  | nil =>
    intro c' s t hl e
    cases c' with
    | nil => simp [strOf] at e; exact ⟨[], rfl, e⟩
    | cons a b => have := hl.1; simp at this
  | cons x c ih =>
    intro c' s t hl e
    cases c' with
    | nil => have := hl.1; simp at this
    | cons y c' =>
      have hv := hl.head
      cases hv with
      | int k n =>
        cases k <;> simp only [strOf] at e
        all_goals first
          | (cases e; done)
          | (obtain ⟨ns, rfl, h2⟩ := ih c' _ t hl.tail e
             exact ⟨n :: ns, rfl, h2⟩)
      | _ => simp [strOf] at e
theorem rowB_cap (h : Heap) (s n : Nat) (a : Option Addr) (len c c' : Nat) : rowB h s n (.slice a len c) = rowB h s n (.slice a len c') := by
  cases a with
  | none => rfl
  | some ad =>
    obtain ⟨b, o, sp⟩ := ad
    cases sp <;> rfl
theorem zde (e : TypeId) (s : ByteArray) (w : World) :
    ∃ (cur : Array Value) (w' : World), (Conv.stringToBytes e s).run P w = .ok (.slice (some ⟨w.heap.size, 0, none⟩) s.size cur.size) w' ∧ More w w' ∧
      w'.heap[w.heap.size]? = some (.cells cur e (cur.size, cur.size + 1)) ∧ s.size ≤ cur.size ∧ cur.toList.take s.size = s.data.toList.map (fun b => Value.int .u8 b.toNat) := by
  have hcap : s.size ≤ (Question.appendCap s.size 0 e).cut (w.tape w.drawn (.appendCap s.size 0 e)) := by simp [Question.cut]
  generalize hc : (Question.appendCap s.size 0 e).cut (w.tape w.drawn (.appendCap s.size 0 e)) = cap at hcap
  have hsz : s.data.size = s.size := rfl
  obtain ⟨C, hC⟩ : ∃ C : Array Value, C = s.data.map (fun b : UInt8 => Value.int .u8 b.toNat) ++ Array.replicate (cap - s.size) (Value.int .u8 0) := ⟨_, rfl⟩
  have hs2 : C.size = cap := by rw [hC]; simp [hsz]; omega
  have hget : (w.drew.alloc (.cells C e)).heap[w.heap.size]? = some (.cells C e (0, 0)) := by show (w.heap.push _)[w.heap.size]? = _; simp
  have hsize : (w.drew.alloc (.cells C e)).heap.size = w.heap.size + 1 := by simp
  refine ⟨C, (w.drew.alloc (.cells C e)).freeze ⟨w.heap.size, cap, none⟩ 1, ?_, ?_, ?_, ?_, ?_⟩
  · unfold Conv.stringToBytes
    simp only [Sem.run_bind, run_choose, Question.forced, Bool.false_eq_true, if_false, Result.andThen_ok, hc, ← hC]
    simp only [newRow, Sem.run_bind, run_newObj, Result.andThen_ok, Sem.run_pure]
    unfold markStringish
    simp only [Sem.run_bind, run_shape, Result.andThen_ok]
    have hshape : (w.drew.alloc (.cells C e)).shape? w.heap.size = some (e, cap) := by
      unfold World.shape?
      rw [hget]
      simp only [hs2]
    show Result.andThen (Sem.run P (match (w.drew.alloc (.cells C e)).shape? w.heap.size with
      | some (_, n) => freeze { block := w.heap.size, off := n } 1
      | _ => pure ()) (w.drew.alloc (.cells C e))) _ = _
    rw [hshape]
    simp only [run_freeze, Result.andThen_ok, hs2]
  · refine ⟨rfl, rfl, rfl, ?_, ?_⟩
    · simp [World.freeze]
    · intro g hg
      have hne : ¬ w.heap.size = g := by omega
      simp only [World.freeze, Nat.succ_ne_zero, if_false, Array.getElem?_modify, hne]
      show (w.heap.push _)[g]? = _
      rw [Array.getElem?_push, if_neg (by omega)]
  · simp only [World.freeze, Nat.succ_ne_zero, if_false, Array.getElem?_modify, if_true, hget]
    simp [hs2]
  · omega
  · rw [hC]; simp [hsz]
theorem zgY (r : R P N w0 ρ h w) {tm tm' : Array Value} {o : Oper} {src dst : TypeId} {x : Operand} {v : Value} {h1 : Heap} (ho : o.op = .convert src dst x) (hx : ∀ y ∈ o.op.operands, VR ρ (ev tm y) (ev tm' y))
    (e : convertB P tm h o src dst (ev tm x) = some (v, h1)) : Simp P N w0 ρ h w (convert src dst (ev tm' x)) v h1 := by
  have hxx : VR ρ (ev tm x) (ev tm' x) := hx x (by simp [ho, Op.operands])
  have hplain : ∀ u, plainOp P tm o = some u → Simp P N w0 ρ h w (convert src dst (ev tm' x)) u h := by
    intro u hu
    obtain ⟨hr, hv⟩ := zfI (P := P) hx hu w
    refine Simp.still r ⟨u, ?_, hv⟩
    rw [execOp, ho] at hr
    simp only [Sem.run_bind] at hr
    cases hc : (convert src dst (ev tm' x)).run P w with
    | ok a w2 => simp [hc] at hr; obtain ⟨rfl, rfl⟩ := hr; rfl
    | halt a w2 => simp [hc] at hr
  unfold convertB at e
  split at e
  · rename_i a len cap hev
    split at e
    · rename_i el hs hd
      split at e
      · rename_i c hu hrow
        split at e
        · cases e
        · rename_i hsz
          have hsz : sizeB P el = some 1 := by simpa using hsz
          cases hst : strOf c ByteArray.empty with
          | none => simp [hst] at e
          | some t =>
            simp [hst] at e
            obtain ⟨rfl, rfl⟩ := e
            rw [hev] at hxx
            obtain ⟨a', cap', hv'⟩ : ∃ a' cap', ev tm' x = .slice a' len cap' := by generalize ev tm' x = q at hxx; cases hxx <;> exact ⟨_, _, rfl⟩
            rw [hv'] at hxx ⊢
            refine Simp.still r ⟨.string t, ?_, .string t⟩
            rw [run_convert_bytes_string w src dst el a' len cap' hs hu hd]
            obtain ⟨new', hrun, hl, hlen⟩ := zcF (P := P) (s := 1) (n := len) r hxx (by rw [rowB_cap h 1 len a len cap 0]; exact hrow)
            obtain ⟨ns, hns, hfold⟩ := zgO c new'.toList _ t hl hst
            cases a' with
            | none =>
              cases hxx
              simp [Builtin.firstCells] at hrun
              subst hrun
              simp at hns
              subst hns
              simp at hfold
              rw [← hfold]
              simp [Conv.bytesToString]
            | some ad' =>
              have hlc : (loadCells ad' len).run P w = .ok (ns.map (Value.int .u8)).toArray w := by
                simp only [Builtin.firstCells, Nat.mul_one] at hrun
                rw [hrun, ← hns]
              rw [run_bytesToString w ad' len cap' ns hlc, hfold]
      · cases e
    · cases e
  · rename_i s hev
    split at e
    · rename_i el hd
      split at e
      · rename_i hu
        split at e
        · cases e
        · rename_i hsz
          simp only [Bool.or_eq_true, not_or, bne_iff_ne, ne_eq, Classical.not_not, Bool.not_eq_true] at hsz
          obtain ⟨hsz, hsrc⟩ := hsz
          cases e
          rw [hev] at hxx
          have hv' : ev tm' x = .string s := by generalize ev tm' x = q at hxx; cases hxx; rfl
          rw [hv']
          obtain ⟨cur, w', hrun, hm, hw, hle, htake⟩ := zde (P := P) el s w
          have hlen : (s.data.toList.map fun b => Value.int .u8 b.toNat).length = s.size := by simp
          obtain ⟨hle', hr⟩ := r.row (c := s.data.toList.map fun b => Value.int .u8 b.toNat) (cur := cur) (e := el) (cap := cur.size) (n := 1) (by
              rw [hlen, htake]
              exact LR.map _ _ _ fun b _ => .int _ _) (by omega) (by rw [List.all_map]; exact List.all_eq_true.2 fun _ _ => rfl) hsz (by omega) hm (cur.size, cur.size + 1) hw (by intro i hi; have hi' : i < cur.size := hi.resolve_right (by simp [byteT, hu]); simp; omega)
          refine ⟨_, _, _, hle', fun A hA => zbJ hA, hr, .slice _ (zbn _ _ _) rfl rfl (.inr (.inr ⟨Nat.le_refl _, by rw [Nat.sub_self]; exact Nat.zero_le _, hle⟩)), ?_, hm⟩
          cases hss : P.underlying src with
          | none => simp [hss] at hsrc
          | some d =>
            unfold convert
            simp only [Sem.run_bind, run_underlying hss, run_underlying hd, Result.andThen_ok]
            cases d <;> simp only [run_underlying hu, Result.andThen_ok] <;> exact hrun
      · cases e
    · cases hp : plainOp P tm o with
      | none => simp [hp] at e
      | some u => simp [hp] at e; obtain ⟨rfl, rfl⟩ := e; exact hplain u hp
  · cases hp : plainOp P tm o with
    | none => simp [hp] at e
    | some u => simp [hp] at e; obtain ⟨rfl, rfl⟩ := e; exact hplain u hp
theorem zfK {t : TypeId} {x x' y y' : Value} {b : Bool} (hx : VR ρ x x') (hy : VR ρ y y') (e : nilEqB P t x y = some b) (xo yo : Operand) :
    (eqGuard .eql t xo yo x' y').run P w = .ok () w ∧ (eqGuard .neq t xo yo x' y').run P w = .ok () w ∧ (Op.equal t x' y').run P w = .ok b w ∧
      (binOp .eql t x' y' = do pure (.bool (← Op.equal t x' y'))) ∧ (binOp .neq t x' y' = do pure (.bool (!(← Op.equal t x' y')))) := by
  unfold nilEqB at e
  split at e
  all_goals first
    | (cases e; done)
    | (rename_i hu
       cases e
       cases hx <;> cases hy <;>
         (refine ⟨rfl, rfl, ?_, rfl, rfl⟩
          show (Op.equalIn (9999 + 1) t _ _).run P w = _
          generalize 9999 = d
          rw [Op.equalIn]
          simp only [Sem.run_bind, run_underlying hu, Result.andThen_ok]
          rfl))
theorem zi4 {x x' v : Value} {xt asserted : TypeId} {ok : Bool} (hx : VR ρ x x') (e : assertB P x asserted ok = some v) :
    ∃ v', (Instr.typeAssert x' xt asserted ok).run P w = .ok v' w ∧ VR ρ v v' := by
  have hzero : ∀ z, zeroB P asserted = some z → VR ρ (.tuple #[z, .bool false]) (.tuple #[z, .bool false]) := fun z hz =>
    VR.tuple' (LR.cons (zaW deep (za7 hz)) (LR.cons (.bool false) (LR.nil ρ)))
  have hok : ∀ {a a' : Value}, VR ρ a a' → VR ρ (if ok = true then .tuple #[a, .bool true] else a) (if ok = true then .tuple #[a', .bool true] else a') := by
    intro a a' k
    cases ok with
    | true => exact VR.tuple' (LR.cons k (LR.cons (.bool true) (LR.nil ρ)))
    | false => exact k
  unfold assertB at e
  split at e
  · rename_i ms t u hu
    split at e
    · rename_i i hi
      cases hx with
      | iface _ k =>
        rename_i u'
        have hti : (typeInfo t).run P w = .ok i w := by simp [typeInfo, hi]
        split at e
        · rename_i hm
          cases e
          refine ⟨_, ?_, hok (.iface t k)⟩
          simp [Instr.typeAssert, run_underlying hu, hti, hm]
        · rename_i m hm
          cases ok with
          | false => simp at e
          | true =>
            simp only [if_true] at e
            cases hz : zeroB P asserted with
            | none => simp [hz] at e
            | some z =>
              simp [hz] at e
              subst e
              refine ⟨_, ?_, hzero z hz⟩
              simp [Instr.typeAssert, run_underlying hu, hti, hm, zaY hz]
    · cases e
  · rename_i ms hu
    cases hx
    cases ok with
    | false => simp at e
    | true =>
      simp only [if_true] at e
      cases hz : zeroB P asserted with
      | none => simp [hz] at e
      | some z =>
        simp [hz] at e
        subst e
        refine ⟨_, ?_, hzero z hz⟩
        simp [Instr.typeAssert, run_underlying hu, zaY hz]
  · rename_i d t u hnot hu
    cases hx with
    | iface _ k =>
      rename_i u'
      have hrun : (Instr.typeAssert (.iface t u') xt asserted ok).run P w = (if t = asserted then pure (if ok then .tuple #[u', .bool true] else u') else
          (if ok then (do pure (.tuple #[← zeroValue asserted, .bool false])) else runtimePanic (.typeAssertion (some xt) (some t) asserted "")) : Sem Value).run P w := by
        cases d <;> first
          | exact (hnot _ rfl).elim
          | simp only [Instr.typeAssert, Sem.run_bind, run_underlying hu, Result.andThen_ok]
      split at e
      · rename_i ht
        cases e
        exact ⟨_, by rw [hrun, if_pos ht]; rfl, hok k⟩
      · rename_i ht
        cases ok with
        | false => simp at e
        | true =>
          simp only [if_true] at e
          cases hz : zeroB P asserted with
          | none => simp [hz] at e
          | some z =>
            simp [hz] at e
            subst e
            refine ⟨_, ?_, hzero z hz⟩
            rw [hrun, if_neg ht]
            simp [zaY hz]
  · rename_i d hnot hu
    cases hx
    cases ok with
    | false => simp at e
    | true =>
      simp only [if_true] at e
      cases hz : zeroB P asserted with
      | none => simp [hz] at e
      | some z =>
        simp [hz] at e
        subst e
        refine ⟨_, ?_, hzero z hz⟩
        cases d <;> first
          | exact (hnot _ rfl).elim
          | simp [Instr.typeAssert, run_underlying hu, zaY hz]
  · cases e
end
end Go.AX

namespace Go.AX
open Go.RowKit
def SimN (P : Program) (N : Nat → Prop) (w0 : World) (ρ : Ren) (h : Heap) (w : World) (s : Sem Next) (v : Value) (h1 : Heap) : Prop :=
  ∃ ρ' v' w', Le ρ ρ' ∧ (∀ A, A < h.n → ρ' A = ρ A) ∧ R P N w0 ρ' h1 w' ∧ VR ρ' v v' ∧ s.run P w = .ok (.value v') w' ∧ More w w'
section
variable {P : Program} {N : Nat → Prop} {w0 w : World} {ρ : Ren} {h : Heap}
theorem Simp.up {s : Sem Value} {v : Value} {h1 : Heap} (k : Simp P N w0 ρ h w s v h1) : SimN P N w0 ρ h w (do pure (.value (← s))) v h1 := by
  obtain ⟨ρ', v', w', a, b, c, d, e, f⟩ := k
  exact ⟨ρ', v', w', a, b, c, d, by simp [e], f⟩
theorem SimN.still (r : R P N w0 ρ h w) {s : Sem Next} {v v' : Value} (hr : s.run P w = .ok (.value v') w) (hv : VR ρ v v') : SimN P N w0 ρ h w s v h :=
  ⟨ρ, v', w, Le.refl _, fun _ _ => rfl, r, hv, hr, More.refl w⟩
theorem zd1 {tm tm' : Array Value} (parts : Array (Nat × Operand)) (hp : ∀ p ∈ parts.toList, VR ρ (ev tm p.2) (ev tm' p.2)) :
    PairsR ρ (parts.toList.map fun (i, x) => (i, ev tm x)) (parts.map fun (i, x) => (i, ev tm' x)).toList := by
  refine ⟨by simp, fun i p p' e e' => ?_⟩
  simp only [List.getElem?_map, Array.toList_map] at e e'
  cases hl : parts.toList[i]? with
  | none => simp [hl] at e
  | some q =>
    simp only [hl, Option.map_some, Option.some.injEq] at e e'
    subst e; subst e'
    exact ⟨rfl, hp q (List.mem_of_getElem? hl)⟩
theorem zfC {tm tm' : Array Value} (xs : Array Operand) (hp : ∀ x ∈ xs.toList, VR ρ (ev tm x) (ev tm' x)) : XR ρ (xs.map (ev tm)) (xs.map (ev tm')) := by
  unfold XR; simp only [Array.toList_map]
  exact LR.map _ _ _ hp
theorem zfs {tm' : Array Value} {o : Oper} {args : Array Operand} {ats : Array TypeId} {t : TypeId} {x : Operand} (ho : o.op = .call { callee := .builtin .len, args := args, argTypes := ats })
    (ht : ats[0]? = some t) (hxa : args[0]? = some x) (W : World) {v : Value}
    (hr : (match P.underlying t, ev tm' x with
      | some (.string), .string s => some (goInt s.size)
      | some (.array n _), _ => some (goInt n)
      | some (.slice _), .slice _ n _ => some (goInt n)
      | some (.map _ _), .map (some r) => match W.heap[r]? with | some (.map es _) => some (goInt es.size) | _ => none
      | _, _ => none) = some v) : (execOp (ev tm') o).run P W = .ok (.value v) W := by
  simp only [execOp, ho, resolve, Sem.run_bind, Sem.run_pure, Result.andThen_ok, invoke, builtin]
  unfold Builtin.len_
  have ha : (args.map (ev tm'))[0]? = some (ev tm' x) := by simp [hxa]
  simp only [ht, ha]
  split at hr
  · rename_i hu hs
    cases hr
    simp [run_underlying hu, hs]
  · rename_i n el hu
    cases hr
    simp [run_underlying hu]
  · rename_i el a n c hu hs
    cases hr
    simp [run_underlying hu, hs]
  · rename_i k el b hu hs
    split at hr
    · rename_i es c hw
      cases hr
      simp [run_underlying hu, hs, zaK hw]
    · cases hr
  · cases hr
theorem zb2 (r : R P N w0 ρ h w) {tm tm' : Array Value} {o : Oper} {v : Value} {h1 : Heap} (hx : ∀ x ∈ o.op.operands, VR ρ (ev tm x) (ev tm' x))
    (e : simpleB P tm h o = some (v, h1)) : SimN P N w0 ρ h w (execOp (ev tm') o) v h1 := by
  have hplain : ∀ u, plainOp P tm o = some u → SimN P N w0 ρ h w (execOp (ev tm') o) u h := by
    intro u hu
    obtain ⟨hr, hv⟩ := zfI (P := P) hx hu w
    exact SimN.still r hr hv
  have hone : ∀ {u : Option Value}, (u.map fun v => (v, h)) = some (v, h1) → u = some v ∧ h1 = h := by
    intro u hu
    cases u with
    | none => simp at hu
    | some q => simp at hu; exact ⟨by rw [hu.1], hu.2.symm⟩
  unfold simpleB at e
  dsimp only at e
  split at e
  · -- move
    rename_i x ho
    cases e
    exact SimN.still r (by simp only [execOp, ho]; rfl) (hx x (by simp [ho, Op.operands]))
  · rename_i x ho
    cases e
    exact SimN.still r (by simp only [execOp, ho]; rfl) (hx x (by simp [ho, Op.operands]))
  · -- pick
    rename_i c a b ho
    have hc := hx c (by simp [ho, Op.operands])
    split at e
    · rename_i t ht
      cases e
      rw [ht] at hc
      have hc' : ev tm' c = .bool t := by generalize ev tm' c = q at hc; cases hc; rfl
      refine SimN.still r (v' := if t then ev tm' a else ev tm' b) (by simp only [execOp, ho, hc']; simp [asBool]) ?_
      cases t with
      | true => exact hx a (by simp [ho, Op.operands])
      | false => exact hx b (by simp [ho, Op.operands])
    · cases e
  · -- alloc
    rename_i t ho
    split at e
    · rename_i z hz
      have := (zj7 r hz e).up
      simpa only [execOp, ho] using this
    · cases e
  · -- box
    rename_i t x ho
    have := (zj6 r (hx x (by simp [ho, Op.operands])) e).up
    simpa only [execOp, ho] using this
  · -- build
    rename_i t parts ho
    obtain ⟨e2, rfl⟩ := hone e; replace e := e2
    have hp := zd1 (ρ := ρ) (tm := tm) (tm' := tm') parts fun p hp => hx p.2 (by
      simp only [ho, Op.operands, List.mem_toArray, List.mem_map]
      exact ⟨p, hp, rfl⟩)
    have := (Simp.still r (zj5 (P := P) (w := w) hp e)).up
    rw [Array.toArray_toList] at this
    simpa only [execOp, ho] using this
  · -- buildSlice
    rename_i t len parts ho
    have hp := zd1 (ρ := ρ) (tm := tm) (tm' := tm') parts fun p hp => hx p.2 (by
      simp only [ho, Op.operands, List.mem_toArray, List.mem_map]
      exact ⟨p, hp, rfl⟩)
    have := (zew r hp e).up
    rw [Array.toArray_toList] at this
    simpa only [execOp, ho] using this
  · -- load
    rename_i t a ho
    obtain ⟨e2, rfl⟩ := hone e; replace e := e2
    have := (Simp.still r (zhZ r (hx a (by simp [ho, Op.operands])) e)).up
    simpa only [execOp, ho] using this
  · -- nilCheck
    rename_i x ho
    have hxx := hx x (by simp [ho, Op.operands])
    split at e
    · rename_i a ha
      cases e
      rw [ha] at hxx
      obtain ⟨a', ha'⟩ : ∃ a', ev tm' x = .pointer (some a') := by generalize ev tm' x = q at hxx; cases hxx; exact ⟨_, rfl⟩
      rw [ha'] at hxx
      exact SimN.still r (by simp only [execOp, ho, ha']; rfl) hxx
    · rename_i t u ha
      cases e
      rw [ha] at hxx
      obtain ⟨a', ha'⟩ : ∃ u', ev tm' x = .iface t u' := by generalize ev tm' x = q at hxx; cases hxx; exact ⟨_, rfl⟩
      rw [ha'] at hxx
      exact SimN.still r (by simp only [execOp, ho, ha']; rfl) hxx
    · rename_i f a b ha
      cases e
      rw [ha] at hxx
      obtain ⟨a', b', ha'⟩ : ∃ a' b', ev tm' x = .func (.func f) a' b' := by
        generalize ev tm' x = q at hxx
        cases hxx with
        | func hf q1 q2 q3 q4 =>
          rename_i f' a' b'
          cases f' <;> simp [FnR] at hf
          exact ⟨a', b', by rw [hf]⟩
      rw [ha'] at hxx
      exact SimN.still r (by simp only [execOp, ho, ha']; rfl) hxx
    · cases e
  · -- makeInterface
    rename_i t x ho
    have hxx := hx x (by simp [ho, Op.operands])
    split at e
    · cases e
    · cases e
    · rename_i d hd hu
      cases e
      refine SimN.still r (v' := .iface t (ev tm' x)) ?_ (.iface t hxx)
      simp only [execOp, ho]
      cases d <;> first
        | exact (hd _ rfl).elim
        | simp [Instr.makeInterface, run_underlying hu]
  · -- makeFunc
    rename_i fn first cap ho
    split at e
    · cases e
    · rename_i fn2 hfn
      cases e
      refine SimN.still r (v' := .func fn (first.map (ev tm')) (cap.map (ev tm'))) (by simp only [execOp, ho]; rfl) (VR.func' ?_ ?_ ?_)
      · cases fn <;> simp_all [FnR]
      · exact zfC _ fun x hxm => hx x (by simp only [ho, Op.operands, Array.mem_append]; exact .inl (by simpa using hxm))
      · exact zfC _ fun x hxm => hx x (by simp only [ho, Op.operands, Array.mem_append]; exact .inr (by simpa using hxm))
  · -- makeMap
    rename_i t ho
    cases e
    have := (zgU (P := P) (N := N) r t).up
    simp only [execOp, ho]
    exact this
  · -- makeSlice
    rename_i t l c ho
    have := (ze5 r (hx l (by simp [ho, Op.operands])) (hx c (by simp [ho, Op.operands])) e).up
    simpa only [execOp, ho] using this
  · -- slice
    rename_i t x lo hi mx ho
    have hxx := hx x (by simp [ho, Op.operands])
    split at e
    · obtain ⟨e2, rfl⟩ := hone e; replace e := e2
      exact hplain _ e
    · obtain ⟨e2, rfl⟩ := hone e; replace e := e2
      have := (Simp.still r (zjZ (P := P) (w := w) hxx (OVR.map lo fun y hy => hx y (by simp [ho, Op.operands, hy])) (OVR.map hi fun y hy => hx y (by simp [ho, Op.operands, hy]))
        (OVR.map mx fun y hy => hx y (by simp [ho, Op.operands, hy])) e)).up
      simpa only [execOp, ho] using this
  · -- fieldAddr
    rename_i t x f ho
    obtain ⟨e2, rfl⟩ := hone e; replace e := e2
    have := (Simp.still r (zgW (P := P) (w := w) (hx x (by simp [ho, Op.operands])) e)).up
    simpa only [execOp, ho] using this
  · -- field
    rename_i t x f ho
    obtain ⟨e2, rfl⟩ := hone e; replace e := e2
    have := (Simp.still r (zj3 (P := P) (w := w) (hx x (by simp [ho, Op.operands])) e)).up
    simpa only [execOp, ho] using this
  · -- indexAddr
    rename_i t x i ho
    obtain ⟨e2, rfl⟩ := hone e; replace e := e2
    have := (Simp.still r (zgV (P := P) (w := w) (hx x (by simp [ho, Op.operands])) (hx i (by simp [ho, Op.operands])) e)).up
    simpa only [execOp, ho] using this
  · -- sliceToArrayPointer
    rename_i t x ho
    obtain ⟨e2, rfl⟩ := hone e; replace e := e2
    have := (Simp.still r (zgZ (P := P) (w := w) (hx x (by simp [ho, Op.operands])) e)).up
    simpa only [execOp, ho] using this
  · -- extract
    rename_i t i ho
    have ht := hx t (by simp [ho, Op.operands])
    split at e
    · rename_i vs hvs
      obtain ⟨e2, rfl⟩ := hone e; replace e := e2
      rw [hvs] at ht
      have := (Simp.still r (zgX (P := P) (w := w) (t := .tuple vs) ht e)).up
      simpa only [execOp, ho] using this
    · cases e
  · -- lookup
    rename_i t m k ok ho
    obtain ⟨e2, rfl⟩ := hone e; replace e := e2
    have := (Simp.still r (zi2 r (hx m (by simp [ho, Op.operands])) (hx k (by simp [ho, Op.operands])) e)).up
    simpa only [execOp, ho] using this
  · -- range
    rename_i t x ho
    have := (zj0 r (hx x (by simp [ho, Op.operands])) e).up
    simpa only [execOp, ho] using this
  · -- typeAssert
    rename_i x xt asserted ok ho
    obtain ⟨e2, rfl⟩ := hone e; replace e := e2
    have := (Simp.still r (zi4 (P := P) (w := w) (xt := xt) (hx x (by simp [ho, Op.operands])) e)).up
    simpa only [execOp, ho] using this
  · -- binOp
    rename_i op t x y yt ho
    have hxx := hx x (by simp [ho, Op.operands])
    have hyy := hx y (by simp [ho, Op.operands])
    split at e
    · rename_i u hu
      cases e
      exact hplain _ hu
    · split at e
      · obtain ⟨e2, rfl⟩ := hone e; replace e := e2
        cases hn : nilEqB P t (ev tm x) (ev tm y) with
        | none => simp [hn] at e
        | some b =>
          simp [hn] at e
          subst e
          obtain ⟨g1, g2, g3, g4, g5⟩ := zfK (w := w) hxx hyy hn x y
          refine SimN.still r (v' := .bool b) ?_ (.bool b)
          simp only [execOp, ho, Sem.run_bind, g1, Result.andThen_ok, g4, g3, Sem.run_pure]
      · obtain ⟨e2, rfl⟩ := hone e; replace e := e2
        cases hn : nilEqB P t (ev tm x) (ev tm y) with
        | none => simp [hn] at e
        | some b =>
          simp [hn] at e
          subst e
          obtain ⟨g1, g2, g3, g4, g5⟩ := zfK (w := w) hxx hyy hn x y
          refine SimN.still r (v' := .bool (!b)) ?_ (.bool (!b))
          simp only [execOp, ho, Sem.run_bind, g2, Result.andThen_ok, g5, g3, Sem.run_pure]
      · cases e
  · -- len
    rename_i args ats ho
    split at e
    · rename_i t x ht hxa
      have hxx := hx x (by
        simp only [ho, Op.operands, Call.operands]
        simp
        exact Array.mem_of_getElem? hxa)
      split at e
      · rename_i el a n c hu hs
        cases e
        rw [hs] at hxx
        obtain ⟨a', c', hs'⟩ : ∃ a' c', ev tm' x = .slice a' n c' := by generalize ev tm' x = q at hxx; cases hxx <;> exact ⟨_, _, rfl⟩
        exact SimN.still r (zfs ho ht hxa w (v := goInt n) (by simp only [hu, hs'])) (.int _ _)
      · rename_i kt el b hu hs
        obtain ⟨e2, rfl⟩ := hone e; replace e := e2
        cases hm : mapOf h1 (ev tm x) with
        | none => simp [hm] at e
        | some q =>
          simp [hm] at e
          subst e
          obtain ⟨s, es', _, hm', _, _, hw, hE⟩ := zb3 r hxx hm
          have hsz : es'.size = q.2.1.size := by have := hE.1; simp at this; exact this.symm
          exact SimN.still r (zfs ho ht hxa w (v := goInt q.2.1.size) (by simp only [hu, hm', hw, hsz])) (.int _ _)
      · rename_i _ n _ hu
        cases e
        exact SimN.still r (zfs ho ht hxa w (v := goInt n) (by simp only [hu])) (.int _ _)
      · obtain ⟨e2, rfl⟩ := hone e; replace e := e2
        exact hplain _ e
    · cases e
  · -- cap
    rename_i args ats ho
    split at e
    · rename_i t x ht hxa
      have hxx := hx x (by
        simp only [ho, Op.operands, Call.operands]
        simp
        exact Array.mem_of_getElem? hxa)
      split at e
      · rename_i el a n c hu hs
        split at e
        · rename_i hcu
          cases e
          rw [hs] at hxx
          have hua := zgN
          obtain ⟨a', hs'⟩ : ∃ a', ev tm' x = .slice a' n c := by
            generalize ev tm' x = q at hxx
            cases hxx with
            | nilSlice => exact ⟨_, rfl⟩
            | slice s _ _ _ hc => rcases hc with ⟨_, rfl⟩ | ⟨q, _⟩ | ⟨q, _⟩
                                  · exact ⟨_, rfl⟩
                                  · omega
                                  · omega
            | slice0 _ _ hc => rcases hc with q | ⟨rfl, rfl⟩
                               · omega
                               · exact ⟨_, rfl⟩
          refine SimN.still r (v' := goInt c) ?_ (.int _ _)
          have ha : (args.map (ev tm'))[0]? = some (ev tm' x) := by simp [hxa]
          simp only [execOp, ho, resolve, Sem.run_bind, Sem.run_pure, Result.andThen_ok, invoke, builtin]
          unfold Builtin.cap_
          simp only [ht, ha, hs']
          simp [run_underlying hu]
        · cases e
      · cases e
    · cases e
  · -- convert
    rename_i s d x ho
    have := (zgY r ho hx e).up
    simpa only [execOp, ho] using this
  · obtain ⟨e2, rfl⟩ := hone e; replace e := e2
    exact hplain _ e
  · -- index
    rename_i t x i ho
    obtain ⟨e2, rfl⟩ := hone e; replace e := e2
    unfold indexV at e
    split at e
    · rename_i u hu
      cases e
      exact hplain _ hu
    · have := (Simp.still r (zj2 (P := P) (w := w) (hx x (by simp [ho, Op.operands])) (hx i (by simp [ho, Op.operands])) e)).up
      simpa only [execOp, ho] using this
  · obtain ⟨e2, rfl⟩ := hone e; replace e := e2
    exact hplain _ e
  · obtain ⟨e2, rfl⟩ := hone e; replace e := e2
    exact hplain _ e
  · cases e
end
end Go.AX
