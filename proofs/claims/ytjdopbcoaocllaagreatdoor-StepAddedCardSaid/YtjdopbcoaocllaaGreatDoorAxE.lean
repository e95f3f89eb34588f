/- The same reading for the kernel, in pieces; numbers of the kind int. -/
import Derived.Test.YtjdopbcoaocllaaGreatDoorAxA
import Derived.Test.YtjdopbcoaocllaaGreatDoorAxD
import Derived.Test.YtjdopbcoaocllaaGreatDoorAxC
namespace Go.AX
noncomputable def nthF : List Value → Nat → Value := @List.rec Value (fun _ => Nat → Value) (fun _ => undef) (fun a _ ih i => @Nat.rec (fun _ => Value) a (fun j _ => ih j) i)
theorem nthF_eq (l : List Value) : ∀ i, nthF l i = l.getD i undef := by
  induction l with
  | nil => intro i; rfl
  | cons a l ih => intro i; cases i with
    | zero => rfl
    | succ i => exact (ih i).trans (by simp)
noncomputable def setF : List Value → Nat → Value → List Value := @List.rec Value (fun _ => Nat → Value → List Value) (fun _ _ => []) (fun a as ih i v => @Nat.rec (fun _ => List Value) (v :: as) (fun j _ => a :: ih j v) i)
theorem setF_eq (l : List Value) : ∀ i v, setF l i v = l.set i v := by
  induction l with
  | nil => intro i v; rfl
  | cons a l ih => intro i v; cases i with
    | zero => rfl
    | succ i => exact congrArg (a :: ·) (ih i v)
noncomputable def evF (tm : Array Value) : Operand → Value
  | .tmp t => nthF tm.toList t
  | .const v => v
  | .global g => .pointer (some ⟨g, 0, none⟩)
  | .func f => .func (.func f) #[] #[]
theorem zaQ (tm : Array Value) : evF tm = ev tm := by
  funext x
  cases x with
  | tmp t => simp [evF, ev, nthF_eq]
  | const v => rfl
  | global g => rfl
  | func f => rfl
noncomputable def putF (tm : Array Value) (d : Option Tmp) (v : Value) : Array Value :=
  match d with
  | some d => ⟨setF tm.toList d v⟩
  | none => tm
theorem zdW (tm : Array Value) (d : Option Tmp) (v : Value) : putF tm d v = put tm d v := by
  cases d with
  | none => rfl
  | some d =>
    simp only [putF, put, setF_eq]
    apply Array.ext'
    simp
noncomputable def mapF {α β : Type} (f : α → β) : List α → List β := @List.rec α (fun _ => List β) [] (fun a _ ih => f a :: ih)
theorem mapF_eq {α β : Type} (f : α → β) (l : List α) : mapF f l = l.map f := by
  induction l with
  | nil => rfl
  | cons a l ih => exact congrArg (f a :: ·) ih
noncomputable def argsF (tm : Array Value) (a : Array Operand) : Array Value := ⟨mapF (evF tm) a.toList⟩
theorem zdK (tm : Array Value) (a : Array Operand) : argsF tm a = a.map (ev tm) := by
  apply Array.ext'
  simp [argsF, mapF_eq, zaQ]
def fitsF : Int → Bool
  | .ofNat m => Nat.ble m 9223372036854775807
  | .negSucc m => Nat.ble m 9223372036854775807
theorem zbA (n : Int) (h : fitsF n = true) : IntKind.wrap .i64 n = n := by
  have h1 : -9223372036854775808 ≤ n ∧ n ≤ 9223372036854775807 := by
    cases n with
    | ofNat m => simp only [fitsF, Nat.ble_eq] at h; simp only [Int.ofNat_eq_natCast]; omega
    | negSucc m => simp only [fitsF, Nat.ble_eq] at h; omega
  unfold IntKind.wrap
  simp only [IntKind.bits, IntKind.signed, Bool.true_and]
  split <;> rename_i hc
  · have := of_decide_eq_true hc; omega
  · have : ¬ (n % 2 ^ 64 ≥ 2 ^ (64 - 1)) := fun k => hc (decide_eq_true k); omega
def ltF : Int → Int → Bool
  | .ofNat a, .ofNat b => Nat.ble (a + 1) b
  | .ofNat _, .negSucc _ => false
  | .negSucc _, .ofNat _ => true
  | .negSucc a, .negSucc b => Nat.ble (b + 1) a
theorem zds (a b : Int) : ltF a b = decide (a < b) := by
  cases a <;> cases b <;> simp only [ltF]
  · rw [Bool.eq_iff_iff]; simp only [Nat.ble_eq, decide_eq_true_eq]; simp only [Int.ofNat_eq_natCast]; omega
  · symm; simp only [decide_eq_false_iff_not, Int.ofNat_eq_natCast]; omega
  · symm; simp only [decide_eq_true_eq, Int.ofNat_eq_natCast]; omega
  · rw [Bool.eq_iff_iff]; simp only [Nat.ble_eq, decide_eq_true_eq]; omega
def eqF : Int → Int → Bool
  | .ofNat a, .ofNat b => Nat.beq a b
  | .negSucc a, .negSucc b => Nat.beq a b
  | _, _ => false
theorem zc3 (a b : Int) : eqF a b = (a == b) := by
  cases a <;> cases b <;> rw [Bool.eq_iff_iff] <;> simp only [eqF, Nat.beq_eq, beq_iff_eq]
  · simp only [Int.ofNat_eq_natCast]; omega
  · simp only [Int.ofNat_eq_natCast]; constructor
    · intro h; cases h
    · intro h; omega
  · simp only [Int.ofNat_eq_natCast]; constructor
    · intro h; cases h
    · intro h; omega
  · omega
def fastBin (op : BinOp) (a b : Int) : Option Value :=
  match op with
  | .add => bif fitsF (Int.add a b) then some (.int .i64 (Int.add a b)) else none
  | .sub => bif fitsF (Int.add a (Int.neg b)) then some (.int .i64 (Int.add a (Int.neg b))) else none
  | .eql => some (.bool (eqF a b))
  | .neq => some (.bool (!(eqF a b)))
  | .lss => some (.bool (ltF a b))
  | .leq => some (.bool (!(ltF b a)))
  | .gtr => some (.bool (ltF b a))
  | .geq => some (.bool (!(ltF a b)))
  | _ => none
def i64 : IntKind → Bool
  | .i64 => true
  | _ => false
def fastOp (op : BinOp) : Value → Value → Option Value
  | .int k a, .int k' b => bif i64 k && i64 k' then fastBin op a b else none
  | _, _ => none
theorem zdt {P : Program} {tm : Array Value} {o : Oper} {op : BinOp} {t yt : TypeId} {x y : Operand} {v : Value} (ho : o.op = .binOp op t x y yt) (h : fastOp op (ev tm x) (ev tm y) = some v) : plainOp P tm o = some v := by
  unfold fastOp at h
  split at h
  · rename_i k a k' b hx hy
    cases hk : i64 k with
    | false => simp [hk] at h
    | true =>
    cases hk' : i64 k' with
    | false => simp [hk, hk'] at h
    | true =>
    simp only [hk, hk', Bool.and_self, cond_true] at h
    have e1 : k = .i64 := by cases k <;> simp_all [i64]
    have e2 : k' = .i64 := by cases k' <;> simp_all [i64]
    subst e1; subst e2
    have hp : (plainKind o && o.op.operands.toList.all fun x => plain deep (ev tm x)) = true := by
      simp [plainKind, ho, Op.operands, hx, hy, plain, deep]
    have e : ∀ (s : Sem Value) (v : Value), s = .pure v → plain deep v = true → (match pe P (Sem.bind s fun v => .pure (Next.value v)) with
        | some (.value v) => if plain deep v then some v else none
        | _ => none) = some v := by
      intro s v hs hv
      subst hs
      show (if plain deep v then some v else none) = some v
      rw [if_pos hv]
    unfold plainOp
    rw [if_pos hp]
    have he : execOp (ev tm) o = Sem.bind (do eqGuard op t x y (ev tm x) (ev tm y); binOp op t (ev tm x) (ev tm y)) fun v => .pure (Next.value v) := by
      unfold execOp; rw [ho]; rfl
    rw [he]
    refine e _ _ ?_ ?_
    · rw [hx, hy]
      cases op <;> simp only [fastBin] at h <;> try (cases h; done)
      · cases hf : fitsF (Int.add a b) with
        | false => rw [hf] at h; cases h
        | true => rw [hf] at h; cases h; show Sem.pure (Value.int .i64 (IntKind.wrap .i64 (a + b))) = _; rw [show a + b = Int.add a b from rfl, zbA _ hf]
      · cases hf : fitsF (Int.add a (Int.neg b)) with
        | false => rw [hf] at h; cases h
        | true => rw [hf] at h; cases h; show Sem.pure (Value.int .i64 (IntKind.wrap .i64 (a - b))) = _; rw [show a - b = Int.add a (Int.neg b) from rfl, zbA _ hf]
      · cases h; show Sem.pure (Value.bool (a == b)) = _; rw [zc3]
      · cases h; show Sem.pure (Value.bool (a != b)) = _; rw [zc3]; rfl
      · cases h; show Sem.pure (Value.bool (decide (a < b))) = _; rw [zds]
      · cases h; show Sem.pure (Value.bool (decide (a ≤ b))) = _; rw [zds]; congr 2; rw [Bool.eq_iff_iff]; simp
      · cases h; show Sem.pure (Value.bool (decide (a > b))) = _; rw [zds]
      · cases h; show Sem.pure (Value.bool (decide (a ≥ b))) = _; rw [zds]; congr 2; rw [Bool.eq_iff_iff]; simp
    · cases op <;> simp only [fastBin] at h <;> try (cases h; done)
      · cases hf : fitsF (Int.add a b) with
        | false => rw [hf] at h; cases h
        | true => rw [hf] at h; cases h; rfl
      · cases hf : fitsF (Int.add a (Int.neg b)) with
        | false => rw [hf] at h; cases h
        | true => rw [hf] at h; cases h; rfl
      all_goals (cases h; rfl)
  · cases h
end Go.AX

namespace Go.AX
noncomputable def optF : List Value → Nat → Option Value := @List.rec Value (fun _ => Nat → Option Value) (fun _ => none) (fun a _ ih i => @Nat.rec (fun _ => Option Value) (some a) (fun j _ => ih j) i)
theorem zd2 (l : List Value) : ∀ i, optF l i = l[i]? := by
  induction l with
  | nil => intro i; rfl
  | cons a l ih => intro i; cases i with
    | zero => rfl
    | succ i => exact (ih i).trans (by simp)
def retF (s : St) (v : Value) : Option (Did × St) := some (.val v, s)
def heapF (s : St) (v : Value) (h : Heap) : Option (Did × St) := some (.val v, { s with h })
def valF (s : St) (r : Option (Value × Heap)) : Option (Did × St) :=
  match r with
  | some p => heapF s p.1 p.2
  | none => none
def oneF (s : St) (r : Option Value) : Option (Did × St) :=
  match r with
  | some v => retF s v
  | none => none
def hhF (s : St) (r : Option Heap) : Option (Did × St) :=
  match r with
  | some h => heapF s undef h
  | none => none
theorem zbZ (s : St) (r : Option Value) : oneF s r = valF s (r.map fun v => (v, s.h)) := by cases r <;> rfl
def pickV (c a b : Value) : Option Value := match c with | .bool t => some (bif t then a else b) | _ => none
def extV (t : Value) (i : Nat) : Option Value := match t with | .tuple vs => vs[i]? | _ => none
noncomputable def partF (P : Program) (t : TypeId) (cs : List Value) (off : Nat) : Option Value :=
  match aggB P t, sizeB P t with
  | some true, some n => bif Nat.ble (off + n) cs.length then some (.agg ⟨(cs.drop off).take n⟩) else none
  | some false, some _ => optF cs off
  | _, _ => none
theorem zh7 (P : Program) (t : TypeId) (cs : List Value) (off : Nat) : partF P t cs off = partB P t cs off := by
  unfold partF partB
  split
  · rename_i n h1 h2
    simp only [h1, h2, cond_eq_ite, Nat.ble_eq]
  · rename_i h1 h2; simp only [h1, h2, zd2]
  · rename_i h1 h2
    cases ha : aggB P t with
    | none => rfl
    | some b => cases hs : sizeB P t with
      | none => cases b <;> rfl
      | some n => cases b
                  · exact absurd hs (h2 _ ha)
                  · exact absurd hs (h1 _ ha)
noncomputable def readF (P : Program) (h : Heap) (t : TypeId) (v : Value) : Option Value :=
  match v with
  | .pointer (some ⟨b, o, none⟩) =>
    match h.get? b with
    | some (.cells c _ _) => partF P t c o
    | _ => none
  | _ => none
theorem zfe (P : Program) (h : Heap) (t : TypeId) (v : Value) : readF P h t v = readB P h t v := by
  unfold readF readB
  split
  · split <;> simp_all [zh7]
  · split
    · simp_all
    · rfl
noncomputable def binF (P : Program) (tm : Array Value) (o : Oper) (op : BinOp) (t : TypeId) (x y : Operand) : Option Value :=
  match fastOp op (evF tm x) (evF tm y) with
  | some v => some v
  | none => match plainOp P tm o with
    | some v => some v
    | none => match op with
      | .eql => (nilEqB P t (evF tm x) (evF tm y)).map .bool
      | .neq => (nilEqB P t (evF tm x) (evF tm y)).map fun b => .bool (!b)
      | _ => none
def lenF (P : Program) (tm : Array Value) (h : Heap) (o : Oper) (t : TypeId) (v : Value) : Option Value :=
  match P.underlying t, v with
  | some (.slice _), .slice _ n _ => some (goInt n)
  | some (.map _ _), .map (some _) => (mapOf h v).map fun r => goInt r.2.1.size
  | some (.array n _), _ => some (goInt n)
  | _, _ => plainOp P tm o
def lenV (P : Program) (tm : Array Value) (h : Heap) (o : Oper) (t : Option TypeId) (x : Option Value) : Option Value :=
  match t, x with
  | some t, some x => lenF P tm h o t x
  | _, _ => none
def enteredF (s : St) (r : Option (End × FrameMode × Heap)) : Option (Did × St) :=
  match r with
  | some (.ret v, _, h) => heapF s v h
  | some (.panic c, _, h) => some (.panic c, { s with h })
  | none => none
def actF (R : Recs) (x : Ctx) (s : St) (r : Option (Out × Heap)) : Option (Did × St) :=
  match r with
  | none => none
  | some (.val v, h) => some (.val v, { s with h })
  | some (.enter f args, h) => enteredF s (R.call f args false .run h)
  | some (.round l args, h) =>
    match R.round l args h with
    | some (.ret v, h) => some (.val v, { s with h })
    | some (.panic c, h) => some (.panic c, { s with h })
    | none => none
  | some (.defer d, h) => if x.round.isSome then none else some (.val undef, { s with h, df := d :: s.df })
  | some (.recover, h) =>
    if x.round.isSome then none
    else if x.dfr then some (.val (recoverB s.up).1, { s with h, up := (recoverB s.up).2 })
    else some (.val .nilIface, { s with h })
  | some (.panic v, h) => some (.panic [{ v, recovered := false }], { s with h })
theorem zhC {P : Program} {R : Recs} {x : Ctx} {s : St} {o : Oper} (hs : isSimple o = true) : doOp P R x s o = if !(opsOK P o) then none else valF s (simpleB P s.tm s.h o) := by
  unfold doOp
  cases opsOK P o
  · rfl
  · simp only [Bool.not_true, Bool.false_eq_true, if_false]
    cases simpleB P s.tm s.h o with
    | none => simp only [hs, if_true, valF]
    | some p => rfl
theorem doOp_act {P : Program} {R : Recs} {x : Ctx} {s : St} {o : Oper} (hs : isSimple o = false) (hn : simpleB P s.tm s.h o = none) : doOp P R x s o = if !(opsOK P o) then none else actF R x s (effectB P s.tm s.h o) := by
  unfold doOp
  cases opsOK P o
  · rfl
  · simp only [Bool.not_true, Bool.false_eq_true, if_false, hn, hs]
    cases effectB P s.tm s.h o with
    | none => rfl
    | some p =>
      obtain ⟨q, h⟩ := p
      cases q with
      | enter f args =>
        simp only [actF, enteredF]
        cases R.call f args false .run h with
        | none => rfl
        | some r => obtain ⟨e, u, h1⟩ := r; cases e <;> rfl
      | _ => rfl
def slowF (P : Program) (R : Recs) (x : Ctx) (s : St) (o : Oper) : Option (Did × St) :=
  match simpleB P s.tm s.h o with
  | some (v, h) => some (.val v, { s with h })
  | none => if isSimple o then none else actF R x s (effectB P s.tm s.h o)
theorem zla {P : Program} {R : Recs} {x : Ctx} {s : St} {o : Oper} : doOp P R x s o = if !(opsOK P o) then none else slowF P R x s o := by
  unfold slowF
  cases hs : isSimple o with
  | true => rw [zhC hs]; cases simpleB P s.tm s.h o <;> rfl
  | false =>
    cases hn : simpleB P s.tm s.h o with
    | none => rw [doOp_act hs hn]; rfl
    | some p => unfold doOp; rw [hn]
noncomputable def appF (P : Program) (tm : Array Value) (h : Heap) (ts : Array TypeId) (args : Array Operand) : Option (Value × Heap) :=
  match args[0]?, args[1]? with
  | some x, some y => appendB P h ts (evF tm x) (evF tm y)
  | _, _ => none
def funF (P : Program) (R : Recs) (x : Ctx) (s : St) (f : FuncId) (args : Array Value) : Option (Did × St) :=
  match P.funcs[f]? with
  | none => none
  | some fn => bif fn.name == "runtime.NumGoroutine" then none else bif fn.body.isSome then enteredF s (R.call f args false .run s.h) else actF R x s ((callFuncB P f args).map fun r => (r, s.h))
noncomputable def callF' (P : Program) (R : Recs) (x : Ctx) (s : St) (o : Oper) (c : Call) : Option (Did × St) :=
  match c.callee with
  | .builtin .len => oneF s (lenV P s.tm s.h o c.argTypes[0]? (c.args[0]?.map (evF s.tm)))
  | .builtin .append => valF s (appF P s.tm s.h c.argTypes c.args)
  | .value (.func f) => funF P R x s f (argsF s.tm c.args)
  | .value f => actF R x s ((callValueB P (evF s.tm f) (argsF s.tm c.args)).map fun r => (r, s.h))
  | _ => slowF P R x s o
noncomputable def dispF (P : Program) (R : Recs) (x : Ctx) (s : St) (o : Oper) : Option (Did × St) :=
  match o.op with
  | .move a => retF s (evF s.tm a)
  | .assign a => retF s (evF s.tm a)
  | .pick c a b => oneF s (pickV (evF s.tm c) (evF s.tm a) (evF s.tm b))
  | .load t a => oneF s (readF P s.h t (evF s.tm a))
  | .store t a v => hhF s (writeB P s.h t (evF s.tm v) (evF s.tm a))
  | .binOp op t a b _ => oneF s (binF P s.tm o op t a b)
  | .indexAddr t a i => oneF s (indexAtB P t (evF s.tm a) (evF s.tm i))
  | .fieldAddr t a f => oneF s (fieldAtB P t (evF s.tm a) f)
  | .field t a f => oneF s (fieldB P t (evF s.tm a) f)
  | .extract t i => oneF s (extV (evF s.tm t) i)
  | .unOp .. => oneF s (plainOp P s.tm o)
  | .index t a i => oneF s (indexV P s.tm o t (evF s.tm a) (evF s.tm i))
  | .convert a b v => valF s (convertB P s.tm s.h o a b (evF s.tm v))
  | .call c => callF' P R x s o c
  | _ => slowF P R x s o
noncomputable def doOpF (P : Program) (R : Recs) (x : Ctx) (s : St) (o : Oper) : Option (Did × St) := bif opsOK P o then dispF P R x s o else none
theorem zby {P : Program} {R : Recs} {x : Ctx} {s : St} {o : Oper} (hs : isSimple o = true) : slowF P R x s o = valF s (simpleB P s.tm s.h o) := by
  unfold slowF
  cases simpleB P s.tm s.h o with
  | none => simp only [hs, if_true, valF]
  | some p => rfl
theorem zdR {P : Program} {R : Recs} {x : Ctx} {s : St} {o : Oper} (hs : isSimple o = false) (hn : simpleB P s.tm s.h o = none) : slowF P R x s o = actF R x s (effectB P s.tm s.h o) := by
  unfold slowF
  simp only [hn, hs, Bool.false_eq_true, if_false]
theorem zcz (P : Program) (R : Recs) (x : Ctx) (s : St) (o : Oper) : dispF P R x s o = slowF P R x s o := by
  have key : ∀ r : Option (Did × St), dispF P R x s o = r → (slowF P R x s o = r) → dispF P R x s o = slowF P R x s o := by
    intro r h1 h2
    rw [h2, h1]
  have simp' : ∀ r : Option (Value × Heap), isSimple o = true → simpleB P s.tm s.h o = r → dispF P R x s o = valF s r → dispF P R x s o = slowF P R x s o := by
    intro r hs h1 h2
    rw [h2, zby hs, h1]
  cases ho : o.op with
  | move a => exact simp' (some (ev s.tm a, s.h)) (by simp [isSimple, ho]) (by simp [simpleB, ho]) (by simp [dispF, ho, zaQ, retF, valF, heapF])
  | assign a => exact simp' (some (ev s.tm a, s.h)) (by simp [isSimple, ho]) (by simp [simpleB, ho]) (by simp [dispF, ho, zaQ, retF, valF, heapF])
  | pick c a b =>
    refine simp' _ (by simp [isSimple, ho]) rfl ?_
    simp only [dispF, ho, zaQ, simpleB, zbZ, pickV]
    cases ev s.tm c <;> simp [cond_eq_ite]
  | load t a =>
    refine simp' _ (by simp [isSimple, ho]) rfl ?_
    simp only [dispF, ho, zaQ, simpleB, zbZ, zfe]
  | store t a v =>
    refine key _ rfl ?_
    rw [zdR (by simp [isSimple, ho]) (by simp [simpleB, ho])]
    simp only [dispF, ho, zaQ, effectB]
    cases writeB P s.h t (ev s.tm v) (ev s.tm a) <;> rfl
  | binOp op t a b yt =>
    refine simp' _ (by simp [isSimple, ho]) rfl ?_
    simp only [dispF, ho, zaQ, simpleB, zbZ, binF]
    cases hf : fastOp op (ev s.tm a) (ev s.tm b) with
    | some v => simp only [zdt ho hf]; rfl
    | none =>
      simp only []
      cases plainOp P s.tm o with
      | some v => rfl
      | none => cases op <;> simp
  | indexAddr t a i =>
    refine simp' _ (by simp [isSimple, ho]) rfl ?_
    simp only [dispF, ho, zaQ, simpleB, zbZ]
  | fieldAddr t a i =>
    refine simp' _ (by simp [isSimple, ho]) rfl ?_
    simp only [dispF, ho, zaQ, simpleB, zbZ]
  | field t a i =>
    refine simp' _ (by simp [isSimple, ho]) rfl ?_
    simp only [dispF, ho, zaQ, simpleB, zbZ]
  | extract t i =>
    refine simp' _ (by simp [isSimple, ho]) rfl ?_
    simp only [dispF, ho, zaQ, simpleB, zbZ, extV]
    cases ev s.tm t <;> rfl
  | unOp op t a =>
    refine simp' _ (by simp [isSimple, ho]) rfl ?_
    simp only [dispF, ho, simpleB, zbZ]
  | index t a i =>
    refine simp' _ (by simp [isSimple, ho]) rfl ?_
    simp only [dispF, ho, simpleB, zbZ, zaQ]
  | convert a b v =>
    refine simp' _ (by simp [isSimple, ho]) rfl ?_
    simp only [dispF, ho, simpleB, zaQ]
  | call c =>
    obtain ⟨callee, args, argTypes⟩ := c
    cases callee with
    | value f =>
      refine key _ rfl ?_
      rw [zdR (by simp [isSimple, ho]) (by simp [simpleB, ho])]
      simp only [dispF, ho, callF', zaQ, zdK, effectB]
      cases f with
      | func f =>
        simp only [ev, callValueB, funF, callFuncB]
        simp only [Array.append_empty, Array.empty_append]
        cases P.funcs[f]? with
        | none => rfl
        | some fn =>
          simp only []
          cases hr : (fn.name == "runtime.NumGoroutine") with
          | true => simp [actF]
          | false =>
            simp only [cond_false, Bool.false_eq_true, if_false]
            cases hb : fn.body.isSome with
            | true => simp [actF]
            | false => rfl
      | _ => rfl
    | invoke r name => exact key _ rfl (by simp only [dispF, ho, callF'])
    | builtin b =>
      cases b with
      | len =>
        refine simp' _ (by simp [isSimple, ho]) rfl ?_
        simp only [dispF, ho, callF', simpleB, zbZ, zaQ, lenV]
        cases argTypes[0]? with
        | none => rfl
        | some t =>
          cases args[0]? with
          | none => rfl
          | some a =>
            simp only [Option.map_some, lenF]
            congr 1
            cases P.underlying t with
            | none => rfl
            | some d => cases d <;> (try rfl) <;> (cases ev s.tm a <;> (try rfl)) <;> (rename_i r; cases r <;> rfl)
      | append =>
        refine key _ rfl ?_
        rw [zdR (by simp [isSimple, ho]) (by simp [simpleB, ho])]
        simp only [dispF, ho, callF', zaQ, effectB, appF]
        cases args[0]? with
        | none => rfl
        | some a =>
          cases args[1]? with
          | none => rfl
          | some b => simp only []; cases appendB P s.h argTypes (ev s.tm a) (ev s.tm b) <;> rfl
      | _ => exact key _ rfl (by simp only [dispF, ho, callF'])
  | _ => exact key _ rfl (by simp only [dispF, ho])
theorem zfv (P : Program) (R : Recs) (x : Ctx) (s : St) (o : Oper) : doOpF P R x s o = doOp P R x s o := by
  rw [zla, doOpF, zcz]; cases opsOK P o <;> rfl
noncomputable def simF (P : Program) (tm : Array Value) (h : Heap) (o : Oper) : Option (Value × Heap) :=
  match dispF P ⟨fun _ _ _ => none, fun _ _ _ _ _ => none, fun _ _ _ => none⟩ ⟨0, none, false⟩ ⟨tm, [], .run, h⟩ o with
  | some (.val v, s) => some (v, s.h)
  | _ => none
theorem zj8 {P : Program} {tm : Array Value} {h : Heap} {o : Oper} (hs : isSimple o = true) : simF P tm h o = simpleB P tm h o := by
  unfold simF
  rw [zcz, zby hs]
  cases simpleB P tm h o <;> rfl
end Go.AX

namespace Go.AX
noncomputable def yieldF (ops : Array Oper) (tm : Array Value) (j : Nat) : Option Bool :=
  match ops[j]? with
  | some o => match o.dst with
    | some t => match optF tm.toList t with
      | some (.bool b) => some b
      | _ => none
    | none => none
  | none => none
theorem zdN (ops : Array Oper) (tm : Array Value) (j : Nat) : yieldF ops tm j = yielded ops tm j := by
  unfold yieldF yielded
  cases ops[j]? with
  | none => rfl
  | some o =>
    simp only [Option.bind_some]
    cases o.dst with
    | none => rfl
    | some t => simp only [Option.bind_some, zd2, Array.getElem?_toList]; rfl
noncomputable def wantF (ops : Array Oper) (tm : Array Value) (o : Oper) : Bool :=
  match o.guard with
  | none => true
  | some (j, w) => match yieldF ops tm j with
    | some b => bif w then b else !b
    | none => false
theorem ze2 (ops : Array Oper) (tm : Array Value) (o : Oper) : wantF ops tm o = wantedB ops tm o := by
  unfold wantF wantedB Region.wanted
  cases o.guard with
  | none => rfl
  | some p =>
    obtain ⟨j, w⟩ := p
    simp only [zdN]
    cases yielded ops tm j with
    | none => rfl
    | some b => cases b <;> cases w <;> rfl
noncomputable def afterF (o : Oper) (r : Option (Did × St)) (ih : St → Option (Ex × St)) : Option (Ex × St) :=
  match r with
  | some (.val v, s) => ih { s with tm := putF s.tm o.dst v }
  | some (.panic c, s) => some (.panic c, s)
  | none => none
noncomputable def seqF (P : Program) (R : Recs) (x : Ctx) (ops : Array Oper) : List Oper → St → Option (Ex × St) :=
  @List.rec Oper (fun _ => St → Option (Ex × St)) (fun s => some (.normal, s))
    (fun o _ ih s => bif wantF ops s.tm o then afterF o (doOpF P R x s o) ih else ih { s with tm := putF s.tm o.dst undef })
theorem seqF_eq (P : Program) (R : Recs) (x : Ctx) (ops : Array Oper) : ∀ (n i : Nat), i + n = ops.size → ∀ s, seqF P R x ops (ops.toList.drop i) s = seqOps P R x ops (List.range' i n) s := by
  intro n
  induction n with
  | zero => intro i hi s; rw [List.drop_eq_nil_of_le (by simp; omega)]; rfl
  | succ n ih =>
    intro i hi s
    have hlt : i < ops.size := by omega
    have hd : ops.toList.drop i = ops[i] :: ops.toList.drop (i + 1) := by
      rw [List.drop_eq_getElem_cons (by simpa using hlt)]; simp
    rw [hd, List.range'_succ]
    simp only [seqOps, Array.getElem?_eq_getElem hlt]
    show (bif wantF ops s.tm ops[i] then afterF ops[i] (doOpF P R x s ops[i]) (seqF P R x ops (ops.toList.drop (i + 1))) else seqF P R x ops (ops.toList.drop (i + 1)) { s with tm := putF s.tm ops[i].dst undef }) = _
    rw [ze2]
    cases wantedB ops s.tm ops[i] with
    | false => simp only [cond_false, Bool.false_eq_true, if_false, zdW]; exact ih (i + 1) (by omega) _
    | true =>
      simp only [cond_true, if_true, zfv]
      cases doOp P R x s ops[i] with
      | none => rfl
      | some p =>
        obtain ⟨d, s1⟩ := p
        cases d with
        | val v => simp only [afterF, zdW]; exact ih (i + 1) (by omega) _
        | panic c => rfl
noncomputable def openSimF (P : Program) (ops : Array Oper) (ps : List (List Nat)) (z : Open) (i : Nat) (o : Oper) : Option Open :=
  match (bif opsOK P o then simF P z.s.tm z.s.h o else none) with
  | none => none
  | some (v, h) =>
    bif Nat.beq h.n z.s.h.n then
      some { z with s := { z.s with tm := putF z.s.tm o.dst v }, looks := bif looks o then { o, tm := z.s.tm, v, n := z.s.h.n, lo := actsIn ops (ps.getD i []), hi := actsMost ops ps i } :: z.looks else z.looks }
    else
      match h.get? z.s.h.n with
      | some b => some { z with s := { z.s with h, tm := putF z.s.tm o.dst v }, news := (i, z.s.h.n, b) :: z.news }
      | none => none
theorem zhd {P : Program} {ops : Array Oper} {ps : List (List Nat)} {z : Open} {i : Nat} {o : Oper} (hs : isSimple o = true) : openSimF P ops ps z i o = openSimple P ops ps z i o := by
  unfold openSimF openSimple
  simp only [zj8 hs, cond_eq_ite, zdW, Nat.beq_eq, beq_iff_eq]
  rfl
noncomputable def openActF (P : Program) (R : Recs) (x : Ctx) (ps : List (List Nat)) (z : Open) (i : Nat) (o : Oper) : Option Open :=
  match doOpF P R x { z.s with h := hide (unseen ps z.news i) z.s.h } o with
  | some (.val v, s) =>
    if (unseen ps z.news i).all fun p => (s.h.get? p.2.1).isSome then some { z with s := { s with tm := putF s.tm o.dst v, h := unhide (unseen ps z.news i) s.h }, hs := unhide (unseen ps z.news i) s.h :: z.hs } else none
  | _ => none
theorem zhl (P : Program) (R : Recs) (x : Ctx) (ps : List (List Nat)) (z : Open) (i : Nat) (o : Oper) : openActF P R x ps z i o = openAct P R x ps z i o := by
  unfold openActF openAct; simp only [zfv, zdW]; rfl
noncomputable def openStepF (P : Program) (R : Recs) (x : Ctx) (ops : Array Oper) (ps : List (List Nat)) (z : Open) (i : Nat) : Option Open :=
  match ops[i]? with
  | none => none
  | some o =>
    bif isSimple o then
      bif wantF ops z.s.tm o then openSimF P ops ps z i o
      else some { z with s := { z.s with tm := putF z.s.tm o.dst undef } }
    else bif wantF ops z.s.tm o then openActF P R x ps z i o
    else some { z with s := { z.s with tm := putF z.s.tm o.dst undef }, hs := z.s.h :: z.hs }
theorem zf7 (P : Program) (R : Recs) (x : Ctx) (ops : Array Oper) (ps : List (List Nat)) (z : Open) (i : Nat) : openStepF P R x ops ps z i = openStep P R x ops ps z i := by
  unfold openStepF openStep
  cases ops[i]? with
  | none => rfl
  | some o =>
    simp only [ze2, zdW, zhl]
    cases hs : isSimple o with
    | true => simp only [if_true, zhd hs, cond_eq_ite]
    | false => simp only [Bool.false_eq_true, if_false, cond_eq_ite]
noncomputable def lookF (P : Program) (hs : List Heap) (l : Look) : Bool :=
  (List.range (hs.length)).all fun k => k < l.lo || l.hi < k ||
    match hs[hs.length - 1 - k]? with
    | some h => match (bif isSimple l.o then simF P l.tm h l.o else simpleB P l.tm h l.o) with
      | some (v, h1) => same 20 v l.v && h1.n == h.n && within 20 l.n l.v
      | none => false
    | none => false
theorem lookF_eq (P : Program) (hs : List Heap) (l : Look) : lookF P hs l = lookOK P hs l := by
  unfold lookF lookOK
  have : ∀ h, (bif isSimple l.o then simF P l.tm h l.o else simpleB P l.tm h l.o) = simpleB P l.tm h l.o := by
    intro h
    cases hs : isSimple l.o with
    | true => exact zj8 hs
    | false => rfl
  simp only [this]; rfl
noncomputable def openF (P : Program) (R : Recs) (x : Ctx) (ops : Array Oper) (s : St) : Option (Ex × St) :=
  bif openOK ops then
    match (List.range ops.size).foldlM (openStepF P R x ops (preds ops.toList)) { s, hs := [s.h], looks := [], news := [] } with
    | some z => bif Nat.ble z.hs.length 1 || z.looks.all (lookF P z.hs) then some (.normal, z.s) else none
    | none => none
  else none
theorem openF_eq (P : Program) (R : Recs) (x : Ctx) (ops : Array Oper) (s : St) : openF P R x ops s = openOps P R x ops s := by
  unfold openF openOps
  have h1 : openStepF P R x ops (preds ops.toList) = openStep P R x ops (preds ops.toList) := by funext z i; exact zf7 ..
  have h2 : lookF P = lookOK P := by funext hs l; exact lookF_eq ..
  have h3 : ∀ n, Nat.ble n 1 = decide (n ≤ 1) := fun n => by rw [Bool.eq_iff_iff]; simp
  simp only [h1, h2, h3, cond_eq_ite]; rfl
noncomputable def condF (R : Recs) (x : Ctx) (v : Value) (a b : Code) (s : St) : Option (Ex × St) :=
  match v with
  | .bool t => R.code x (bif t then a else b) s
  | _ => none
noncomputable def thenF (R : Recs) (x : Ctx) (b : Code) (r : Option (Ex × St)) : Option (Ex × St) :=
  match r with
  | some (.normal, s) => R.code x b s
  | r => r
noncomputable def blockF (id : Nat) (r : Option (Ex × St)) : Option (Ex × St) :=
  match r with
  | some (.exit i, s) => bif Nat.beq i id then some (.normal, s) else some (.exit i, s)
  | r => r
noncomputable def regionF (P : Program) (R : Recs) (x : Ctx) (ops : Array Oper) (draw : Bool) (s : St) : Option (Ex × St) := bif draw then openF P R x ops s else seqF P R x ops ops.toList s
noncomputable def codeFF (P : Program) (R : Recs) (x : Ctx) (c : Code) (s : St) : Option (Ex × St) :=
  match c with
  | .skip | .label _ => some (.normal, s)
  | .region _ ops draw => regionF P R x ops draw s
  | .seq a b => thenF R x b (R.code x a s)
  | .cond c a b => condF R x (evF s.tm c) a b s
  | .block id b => blockF id (R.code x b s)
  | .loop b => thenF R x (.loop b) (R.code x b s)
  | .scope b => R.code x b s
  | .exit id => some (.exit id, s)
  | .ret => some (.ret, s)
  | .rangeFunc f params assign body => rangeFuncB P R x s f params assign body
  | .goto _ | .refuse _ => none
theorem zlc (P : Program) (R : Recs) (x : Ctx) (c : Code) (s : St) : codeFF P R x c s = codeF P R x c s := by
  cases c with
  | region id ops draw =>
    simp only [codeFF, codeF, regionF, cond_eq_ite, openF_eq]
    rw [show seqF P R x ops ops.toList s = seqOps P R x ops (List.range ops.size) s from by
      rw [List.range_eq_range', ← seqF_eq P R x ops ops.size 0 (by omega) s, List.drop_zero]]
  | seq a b =>
    simp only [codeFF, codeF, thenF]
    cases R.code x a s with
    | none => rfl
    | some p => obtain ⟨e, s1⟩ := p; cases e <;> rfl
  | cond c a b =>
    simp only [codeFF, codeF, zaQ, condF]
    cases ev s.tm c <;> simp [cond_eq_ite]
  | block id b =>
    simp only [codeFF, codeF, blockF]
    cases R.code x b s with
    | none => rfl
    | some p => obtain ⟨e, s1⟩ := p; cases e <;> simp [cond_eq_ite, Nat.beq_eq]
  | loop b =>
    simp only [codeFF, codeF, thenF]
    cases R.code x b s with
    | none => rfl
    | some p => obtain ⟨e, s1⟩ := p; cases e <;> rfl
  | _ => rfl
noncomputable def appendF : List Value → List Value → List Value := @List.rec Value (fun _ => List Value → List Value) (fun l => l) (fun a _ ih l => a :: ih l)
theorem zcA (a b : List Value) : appendF a b = a ++ b := by
  induction a with
  | nil => rfl
  | cons x a ih => exact congrArg (x :: ·) ih
noncomputable def undefs : Nat → List Value := @Nat.rec (fun _ => List Value) [] (fun _ l => undef :: l)
theorem zdO (n : Nat) : undefs n = List.replicate n undef := by
  induction n with
  | zero => rfl
  | succ n ih => exact (congrArg (undef :: ·) ih)
noncomputable def leftF (P : Program) (R : Recs) (fn : Func) (r : Option (Ex × St)) : Option (End × FrameMode × Heap) :=
  match r with
  | some (.normal, s) => (leaveB P R fn s.tm s.df .returning s.h).map fun p => (p.1, s.up, p.2)
  | some (.ret, s) => (leaveB P R fn s.tm s.df .returning s.h).map fun p => (p.1, s.up, p.2)
  | some (.panic ch, s) => (leaveB P R fn s.tm s.df (.panicking ch) s.h).map fun p => (p.1, s.up, p.2)
  | _ => none
noncomputable def bodyF (P : Program) (R : Recs) (f : FuncId) (args : Array Value) (dfr : Bool) (up : FrameMode) (h : Heap) : Option (End × FrameMode × Heap) :=
  match P.funcs[f]? with
  | none => none
  | some fn =>
    match fn.body with
    | none => none
    | some c => leftF P R fn (R.code { fn := f, round := none, dfr } c { tm := ⟨appendF args.toList (undefs (fn.ntmps - args.size))⟩, df := [], up, h })
noncomputable def callFF (P : Program) (K : Known) (R : Recs) (f : FuncId) (args : Array Value) (dfr : Bool) (up : FrameMode) (h : Heap) : Option (End × FrameMode × Heap) :=
  match (bif dfr then none else K f args h) with
  | some r => some (.ret r.1, up, pushAll h r.2)
  | none => bodyF P R f args dfr up h
theorem zem (P : Program) (K : Known) (R : Recs) (f : FuncId) (args : Array Value) (dfr : Bool) (up : FrameMode) (h : Heap) : callFF P K R f args dfr up h = callF P K R f args dfr up h := by
  unfold callFF callF
  rw [show (bif dfr then none else K f args h) = (if dfr then none else K f args h) from by cases dfr <;> rfl]
  cases (if dfr then none else K f args h) with
  | some v => rfl
  | none =>
    simp only [bodyF]
    cases P.funcs[f]? with
    | none => rfl
    | some fn =>
      simp only []
      cases fn.body with
      | none => rfl
      | some c =>
        simp only []
        have e : (⟨appendF args.toList (undefs (fn.ntmps - args.size))⟩ : Array Value) = args ++ Array.replicate (fn.ntmps - args.size) undef := by
          apply Array.ext'; simp [zcA, zdO]
        rw [e]
        cases R.code { fn := f, round := none, dfr } c { tm := args ++ Array.replicate (fn.ntmps - args.size) undef, df := [], up, h } with
        | none => rfl
        | some p => obtain ⟨e, s⟩ := p; cases e <;> rfl
noncomputable def runF (P : Program) (K : Known) : Nat → Recs := @Nat.rec (fun _ => Recs) { code := fun _ _ _ => none, call := fun _ _ _ _ _ => none, round := fun _ _ _ => none }
  (fun _ R => { code := codeFF P R, call := callFF P K R, round := roundF P R })
theorem zg2 (P : Program) (K : Known) (n : Nat) : runF P K n = run P K n := by
  induction n with
  | zero => rfl
  | succ n ih =>
    show Recs.mk (codeFF P (runF P K n)) (callFF P K (runF P K n)) (roundF P (runF P K n)) = Recs.mk (codeF P (run P K n)) (callF P K (run P K n)) (roundF P (run P K n))
    rw [ih]
    congr 1
    · funext x c s; exact zlc ..
    · funext f args dfr up h; exact zem ..
end Go.AX

namespace Go.AX
open Go.RowKit
def oddsOf : List Nat → List Nat
  | [] => []
  | i :: l => match i with
    | 0 => oddsOf l
    | j + 1 => bif Nat.beq (Nat.mod j 2) 0 then Nat.div j 2 :: oddsOf l else oddsOf l
def evensOf : List Nat → List Nat
  | [] => []
  | i :: l => match i with
    | 0 => evensOf l
    | j + 1 => bif Nat.beq (Nat.mod j 2) 0 then evensOf l else Nat.div j 2 :: evensOf l
def hasZero : List Nat → Bool
  | [] => false
  | i :: l => match i with
    | 0 => true
    | _ + 1 => hasZero l
def Bt.keep : Bt → List Nat → Bt
  | .nil, _ => .nil
  | .node b l r, ks => match ks with
    | [] => .nil
    | _ :: _ => .node (bif hasZero ks then b else .dead) (l.keep (oddsOf ks)) (r.keep (evensOf ks))
theorem Bt.get_keep (t : Bt) : ∀ (ks : List Nat) (i : Nat) (b : Blk), (t.keep ks).get i = some b → b = .dead ∨ t.get i = some b := by
  induction t with
  | nil => intro ks i b h; cases h
  | node a l r ihl ihr =>
    intro ks i b h
    cases ks with
    | nil => cases h
    | cons k ks =>
      simp only [Bt.keep] at h
      cases i with
      | zero =>
        simp only [Bt.get] at h ⊢
        cases hz : hasZero (k :: ks) with
        | false => rw [hz] at h; cases h; exact .inl rfl
        | true => rw [hz] at h; cases h; exact .inr rfl
      | succ j =>
        simp only [Bt.get] at h ⊢
        cases hb : Nat.beq (Nat.mod j 2) 0 with
        | true => rw [hb] at h; simp only [cond_true] at h ⊢; exact ihl _ _ _ h
        | false => rw [hb] at h; simp only [cond_false] at h ⊢; exact ihr _ _ _ h
def Heap.keep (h : Heap) (ks : List Nat) : Heap := { n := h.n, bs := h.bs.keep (ks.map fun k => h.n - 1 - k) }
theorem Heap.get_keep {h : Heap} {ks : List Nat} {A : Nat} {b : Blk} (e : (h.keep ks).get? A = some b) : b = .dead ∨ h.get? A = some b := by
  unfold Heap.get? Heap.keep at *
  dsimp only at e
  split at e
  · rename_i hA
    rw [if_pos hA]
    exact Bt.get_keep _ _ _ _ e
  · cases e
section
variable {P : Program} {N : Nat → Prop} {w0 : World}
theorem R.keep {ρ : Ren} {h : Heap} {w : World} (r : R P N w0 ρ h w) (ks : List Nat) : R P N w0 ρ (h.keep ks) w where
  below := r.below
  size := r.size
  dom := r.dom
  glob := r.glob
  blk := fun A s b e f => by
    rcases Heap.get_keep f with rfl | f
    · exact .dead
    · exact r.blk A s b e f
  mine := fun A s b e f ho => by
    rcases Heap.get_keep f with rfl | f
    · cases ho
    · exact r.mine A s b e f ho
  inj := fun A B s t b c ea eb fa fb ho hl hAB => by
    rcases Heap.get_keep fa with rfl | fa
    · cases ho
    rcases Heap.get_keep fb with rfl | fb
    · cases hl
    exact r.inj A B s t b c ea eb fa fb ho hl hAB
theorem Gr.keep (h : Heap) (ks : List Nat) : Gr h (h.keep ks) := ⟨Nat.le_refl _, fun A b e hr => by
  rcases Heap.get_keep e with rfl | e
  · cases hr
  · exact e⟩
def St.keep (s : St) (ks : List Nat) : St := { s with h := s.h.keep ks }
def Piece (P : Program) (N : Nat → Prop) (w0 : World) (x : Ctx) (c : List Item) (s : St) (e : Ex) (s1 : St) : Prop := SimCode P N w0 x c s e s1 ∧ Gr s.h s1.h
variable {x : Ctx}
theorem Piece.keep {c : List Item} {s s1 : St} {e : Ex} (h : Piece P N w0 x c s e s1) (ks : List Nat) : Piece P N w0 x c s e (s1.keep ks) := by
  refine ⟨?_, h.2.trans (Gr.keep _ _)⟩
  intro ρ rd cs0 tm' df' cs w k hs
  obtain ⟨ρ1, tm1, df1, cs1, w1, a, b, d, l⟩ := h.1 ρ rd cs0 tm' df' cs w k hs
  exact ⟨ρ1, tm1, df1, cs1, w1, a, b, ⟨d.r.keep ks, d.tm, d.df, d.cs, d.rd⟩, l⟩
theorem Piece.comp {c1 c2 : List Item} {s s1 s2 : St} {e : Ex} (h : Piece P N w0 x c1 s .normal s1) (k : Piece P N w0 x c2 s1 e s2) : Piece P N w0 x (c1 ++ c2) s e s2 := ⟨h.1.comp h.2.le k.1, h.2.trans k.2⟩
def spine : List Code → Code → Code
  | [], c => c
  | a :: l, c => .seq a (spine l c)
def cutAt : Nat → Code → List Code × Code
  | 0, c => ([], c)
  | n + 1, c => match c with
    | .seq a b => (a :: (cutAt n b).1, (cutAt n b).2)
    | c => ([], c)
theorem cutAt_eq : ∀ (n : Nat) (c : Code), spine (cutAt n c).1 (cutAt n c).2 = c := by
  intro n
  induction n with
  | zero => intro c; rfl
  | succ n ih => intro c; cases c <;> first | rfl | (simp only [cutAt, spine]; rw [ih])
def runL (R : Recs) (x : Ctx) : List Code → St → Option St
  | [], s => some s
  | a :: l, s => match R.code x a s with
    | some (.normal, s) => runL R x l s
    | _ => none
def groupF (R : Recs) (x : Ctx) (l : List Code) (s : St) (ks : List Nat) : Option St :=
  match runL R x l s with
  | some s => some (s.keep ks)
  | none => none
variable {K : Known} {Good : World → Prop}
theorem zeT (hmx : P.follows .mixedOrders = true) (hK : KOK P K Good) (hG : Safe Good N w0) {n : Nat} {c : Code} {s s1 : St} {e : Ex} (he : (runF P K n).code x c s = some (e, s1)) : Piece P N w0 x [.code c] s e s1 := by
  rw [zg2] at he
  exact ⟨(zh1 hmx hK n).code N w0 hG _ _ _ _ _ he, (zfP P K n).code _ _ _ _ _ he⟩
theorem zka {a b : Code} {s s1 s2 : St} {e : Ex} (h : Piece P N w0 x [.code a] s .normal s1) (k : Piece P N w0 x [.code b] s1 e s2) : Piece P N w0 x [.code (.seq a b)] s e s2 := by
  have h1 := h.comp k
  exact ⟨h1.1.step fun _ _ _ _ _ _ _ _ _ => st_seq, h1.2⟩
theorem zi8 (hmx : P.follows .mixedOrders = true) (hK : KOK P K Good) (hG : Safe Good N w0) {n : Nat} {rest : Code} {ks : List Nat} {e : Ex} {s2 : St} : ∀ (l : List Code) (s s1 : St), runL (runF P K n) x l s = some s1 → Piece P N w0 x [.code rest] (s1.keep ks) e s2 → Piece P N w0 x [.code (spine l rest)] s e s2 := by
  intro l
  induction l with
  | nil =>
    intro s s1 he h
    cases he
    have h0 : Piece P N w0 x [] s .normal s := ⟨SimCode.nil, Gr.refl _⟩
    exact (h0.keep ks).comp h
  | cons a l ih =>
    intro s s1 he h
    simp only [runL] at he
    split at he
    · rename_i s' hc
      exact zka (zeT hmx hK hG hc) (ih _ _ he h)
    · cases he
open Classical in
noncomputable def fact (x0 : Ctx) (c0 : Code) (s0 : St) (r : Ex × St) : Recs where
  code := fun x c s => if x = x0 ∧ c = c0 ∧ s = s0 then some r else none
  call := fun _ _ _ _ _ => none
  round := fun _ _ _ => none
theorem zk2 {x0 : Ctx} {c0 : Code} {s0 : St} {r : Ex × St} (hl : ∀ b, c0 ≠ .loop b) (h : ∀ N w0, Safe Good N w0 → Piece P N w0 x0 [.code c0] s0 r.1 r.2) : Sims P (fact x0 c0 s0 r) Good where
  code := fun N w0 hG x c s e s1 he => by
    simp only [fact] at he
    split at he
    · rename_i hc; obtain ⟨rfl, rfl, rfl⟩ := hc; cases he; exact (h N w0 hG).1
    · cases he
  loop := fun N w0 hG x c s e s1 he => by
    simp only [fact] at he
    split at he
    · rename_i hc; exact absurd hc.2.1.symm (hl c)
    · cases he
  call := fun N w0 hG f args dfr up h e up1 h1 he => by cases he
  round := fun N w0 hG l args h e h1 he => by cases he
theorem zjw {x0 : Ctx} {c0 : Code} {s0 : St} {r : Ex × St} (h : Gr s0.h r.2.h) : Grows (fact x0 c0 s0 r) where
  code := fun x c s e s1 he => by
    simp only [fact] at he
    split at he
    · rename_i hc; obtain ⟨rfl, rfl, rfl⟩ := hc; cases he; exact h
    · cases he
  call := fun f args dfr up h e up1 h1 he => by cases he
  round := fun l args h e h1 he => by cases he
theorem zli {f : FuncId} {args : Array Value} {h : Heap} {fn : Func} {c : Code} {s1 : St} {v : Value} {h1 : Heap} (hf : P.funcs[f]? = some fn) (hb : fn.body = some c) (hl : ∀ b, c ≠ .loop b)
    (hp : ∀ N w0, Safe Good N w0 → Piece P N w0 { fn := f, round := none, dfr := false } [.code c] { tm := args ++ Array.replicate (fn.ntmps - args.size) undef, df := [], up := .run, h } .ret s1)
    (hgr : Gr h s1.h)
    (hv : leaveB P (fact { fn := f, round := none, dfr := false } c { tm := args ++ Array.replicate (fn.ntmps - args.size) undef, df := [], up := .run, h } (.ret, s1)) fn s1.tm s1.df .returning s1.h = some (.ret v, h1)) (hG : Safe Good N w0) :
    SimCall P N w0 f args false .run h (.ret v) s1.up h1 := by
  have he : callF P (fun _ _ _ => none) (fact { fn := f, round := none, dfr := false } c { tm := args ++ Array.replicate (fn.ntmps - args.size) undef, df := [], up := .run, h } (.ret, s1)) f args false .run h = some (.ret v, s1.up, h1) := by
    unfold callF
    simp only [Bool.false_eq_true, if_false, hf, hb]
    simp only [fact, and_self, if_true]
    have hv' := hv
    simp only [fact] at hv'
    rw [hv']; rfl
  exact zgC (zk2 hl hp) (zjw hgr) hG (fun _ _ _ _ _ h => by cases h) he
theorem SimCall.calls {f : FuncId} {args : Array Value} {h h1 : Heap} {up : FrameMode} {v : Value} {w : World} {ρ : Ren} {args' : Array Value}
    (hs : SimCall P (fun g => g < w.heap.size) w f args false .run h (.ret v) up h1) (r : R P (fun g => g < w.heap.size) w ρ h w) (ha : XR ρ args args') (hv : plain deep v = true) :
    Calls P f args' w fun e w' => e = .returned v ∧ Below w.heap.size w w' := by
  intro cs
  obtain ⟨ρ1, cs1, w1, e', fr, a1, a2, a3, a4, a5, a6, a7, a8, a9⟩ := hs ρ args' cs cs w r ha (by simp [CsR])
  have hcs : cs1 = cs := by simpa [CsR] using a4
  subst hcs
  cases e' with
  | panicked c => exact a5.elim
  | outgrown => exact a5.elim
  | returned v' =>
    refine ⟨.returned v', w1, fr, ⟨by rw [zaP deep hv a5], ?_⟩, a6, a8, a9.1, a9.2.1, by simpa using a7, a9.2.2⟩
    exact ⟨a3.below.os, a3.below.tape, a3.below.output, a3.below.size, fun g hg => a3.below.block g hg⟩
end
end Go.AX

namespace Go.AX
def binSem (op : BinOp) (a b : Int) : Option Value :=
  match op with
  | .add => some (.int .i64 (IntKind.wrap .i64 (a + b)))
  | .sub => some (.int .i64 (IntKind.wrap .i64 (a - b)))
  | .mul => some (.int .i64 (IntKind.wrap .i64 (a * b)))
  | .quo => if b = 0 then none else some (.int .i64 (IntKind.wrap .i64 (a.tdiv b)))
  | .rem => if b = 0 then none else some (.int .i64 (a.tmod b))
  | .eql => some (.bool (a == b))
  | .neq => some (.bool (a != b))
  | .lss => some (.bool (decide (a < b)))
  | .leq => some (.bool (decide (a ≤ b)))
  | .gtr => some (.bool (decide (a > b)))
  | .geq => some (.bool (decide (a ≥ b)))
  | _ => none
theorem zgF {op : BinOp} {a b : Int} {v : Value} (h : binSem op a b = some v) : plain deep v = true := by
  cases op <;> simp only [binSem] at h <;> (try split at h) <;> cases h <;> rfl
theorem zep {P : Program} {tm : Array Value} {o : Oper} {op : BinOp} {t yt : TypeId} {x y : Operand} {a b : Int} {v : Value} (ho : o.op = .binOp op t x y yt) (hx : ev tm x = .int .i64 a) (hy : ev tm y = .int .i64 b) (h : binSem op a b = some v) : plainOp P tm o = some v := by
  have hp : (plainKind o && o.op.operands.toList.all fun x => plain deep (ev tm x)) = true := by
    simp [plainKind, ho, Op.operands, hx, hy, plain, deep]
  have e : ∀ (s : Sem Value) (v : Value), s = .pure v → plain deep v = true → (match pe P (Sem.bind s fun v => .pure (Next.value v)) with
      | some (.value v) => if plain deep v then some v else none
      | _ => none) = some v := by
    intro s v hs hv
    subst hs
    show (if plain deep v then some v else none) = some v
    rw [if_pos hv]
  unfold plainOp
  rw [if_pos hp]
  have he : execOp (ev tm) o = Sem.bind (do eqGuard op t x y (ev tm x) (ev tm y); binOp op t (ev tm x) (ev tm y)) fun v => .pure (Next.value v) := by
    unfold execOp; rw [ho]; rfl
  rw [he]
  refine e _ _ ?_ (zgF h)
  rw [hx, hy]
  cases op <;> simp only [binSem] at h <;> try (cases h; done)
  case quo =>
    split at h
    · cases h
    · rename_i hb; cases h; show Op.intDiv .quo .i64 a b = _; simp only [Op.intDiv, if_neg hb]; rfl
  case rem =>
    split at h
    · cases h
    · rename_i hb; cases h; show Op.intDiv .rem .i64 a b = _; simp only [Op.intDiv, if_neg hb]; rfl
  all_goals (cases h; rfl)
def mmV (mx : Bool) (a b : Int) : Int := if (bif mx then a else b) < (bif mx then b else a) then b else a
theorem mm_op {P : Program} {tm : Array Value} {o : Oper} {mx : Bool} {args : Array Operand} {ts : Array TypeId} {x y : Operand} {a b : Int} (ho : o.op = .call { callee := .builtin (bif mx then .max else .min), args, argTypes := ts }) (hargs : args.toList = [x, y])
    (hx : ev tm x = .int .i64 a) (hy : ev tm y = .int .i64 b) : plainOp P tm o = some (.int .i64 (mmV mx a b)) := by
  obtain ⟨l⟩ := args
  simp only at hargs
  subst hargs
  have hp : (plainKind o && o.op.operands.toList.all fun x => plain deep (ev tm x)) = true := by
    simp [plainKind, ho, Op.operands, Call.operands, hx, hy, plain, deep]
  unfold plainOp
  rw [if_pos hp]
  have he : pe P (execOp (ev tm) o) = some (.value (.int .i64 (mmV mx a b))) := by
    unfold execOp
    rw [ho]
    cases mx with
    | false =>
      simp only [cond_false, resolve, mmV]
      show pe P (Sem.bind (Builtin.min_ ts o.type (#[x, y].map (ev tm))) fun v => .pure (Next.value v)) = _
      have : Builtin.min_ ts o.type (#[x, y].map (ev tm)) = .pure (.int .i64 (if b < a then b else a)) := by
        simp only [Builtin.min_, List.map_toArray, List.map_cons, List.map_nil, hx, hy]
        rfl
      rw [this]; rfl
    | true =>
      simp only [cond_true, resolve, mmV]
      show pe P (Sem.bind (Builtin.max_ ts o.type (#[x, y].map (ev tm))) fun v => .pure (Next.value v)) = _
      have : Builtin.max_ ts o.type (#[x, y].map (ev tm)) = .pure (.int .i64 (if a < b then b else a)) := by
        simp only [Builtin.max_, List.map_toArray, List.map_cons, List.map_nil, hx, hy]
        rfl
      rw [this]; rfl
  rw [he]
  rfl
def w64 (n : Int) : Int := IntKind.wrap .i64 n
end Go.AX

namespace Go.AX
def maskOf (ms : List Nat) (o : Oper) : Nat := o.after.toList.foldl (fun m e => bif binds e then Nat.lor (Nat.lor m (Nat.shiftLeft 1 e.on)) (ms.getD e.on 0) else m) 0
def masks (ops : List Oper) : List Nat := ops.foldl (fun ms o => ms ++ [maskOf ms o]) []
theorem zeN (l : List Oper) (o : Oper) : masks (l ++ [o]) = masks l ++ [maskOf (masks l) o] := by
  simp [masks, List.foldl_append]
theorem zco (l : List Oper) : (masks l).length = l.length := by
  refine zdE (p := fun l => (masks l).length = l.length) rfl (fun l o ih => ?_) l
  rw [zeN]; simp [ih]
theorem zjE (ms : List Nat) (o : Oper) (i : Nat) : (maskOf ms o).testBit i = true ↔ ∃ e ∈ o.after.toList, binds e = true ∧ (i = e.on ∨ (ms.getD e.on 0).testBit i = true) := by
  unfold maskOf
  have : ∀ (es : List Edge) (m : Nat), (es.foldl (fun m e => bif binds e then Nat.lor (Nat.lor m (Nat.shiftLeft 1 e.on)) (ms.getD e.on 0) else m) m).testBit i = true ↔ m.testBit i = true ∨ ∃ e ∈ es, binds e = true ∧ (i = e.on ∨ (ms.getD e.on 0).testBit i = true) := by
    intro es
    induction es with
    | nil => intro m; simp
    | cons e es ih =>
      intro m
      rw [List.foldl_cons, ih]
      cases hb : binds e with
      | true =>
        have e1 : (Nat.lor (Nat.lor m (Nat.shiftLeft 1 e.on)) (ms.getD e.on 0)).testBit i = true ↔ m.testBit i = true ∨ i = e.on ∨ (ms.getD e.on 0).testBit i = true := by
          show ((m ||| (1 <<< e.on)) ||| ms.getD e.on 0).testBit i = true ↔ _
          rw [Nat.testBit_or, Nat.testBit_or, Bool.or_eq_true, Bool.or_eq_true, Nat.testBit_shiftLeft]
          have : (decide (i ≥ e.on) && Nat.testBit 1 (i - e.on)) = true ↔ i = e.on := by
            rw [Bool.and_eq_true, decide_eq_true_eq]
            constructor
            · rintro ⟨h1, h2⟩
              have h3 : i - e.on = 0 := by
                by_cases q : i - e.on = 0
                · exact q
                · obtain ⟨k, hk⟩ := Nat.exists_eq_succ_of_ne_zero q
                  rw [hk, Nat.testBit_succ] at h2
                  simp at h2
              omega
            · rintro rfl
              exact ⟨Nat.le_refl _, by rw [Nat.sub_self]; rfl⟩
          rw [this, or_assoc]
        rw [cond_true, e1]
        constructor
        · rintro ((h | h) | ⟨e', h1, h2⟩)
          · exact .inl h
          · exact .inr ⟨e, by simp, hb, h⟩
          · exact .inr ⟨e', by simp [h1], h2⟩
        · rintro (h | ⟨e', h1, h2, h3⟩)
          · exact .inl (.inl h)
          · rcases List.mem_cons.1 h1 with rfl | h1
            · exact .inl (.inr h3)
            · exact .inr ⟨e', h1, h2, h3⟩
      | false =>
        rw [cond_false]
        constructor
        · rintro (h | ⟨e', h1, h2⟩)
          · exact .inl h
          · exact .inr ⟨e', by simp [h1], h2⟩
        · rintro (h | ⟨e', h1, h2, h3⟩)
          · exact .inl h
          · rcases List.mem_cons.1 h1 with rfl | h1
            · rw [hb] at h2; cases h2
            · exact .inr ⟨e', h1, h2, h3⟩
  rw [this]; simp
theorem zcW (l : List Oper) : ∀ j i, ((preds l).getD j []).contains i = ((masks l).getD j 0).testBit i := by
  refine zdE (p := fun l => ∀ j i, ((preds l).getD j []).contains i = ((masks l).getD j 0).testBit i) (fun j i => by simp [preds, masks]) (fun l o ih => ?_) l
  intro j i
  rw [zdf, zeN]
  simp only [List.getD_eq_getElem?_getD]
  by_cases hj : j < l.length
  · rw [List.getElem?_append_left (by rw [zbP]; exact hj), List.getElem?_append_left (by rw [zco]; exact hj)]
    have := ih j i
    simpa only [List.getD_eq_getElem?_getD] using this
  · rw [List.getElem?_append_right (by rw [zbP]; omega), List.getElem?_append_right (by rw [zco]; omega), zbP, zco]
    by_cases h0 : j - l.length = 0
    · rw [h0]
      simp only [List.getElem?_cons_zero, Option.getD_some]
      rw [Bool.eq_iff_iff, List.contains_iff_mem, zd6, zjE]
      constructor
      · rintro ⟨e, h1, h2, h3⟩
        refine ⟨e, h1, h2, h3.imp id fun q => ?_⟩
        rw [← ih]; exact List.contains_iff_mem.2 q
      · rintro ⟨e, h1, h2, h3⟩
        refine ⟨e, h1, h2, h3.imp id fun q => ?_⟩
        rw [← ih] at q; exact List.contains_iff_mem.1 q
    · obtain ⟨k, hk⟩ := Nat.exists_eq_succ_of_ne_zero h0
      rw [hk]; simp
def openOKm (ops : Array Oper) : Bool :=
  let ms := masks ops.toList
  let ordered (i j : Nat) : Bool := (ms.getD j 0).testBit i || (ms.getD i 0).testBit j
  (List.range ops.size).all fun j =>
    match ops[j]? with
    | none => false
    | some o =>
      (o.after.toList.all fun e => !binds e || e.on < j) &&
      ((List.range ops.size).all fun i => i == j ||
        match ops[i]? with
        | none => false
        | some p =>
          (isSimple o || isSimple p || ordered i j) &&
          (match p.dst with
           | some t => (!((readsOf ops o).contains t) && !(o.dst == some t)) || ordered i j
           | none => true))
theorem zfj (ops : Array Oper) : openOK ops = openOKm ops := by
  unfold openOK openOKm
  simp only [zcW]
  rfl
def actsMostm (ops : Array Oper) (j : Nat) : Nat :=
  let ms := masks ops.toList
  ((List.range ops.size).filter fun i => !((ms.getD i 0).testBit j) && (match ops[i]? with | some o => !isSimple o | none => false)).length
theorem zcB (ops : Array Oper) (j : Nat) : actsMost ops (preds ops.toList) j = actsMostm ops j := by
  unfold actsMost actsMostm
  simp only [zcW]
  rfl
theorem zbe {ops : Array Oper} {j : Nat} (h : Nat.beq (actsMostm ops j) 0 = true) : actsMost ops (preds ops.toList) j = 0 := (zcB ops j).trans (Nat.eq_of_beq_eq_true h)
theorem zeX {ops : Array Oper} {j : Nat} (h : Nat.ble (actsMostm ops j) 1 = true) : Nat.ble (actsMost ops (preds ops.toList) j) 1 = true := by rw [zcB]; exact h
theorem zaH {ops : Array Oper} (h : openOKm ops = true) : openOK ops = true := (zfj ops).trans h
end Go.AX
