/- The same reading for the kernel, in pieces, and with names for numbers; all paths of a call. -/
import Derived.Test.YtieeiefegnfmfaaGreatDoorAxA
import Derived.Test.YtieeiefegnfmfaaGreatDoorAxD
namespace Go.AX

/-! The same reading, spelt so that the kernel runs it in little time: each alternative is a short application. -/

noncomputable def nthF : List Value → Nat → Value := @List.rec Value (fun _ => Nat → Value) (fun _ => undef) (fun a _ ih i => @Nat.rec (fun _ => Value) a (fun j _ => ih j) i)
theorem nthF_eq (l : List Value) : ∀ i, nthF l i = l.getD i undef := by
  induction l with
  | nil => intro i; rfl
  | cons a l ih => intro i; cases i with
    | zero => rfl
    | succ i => exact (ih i).trans (by simp)

noncomputable def setF : List Value → Nat → Value → List Value := @List.rec Value (fun _ => Nat → Value → List Value) (fun _ _ => []) (fun a as ih i v => @Nat.rec (fun _ => List Value) (v :: as) (fun j _ => a :: ih j v) i)
theorem setF_eq (l : List Value) : ∀ i v, setF l i v = l.set i v := by
  induction l with
  | nil => intro i v; rfl
  | cons a l ih => intro i v; cases i with
    | zero => rfl
    | succ i => exact congrArg (a :: ·) (ih i v)

noncomputable def evF (tm : Array Value) : Operand → Value
  | .tmp t => nthF tm.toList t
  | .const v => v
  | .global g => .pointer (some ⟨g, 0, none⟩)
  | .func f => .func (.func f) #[] #[]

theorem evF_eq (tm : Array Value) : evF tm = ev tm := by
  funext x
  cases x with
  | tmp t => simp [evF, ev, nthF_eq]
  | const v => rfl
  | global g => rfl
  | func f => rfl

noncomputable def putF (tm : Array Value) (d : Option Tmp) (v : Value) : Array Value :=
  match d with
  | some d => ⟨setF tm.toList d v⟩
  | none => tm
theorem putF_eq (tm : Array Value) (d : Option Tmp) (v : Value) : putF tm d v = put tm d v := by
  cases d with
  | none => rfl
  | some d =>
    simp only [putF, put, setF_eq]
    apply Array.ext'
    simp

/-- Lists through their own recursor. -/
noncomputable def mapF {α β : Type} (f : α → β) : List α → List β := @List.rec α (fun _ => List β) [] (fun a _ ih => f a :: ih)
theorem mapF_eq {α β : Type} (f : α → β) (l : List α) : mapF f l = l.map f := by
  induction l with
  | nil => rfl
  | cons a l ih => exact congrArg (f a :: ·) ih

noncomputable def argsF (tm : Array Value) (a : Array Operand) : Array Value := ⟨mapF (evF tm) a.toList⟩
theorem argsF_eq (tm : Array Value) (a : Array Operand) : argsF tm a = a.map (ev tm) := by
  apply Array.ext'
  simp [argsF, mapF_eq, evF_eq]

/-- A number that fits is itself. -/
def fitsF : Int → Bool
  | .ofNat m => Nat.ble m 9223372036854775807
  | .negSucc m => Nat.ble m 9223372036854775807

theorem fits_wrap (n : Int) (h : fitsF n = true) : IntKind.wrap .i64 n = n := by
  have h1 : -9223372036854775808 ≤ n ∧ n ≤ 9223372036854775807 := by
    cases n with
    | ofNat m => simp only [fitsF, Nat.ble_eq] at h; simp only [Int.ofNat_eq_natCast]; omega
    | negSucc m => simp only [fitsF, Nat.ble_eq] at h; omega
  unfold IntKind.wrap
  simp only [IntKind.bits, IntKind.signed, Bool.true_and]
  split <;> rename_i hc
  · have := of_decide_eq_true hc; omega
  · have : ¬ (n % 2 ^ 64 ≥ 2 ^ (64 - 1)) := fun k => hc (decide_eq_true k); omega

def ltF : Int → Int → Bool
  | .ofNat a, .ofNat b => Nat.ble (a + 1) b
  | .ofNat _, .negSucc _ => false
  | .negSucc _, .ofNat _ => true
  | .negSucc a, .negSucc b => Nat.ble (b + 1) a
theorem ltF_eq (a b : Int) : ltF a b = decide (a < b) := by
  cases a <;> cases b <;> simp only [ltF]
  · rw [Bool.eq_iff_iff]; simp only [Nat.ble_eq, decide_eq_true_eq]; simp only [Int.ofNat_eq_natCast]; omega
  · symm; simp only [decide_eq_false_iff_not, Int.ofNat_eq_natCast]; omega
  · symm; simp only [decide_eq_true_eq, Int.ofNat_eq_natCast]; omega
  · rw [Bool.eq_iff_iff]; simp only [Nat.ble_eq, decide_eq_true_eq]; omega
def eqF : Int → Int → Bool
  | .ofNat a, .ofNat b => Nat.beq a b
  | .negSucc a, .negSucc b => Nat.beq a b
  | _, _ => false
theorem eqF_eq (a b : Int) : eqF a b = (a == b) := by
  cases a <;> cases b <;> rw [Bool.eq_iff_iff] <;> simp only [eqF, Nat.beq_eq, beq_iff_eq]
  · simp only [Int.ofNat_eq_natCast]; omega
  · simp only [Int.ofNat_eq_natCast]; constructor
    · intro h; cases h
    · intro h; omega
  · simp only [Int.ofNat_eq_natCast]; constructor
    · intro h; cases h
    · intro h; omega
  · omega

/-- Numbers of the kind int. -/
def fastBin (op : BinOp) (a b : Int) : Option Value :=
  match op with
  | .add => bif fitsF (Int.add a b) then some (.int .i64 (Int.add a b)) else none
  | .sub => bif fitsF (Int.add a (Int.neg b)) then some (.int .i64 (Int.add a (Int.neg b))) else none
  | .eql => some (.bool (eqF a b))
  | .neq => some (.bool (!(eqF a b)))
  | .lss => some (.bool (ltF a b))
  | .leq => some (.bool (!(ltF b a)))
  | .gtr => some (.bool (ltF b a))
  | .geq => some (.bool (!(ltF a b)))
  | _ => none

def i64 : IntKind → Bool
  | .i64 => true
  | _ => false

def fastOp (op : BinOp) : Value → Value → Option Value
  | .int k a, .int k' b => bif i64 k && i64 k' then fastBin op a b else none
  | _, _ => none

theorem fastOp_sound {P : Program} {tm : Array Value} {o : Oper} {op : BinOp} {t yt : TypeId} {x y : Operand} {v : Value} (ho : o.op = .binOp op t x y yt) (h : fastOp op (ev tm x) (ev tm y) = some v) : plainOp P tm o = some v := by
  unfold fastOp at h
  split at h
  · rename_i k a k' b hx hy
    cases hk : i64 k with
    | false => simp [hk] at h
    | true =>
    cases hk' : i64 k' with
    | false => simp [hk, hk'] at h
    | true =>
    simp only [hk, hk', Bool.and_self, cond_true] at h
    have e1 : k = .i64 := by cases k <;> simp_all [i64]
    have e2 : k' = .i64 := by cases k' <;> simp_all [i64]
    subst e1; subst e2
    have hp : (plainKind o && o.op.operands.toList.all fun x => plain deep (ev tm x)) = true := by
      simp [plainKind, ho, Op.operands, hx, hy, plain, deep]
    have e : ∀ (s : Sem Value) (v : Value), s = .pure v → plain deep v = true → (match pe P (Sem.bind s fun v => .pure (Next.value v)) with
        | some (.value v) => if plain deep v then some v else none
        | _ => none) = some v := by
      intro s v hs hv
      subst hs
      show (if plain deep v then some v else none) = some v
      rw [if_pos hv]
    unfold plainOp
    rw [if_pos hp]
    have he : execOp (ev tm) o = Sem.bind (do eqGuard op t x y (ev tm x) (ev tm y); binOp op t (ev tm x) (ev tm y)) fun v => .pure (Next.value v) := by
      unfold execOp; rw [ho]; rfl
    rw [he]
    refine e _ _ ?_ ?_
    · rw [hx, hy]
      cases op <;> simp only [fastBin] at h <;> try (cases h; done)
      · cases hf : fitsF (Int.add a b) with
        | false => rw [hf] at h; cases h
        | true => rw [hf] at h; cases h; show Sem.pure (Value.int .i64 (IntKind.wrap .i64 (a + b))) = _; rw [show a + b = Int.add a b from rfl, fits_wrap _ hf]
      · cases hf : fitsF (Int.add a (Int.neg b)) with
        | false => rw [hf] at h; cases h
        | true => rw [hf] at h; cases h; show Sem.pure (Value.int .i64 (IntKind.wrap .i64 (a - b))) = _; rw [show a - b = Int.add a (Int.neg b) from rfl, fits_wrap _ hf]
      · cases h; show Sem.pure (Value.bool (a == b)) = _; rw [eqF_eq]
      · cases h; show Sem.pure (Value.bool (a != b)) = _; rw [eqF_eq]; rfl
      · cases h; show Sem.pure (Value.bool (decide (a < b))) = _; rw [ltF_eq]
      · cases h; show Sem.pure (Value.bool (decide (a ≤ b))) = _; rw [ltF_eq]; congr 2; rw [Bool.eq_iff_iff]; simp
      · cases h; show Sem.pure (Value.bool (decide (a > b))) = _; rw [ltF_eq]
      · cases h; show Sem.pure (Value.bool (decide (a ≥ b))) = _; rw [ltF_eq]; congr 2; rw [Bool.eq_iff_iff]; simp
    · cases op <;> simp only [fastBin] at h <;> try (cases h; done)
      · cases hf : fitsF (Int.add a b) with
        | false => rw [hf] at h; cases h
        | true => rw [hf] at h; cases h; rfl
      · cases hf : fitsF (Int.add a (Int.neg b)) with
        | false => rw [hf] at h; cases h
        | true => rw [hf] at h; cases h; rfl
      all_goals (cases h; rfl)
  · cases h

end Go.AX

namespace Go.AX

noncomputable def optF : List Value → Nat → Option Value := @List.rec Value (fun _ => Nat → Option Value) (fun _ => none) (fun a _ ih i => @Nat.rec (fun _ => Option Value) (some a) (fun j _ => ih j) i)
theorem optF_eq (l : List Value) : ∀ i, optF l i = l[i]? := by
  induction l with
  | nil => intro i; rfl
  | cons a l ih => intro i; cases i with
    | zero => rfl
    | succ i => exact (ih i).trans (by simp)

def retF (s : St) (v : Value) : Option (Did × St) := some (.val v, s)
def heapF (s : St) (v : Value) (h : Heap) : Option (Did × St) := some (.val v, { s with h })
def valF (s : St) (r : Option (Value × Heap)) : Option (Did × St) :=
  match r with
  | some p => heapF s p.1 p.2
  | none => none
def oneF (s : St) (r : Option Value) : Option (Did × St) :=
  match r with
  | some v => retF s v
  | none => none
def hhF (s : St) (r : Option Heap) : Option (Did × St) :=
  match r with
  | some h => heapF s undef h
  | none => none

theorem oneF_eq (s : St) (r : Option Value) : oneF s r = valF s (r.map fun v => (v, s.h)) := by cases r <;> rfl

def pickV (c a b : Value) : Option Value := match c with | .bool t => some (bif t then a else b) | _ => none
def extV (t : Value) (i : Nat) : Option Value := match t with | .tuple vs => vs[i]? | _ => none

noncomputable def partF (P : Program) (t : TypeId) (cs : List Value) (off : Nat) : Option Value :=
  match aggB P t, sizeB P t with
  | some true, some n => bif Nat.ble (off + n) cs.length then some (.agg ⟨(cs.drop off).take n⟩) else none
  | some false, some _ => optF cs off
  | _, _ => none
theorem partF_eq (P : Program) (t : TypeId) (cs : List Value) (off : Nat) : partF P t cs off = partB P t cs off := by
  unfold partF partB
  split
  · rename_i n h1 h2
    simp only [h1, h2, cond_eq_ite, Nat.ble_eq]
  · rename_i h1 h2; simp only [h1, h2, optF_eq]
  · rename_i h1 h2
    cases ha : aggB P t with
    | none => rfl
    | some b => cases hs : sizeB P t with
      | none => cases b <;> rfl
      | some n => cases b
                  · exact absurd hs (h2 _ ha)
                  · exact absurd hs (h1 _ ha)

noncomputable def readF (P : Program) (h : Heap) (t : TypeId) (v : Value) : Option Value :=
  match v with
  | .pointer (some ⟨b, o, none⟩) =>
    match h.get? b with
    | some (.cells c _ _) => partF P t c o
    | _ => none
  | _ => none
theorem readF_eq (P : Program) (h : Heap) (t : TypeId) (v : Value) : readF P h t v = readB P h t v := by
  unfold readF readB
  split
  · split <;> simp_all [partF_eq]
  · split
    · simp_all
    · rfl

noncomputable def binF (P : Program) (tm : Array Value) (o : Oper) (op : BinOp) (t : TypeId) (x y : Operand) : Option Value :=
  match fastOp op (evF tm x) (evF tm y) with
  | some v => some v
  | none => match plainOp P tm o with
    | some v => some v
    | none => match op with
      | .eql => (nilEqB P t (evF tm x) (evF tm y)).map .bool
      | .neq => (nilEqB P t (evF tm x) (evF tm y)).map fun b => .bool (!b)
      | _ => none

def lenF (P : Program) (tm : Array Value) (h : Heap) (o : Oper) (t : TypeId) (v : Value) : Option Value :=
  match P.underlying t, v with
  | some (.slice _), .slice _ n _ => some (goInt n)
  | some (.map _ _), .map (some _) => (mapOf h v).map fun r => goInt r.2.1.size
  | some (.array n _), _ => some (goInt n)
  | _, _ => plainOp P tm o

def lenV (P : Program) (tm : Array Value) (h : Heap) (o : Oper) (t : Option TypeId) (x : Option Value) : Option Value :=
  match t, x with
  | some t, some x => lenF P tm h o t x
  | _, _ => none

/-- A call that was entered. -/
def enteredF (s : St) (r : Option (End × FrameMode × Heap)) : Option (Did × St) :=
  match r with
  | some (.ret v, _, h) => heapF s v h
  | some (.panic c, _, h) => some (.panic c, { s with h })
  | none => none

/-- What an operation that acts comes to. -/
def actF (R : Recs) (x : Ctx) (s : St) (r : Option (Out × Heap)) : Option (Did × St) :=
  match r with
  | none => none
  | some (.val v, h) => some (.val v, { s with h })
  | some (.enter f args, h) => enteredF s (R.call f args false .run h)
  | some (.round l args, h) =>
    match R.round l args h with
    | some (.ret v, h) => some (.val v, { s with h })
    | some (.panic c, h) => some (.panic c, { s with h })
    | none => none
  | some (.defer d, h) => if x.round.isSome then none else some (.val undef, { s with h, df := d :: s.df })
  | some (.recover, h) =>
    if x.round.isSome then none
    else if x.dfr then some (.val (recoverB s.up).1, { s with h, up := (recoverB s.up).2 })
    else some (.val .nilIface, { s with h })
  | some (.panic v, h) => some (.panic [{ v, recovered := false }], { s with h })

theorem doOp_simple {P : Program} {R : Recs} {x : Ctx} {s : St} {o : Oper} (hs : isSimple o = true) : doOp P R x s o = if !(opsOK P o) then none else valF s (simpleB P s.tm s.h o) := by
  unfold doOp
  cases opsOK P o
  · rfl
  · simp only [Bool.not_true, Bool.false_eq_true, if_false]
    cases simpleB P s.tm s.h o with
    | none => simp only [hs, if_true, valF]
    | some p => rfl

theorem doOp_act {P : Program} {R : Recs} {x : Ctx} {s : St} {o : Oper} (hs : isSimple o = false) (hn : simpleB P s.tm s.h o = none) : doOp P R x s o = if !(opsOK P o) then none else actF R x s (effectB P s.tm s.h o) := by
  unfold doOp
  cases opsOK P o
  · rfl
  · simp only [Bool.not_true, Bool.false_eq_true, if_false, hn, hs]
    cases effectB P s.tm s.h o with
    | none => rfl
    | some p =>
      obtain ⟨q, h⟩ := p
      cases q with
      | enter f args =>
        simp only [actF, enteredF]
        cases R.call f args false .run h with
        | none => rfl
        | some r => obtain ⟨e, u, h1⟩ := r; cases e <;> rfl
      | _ => rfl

/-- Whatever has no short way. -/
def slowF (P : Program) (R : Recs) (x : Ctx) (s : St) (o : Oper) : Option (Did × St) :=
  match simpleB P s.tm s.h o with
  | some (v, h) => some (.val v, { s with h })
  | none => if isSimple o then none else actF R x s (effectB P s.tm s.h o)

theorem doOp_slow {P : Program} {R : Recs} {x : Ctx} {s : St} {o : Oper} : doOp P R x s o = if !(opsOK P o) then none else slowF P R x s o := by
  unfold slowF
  cases hs : isSimple o with
  | true => rw [doOp_simple hs]; cases simpleB P s.tm s.h o <;> rfl
  | false =>
    cases hn : simpleB P s.tm s.h o with
    | none => rw [doOp_act hs hn]; rfl
    | some p => unfold doOp; rw [hn]

noncomputable def appF (P : Program) (tm : Array Value) (h : Heap) (ts : Array TypeId) (args : Array Operand) : Option (Value × Heap) :=
  match args[0]?, args[1]? with
  | some x, some y => appendB P h ts (evF tm x) (evF tm y)
  | _, _ => none

/-- A call of a function that is named. -/
def funF (P : Program) (R : Recs) (x : Ctx) (s : St) (f : FuncId) (args : Array Value) : Option (Did × St) :=
  match P.funcs[f]? with
  | none => none
  | some fn => bif fn.name == "runtime.NumGoroutine" then none else bif fn.body.isSome then enteredF s (R.call f args false .run s.h) else actF R x s ((callFuncB P f args).map fun r => (r, s.h))

noncomputable def callF' (P : Program) (R : Recs) (x : Ctx) (s : St) (o : Oper) (c : Call) : Option (Did × St) :=
  match c.callee with
  | .builtin .len => oneF s (lenV P s.tm s.h o c.argTypes[0]? (c.args[0]?.map (evF s.tm)))
  | .builtin .append => valF s (appF P s.tm s.h c.argTypes c.args)
  | .value (.func f) => funF P R x s f (argsF s.tm c.args)
  | .value f => actF R x s ((callValueB P (evF s.tm f) (argsF s.tm c.args)).map fun r => (r, s.h))
  | _ => slowF P R x s o

noncomputable def dispF (P : Program) (R : Recs) (x : Ctx) (s : St) (o : Oper) : Option (Did × St) :=
  match o.op with
  | .move a => retF s (evF s.tm a)
  | .assign a => retF s (evF s.tm a)
  | .pick c a b => oneF s (pickV (evF s.tm c) (evF s.tm a) (evF s.tm b))
  | .load t a => oneF s (readF P s.h t (evF s.tm a))
  | .store t a v => hhF s (writeB P s.h t (evF s.tm v) (evF s.tm a))
  | .binOp op t a b _ => oneF s (binF P s.tm o op t a b)
  | .indexAddr t a i => oneF s (indexAtB P t (evF s.tm a) (evF s.tm i))
  | .fieldAddr t a f => oneF s (fieldAtB P t (evF s.tm a) f)
  | .field t a f => oneF s (fieldB P t (evF s.tm a) f)
  | .extract t i => oneF s (extV (evF s.tm t) i)
  | .unOp .. => oneF s (plainOp P s.tm o)
  | .index .. => oneF s (plainOp P s.tm o)
  | .convert a b v => valF s (convertB P s.tm s.h o a b (evF s.tm v))
  | .call c => callF' P R x s o c
  | _ => slowF P R x s o

noncomputable def doOpF (P : Program) (R : Recs) (x : Ctx) (s : St) (o : Oper) : Option (Did × St) := bif opsOK P o then dispF P R x s o else none

theorem slowF_simple {P : Program} {R : Recs} {x : Ctx} {s : St} {o : Oper} (hs : isSimple o = true) : slowF P R x s o = valF s (simpleB P s.tm s.h o) := by
  unfold slowF
  cases simpleB P s.tm s.h o with
  | none => simp only [hs, if_true, valF]
  | some p => rfl
theorem slowF_act {P : Program} {R : Recs} {x : Ctx} {s : St} {o : Oper} (hs : isSimple o = false) (hn : simpleB P s.tm s.h o = none) : slowF P R x s o = actF R x s (effectB P s.tm s.h o) := by
  unfold slowF
  simp only [hn, hs, Bool.false_eq_true, if_false]

theorem dispF_eq (P : Program) (R : Recs) (x : Ctx) (s : St) (o : Oper) : dispF P R x s o = slowF P R x s o := by
  have key : ∀ r : Option (Did × St), dispF P R x s o = r → (slowF P R x s o = r) → dispF P R x s o = slowF P R x s o := by
    intro r h1 h2
    rw [h2, h1]
  have simp' : ∀ r : Option (Value × Heap), isSimple o = true → simpleB P s.tm s.h o = r → dispF P R x s o = valF s r → dispF P R x s o = slowF P R x s o := by
    intro r hs h1 h2
    rw [h2, slowF_simple hs, h1]
  cases ho : o.op with
  | move a => exact simp' (some (ev s.tm a, s.h)) (by simp [isSimple, ho]) (by simp [simpleB, ho]) (by simp [dispF, ho, evF_eq, retF, valF, heapF])
  | assign a => exact simp' (some (ev s.tm a, s.h)) (by simp [isSimple, ho]) (by simp [simpleB, ho]) (by simp [dispF, ho, evF_eq, retF, valF, heapF])
  | pick c a b =>
    refine simp' _ (by simp [isSimple, ho]) rfl ?_
    simp only [dispF, ho, evF_eq, simpleB, oneF_eq, pickV]
    cases ev s.tm c <;> simp [cond_eq_ite]
  | load t a =>
    refine simp' _ (by simp [isSimple, ho]) rfl ?_
    simp only [dispF, ho, evF_eq, simpleB, oneF_eq, readF_eq]
  | store t a v =>
    refine key _ rfl ?_
    rw [slowF_act (by simp [isSimple, ho]) (by simp [simpleB, ho])]
    simp only [dispF, ho, evF_eq, effectB]
    cases writeB P s.h t (ev s.tm v) (ev s.tm a) <;> rfl
  | binOp op t a b yt =>
    refine simp' _ (by simp [isSimple, ho]) rfl ?_
    simp only [dispF, ho, evF_eq, simpleB, oneF_eq, binF]
    cases hf : fastOp op (ev s.tm a) (ev s.tm b) with
    | some v => simp only [fastOp_sound ho hf]; rfl
    | none =>
      simp only []
      cases plainOp P s.tm o with
      | some v => rfl
      | none => cases op <;> simp
  | indexAddr t a i =>
    refine simp' _ (by simp [isSimple, ho]) rfl ?_
    simp only [dispF, ho, evF_eq, simpleB, oneF_eq]
  | fieldAddr t a i =>
    refine simp' _ (by simp [isSimple, ho]) rfl ?_
    simp only [dispF, ho, evF_eq, simpleB, oneF_eq]
  | field t a i =>
    refine simp' _ (by simp [isSimple, ho]) rfl ?_
    simp only [dispF, ho, evF_eq, simpleB, oneF_eq]
  | extract t i =>
    refine simp' _ (by simp [isSimple, ho]) rfl ?_
    simp only [dispF, ho, evF_eq, simpleB, oneF_eq, extV]
    cases ev s.tm t <;> rfl
  | unOp op t a =>
    refine simp' _ (by simp [isSimple, ho]) rfl ?_
    simp only [dispF, ho, simpleB, oneF_eq]
  | index t a i =>
    refine simp' _ (by simp [isSimple, ho]) rfl ?_
    simp only [dispF, ho, simpleB, oneF_eq]
  | convert a b v =>
    refine simp' _ (by simp [isSimple, ho]) rfl ?_
    simp only [dispF, ho, simpleB, evF_eq]
  | call c =>
    obtain ⟨callee, args, argTypes⟩ := c
    cases callee with
    | value f =>
      refine key _ rfl ?_
      rw [slowF_act (by simp [isSimple, ho]) (by simp [simpleB, ho])]
      simp only [dispF, ho, callF', evF_eq, argsF_eq, effectB]
      cases f with
      | func f =>
        simp only [ev, callValueB, funF, callFuncB]
        simp only [Array.append_empty, Array.empty_append]
        cases P.funcs[f]? with
        | none => rfl
        | some fn =>
          simp only []
          cases hr : (fn.name == "runtime.NumGoroutine") with
          | true => simp [actF]
          | false =>
            simp only [cond_false, Bool.false_eq_true, if_false]
            cases hb : fn.body.isSome with
            | true => simp [actF]
            | false => rfl
      | _ => rfl
    | invoke r name => exact key _ rfl (by simp only [dispF, ho, callF'])
    | builtin b =>
      cases b with
      | len =>
        refine simp' _ (by simp [isSimple, ho]) rfl ?_
        simp only [dispF, ho, callF', simpleB, oneF_eq, evF_eq, lenV]
        cases argTypes[0]? with
        | none => rfl
        | some t =>
          cases args[0]? with
          | none => rfl
          | some a =>
            simp only [Option.map_some, lenF]
            congr 1
            cases P.underlying t with
            | none => rfl
            | some d => cases d <;> (try rfl) <;> (cases ev s.tm a <;> (try rfl)) <;> (rename_i r; cases r <;> rfl)
      | append =>
        refine key _ rfl ?_
        rw [slowF_act (by simp [isSimple, ho]) (by simp [simpleB, ho])]
        simp only [dispF, ho, callF', evF_eq, effectB, appF]
        cases args[0]? with
        | none => rfl
        | some a =>
          cases args[1]? with
          | none => rfl
          | some b => simp only []; cases appendB P s.h argTypes (ev s.tm a) (ev s.tm b) <;> rfl
      | _ => exact key _ rfl (by simp only [dispF, ho, callF'])
  | _ => exact key _ rfl (by simp only [dispF, ho])

theorem doOpF_eq (P : Program) (R : Recs) (x : Ctx) (s : St) (o : Oper) : doOpF P R x s o = doOp P R x s o := by
  rw [doOp_slow, doOpF, dispF_eq]; cases opsOK P o <;> rfl

/-- What a simple operation gives. -/
noncomputable def simF (P : Program) (tm : Array Value) (h : Heap) (o : Oper) : Option (Value × Heap) :=
  match dispF P ⟨fun _ _ _ => none, fun _ _ _ _ _ => none, fun _ _ _ => none⟩ ⟨0, none, false⟩ ⟨tm, [], .run, h⟩ o with
  | some (.val v, s) => some (v, s.h)
  | _ => none
theorem simF_eq {P : Program} {tm : Array Value} {h : Heap} {o : Oper} (hs : isSimple o = true) : simF P tm h o = simpleB P tm h o := by
  unfold simF
  rw [dispF_eq, slowF_simple hs]
  cases simpleB P tm h o <;> rfl

end Go.AX

namespace Go.AX

noncomputable def yieldF (ops : Array Oper) (tm : Array Value) (j : Nat) : Option Bool :=
  match ops[j]? with
  | some o => match o.dst with
    | some t => match optF tm.toList t with
      | some (.bool b) => some b
      | _ => none
    | none => none
  | none => none
theorem yieldF_eq (ops : Array Oper) (tm : Array Value) (j : Nat) : yieldF ops tm j = yielded ops tm j := by
  unfold yieldF yielded
  cases ops[j]? with
  | none => rfl
  | some o =>
    simp only [Option.bind_some]
    cases o.dst with
    | none => rfl
    | some t => simp only [Option.bind_some, optF_eq, Array.getElem?_toList]; rfl

noncomputable def wantF (ops : Array Oper) (tm : Array Value) (o : Oper) : Bool :=
  match o.guard with
  | none => true
  | some (j, w) => match yieldF ops tm j with
    | some b => bif w then b else !b
    | none => false
theorem wantF_eq (ops : Array Oper) (tm : Array Value) (o : Oper) : wantF ops tm o = wantedB ops tm o := by
  unfold wantF wantedB Region.wanted
  cases o.guard with
  | none => rfl
  | some p =>
    obtain ⟨j, w⟩ := p
    simp only [yieldF_eq]
    cases yielded ops tm j with
    | none => rfl
    | some b => cases b <;> cases w <;> rfl

noncomputable def afterF (o : Oper) (r : Option (Did × St)) (ih : St → Option (Ex × St)) : Option (Ex × St) :=
  match r with
  | some (.val v, s) => ih { s with tm := putF s.tm o.dst v }
  | some (.panic c, s) => some (.panic c, s)
  | none => none

noncomputable def seqF (P : Program) (R : Recs) (x : Ctx) (ops : Array Oper) : List Oper → St → Option (Ex × St) :=
  @List.rec Oper (fun _ => St → Option (Ex × St)) (fun s => some (.normal, s))
    (fun o _ ih s => bif wantF ops s.tm o then afterF o (doOpF P R x s o) ih else ih { s with tm := putF s.tm o.dst undef })

theorem seqF_eq (P : Program) (R : Recs) (x : Ctx) (ops : Array Oper) : ∀ (n i : Nat), i + n = ops.size → ∀ s, seqF P R x ops (ops.toList.drop i) s = seqOps P R x ops (List.range' i n) s := by
  intro n
  induction n with
  | zero => intro i hi s; rw [List.drop_eq_nil_of_le (by simp; omega)]; rfl
  | succ n ih =>
    intro i hi s
    have hlt : i < ops.size := by omega
    have hd : ops.toList.drop i = ops[i] :: ops.toList.drop (i + 1) := by
      rw [List.drop_eq_getElem_cons (by simpa using hlt)]; simp
    rw [hd, List.range'_succ]
    simp only [seqOps, Array.getElem?_eq_getElem hlt]
    show (bif wantF ops s.tm ops[i] then afterF ops[i] (doOpF P R x s ops[i]) (seqF P R x ops (ops.toList.drop (i + 1))) else seqF P R x ops (ops.toList.drop (i + 1)) { s with tm := putF s.tm ops[i].dst undef }) = _
    rw [wantF_eq]
    cases wantedB ops s.tm ops[i] with
    | false => simp only [cond_false, Bool.false_eq_true, if_false, putF_eq]; exact ih (i + 1) (by omega) _
    | true =>
      simp only [cond_true, if_true, doOpF_eq]
      cases doOp P R x s ops[i] with
      | none => rfl
      | some p =>
        obtain ⟨d, s1⟩ := p
        cases d with
        | val v => simp only [afterF, putF_eq]; exact ih (i + 1) (by omega) _
        | panic c => rfl

/-! A region whose order is open. -/

noncomputable def openSimF (P : Program) (ops : Array Oper) (ps : List (List Nat)) (z : Open) (i : Nat) (o : Oper) : Option Open :=
  match (bif opsOK P o then simF P z.s.tm z.s.h o else none) with
  | none => none
  | some (v, h) =>
    bif Nat.beq h.n z.s.h.n then
      some { z with s := { z.s with tm := putF z.s.tm o.dst v }, looks := bif looks o then { o, tm := z.s.tm, v, n := z.s.h.n, lo := actsIn ops (ps.getD i []), hi := actsMost ops ps i } :: z.looks else z.looks }
    else
      match h.get? z.s.h.n with
      | some b => some { z with s := { z.s with h, tm := putF z.s.tm o.dst v }, news := (i, z.s.h.n, b) :: z.news }
      | none => none

theorem openSimF_eq {P : Program} {ops : Array Oper} {ps : List (List Nat)} {z : Open} {i : Nat} {o : Oper} (hs : isSimple o = true) : openSimF P ops ps z i o = openSimple P ops ps z i o := by
  unfold openSimF openSimple
  simp only [simF_eq hs, cond_eq_ite, putF_eq, Nat.beq_eq, beq_iff_eq]
  rfl

noncomputable def openActF (P : Program) (R : Recs) (x : Ctx) (ps : List (List Nat)) (z : Open) (i : Nat) (o : Oper) : Option Open :=
  match doOpF P R x { z.s with h := hide (unseen ps z.news i) z.s.h } o with
  | some (.val v, s) =>
    if (unseen ps z.news i).all fun p => (s.h.get? p.2.1).isSome then some { z with s := { s with tm := putF s.tm o.dst v, h := unhide (unseen ps z.news i) s.h }, hs := unhide (unseen ps z.news i) s.h :: z.hs } else none
  | _ => none
theorem openActF_eq (P : Program) (R : Recs) (x : Ctx) (ps : List (List Nat)) (z : Open) (i : Nat) (o : Oper) : openActF P R x ps z i o = openAct P R x ps z i o := by
  unfold openActF openAct; simp only [doOpF_eq, putF_eq]; rfl

noncomputable def openStepF (P : Program) (R : Recs) (x : Ctx) (ops : Array Oper) (ps : List (List Nat)) (z : Open) (i : Nat) : Option Open :=
  match ops[i]? with
  | none => none
  | some o =>
    bif isSimple o then
      bif wantF ops z.s.tm o then openSimF P ops ps z i o
      else some { z with s := { z.s with tm := putF z.s.tm o.dst undef } }
    else bif wantF ops z.s.tm o then openActF P R x ps z i o
    else some { z with s := { z.s with tm := putF z.s.tm o.dst undef }, hs := z.s.h :: z.hs }
theorem openStepF_eq (P : Program) (R : Recs) (x : Ctx) (ops : Array Oper) (ps : List (List Nat)) (z : Open) (i : Nat) : openStepF P R x ops ps z i = openStep P R x ops ps z i := by
  unfold openStepF openStep
  cases ops[i]? with
  | none => rfl
  | some o =>
    simp only [wantF_eq, putF_eq, openActF_eq]
    cases hs : isSimple o with
    | true => simp only [if_true, openSimF_eq hs, cond_eq_ite]
    | false => simp only [Bool.false_eq_true, if_false, cond_eq_ite]

noncomputable def lookF (P : Program) (hs : List Heap) (l : Look) : Bool :=
  (List.range (hs.length)).all fun k => k < l.lo || l.hi < k ||
    match hs[hs.length - 1 - k]? with
    | some h => match (bif isSimple l.o then simF P l.tm h l.o else simpleB P l.tm h l.o) with
      | some (v, h1) => same 20 v l.v && h1.n == h.n && within 20 l.n l.v
      | none => false
    | none => false
theorem lookF_eq (P : Program) (hs : List Heap) (l : Look) : lookF P hs l = lookOK P hs l := by
  unfold lookF lookOK
  have : ∀ h, (bif isSimple l.o then simF P l.tm h l.o else simpleB P l.tm h l.o) = simpleB P l.tm h l.o := by
    intro h
    cases hs : isSimple l.o with
    | true => exact simF_eq hs
    | false => rfl
  simp only [this]; rfl

noncomputable def openF (P : Program) (R : Recs) (x : Ctx) (ops : Array Oper) (s : St) : Option (Ex × St) :=
  bif openOK ops then
    match (List.range ops.size).foldlM (openStepF P R x ops (preds ops.toList)) { s, hs := [s.h], looks := [], news := [] } with
    | some z => bif Nat.ble z.hs.length 1 || z.looks.all (lookF P z.hs) then some (.normal, z.s) else none
    | none => none
  else none
theorem openF_eq (P : Program) (R : Recs) (x : Ctx) (ops : Array Oper) (s : St) : openF P R x ops s = openOps P R x ops s := by
  unfold openF openOps
  have h1 : openStepF P R x ops (preds ops.toList) = openStep P R x ops (preds ops.toList) := by funext z i; exact openStepF_eq ..
  have h2 : lookF P = lookOK P := by funext hs l; exact lookF_eq ..
  have h3 : ∀ n, Nat.ble n 1 = decide (n ≤ 1) := fun n => by rw [Bool.eq_iff_iff]; simp
  simp only [h1, h2, h3, cond_eq_ite]; rfl

noncomputable def condF (R : Recs) (x : Ctx) (v : Value) (a b : Code) (s : St) : Option (Ex × St) :=
  match v with
  | .bool t => R.code x (bif t then a else b) s
  | _ => none

noncomputable def thenF (R : Recs) (x : Ctx) (b : Code) (r : Option (Ex × St)) : Option (Ex × St) :=
  match r with
  | some (.normal, s) => R.code x b s
  | r => r

noncomputable def blockF (id : Nat) (r : Option (Ex × St)) : Option (Ex × St) :=
  match r with
  | some (.exit i, s) => bif Nat.beq i id then some (.normal, s) else some (.exit i, s)
  | r => r

noncomputable def regionF (P : Program) (R : Recs) (x : Ctx) (ops : Array Oper) (draw : Bool) (s : St) : Option (Ex × St) := bif draw then openF P R x ops s else seqF P R x ops ops.toList s

noncomputable def codeFF (P : Program) (R : Recs) (x : Ctx) (c : Code) (s : St) : Option (Ex × St) :=
  match c with
  | .skip | .label _ => some (.normal, s)
  | .region _ ops draw => regionF P R x ops draw s
  | .seq a b => thenF R x b (R.code x a s)
  | .cond c a b => condF R x (evF s.tm c) a b s
  | .block id b => blockF id (R.code x b s)
  | .loop b => thenF R x (.loop b) (R.code x b s)
  | .scope b => R.code x b s
  | .exit id => some (.exit id, s)
  | .ret => some (.ret, s)
  | .rangeFunc f params assign body => rangeFuncB P R x s f params assign body
  | .goto _ | .refuse _ => none

theorem codeFF_eq (P : Program) (R : Recs) (x : Ctx) (c : Code) (s : St) : codeFF P R x c s = codeF P R x c s := by
  cases c with
  | region id ops draw =>
    simp only [codeFF, codeF, regionF, cond_eq_ite, openF_eq]
    rw [show seqF P R x ops ops.toList s = seqOps P R x ops (List.range ops.size) s from by
      rw [List.range_eq_range', ← seqF_eq P R x ops ops.size 0 (by omega) s, List.drop_zero]]
  | seq a b =>
    simp only [codeFF, codeF, thenF]
    cases R.code x a s with
    | none => rfl
    | some p => obtain ⟨e, s1⟩ := p; cases e <;> rfl
  | cond c a b =>
    simp only [codeFF, codeF, evF_eq, condF]
    cases ev s.tm c <;> simp [cond_eq_ite]
  | block id b =>
    simp only [codeFF, codeF, blockF]
    cases R.code x b s with
    | none => rfl
    | some p => obtain ⟨e, s1⟩ := p; cases e <;> simp [cond_eq_ite, Nat.beq_eq]
  | loop b =>
    simp only [codeFF, codeF, thenF]
    cases R.code x b s with
    | none => rfl
    | some p => obtain ⟨e, s1⟩ := p; cases e <;> rfl
  | _ => rfl

noncomputable def appendF : List Value → List Value → List Value := @List.rec Value (fun _ => List Value → List Value) (fun l => l) (fun a _ ih l => a :: ih l)
theorem appendF_eq (a b : List Value) : appendF a b = a ++ b := by
  induction a with
  | nil => rfl
  | cons x a ih => exact congrArg (x :: ·) ih
noncomputable def undefs : Nat → List Value := @Nat.rec (fun _ => List Value) [] (fun _ l => undef :: l)
theorem undefs_eq (n : Nat) : undefs n = List.replicate n undef := by
  induction n with
  | zero => rfl
  | succ n ih => exact (congrArg (undef :: ·) ih)

noncomputable def leftF (P : Program) (R : Recs) (fn : Func) (r : Option (Ex × St)) : Option (End × FrameMode × Heap) :=
  match r with
  | some (.normal, s) => (leaveB P R fn s.tm s.df .returning s.h).map fun p => (p.1, s.up, p.2)
  | some (.ret, s) => (leaveB P R fn s.tm s.df .returning s.h).map fun p => (p.1, s.up, p.2)
  | some (.panic ch, s) => (leaveB P R fn s.tm s.df (.panicking ch) s.h).map fun p => (p.1, s.up, p.2)
  | _ => none

noncomputable def bodyF (P : Program) (R : Recs) (f : FuncId) (args : Array Value) (dfr : Bool) (up : FrameMode) (h : Heap) : Option (End × FrameMode × Heap) :=
  match P.funcs[f]? with
  | none => none
  | some fn =>
    match fn.body with
    | none => none
    | some c => leftF P R fn (R.code { fn := f, round := none, dfr } c { tm := ⟨appendF args.toList (undefs (fn.ntmps - args.size))⟩, df := [], up, h })

noncomputable def callFF (P : Program) (K : Known) (R : Recs) (f : FuncId) (args : Array Value) (dfr : Bool) (up : FrameMode) (h : Heap) : Option (End × FrameMode × Heap) :=
  match (bif dfr then none else K f args) with
  | some v => some (.ret v, up, h)
  | none => bodyF P R f args dfr up h

theorem callFF_eq (P : Program) (K : Known) (R : Recs) (f : FuncId) (args : Array Value) (dfr : Bool) (up : FrameMode) (h : Heap) : callFF P K R f args dfr up h = callF P K R f args dfr up h := by
  unfold callFF callF
  rw [show (bif dfr then none else K f args) = (if dfr then none else K f args) from by cases dfr <;> rfl]
  cases (if dfr then none else K f args) with
  | some v => rfl
  | none =>
    simp only [bodyF]
    cases P.funcs[f]? with
    | none => rfl
    | some fn =>
      simp only []
      cases fn.body with
      | none => rfl
      | some c =>
        simp only []
        have e : (⟨appendF args.toList (undefs (fn.ntmps - args.size))⟩ : Array Value) = args ++ Array.replicate (fn.ntmps - args.size) undef := by
          apply Array.ext'; simp [appendF_eq, undefs_eq]
        rw [e]
        cases R.code { fn := f, round := none, dfr } c { tm := args ++ Array.replicate (fn.ntmps - args.size) undef, df := [], up, h } with
        | none => rfl
        | some p => obtain ⟨e, s⟩ := p; cases e <;> rfl

noncomputable def runF (P : Program) (K : Known) : Nat → Recs := @Nat.rec (fun _ => Recs) { code := fun _ _ _ => none, call := fun _ _ _ _ _ => none, round := fun _ _ _ => none }
  (fun _ R => { code := codeFF P R, call := callFF P K R, round := roundF P R })

theorem runF_eq (P : Program) (K : Known) (n : Nat) : runF P K n = run P K n := by
  induction n with
  | zero => rfl
  | succ n ih =>
    show Recs.mk (codeFF P (runF P K n)) (callFF P K (runF P K n)) (roundF P (runF P K n)) = Recs.mk (codeF P (run P K n)) (callF P K (run P K n)) (roundF P (run P K n))
    rw [ih]
    congr 1
    · funext x c s; exact codeFF_eq ..
    · funext f args dfr up h; exact callFF_eq ..

end Go.AX

namespace Go.AX
open Go.RowKit

/-! A run in pieces, with what is no longer wanted forgotten between them. -/

/-- The places among those behind the root that lie to the left, and to the right. -/
def oddsOf : List Nat → List Nat
  | [] => []
  | i :: l => match i with
    | 0 => oddsOf l
    | j + 1 => bif Nat.beq (Nat.mod j 2) 0 then Nat.div j 2 :: oddsOf l else oddsOf l
def evensOf : List Nat → List Nat
  | [] => []
  | i :: l => match i with
    | 0 => evensOf l
    | j + 1 => bif Nat.beq (Nat.mod j 2) 0 then evensOf l else Nat.div j 2 :: evensOf l
def hasZero : List Nat → Bool
  | [] => false
  | i :: l => match i with
    | 0 => true
    | _ + 1 => hasZero l

/-- The blocks at some places alone. -/
def Bt.keep : Bt → List Nat → Bt
  | .nil, _ => .nil
  | .node b l r, ks => match ks with
    | [] => .nil
    | _ :: _ => .node (bif hasZero ks then b else .dead) (l.keep (oddsOf ks)) (r.keep (evensOf ks))

theorem Bt.get_keep (t : Bt) : ∀ (ks : List Nat) (i : Nat) (b : Blk), (t.keep ks).get i = some b → b = .dead ∨ t.get i = some b := by
  induction t with
  | nil => intro ks i b h; cases h
  | node a l r ihl ihr =>
    intro ks i b h
    cases ks with
    | nil => cases h
    | cons k ks =>
      simp only [Bt.keep] at h
      cases i with
      | zero =>
        simp only [Bt.get] at h ⊢
        cases hz : hasZero (k :: ks) with
        | false => rw [hz] at h; cases h; exact .inl rfl
        | true => rw [hz] at h; cases h; exact .inr rfl
      | succ j =>
        simp only [Bt.get] at h ⊢
        cases hb : Nat.beq (Nat.mod j 2) 0 with
        | true => rw [hb] at h; simp only [cond_true] at h ⊢; exact ihl _ _ _ h
        | false => rw [hb] at h; simp only [cond_false] at h ⊢; exact ihr _ _ _ h

/-- The memory with the blocks of some numbers alone. -/
def Heap.keep (h : Heap) (ks : List Nat) : Heap := { n := h.n, bs := h.bs.keep (ks.map fun k => h.n - 1 - k) }

theorem Heap.get_keep {h : Heap} {ks : List Nat} {A : Nat} {b : Blk} (e : (h.keep ks).get? A = some b) : b = .dead ∨ h.get? A = some b := by
  unfold Heap.get? Heap.keep at *
  dsimp only at e
  split at e
  · rename_i hA
    rw [if_pos hA]
    exact Bt.get_keep _ _ _ _ e
  · cases e

section
variable {P : Program} {N : Nat → Prop} {w0 : World}

theorem R.keep {ρ : Ren} {h : Heap} {w : World} (r : R P N w0 ρ h w) (ks : List Nat) : R P N w0 ρ (h.keep ks) w where
  below := r.below
  size := r.size
  dom := r.dom
  glob := r.glob
  blk := fun A s b e f => by
    rcases Heap.get_keep f with rfl | f
    · exact .dead
    · exact r.blk A s b e f
  mine := fun A s b e f ho => by
    rcases Heap.get_keep f with rfl | f
    · cases ho
    · exact r.mine A s b e f ho
  inj := fun A B s t b c ea eb fa fb ho hl hAB => by
    rcases Heap.get_keep fa with rfl | fa
    · cases ho
    rcases Heap.get_keep fb with rfl | fb
    · cases hl
    exact r.inj A B s t b c ea eb fa fb ho hl hAB

theorem Gr.keep (h : Heap) (ks : List Nat) : Gr h (h.keep ks) := ⟨Nat.le_refl _, fun A b e hr => by
  rcases Heap.get_keep e with rfl | e
  · cases hr
  · exact e⟩

def St.keep (s : St) (ks : List Nat) : St := { s with h := s.h.keep ks }

/-- A piece of a run: what it does, and that no block has gone. -/
def Piece (P : Program) (N : Nat → Prop) (w0 : World) (x : Ctx) (c : List Item) (s : St) (e : Ex) (s1 : St) : Prop := SimCode P N w0 x c s e s1 ∧ Gr s.h s1.h

variable {x : Ctx}

theorem Piece.keep {c : List Item} {s s1 : St} {e : Ex} (h : Piece P N w0 x c s e s1) (ks : List Nat) : Piece P N w0 x c s e (s1.keep ks) := by
  refine ⟨?_, h.2.trans (Gr.keep _ _)⟩
  intro ρ rd cs0 tm' df' cs w k hs
  obtain ⟨ρ1, tm1, df1, cs1, w1, a, b, d, l⟩ := h.1 ρ rd cs0 tm' df' cs w k hs
  exact ⟨ρ1, tm1, df1, cs1, w1, a, b, ⟨d.r.keep ks, d.tm, d.df, d.cs, d.rd⟩, l⟩

theorem Piece.comp {c1 c2 : List Item} {s s1 s2 : St} {e : Ex} (h : Piece P N w0 x c1 s .normal s1) (k : Piece P N w0 x c2 s1 e s2) : Piece P N w0 x (c1 ++ c2) s e s2 := ⟨h.1.comp h.2.le k.1, h.2.trans k.2⟩

def spine : List Code → Code → Code
  | [], c => c
  | a :: l, c => .seq a (spine l c)
/-- The first parts of a sequence, and the rest. -/
def cutAt : Nat → Code → List Code × Code
  | 0, c => ([], c)
  | n + 1, c => match c with
    | .seq a b => (a :: (cutAt n b).1, (cutAt n b).2)
    | c => ([], c)
theorem cutAt_eq : ∀ (n : Nat) (c : Code), spine (cutAt n c).1 (cutAt n c).2 = c := by
  intro n
  induction n with
  | zero => intro c; rfl
  | succ n ih => intro c; cases c <;> first | rfl | (simp only [cutAt, spine]; rw [ih])

/-- Some codes, one behind the other. -/
def runL (R : Recs) (x : Ctx) : List Code → St → Option St
  | [], s => some s
  | a :: l, s => match R.code x a s with
    | some (.normal, s) => runL R x l s
    | _ => none

/-- The same, and then all is forgotten but some blocks. -/
def groupF (R : Recs) (x : Ctx) (l : List Code) (s : St) (ks : List Nat) : Option St :=
  match runL R x l s with
  | some s => some (s.keep ks)
  | none => none

variable {K : Known} {Good : World → Prop}

theorem code_piece (hmx : P.follows .mixedOrders = true) (hK : KOK P K Good) (hG : Safe Good N w0) {n : Nat} {c : Code} {s s1 : St} {e : Ex} (he : (runF P K n).code x c s = some (e, s1)) : Piece P N w0 x [.code c] s e s1 := by
  rw [runF_eq] at he
  exact ⟨(run_sims hmx hK n).code N w0 hG _ _ _ _ _ he, (run_grows P K n).code _ _ _ _ _ he⟩

theorem seq_piece {a b : Code} {s s1 s2 : St} {e : Ex} (h : Piece P N w0 x [.code a] s .normal s1) (k : Piece P N w0 x [.code b] s1 e s2) : Piece P N w0 x [.code (.seq a b)] s e s2 := by
  have h1 := h.comp k
  exact ⟨h1.1.step fun _ _ _ _ _ _ _ _ _ => st_seq, h1.2⟩

theorem runL_piece (hmx : P.follows .mixedOrders = true) (hK : KOK P K Good) (hG : Safe Good N w0) {n : Nat} {rest : Code} {ks : List Nat} {e : Ex} {s2 : St} : ∀ (l : List Code) (s s1 : St), runL (runF P K n) x l s = some s1 → Piece P N w0 x [.code rest] (s1.keep ks) e s2 → Piece P N w0 x [.code (spine l rest)] s e s2 := by
  intro l
  induction l with
  | nil =>
    intro s s1 he h
    cases he
    have h0 : Piece P N w0 x [] s .normal s := ⟨SimCode.nil, Gr.refl _⟩
    exact (h0.keep ks).comp h
  | cons a l ih =>
    intro s s1 he h
    simp only [runL] at he
    split at he
    · rename_i s' hc
      exact seq_piece (code_piece hmx hK hG hc) (ih _ _ he h)
    · cases he

/-- A group of the first parts of a sequence. -/
theorem group_piece (hmx : P.follows .mixedOrders = true) (hK : KOK P K Good) (hG : Safe Good N w0) {n m : Nat} {c : Code} {ks : List Nat} {e : Ex} {s s1 s2 : St} (he : groupF (runF P K n) x (cutAt m c).1 s ks = some s1) (h : Piece P N w0 x [.code (cutAt m c).2] s1 e s2) : Piece P N w0 x [.code c] s e s2 := by
  unfold groupF at he
  split at he
  · rename_i s' hs
    cases he
    have := runL_piece hmx hK hG _ _ _ hs h
    rwa [cutAt_eq] at this
  · cases he

/-! A reading of which one fact is known. -/
open Classical in
noncomputable def fact (x0 : Ctx) (c0 : Code) (s0 : St) (r : Ex × St) : Recs where
  code := fun x c s => if x = x0 ∧ c = c0 ∧ s = s0 then some r else none
  call := fun _ _ _ _ _ => none
  round := fun _ _ _ => none

theorem fact_sims {x0 : Ctx} {c0 : Code} {s0 : St} {r : Ex × St} (hl : ∀ b, c0 ≠ .loop b) (h : ∀ N w0, Safe Good N w0 → Piece P N w0 x0 [.code c0] s0 r.1 r.2) : Sims P (fact x0 c0 s0 r) Good where
  code := fun N w0 hG x c s e s1 he => by
    simp only [fact] at he
    split at he
    · rename_i hc; obtain ⟨rfl, rfl, rfl⟩ := hc; cases he; exact (h N w0 hG).1
    · cases he
  loop := fun N w0 hG x c s e s1 he => by
    simp only [fact] at he
    split at he
    · rename_i hc; exact absurd hc.2.1.symm (hl c)
    · cases he
  call := fun N w0 hG f args dfr up h e up1 h1 he => by cases he
  round := fun N w0 hG l args h e h1 he => by cases he

theorem fact_grows {x0 : Ctx} {c0 : Code} {s0 : St} {r : Ex × St} (h : Gr s0.h r.2.h) : Grows (fact x0 c0 s0 r) where
  code := fun x c s e s1 he => by
    simp only [fact] at he
    split at he
    · rename_i hc; obtain ⟨rfl, rfl, rfl⟩ := hc; cases he; exact h
    · cases he
  call := fun f args dfr up h e up1 h1 he => by cases he
  round := fun l args h e h1 he => by cases he

/-- A call of which the body's run is known. -/
theorem body_call {f : FuncId} {args : Array Value} {h : Heap} {fn : Func} {c : Code} {s1 : St} {v : Value} {h1 : Heap} (hf : P.funcs[f]? = some fn) (hb : fn.body = some c) (hl : ∀ b, c ≠ .loop b)
    (hp : ∀ N w0, Safe Good N w0 → Piece P N w0 { fn := f, round := none, dfr := false } [.code c] { tm := args ++ Array.replicate (fn.ntmps - args.size) undef, df := [], up := .run, h } .ret s1)
    (hgr : Gr h s1.h)
    (hv : leaveB P (fact { fn := f, round := none, dfr := false } c { tm := args ++ Array.replicate (fn.ntmps - args.size) undef, df := [], up := .run, h } (.ret, s1)) fn s1.tm s1.df .returning s1.h = some (.ret v, h1)) (hG : Safe Good N w0) :
    SimCall P N w0 f args false .run h (.ret v) s1.up h1 := by
  have he : callF P (fun _ _ => none) (fact { fn := f, round := none, dfr := false } c { tm := args ++ Array.replicate (fn.ntmps - args.size) undef, df := [], up := .run, h } (.ret, s1)) f args false .run h = some (.ret v, s1.up, h1) := by
    unfold callF
    simp only [Bool.false_eq_true, if_false, hf, hb]
    simp only [fact, and_self, if_true]
    have hv' := hv
    simp only [fact] at hv'
    rw [hv']; rfl
  exact callF_sim (fact_sims hl hp) (fact_grows hgr) hG (fun _ _ _ h => by cases h) he

/-- What a call does here, said of the machine. -/
theorem SimCall.calls {f : FuncId} {args : Array Value} {h h1 : Heap} {up : FrameMode} {v : Value} {w : World} {ρ : Ren} {args' : Array Value}
    (hs : SimCall P (fun g => g < w.heap.size) w f args false .run h (.ret v) up h1) (r : R P (fun g => g < w.heap.size) w ρ h w) (ha : XR ρ args args') (hv : plain deep v = true) :
    Calls P f args' w fun e w' => e = .returned v ∧ Below w.heap.size w w' := by
  intro cs
  obtain ⟨ρ1, cs1, w1, e', fr, a1, a2, a3, a4, a5, a6, a7, a8, a9⟩ := hs ρ args' cs cs w r ha (by simp [CsR])
  have hcs : cs1 = cs := by simpa [CsR] using a4
  subst hcs
  cases e' with
  | panicked c => exact a5.elim
  | outgrown => exact a5.elim
  | returned v' =>
    refine ⟨.returned v', w1, fr, ⟨by rw [plain_alike deep hv a5], ?_⟩, a6, a8, a9.1, a9.2.1, by simpa using a7, a9.2.2⟩
    exact ⟨a3.below.os, a3.below.tape, a3.below.output, a3.below.size, fun g hg => a3.below.block g hg⟩

end
end Go.AX

namespace Go.AX

/-! Numbers that stand for others: whatever is above a bound is a name; a reading with names is one with what they stand for. -/

def isLit : Int → Bool
  | .ofNat m => Nat.ble m 1180591620717411303424
  | .negSucc _ => true

def sg (σ : Int → Int) (n : Int) : Int := bif isLit n then n else σ n

def mapV (σ : Int → Int) : Value → Value
  | .int k n => .int k (sg σ n)
  | .func f a b => .func f (a.map fun v => mapV σ v) (b.map fun v => mapV σ v)
  | .iface t v => .iface t (mapV σ v)
  | .agg cs => .agg (cs.map fun v => mapV σ v)
  | .tuple cs => .tuple (cs.map fun v => mapV σ v)
  | .bool b => .bool b
  | .float k b => .float k b
  | .complex k a b => .complex k a b
  | .string s => .string s
  | .pointer a => .pointer a
  | .slice a n c => .slice a n c
  | .map r => .map r
  | .chan r => .chan r
  | .nilFunc => .nilFunc
  | .nilIface => .nilIface

def litV : Nat → Value → Bool
  | 0, _ => false
  | n + 1, v => match v with
    | .int _ m => isLit m
    | .iface _ v => litV n v
    | .agg cs | .tuple cs => cs.toList.all (litV n)
    | .func _ a b => a.toList.all (litV n) && b.toList.all (litV n)
    | _ => true

section
variable (σ : Int → Int)

theorem litV_map : ∀ (n : Nat) (v : Value), litV n v = true → mapV σ v = v := by
  intro n
  induction n with
  | zero => intro v h; cases h
  | succ n ih =>
    have arr : ∀ a : Array Value, a.toList.all (litV n) = true → (a.map fun v => mapV σ v) = a := by
      intro a h
      rw [List.all_eq_true] at h
      apply Array.ext'
      rw [Array.toList_map]
      conv => rhs; rw [← List.map_id a.toList]
      exact List.map_congr_left fun v hv => ih v (h v hv)
    intro v h
    cases v with
    | int k m => simp only [litV] at h; simp only [mapV, sg, h, cond_true]
    | func f a b => simp only [litV, Bool.and_eq_true] at h; simp only [mapV, arr a h.1, arr b h.2]
    | iface t v => simp only [litV] at h; simp only [mapV, ih v h]
    | agg cs => simp only [litV] at h; simp only [mapV, arr cs h]
    | tuple cs => simp only [litV] at h; simp only [mapV, arr cs h]
    | _ => simp only [mapV]

theorem mapV_cells (v : Value) : (mapV σ v).cells = v.cells.map (mapV σ) := by
  cases v <;> simp [mapV, Value.cells]

theorem mapV_oneB (v : Value) : oneB (mapV σ v) = oneB v := by
  cases v <;> simp [mapV, oneB]

theorem mapV_plain : ∀ (n : Nat) (v : Value), plain n (mapV σ v) = plain n v := by
  intro n
  induction n with
  | zero => intro v; rfl
  | succ n ih =>
    have arr : ∀ a : Array Value, ((a.map fun v => mapV σ v).toList.all (plain n)) = a.toList.all (plain n) := by
      intro a
      rw [Array.toList_map, List.all_map]
      congr 1
      funext v; exact ih v
    intro v
    cases v with
    | func f a b => cases f <;> simp only [mapV, plain, arr]
    | iface t v => simp only [mapV, plain, ih]
    | agg cs => simp only [mapV, plain, arr]
    | tuple cs => simp only [mapV, plain, arr]
    | pointer a => simp only [mapV]
    | slice a n c => simp only [mapV]
    | map r => simp only [mapV]
    | _ => simp only [mapV, plain]

theorem mapV_undef : mapV σ undef = undef := by simp [undef, mapV]

def mapB : Blk → Blk
  | .cells c e own => .cells (c.map (mapV σ)) e own
  | .obj o => .obj (match o with
    | .map es c => .map (es.map fun e => { e with val := mapV σ e.val }) c
    | .loop r => .loop { r with tmps := r.tmps.map (mapV σ) }
    | o => o)
  | .dead => .dead

def Bt.map (f : Blk → Blk) : Bt → Bt
  | .nil => .nil
  | .node b l r => .node (f b) (l.map f) (r.map f)

theorem Bt.map_get (f : Blk → Blk) (t : Bt) : ∀ i, (t.map f).get i = (t.get i).map f := by
  induction t with
  | nil => intro i; rfl
  | node b l r ihl ihr =>
    intro i
    cases i with
    | zero => rfl
    | succ j =>
      simp only [Bt.map, Bt.get]
      cases Nat.beq (Nat.mod j 2) 0
      · exact ihr _
      · exact ihl _
theorem Bt.map_cons (f : Blk → Blk) (t : Bt) : ∀ b, (t.cons b).map f = (t.map f).cons (f b) := by
  induction t with
  | nil => intro b; rfl
  | node a l r _ ihr => intro b; simp only [Bt.cons, Bt.map, ihr]
theorem Bt.map_set (f : Blk → Blk) (t : Bt) : ∀ i b, (t.set i b).map f = (t.map f).set i (f b) := by
  induction t with
  | nil => intro i b; rfl
  | node a l r ihl ihr =>
    intro i b
    cases i with
    | zero => rfl
    | succ j =>
      simp only [Bt.set, Bt.map]
      cases Nat.beq (Nat.mod j 2) 0
      · simp only [cond_false, Bt.map, ihr]
      · simp only [cond_true, Bt.map, ihl]

def mapH (h : Heap) : Heap := { n := h.n, bs := h.bs.map (mapB σ) }

theorem mapH_get (h : Heap) (i : Nat) : (mapH σ h).get? i = (h.get? i).map (mapB σ) := by
  unfold Heap.get? mapH
  dsimp only
  split
  · exact Bt.map_get _ _ _
  · rfl
theorem mapH_push (h : Heap) (b : Blk) : mapH σ (h.push b) = (mapH σ h).push (mapB σ b) := by
  simp only [mapH, Heap.push, Bt.map_cons]
theorem mapH_set (h : Heap) (i : Nat) (b : Blk) : mapH σ (h.set i b) = (mapH σ h).set i (mapB σ b) := by
  simp only [mapH, Heap.set, Bt.map_set]
theorem mapH_n (h : Heap) : (mapH σ h).n = h.n := rfl

/-- A value and a memory. -/
def mapP (p : Value × Heap) : Value × Heap := (mapV σ p.1, mapH σ p.2)

variable {P : Program} {h : Heap}

theorem partB_map (t : TypeId) (cs : List Value) (off : Nat) : partB P t (cs.map (mapV σ)) off = (partB P t cs off).map (mapV σ) := by
  unfold partB
  cases aggB P t with
  | none => rfl
  | some a => cases a <;> cases sizeB P t with
    | none => rfl
    | some n => first
      | (simp only [List.getElem?_map]; done)
      | (simp only [List.length_map]; split <;> simp [mapV, List.map_drop, List.map_take])

theorem readB_map (t : TypeId) (a : Value) : readB P (mapH σ h) t (mapV σ a) = (readB P h t a).map (mapV σ) := by
  cases a with
  | pointer a =>
    cases a with
    | none => simp [mapV, readB]
    | some a =>
      obtain ⟨b, o, sp⟩ := a
      cases sp with
      | some s => simp [mapV, readB]
      | none =>
        simp only [mapV, readB, mapH_get]
        cases h.get? b with
        | none => rfl
        | some k => cases k with
          | cells c e own => simp only [Option.map_some, mapB, partB_map]
          | obj o => rfl
          | dead => rfl
  | _ => simp [mapV, readB]

theorem splice_map (c : List Value) (off : Nat) (new : List Value) : splice (c.map (mapV σ)) off (new.map (mapV σ)) = (splice c off new).map (mapV σ) := by
  simp [splice, List.map_append, List.map_take, List.map_drop]

theorem all_oneB (l : List Value) : (l.map (mapV σ)).all oneB = l.all oneB := by
  rw [List.all_map]; congr 1; funext v; exact mapV_oneB σ v

theorem cells_list (v : Value) : (mapV σ v).cells.toList = v.cells.toList.map (mapV σ) := by rw [mapV_cells]; simp
theorem cells_size (v : Value) : (mapV σ v).cells.size = v.cells.size := by rw [mapV_cells]; simp

theorem writeB_map (t : TypeId) (v a : Value) : writeB P (mapH σ h) t (mapV σ v) (mapV σ a) = (writeB P h t v a).map (mapH σ) := by
  cases a with
  | pointer a =>
    cases a with
    | none => simp [mapV, writeB]
    | some a =>
      obtain ⟨b, o, sp⟩ := a
      cases sp with
      | some s => simp [mapV, writeB]
      | none =>
        have e : mapV σ (.pointer (some ⟨b, o, none⟩)) = .pointer (some ⟨b, o, none⟩) := by simp [mapV]
        rw [e]
        simp only [writeB, mapH_get]
        cases h.get? b with
        | none => rfl
        | some k => cases k with
          | obj o => rfl
          | dead => rfl
          | cells c e own =>
            cases own with
            | false => rfl
            | true =>
              simp only [Option.map_some, mapB]
              cases sizeB P t with
              | none => rfl
              | some n =>
                simp only [cells_size, cells_list, all_oneB, List.length_map, splice_map]
                split
                · simp only [Option.map_some, mapH_set, mapB]
                · rfl
  | _ => simp [mapV, writeB]

theorem boxB_map (t : TypeId) (v : Value) : boxB P (mapH σ h) t (mapV σ v) = (boxB P h t v).map (mapP σ) := by
  unfold boxB
  cases sizeB P t with
  | none => rfl
  | some n =>
    simp only [cells_size, cells_list, all_oneB]
    split
    · simp only [Option.map_some, newB, mapP, mapH_push, mapB, mapH_n]; simp [mapV]
    · rfl

theorem fieldAtB_map (t : TypeId) (x : Value) (f : Nat) : fieldAtB P t (mapV σ x) f = (fieldAtB P t x f).map (mapV σ) := by
  unfold fieldAtB
  cases fieldsOf P t with
  | none => rfl
  | some fs =>
    cases x with
    | pointer a =>
      cases a with
      | none => simp [mapV]
      | some a =>
        obtain ⟨b, o, sp⟩ := a
        cases sp with
        | some s => simp [mapV]
        | none =>
          simp only [mapV]
          cases fs[f]? with
          | none => rfl
          | some fd =>
            simp only []
            cases sizeB P fd.type with
            | none => rfl
            | some k => cases k <;> simp [mapV]
    | _ => simp [mapV]

theorem indexAtB_map (t : TypeId) (x i : Value) : indexAtB P t (mapV σ x) i = (indexAtB P t x i).map (mapV σ) := by
  unfold indexAtB
  cases i with
  | int ik k =>
    simp only []
    cases P.underlying t with
    | none => rfl
    | some d =>
      cases d with
      | array len e =>
        cases x with
        | pointer a =>
          cases a with
          | none => simp [mapV]
          | some a =>
            obtain ⟨b, o, sp⟩ := a
            cases sp with
            | some s => simp [mapV]
            | none =>
              simp only [mapV]
              cases sizeB P e with
              | none => rfl
              | some n => simp only []; split <;> simp [mapV]
        | _ => simp [mapV]
      | slice e =>
        cases x with
        | slice a len c =>
          cases a with
          | none => simp [mapV]
          | some a =>
            obtain ⟨b, o, sp⟩ := a
            cases sp with
            | some s => simp [mapV]
            | none =>
              simp only [mapV]
              cases sizeB P e with
              | none => rfl
              | some n => simp only []; split <;> simp [mapV]
        | _ => simp [mapV]
      | _ => cases x <;> simp
  | _ => simp

theorem sliceRowB_map (e : TypeId) (a : Option Addr) (len cap : Nat) (lo hi mx : Option Value) : (sliceRowB P e a len cap lo hi mx).map (mapV σ) = sliceRowB P e a len cap lo hi mx := by
  unfold sliceRowB
  dsimp only
  repeat' split
  all_goals first | rfl | simp [mapV]

theorem sliceB_map (t : TypeId) (x : Value) (lo hi mx : Option Value) : sliceB P t (mapV σ x) lo hi mx = (sliceB P t x lo hi mx).map (mapV σ) := by
  unfold sliceB
  cases P.underlying t with
  | none => rfl
  | some d =>
    cases d with
    | slice e =>
      cases x with
      | slice a len cap => simp only [mapV]; split <;> simp [sliceRowB_map]
      | _ => simp [mapV]
    | array n e =>
      cases x with
      | pointer a =>
        cases a with
        | none => simp [mapV]
        | some a =>
          obtain ⟨b, o, sp⟩ := a
          cases sp with
          | some s => simp [mapV]
          | none => simp only [mapV]; split <;> simp [sliceRowB_map]
      | _ => simp [mapV]
    | _ => cases x <;> simp

theorem set_fold (off : Nat) : ∀ (l : List (Value × Nat)) (cs : Array Value), (l.map fun p => (mapV σ p.1, p.2)).foldl (fun cs p => cs.setIfInBounds (off + p.2) p.1) (cs.map (mapV σ)) = (l.foldl (fun cs p => cs.setIfInBounds (off + p.2) p.1) cs).map (mapV σ) := by
  intro l
  induction l with
  | nil => intro cs; rfl
  | cons p l ih =>
    intro cs
    simp only [List.map_cons, List.foldl_cons]
    rw [← ih]
    congr 1
    apply Array.ext'
    simp

theorem fill_map (place : Nat → Option (Nat × Nat)) : ∀ (parts : List (Nat × Value)) (cs : Array Value), Instr.fill place (cs.map (mapV σ)) (parts.map fun p => (p.1, mapV σ p.2)) = (Instr.fill place cs parts).map fun a => a.map (mapV σ) := by
  intro parts
  induction parts with
  | nil => intro cs; rfl
  | cons p parts ih =>
    intro cs
    obtain ⟨i, v⟩ := p
    simp only [List.map_cons, Instr.fill]
    cases place i with
    | none => rfl
    | some q =>
      obtain ⟨off, size⟩ := q
      simp only [cells_size, Array.size_map]
      split
      · rfl
      · rw [← ih]
        congr 1
        have := set_fold σ off v.cells.zipIdx.toList cs
        rw [← Array.foldl_toList, ← Array.foldl_toList]
        rw [← this, mapV_cells]
        congr 1
        simp [List.zipIdx_map]

theorem fillB_map {t : TypeId} (hz : ∀ z, zeroB P t = some z → mapV σ z = z) (parts : List (Nat × Value)) : fillB P t (parts.map fun p => (p.1, mapV σ p.2)) = (fillB P t parts).map (mapV σ) := by
  unfold fillB
  cases hzz : zeroB P t with
  | none => rfl
  | some z =>
    have e : z.cells = z.cells.map (mapV σ) := by rw [← mapV_cells, hz z hzz]
    cases P.underlying t with
    | none => rfl
    | some d =>
      cases d with
      | struct fs =>
        simp only []
        cases (fs.toList.mapM fun f => (sizeB P f.type).map fun s => (f.offset, s)) with
        | none => rfl
        | some places =>
          simp only []
          rw [e, fill_map, ← e]
          simp only [Option.map_map]
          congr 1
          funext a; simp [mapV]
      | array n el =>
        simp only []
        cases sizeB P el with
        | none => rfl
        | some s =>
          simp only []
          rw [e, fill_map, ← e]
          simp only [Option.map_map]
          congr 1
          funext a; simp [mapV]
      | _ => rfl

theorem zerosB_map (z : Array Value) (hz : z.map (mapV σ) = z) (n : Nat) : (zerosB z n).map (mapV σ) = zerosB z n := by
  unfold zerosB
  apply Array.ext'
  simp only [Array.toList_map, List.map_map]
  apply List.map_congr_left
  intro i _
  simp only [Function.comp]
  rw [getElem!_def]
  cases hg : z[i % z.size]? with
  | none => simp only []; exact litV_map σ 1 default (by decide)
  | some v =>
    simp only []
    have : (z.map (mapV σ))[i % z.size]? = some (mapV σ v) := by simp [hg]
    rw [hz, hg] at this
    exact (Option.some.inj this).symm

end
end Go.AX

namespace Go.AX

section
variable (σ : Int → Int) {P : Program} {h : Heap}

theorem cellsZ {z : Value} (hz : mapV σ z = z) : z.cells.map (mapV σ) = z.cells := by rw [← mapV_cells, hz]

theorem buildSliceB_map {t : TypeId} (hz : ∀ e z, P.underlying t = some (.slice e) → zeroB P e = some z → mapV σ z = z) (len : Nat) (parts : List (Nat × Value)) :
    buildSliceB P (mapH σ h) t len (parts.map fun p => (p.1, mapV σ p.2)) = (buildSliceB P h t len parts).map (mapP σ) := by
  unfold buildSliceB
  cases hu : P.underlying t with
  | none => rfl
  | some d =>
    cases d with
    | slice e =>
      simp only []
      cases sizeB P e with
      | none => rfl
      | some s =>
        cases hzz : zeroB P e with
        | none => rfl
        | some z =>
          simp only []
          split
          · have e1 := zerosB_map σ z.cells (cellsZ σ (hz e z hu hzz)) (len * s)
            have e2 := fill_map σ (fun i => some (i * s, s)) parts (zerosB z.cells (len * s))
            rw [e1] at e2
            rw [e2]
            cases Instr.fill (fun i => some (i * s, s)) (zerosB z.cells (len * s)) parts with
            | none => rfl
            | some cells =>
              simp only [Option.map_some, Array.toList_map, all_oneB, Array.size_map]
              split
              · rfl
              · simp only [Option.map_some, mapP, mapH_push, mapB, mapH_n, mapV]
          · rfl
    | _ => rfl

theorem makeSliceB_map {t : TypeId} (hz : ∀ e z, P.underlying t = some (.slice e) → zeroB P e = some z → mapV σ z = z) (l c : Value) :
    makeSliceB P (mapH σ h) t l c = (makeSliceB P h t l c).map (mapP σ) := by
  unfold makeSliceB
  cases hu : P.underlying t with
  | none => rfl
  | some d =>
    cases d with
    | slice e =>
      cases l with
      | int k l =>
        cases c with
        | int k' c =>
          simp only []
          cases sizeB P e with
          | none => rfl
          | some s =>
            cases bytesB P e with
            | none => rfl
            | some by_ =>
              cases hzz : zeroB P e with
              | none => rfl
              | some z =>
                simp only []
                split
                · simp only [Option.map_some, mapP, mapH_push, mapB, mapH_n, mapV]
                  have e1 := zerosB_map σ z.cells (cellsZ σ (hz e z hu hzz)) (c.toNat * s)
                  have e2 := congrArg Array.toList e1
                  rw [Array.toList_map] at e2
                  rw [e2]
                · rfl
        | _ => rfl
      | _ => rfl
    | _ => rfl

theorem rowB_map (s n : Nat) (y : Value) : rowB (mapH σ h) s n (mapV σ y) = (rowB h s n y).map (List.map (mapV σ)) := by
  cases y with
  | slice a len c =>
    cases a with
    | none => simp only [mapV, rowB]; split <;> rfl
    | some a =>
      obtain ⟨b, o, sp⟩ := a
      cases sp with
      | some s => simp only [mapV, rowB]; rfl
      | none =>
        simp only [mapV, rowB, mapH_get]
        split
        · rfl
        split
        · rfl
        cases h.get? b with
        | none => rfl
        | some k =>
          cases k with
          | cells c e own => simp only [Option.map_some, mapB, List.length_map]; split <;> simp [List.map_drop, List.map_take]
          | obj o => rfl
          | dead => rfl
  | string t =>
    simp only [mapV, rowB]
    split
    · simp only [Option.map_some, List.map_map]
      congr 1
      apply List.map_congr_left
      intro b _
      simp only [Function.comp, mapV, sg]
      have hb : isLit (b.toNat : Int) = true := by
        show Nat.ble b.toNat _ = true
        rw [Nat.ble_eq]; have := b.toNat_lt; omega
      rw [hb]; rfl
    · rfl
  | _ => simp [mapV, rowB]

theorem lenB_map (y : Value) : lenB (mapV σ y) = lenB y := by cases y <;> simp [mapV, lenB]

theorem row_all {s n : Nat} {y : Value} : (rowB (mapH σ h) s n (mapV σ y)) = (rowB h s n y).map (List.map (mapV σ)) := rowB_map σ s n y

theorem appendRow_map (e : TypeId) (a : Option Addr) (len cap : Nat) (y : Value) : appendRow P (mapH σ h) e a len cap (mapV σ y) = (appendRow P h e a len cap y).map (mapP σ) := by
  unfold appendRow
  rw [lenB_map]
  cases sizeB P e with
  | none => rfl
  | some s1 =>
    cases s1 with
    | zero => rfl
    | succ s =>
      cases bytesB P e with
      | none => rfl
      | some by_ =>
        cases zeroB P e with
        | none => rfl
        | some z =>
          cases lenB y with
          | none => rfl
          | some m =>
            simp only []
            rw [rowB_map]
            cases rowB h (s + 1) m y with
            | none => rfl
            | some new =>
              simp only [Option.map_some, all_oneB, List.length_map]
              split
              · split
                · split
                  · simp only [Option.map_some, mapP, mapV]
                  · rfl
                · cases a with
                  | none =>
                    simp only []
                    split
                    · simp only [Option.map_some, mapP, mapV, mapH_push, mapB, mapH_n]
                    · rfl
                  | some a =>
                    obtain ⟨b, o, sp⟩ := a
                    cases sp with
                    | some sp => rfl
                    | none =>
                      simp only []
                      split
                      · rfl
                      split
                      · rw [mapH_get]
                        cases h.get? b with
                        | none => rfl
                        | some k =>
                          cases k with
                          | obj o => rfl
                          | dead => rfl
                          | cells c e' own =>
                            cases own with
                            | false => rfl
                            | true =>
                              simp only [Option.map_some, mapB, List.length_map]
                              split
                              · simp only [Option.map_some, mapP, mapV, mapH_push, mapH_set, mapB, mapH_n, List.map_append]
                              · rfl
                      split
                      · rw [mapH_get]
                        cases h.get? b with
                        | none => rfl
                        | some k =>
                          cases k with
                          | obj o => rfl
                          | dead => rfl
                          | cells c e' own =>
                            cases own with
                            | false => rfl
                            | true =>
                              simp only [Option.map_some, mapB, List.length_map]
                              split
                              · simp only [Option.map_some, mapP, mapV, mapH_set, mapB, splice_map]
                              · rfl
                      · have hr := rowB_map σ (h := h) (s + 1) len (.slice (some ⟨b, o, none⟩) len cap)
                        simp only [mapV] at hr
                        rw [hr]
                        cases rowB h (s + 1) len (.slice (some ⟨b, o, none⟩) len cap) with
                        | none => rfl
                        | some old => simp only [Option.map_some, mapP, mapV, mapH_push, mapB, mapH_n, List.map_append]
              · rfl

theorem appendB_map (ts : Array TypeId) (x y : Value) : appendB P (mapH σ h) ts (mapV σ x) (mapV σ y) = (appendB P h ts x y).map (mapP σ) := by
  unfold appendB
  cases ts[0]? with
  | none => rfl
  | some t =>
    cases ts[1]? with
    | none => rfl
    | some t' =>
      cases x with
      | slice a len cap =>
        simp only [mapV]
        cases P.underlying t with
        | none => rfl
        | some d =>
          cases P.underlying t' with
          | none => cases d <;> rfl
          | some d' =>
            cases d with
            | slice e => cases d' <;> first | exact appendRow_map σ _ _ _ _ _ | rfl
            | _ => cases d' <;> rfl
      | _ => simp [mapV]

theorem zMap {z : Option Value} (hz : ∀ v, z = some v → mapV σ v = v) : (z.map fun z => Value.tuple #[z, .bool false]).map (mapV σ) = z.map fun z => Value.tuple #[z, .bool false] := by
  cases z with
  | none => rfl
  | some v => simp [mapV, hz v rfl]

theorem assertB_map {x : Value} {asserted : TypeId} (hz : ∀ z, zeroB P asserted = some z → mapV σ z = z) (ok : Bool) : assertB P (mapV σ x) asserted ok = (assertB P x asserted ok).map (mapV σ) := by
  have h1 := zMap σ hz
  unfold assertB
  cases hu : P.underlying asserted with
  | none => rfl
  | some d =>
    cases d with
    | interface ms =>
      cases x with
      | iface t v =>
        simp only [mapV]
        cases P.info? t with
        | none => rfl
        | some i =>
          simp only []
          split
          · cases ok <;> simp [mapV]
          · cases ok
            · rfl
            · exact h1.symm
      | nilIface => simp only [mapV]; cases ok; rfl; exact h1.symm
      | _ => simp [mapV]
    | _ =>
      cases x with
      | iface t v =>
        simp only [mapV]
        split
        · cases ok <;> simp [mapV]
        · cases ok
          · rfl
          · exact h1.symm
      | nilIface => simp only [mapV]; cases ok; rfl; exact h1.symm
      | _ => simp [mapV]

theorem nilEqB_map (t : TypeId) (x y : Value) : nilEqB P t (mapV σ x) (mapV σ y) = nilEqB P t x y := by
  unfold nilEqB
  cases P.underlying t with
  | none => rfl
  | some d => cases d <;> (first | rfl | (cases x <;> first | (simp only [mapV]; done) | (cases y <;> simp only [mapV])))

theorem fieldB_map (t : TypeId) (x : Value) (f : Nat) : fieldB P t (mapV σ x) f = (fieldB P t x f).map (mapV σ) := by
  unfold fieldB
  cases fieldsOf P t with
  | none => rfl
  | some fs =>
    cases x with
    | agg cs =>
      simp only [mapV]
      cases fs[f]? with
      | none => rfl
      | some fd => simp only [Array.toList_map]; exact partB_map σ _ _ _
    | _ => simp [mapV]

/-- Memory for a new variable. -/
theorem alloc_map {t : TypeId} (hz : ∀ z, zeroB P t = some z → mapV σ z = z) : (match zeroB P t with | some z => boxB P (mapH σ h) t z | none => none) = (match zeroB P t with | some z => boxB P h t z | none => none).map (mapP σ) := by
  cases hzz : zeroB P t with
  | none => rfl
  | some z =>
    have := boxB_map σ (P := P) (h := h) t z
    rw [hz z hzz] at this
    exact this

end
end Go.AX

namespace Go.AX

/-- What is said of numbers that have names: an operation on them, and its value. -/
abbrev Orc := BinOp → Int → Int → Option Value

/-- The value of an operation on two numbers of the kind int. -/
def binSem (op : BinOp) (a b : Int) : Option Value :=
  match op with
  | .add => some (.int .i64 (IntKind.wrap .i64 (a + b)))
  | .sub => some (.int .i64 (IntKind.wrap .i64 (a - b)))
  | .mul => some (.int .i64 (IntKind.wrap .i64 (a * b)))
  | .quo => if b = 0 then none else some (.int .i64 (IntKind.wrap .i64 (a.tdiv b)))
  | .rem => if b = 0 then none else some (.int .i64 (a.tmod b))
  | .eql => some (.bool (a == b))
  | .neq => some (.bool (a != b))
  | .lss => some (.bool (decide (a < b)))
  | .leq => some (.bool (decide (a ≤ b)))
  | .gtr => some (.bool (decide (a > b)))
  | .geq => some (.bool (decide (a ≥ b)))
  | _ => none

theorem binSem_plain {op : BinOp} {a b : Int} {v : Value} (h : binSem op a b = some v) : plain deep v = true := by
  cases op <;> simp only [binSem] at h <;> (try split at h) <;> cases h <;> rfl

theorem binSem_op {P : Program} {tm : Array Value} {o : Oper} {op : BinOp} {t yt : TypeId} {x y : Operand} {a b : Int} {v : Value} (ho : o.op = .binOp op t x y yt) (hx : ev tm x = .int .i64 a) (hy : ev tm y = .int .i64 b) (h : binSem op a b = some v) : plainOp P tm o = some v := by
  have hp : (plainKind o && o.op.operands.toList.all fun x => plain deep (ev tm x)) = true := by
    simp [plainKind, ho, Op.operands, hx, hy, plain, deep]
  have e : ∀ (s : Sem Value) (v : Value), s = .pure v → plain deep v = true → (match pe P (Sem.bind s fun v => .pure (Next.value v)) with
      | some (.value v) => if plain deep v then some v else none
      | _ => none) = some v := by
    intro s v hs hv
    subst hs
    show (if plain deep v then some v else none) = some v
    rw [if_pos hv]
  unfold plainOp
  rw [if_pos hp]
  have he : execOp (ev tm) o = Sem.bind (do eqGuard op t x y (ev tm x) (ev tm y); binOp op t (ev tm x) (ev tm y)) fun v => .pure (Next.value v) := by
    unfold execOp; rw [ho]; rfl
  rw [he]
  refine e _ _ ?_ (binSem_plain h)
  rw [hx, hy]
  cases op <;> simp only [binSem] at h <;> try (cases h; done)
  case quo =>
    split at h
    · cases h
    · rename_i hb; cases h; show Op.intDiv .quo .i64 a b = _; simp only [Op.intDiv, if_neg hb]; rfl
  case rem =>
    split at h
    · cases h
    · rename_i hb; cases h; show Op.intDiv .rem .i64 a b = _; simp only [Op.intDiv, if_neg hb]; rfl
  all_goals (cases h; rfl)

/-- The answers are right. -/
def OrcOK (σ : Int → Int) (O : Orc) : Prop := ∀ op a b v, O op a b = some v → binSem op (sg σ a) (sg σ b) = some (mapV σ v)

noncomputable def symF (O : Orc) (tm : Array Value) (op : BinOp) (x y : Operand) : Option Value :=
  match evF tm x, evF tm y with
  | .int k a, .int k' b => bif i64 k && i64 k' then (bif isLit a && isLit b then none else O op a b) else none
  | _, _ => none

def litO (o : Operand) : Bool :=
  match o with
  | .const v => litV deep v
  | _ => true
def zlit (P : Program) (t : TypeId) : Bool :=
  match zeroB P t with
  | some z => litV deep z
  | none => true
def elemLit (P : Program) (t : TypeId) : Bool :=
  match P.underlying t with
  | some (.slice e) => zlit P e
  | _ => true
def optLit (v : Option Value) : Bool :=
  match v with
  | some v => litV 1 v
  | none => true
def notStr (v : Value) : Bool :=
  match v with
  | .string _ => false
  | _ => true
def lenLit (v : Value) : Bool :=
  match v with
  | .slice _ n _ => Nat.ble n 1180591620717411303424
  | _ => false
def fnOK (P : Program) (v : Value) : Bool :=
  match v with
  | .func (.func g) _ _ => match P.funcs[g]? with
    | some fn => fn.body.isSome
    | none => true
  | .func (.yield _) _ _ => true
  | .func _ _ _ => false
  | _ => true

def isSl (P : Program) (t : TypeId) : Bool :=
  match P.underlying t with
  | some (.slice _) => true
  | _ => false

/-- What an operation may meet. -/
noncomputable def guardO (P : Program) (tm : Array Value) (o : Oper) : Bool :=
  match o.op with
  | .move _ | .assign _ | .pick .. | .box .. | .load .. | .store .. | .nilCheck _ | .makeInterface .. | .makeFunc .. | .fieldAddr .. | .field .. | .extract .. => true
  | .alloc e => zlit P e
  | .build t _ => zlit P t
  | .buildSlice t _ _ => elemLit P t
  | .makeSlice t l c => elemLit P t && litV 1 (evF tm l) && litV 1 (evF tm c)
  | .slice _ x lo hi mx => notStr (evF tm x) && optLit (lo.map (evF tm)) && optLit (hi.map (evF tm)) && optLit (mx.map (evF tm))
  | .indexAddr _ _ i => litV 1 (evF tm i)
  | .binOp _ _ x y _ => (litV deep (evF tm x) && litV deep (evF tm y)) || !(plain deep (evF tm x) && plain deep (evF tm y))
  | .unOp _ _ x => litV deep (evF tm x)
  | .index _ x i => litV deep (evF tm x) && litV deep (evF tm i)
  | .typeAssert _ _ a _ => zlit P a
  | .call { callee := .builtin .len, args, argTypes } => match argTypes[0]?, args[0]? with | some t, some x => isSl P t && lenLit (evF tm x) | _, _ => false
  | .call { callee := .builtin .append, .. } => true
  | .call { callee := .value f, .. } => fnOK P (evF tm f)
  | _ => false

/-- What an operation may give. -/
noncomputable def chkO (o : Oper) (r : Option (Did × St)) : Option (Did × St) :=
  match o.op with
  | .binOp .. | .unOp .. | .index .. => match r with
    | some (.val v, s) => bif litV deep v then some (.val v, s) else none
    | _ => none
  | _ => r

noncomputable def restO (P : Program) (R : Recs) (x : Ctx) (s : St) (o : Oper) : Option (Did × St) := bif guardO P s.tm o then chkO o (dispF P R x s o) else none

noncomputable def namedO (O : Orc) (tm : Array Value) (o : Oper) : Option Value :=
  match o.op with
  | .binOp op _ x y _ => symF O tm op x y
  | _ => none

noncomputable def doOpO (P : Program) (O : Orc) (R : Recs) (x : Ctx) (s : St) (o : Oper) : Option (Did × St) :=
  bif opsOK P o && o.op.operands.toList.all litO then
    match namedO O s.tm o with
    | some v => retF s v
    | none => restO P R x s o
  else none

section
variable (σ : Int → Int)

def mapD (d : Deferred) : Deferred := { target := match d.target with | .fn f c => .fn f (c.map (mapV σ)) | t => t, args := d.args.map (mapV σ) }
def mapE (e : PanicEntry) : PanicEntry := { e with v := mapV σ e.v }
def mapU (u : FrameMode) : FrameMode :=
  match u with
  | .panicking c => .panicking (c.map (mapE σ))
  | u => u
def mapS (s : St) : St := { tm := s.tm.map (mapV σ), df := s.df.map (mapD σ), up := mapU σ s.up, h := mapH σ s.h }
def mapDid (d : Did) : Did :=
  match d with
  | .val v => .val (mapV σ v)
  | .panic c => .panic (c.map (mapE σ))
def mapEnd (e : End) : End :=
  match e with
  | .ret v => .ret (mapV σ v)
  | .panic c => .panic (c.map (mapE σ))
def mapX (e : Ex) : Ex :=
  match e with
  | .panic c => .panic (c.map (mapE σ))
  | e => e

/-- One reading is the other one with names. -/
structure Names (R R' : Recs) : Prop where
  code : ∀ x c s e s1, R.code x c s = some (e, s1) → R'.code x c (mapS σ s) = some (mapX σ e, mapS σ s1)
  call : ∀ f args dfr up h e up1 h1, R.call f args dfr up h = some (e, up1, h1) → R'.call f (args.map (mapV σ)) dfr (mapU σ up) (mapH σ h) = some (mapEnd σ e, mapU σ up1, mapH σ h1)
  round : ∀ l args h e h1, R.round l args h = some (e, h1) → R'.round l (args.map (mapV σ)) (mapH σ h) = some (mapEnd σ e, mapH σ h1)

variable {P : Program} {R R' : Recs} {x : Ctx}

theorem ev_map {tm : Array Value} {o : Operand} (h : litO o = true) : ev (tm.map (mapV σ)) o = mapV σ (ev tm o) := by
  cases o with
  | tmp t =>
    simp only [ev, Array.getD_eq_getD_getElem?, Array.getElem?_map]
    cases tm[t]? with
    | none => exact (mapV_undef σ).symm
    | some v => rfl
  | const v => exact (litV_map σ _ _ h).symm
  | global g => simp [ev, mapV]
  | func f => simp [ev, mapV]

theorem put_map (tm : Array Value) (d : Option Tmp) (v : Value) : put (tm.map (mapV σ)) d (mapV σ v) = (put tm d v).map (mapV σ) := by
  cases d with
  | none => rfl
  | some d => apply Array.ext'; simp [put]

theorem map_ev {tm : Array Value} {a : Array Operand} (h : ∀ o ∈ a.toList, litO o = true) : a.map (ev (tm.map (mapV σ))) = (a.map (ev tm)).map (mapV σ) := by
  apply Array.ext'
  simp only [Array.toList_map, List.map_map]
  exact List.map_congr_left fun o ho => ev_map σ (h o ho)

theorem zlit_map {t : TypeId} (h : zlit P t = true) : ∀ z, zeroB P t = some z → mapV σ z = z := by
  intro z hz
  unfold zlit at h
  rw [hz] at h
  exact litV_map σ _ _ h
theorem elemLit_map {t : TypeId} (h : elemLit P t = true) : ∀ e z, P.underlying t = some (.slice e) → zeroB P e = some z → mapV σ z = z := by
  intro e z hu hz
  unfold elemLit at h
  rw [hu] at h
  exact zlit_map σ h z hz

theorem optLit_map {v : Option Value} (h : optLit v = true) : v.map (mapV σ) = v := by
  cases v with
  | none => rfl
  | some v => simp only [Option.map_some, litV_map σ _ _ h]

theorem plainOp_lit {tm : Array Value} {o : Oper} (h : ∀ y ∈ o.op.operands.toList, ev (tm.map (mapV σ)) y = ev tm y) (hc : plainKind o = true → ∀ ρ ρ' : Operand → Value, (∀ y ∈ o.op.operands.toList, ρ y = ρ' y) → execOp ρ o = execOp ρ' o) : plainOp P (tm.map (mapV σ)) o = plainOp P tm o := by
  unfold plainOp
  cases hk : plainKind o with
  | false => rfl
  | true =>
    have e1 : (o.op.operands.toList.all fun x => plain deep (ev (tm.map (mapV σ)) x)) = (o.op.operands.toList.all fun x => plain deep (ev tm x)) := by
      rw [Bool.eq_iff_iff, List.all_eq_true, List.all_eq_true]
      constructor
      · intro k y hy; have := k y hy; rwa [h y hy] at this
      · intro k y hy; have := k y hy; rwa [h y hy]
    rw [e1, hc hk _ _ h]

theorem exec_bin {o : Oper} {op : BinOp} {t yt : TypeId} {a b : Operand} (ho : o.op = .binOp op t a b yt) {ρ ρ' : Operand → Value} (h : ∀ y ∈ o.op.operands.toList, ρ y = ρ' y) : execOp ρ o = execOp ρ' o := by
  have h1 := h a (by simp [ho, Op.operands])
  have h2 := h b (by simp [ho, Op.operands])
  unfold execOp; rw [ho]; simp only [h1, h2]
theorem exec_un {o : Oper} {op : UnOp} {t : TypeId} {a : Operand} (ho : o.op = .unOp op t a) {ρ ρ' : Operand → Value} (h : ∀ y ∈ o.op.operands.toList, ρ y = ρ' y) : execOp ρ o = execOp ρ' o := by
  have h1 := h a (by simp [ho, Op.operands])
  unfold execOp; rw [ho]; simp only [h1]
theorem exec_index {o : Oper} {t : TypeId} {a b : Operand} (ho : o.op = .index t a b) {ρ ρ' : Operand → Value} (h : ∀ y ∈ o.op.operands.toList, ρ y = ρ' y) : execOp ρ o = execOp ρ' o := by
  have h1 := h a (by simp [ho, Op.operands])
  have h2 := h b (by simp [ho, Op.operands])
  unfold execOp; rw [ho]; simp only [h1, h2]

end
end Go.AX

namespace Go.AX

section
variable (σ : Int → Int) {P : Program} {R R' : Recs} {x : Ctx}

theorem parts_map {tm : Array Value} {ps : Array (Nat × Operand)} (h : ∀ o ∈ (ps.toList.map (·.2)), litO o = true) : (ps.toList.map fun (i, y) => (i, ev (tm.map (mapV σ)) y)) = (ps.toList.map fun (i, y) => (i, ev tm y)).map fun p => (p.1, mapV σ p.2) := by
  rw [List.map_map]
  apply List.map_congr_left
  intro p hp
  obtain ⟨i, y⟩ := p
  simp only [Function.comp]
  rw [ev_map σ (h y (List.mem_map.2 ⟨(i, y), hp, rfl⟩))]

theorem one_map (r : Option Value) (h : Heap) : ((r.map (mapV σ)).map fun v => (v, mapH σ h)) = (r.map fun v => (v, h)).map (mapP σ) := by cases r <;> rfl

theorem goInt_lit {n : Nat} (h : Nat.ble n 1180591620717411303424 = true) : mapV σ (goInt n) = goInt n := by
  simp only [goInt, mapV, sg]
  rw [show isLit (n : Int) = true from h]; rfl

/-- Simple operations, but for those on plain operands. -/
theorem simple_map {tm : Array Value} {h : Heap} {o : Oper} (hl : ∀ y ∈ o.op.operands.toList, litO y = true) (hg : guardO P tm o = true) (hs : isSimple o = true) {v : Value} {h1 : Heap} (he : simpleB P tm h o = some (v, h1))
    (hc : (match o.op with | .binOp .. | .unOp .. | .index .. => litV deep v | _ => true) = true) :
    simpleB P (tm.map (mapV σ)) (mapH σ h) o = some (mapV σ v, mapH σ h1) := by
  have E : ∀ y ∈ o.op.operands.toList, ev (tm.map (mapV σ)) y = mapV σ (ev tm y) := fun y hy => ev_map σ (hl y hy)
  have key : simpleB P (tm.map (mapV σ)) (mapH σ h) o = (simpleB P tm h o).map (mapP σ) → simpleB P (tm.map (mapV σ)) (mapH σ h) o = some (mapV σ v, mapH σ h1) := by
    intro k; rw [k, he]; rfl
  cases ho : o.op with
  | move a => exact key (by simp only [simpleB, ho, E a (by simp [ho, Op.operands])]; rfl)
  | assign a => exact key (by simp only [simpleB, ho, E a (by simp [ho, Op.operands])]; rfl)
  | pick c a b =>
    refine key ?_
    simp only [simpleB, ho, E a (by simp [ho, Op.operands]), E b (by simp [ho, Op.operands]), E c (by simp [ho, Op.operands])]
    cases ev tm c <;> simp only [mapV] <;> (try rfl)
    rename_i t; cases t <;> rfl
  | alloc e =>
    refine key ?_
    simp only [guardO, ho] at hg
    simp only [simpleB, ho]
    exact alloc_map σ (zlit_map σ hg)
  | box e a =>
    refine key ?_
    simp only [simpleB, ho, E a (by simp [ho, Op.operands])]
    exact boxB_map σ _ _
  | build t ps =>
    refine key ?_
    simp only [guardO, ho] at hg
    have hp := parts_map σ (tm := tm) (ps := ps) (fun y hy => hl y (by simpa [ho, Op.operands] using hy))
    simp only [simpleB, ho]
    rw [hp, fillB_map σ (zlit_map σ hg)]
    exact one_map σ _ _
  | buildSlice t len ps =>
    refine key ?_
    simp only [guardO, ho] at hg
    have hp := parts_map σ (tm := tm) (ps := ps) (fun y hy => hl y (by simpa [ho, Op.operands] using hy))
    simp only [simpleB, ho]
    rw [hp]
    exact buildSliceB_map σ (elemLit_map σ hg) _ _
  | load t a =>
    refine key ?_
    simp only [simpleB, ho, E a (by simp [ho, Op.operands]), readB_map]
    exact one_map σ _ _
  | nilCheck a =>
    refine key ?_
    simp only [simpleB, ho, E a (by simp [ho, Op.operands])]
    cases ev tm a with
    | pointer a => cases a <;> simp [mapV, mapP]
    | func f a b => cases f <;> simp [mapV, mapP]
    | _ => simp [mapV, mapP]
  | makeInterface t a =>
    refine key ?_
    simp only [simpleB, ho, E a (by simp [ho, Op.operands])]
    cases P.underlying t with
    | none => rfl
    | some d => cases d <;> simp [mapP, mapV]
  | makeFunc fn first captured =>
    refine key ?_
    have e1 := map_ev σ (tm := tm) (a := first) (fun y hy => hl y (by simp [ho, Op.operands]; exact .inl (by simpa using hy)))
    have e2 := map_ev σ (tm := tm) (a := captured) (fun y hy => hl y (by simp [ho, Op.operands]; exact .inr (by simpa using hy)))
    simp only [simpleB, ho, e1, e2]
    cases fn <;> simp [mapP, mapV]
  | makeSlice t l c =>
    refine key ?_
    simp only [guardO, ho, evF_eq, Bool.and_eq_true] at hg
    have e1 := litV_map σ 1 _ hg.1.2
    have e2 := litV_map σ 1 _ hg.2
    simp only [simpleB, ho, E l (by simp [ho, Op.operands]), E c (by simp [ho, Op.operands]), e1, e2]
    exact makeSliceB_map σ (elemLit_map σ hg.1.1) _ _
  | slice t a lo hi mx =>
    refine key ?_
    simp only [guardO, ho, evF_eq, Bool.and_eq_true] at hg
    have lift : ∀ (q : Option Operand), (∀ y ∈ q.toArray.toList, litO y = true) → optLit (q.map (ev tm)) = true → q.map (ev (tm.map (mapV σ))) = q.map (ev tm) := by
      intro q hq hv
      cases q with
      | none => rfl
      | some q =>
        have := optLit_map σ hv
        simp only [Option.map_some] at this ⊢
        rw [ev_map σ (hq q (by simp))]; exact this
    have e1 := lift lo (fun y hy => hl y (by simp [ho, Op.operands]; right; left; simpa using hy)) hg.1.1.2
    have e2 := lift hi (fun y hy => hl y (by simp [ho, Op.operands]; right; right; left; simpa using hy)) hg.1.2
    have e3 := lift mx (fun y hy => hl y (by simp [ho, Op.operands]; right; right; right; simpa using hy)) hg.2
    simp only [simpleB, ho, E a (by simp [ho, Op.operands]), e1, e2, e3]
    have hn := hg.1.1.1
    cases hv : ev tm a with
    | string s => rw [hv] at hn; cases hn
    | _ =>
      have := sliceB_map σ (P := P) t (ev tm a) (lo.map (ev tm)) (hi.map (ev tm)) (mx.map (ev tm))
      rw [hv] at this
      simp only [mapV] at this ⊢
      exact (congrArg (Option.map fun v => (v, mapH σ h)) this).trans (one_map σ _ _)
  | fieldAddr t a f =>
    refine key ?_
    simp only [simpleB, ho, E a (by simp [ho, Op.operands]), fieldAtB_map]
    exact one_map σ _ _
  | field t a f =>
    refine key ?_
    simp only [simpleB, ho, E a (by simp [ho, Op.operands]), fieldB_map]
    exact one_map σ _ _
  | indexAddr t a i =>
    refine key ?_
    simp only [guardO, ho, evF_eq] at hg
    have e1 := litV_map σ 1 _ hg
    simp only [simpleB, ho, E a (by simp [ho, Op.operands]), E i (by simp [ho, Op.operands]), e1, indexAtB_map]
    exact one_map σ _ _
  | extract t i =>
    refine key ?_
    simp only [simpleB, ho, E t (by simp [ho, Op.operands])]
    cases ev tm t with
    | tuple vs => simp only [mapV, Array.getElem?_map]; exact one_map σ _ _
    | _ => simp [mapV]
  | typeAssert a t as ok =>
    refine key ?_
    simp only [guardO, ho] at hg
    simp only [simpleB, ho, E a (by simp [ho, Op.operands]), assertB_map σ (zlit_map σ hg)]
    exact one_map σ _ _
  | binOp op t a b yt =>
    rw [ho] at hc
    have hv : mapV σ v = v := litV_map σ _ _ hc
    simp only [guardO, ho, evF_eq, Bool.or_eq_true, Bool.and_eq_true, Bool.not_eq_true', Bool.and_eq_false_iff] at hg
    have Ea := E a (by simp [ho, Op.operands])
    have Eb := E b (by simp [ho, Op.operands])
    refine key ?_
    have hpl : plainOp P (tm.map (mapV σ)) o = plainOp P tm o := by
      rcases hg with hg | hg
      · refine plainOp_lit σ (fun y hy => ?_) (fun _ ρ ρ' hρ => exec_bin ho hρ)
        simp only [ho, Op.operands, List.mem_cons, List.mem_nil_iff, or_false] at hy
        rcases hy with rfl | rfl
        · rw [Ea, litV_map σ _ _ hg.1]
        · rw [Eb, litV_map σ _ _ hg.2]
      · have n1 : ∀ t : Array Value, (ev t a = ev tm a ∨ ev t a = mapV σ (ev tm a)) → (ev t b = ev tm b ∨ ev t b = mapV σ (ev tm b)) → plainOp P t o = none := by
          intro t h1 h2
          have q1 : plain deep (ev t a) = plain deep (ev tm a) := by rcases h1 with h1 | h1 <;> rw [h1]; exact mapV_plain σ _ _
          have q2 : plain deep (ev t b) = plain deep (ev tm b) := by rcases h2 with h2 | h2 <;> rw [h2]; exact mapV_plain σ _ _
          unfold plainOp
          rw [if_neg]
          simp only [ho, Op.operands, Bool.and_eq_true, not_and]
          intro _
          simp only [List.all_cons, List.all_nil, Bool.and_true, Bool.and_eq_true, q1, q2]
          rintro ⟨k1, k2⟩
          rcases hg with hg | hg
          · rw [k1] at hg; cases hg
          · rw [k2] at hg; cases hg
        rw [n1 _ (.inr Ea) (.inr Eb), n1 tm (.inl rfl) (.inl rfl)]
    have hone : ∀ r : Option Value, r.map (mapV σ) = r → (r.map fun v => (v, mapH σ h)) = (r.map fun v => (v, h)).map (mapP σ) := by
      intro r hr; rw [← one_map, hr]
    have hval : ∀ w h2, simpleB P tm h o = some (w, h2) → mapV σ w = w := by
      intro w h2 hw; rw [he] at hw; cases hw; exact hv
    simp only [simpleB, ho, Ea, Eb, nilEqB_map] at hval ⊢
    rw [hpl]
    cases hp : plainOp P tm o with
    | some w =>
      simp only [hp] at hval ⊢
      have := hval w h rfl
      simp only [Option.map_some, mapP, this]
    | none =>
      simp only []
      cases op <;> (try rfl)
      · cases nilEqB P t (ev tm a) (ev tm b) <;> simp [mapP, mapV]
      · cases nilEqB P t (ev tm a) (ev tm b) <;> simp [mapP, mapV]
  | unOp op t a =>
    rw [ho] at hc
    have hv : mapV σ v = v := litV_map σ _ _ hc
    simp only [guardO, ho, evF_eq] at hg
    have Ea := E a (by simp [ho, Op.operands])
    have hpl : plainOp P (tm.map (mapV σ)) o = plainOp P tm o := by
      refine plainOp_lit σ (fun y hy => ?_) (fun _ ρ ρ' hρ => exec_un ho hρ)
      simp only [ho, Op.operands, List.mem_cons, List.mem_nil_iff, or_false] at hy
      subst hy
      rw [Ea, litV_map σ _ _ hg]
    simp only [simpleB, ho] at he ⊢
    rw [hpl]
    cases hp : plainOp P tm o with
    | none => rw [hp] at he; cases he
    | some w => rw [hp] at he; cases he; simp only [Option.map_some, hv]
  | index t a i =>
    rw [ho] at hc
    have hv : mapV σ v = v := litV_map σ _ _ hc
    simp only [guardO, ho, evF_eq, Bool.and_eq_true] at hg
    have Ea := E a (by simp [ho, Op.operands])
    have Ei := E i (by simp [ho, Op.operands])
    have hpl : plainOp P (tm.map (mapV σ)) o = plainOp P tm o := by
      refine plainOp_lit σ (fun y hy => ?_) (fun _ ρ ρ' hρ => exec_index ho hρ)
      simp only [ho, Op.operands, List.mem_cons, List.mem_nil_iff, or_false] at hy
      rcases hy with rfl | rfl
      · rw [Ea, litV_map σ _ _ hg.1]
      · rw [Ei, litV_map σ _ _ hg.2]
    simp only [simpleB, ho] at he ⊢
    rw [hpl]
    cases hp : plainOp P tm o with
    | none => rw [hp] at he; cases he
    | some w => rw [hp] at he; cases he; simp only [Option.map_some, hv]
  | call c =>
    obtain ⟨callee, args, argTypes⟩ := c
    cases callee with
    | value f => simp [isSimple, ho] at hs
    | invoke r name => simp [isSimple, ho] at hs
    | builtin b =>
      cases b <;> simp only [guardO, ho] at hg <;> (try (cases hg; done)) <;> (try (simp [isSimple, ho] at hs; done))
      cases ht : argTypes[0]? with
      | none => rw [ht] at hg; cases hg
      | some t =>
        cases ha : args[0]? with
        | none => rw [ht, ha] at hg; cases hg
        | some a =>
          rw [ht, ha] at hg
          simp only [evF_eq, Bool.and_eq_true] at hg
          have Ea := E a (by simp only [ho, Op.operands, Call.operands]; simp; exact Array.mem_of_getElem? ha)
          refine key ?_
          simp only [simpleB, ho, ht, ha, Ea]
          have h1 := hg.1
          unfold isSl at h1
          split at h1
          · rename_i e hu
            rw [hu]
            have h2 := hg.2
            cases hv : ev tm a with
            | slice ad n c =>
              rw [hv] at h2
              simp only [mapV, Option.map_some, mapP]
              rw [goInt_lit σ h2]
            | _ => rw [hv] at h2; cases h2
          · cases h1
  | _ => first | (simp [isSimple, ho] at hs; done) | (simp [guardO, ho] at hg; done)

theorem actF_enter_map (N : Names σ R R') {s : St} {f : FuncId} {args : Array Value} {d : Did} {s1 : St} (h : enteredF s (R.call f args false .run s.h) = some (d, s1)) :
    enteredF (mapS σ s) (R'.call f (args.map (mapV σ)) false .run (mapS σ s).h) = some (mapDid σ d, mapS σ s1) := by
  unfold enteredF at h
  split at h
  · rename_i v u h2 hc
    have := N.call _ _ _ _ _ _ _ _ hc
    simp only [mapU, mapEnd] at this
    show enteredF (mapS σ s) (R'.call f (args.map (mapV σ)) false .run (mapH σ s.h)) = _
    rw [this]
    cases h; rfl
  · rename_i c u h2 hc
    have := N.call _ _ _ _ _ _ _ _ hc
    simp only [mapU, mapEnd] at this
    show enteredF (mapS σ s) (R'.call f (args.map (mapV σ)) false .run (mapH σ s.h)) = _
    rw [this]
    cases h; rfl
  · cases h

theorem callFunc_map (N : Names σ R R') {s : St} {g : FuncId} {args : Array Value} {d : Did} {s1 : St} (hg : (match P.funcs[g]? with | some fn => fn.body.isSome | none => true) = true)
    (h : actF R x s ((callFuncB P g args).map fun r => (r, s.h)) = some (d, s1)) :
    actF R' x (mapS σ s) ((callFuncB P g (args.map (mapV σ))).map fun r => (r, (mapS σ s).h)) = some (mapDid σ d, mapS σ s1) := by
  unfold callFuncB at h ⊢
  cases hf : P.funcs[g]? with
  | none => rw [hf] at h; cases h
  | some fn =>
    rw [hf] at h hg
    simp only [] at h hg ⊢
    split at h
    · cases h
    · rename_i hn
      rw [if_neg hn]
      rw [if_pos hg]
      have h' : actF R x s ((some (Out.enter g args)).map fun r => (r, s.h)) = some (d, s1) := by
        first | exact h | (rw [if_pos hg] at h; exact h)
      exact actF_enter_map σ N h'

theorem act_map (N : Names σ R R') {s : St} {o : Oper} (hl : ∀ y ∈ o.op.operands.toList, litO y = true) (hg : guardO P s.tm o = true) (hs : isSimple o = false) {d : Did} {s1 : St} (he : actF R x s (effectB P s.tm s.h o) = some (d, s1)) :
    actF R' x (mapS σ s) (effectB P (mapS σ s).tm (mapS σ s).h o) = some (mapDid σ d, mapS σ s1) := by
  have E : ∀ y ∈ o.op.operands.toList, ev (s.tm.map (mapV σ)) y = mapV σ (ev s.tm y) := fun y hy => ev_map σ (hl y hy)
  show actF R' x (mapS σ s) (effectB P (s.tm.map (mapV σ)) (mapH σ s.h) o) = _
  cases ho : o.op with
  | store t a v =>
    simp only [effectB, ho] at he ⊢
    rw [E a (by simp [ho, Op.operands]), E v (by simp [ho, Op.operands]), writeB_map]
    cases hw : writeB P s.h t (ev s.tm v) (ev s.tm a) with
    | none => rw [hw] at he; cases he
    | some h1 => rw [hw] at he; cases he; simp only [Option.map_some, actF, mapDid, mapV_undef]; rfl
  | call c =>
    obtain ⟨callee, args, argTypes⟩ := c
    cases callee with
    | value f =>
      have e1 := map_ev σ (tm := s.tm) (a := args) (fun y hy => hl y (by simp only [ho, Op.operands, Call.operands]; simp; exact .inr (by simpa using hy)))
      simp only [effectB, ho] at he ⊢
      rw [E f (by simp [ho, Op.operands, Call.operands]), e1]
      simp only [guardO, ho, evF_eq] at hg
      cases hf : ev s.tm f with
      | func fn first captured =>
        rw [hf] at he hg
        simp only [mapV]
        cases fn with
        | func g =>
          simp only [callValueB] at he ⊢
          have := callFunc_map σ N (P := P) (x := x) hg he
          simp only [Array.map_append] at this
          exact this
        | yield l =>
          simp only [callValueB, Option.map_some, actF] at he ⊢
          cases hr : R.round l (first ++ args.map (ev s.tm)) s.h with
          | none => rw [hr] at he; cases he
          | some p =>
            obtain ⟨e, h2⟩ := p
            have := N.round _ _ _ _ _ hr
            simp only [Array.map_append] at this
            rw [hr] at he
            rw [this]
            cases e <;> (cases he; rfl)
        | _ => cases hg
      | _ => rw [hf] at he; cases he
    | invoke r name => simp [guardO, ho] at hg
    | builtin b =>
      cases b <;> simp only [guardO, ho] at hg <;> (try (cases hg; done)) <;> (try (simp [isSimple, ho] at hs; done))
      simp only [effectB, ho] at he ⊢
      cases ha : args[0]? with
      | none => rw [ha] at he; cases he
      | some a =>
        cases hb : args[1]? with
        | none => rw [ha, hb] at he; cases he
        | some b =>
          rw [ha, hb] at he
          simp only [] at he ⊢
          rw [E a (by simp only [ho, Op.operands, Call.operands]; simp; exact Array.mem_of_getElem? ha), E b (by simp only [ho, Op.operands, Call.operands]; simp; exact Array.mem_of_getElem? hb), appendB_map]
          cases hw : appendB P s.h argTypes (ev s.tm a) (ev s.tm b) with
          | none => rw [hw] at he; cases he
          | some p => rw [hw] at he; obtain ⟨v, h1⟩ := p; cases he; rfl
  | _ => first | (simp [guardO, ho] at hg; done) | (simp [isSimple, ho] at hs; done)

theorem doOpO_sound {O : Orc} (hO : OrcOK σ O) (N : Names σ R R') {s : St} {o : Oper} {d : Did} {s1 : St} (h : doOpO P O R x s o = some (d, s1)) : doOp P R' x (mapS σ s) o = some (mapDid σ d, mapS σ s1) := by
  unfold doOpO at h
  cases hok : opsOK P o with
  | false => rw [hok] at h; cases h
  | true =>
  cases hlit : o.op.operands.toList.all litO with
  | false => rw [hok, hlit] at h; cases h
  | true =>
  rw [hok, hlit] at h
  simp only [Bool.and_self, cond_true] at h
  have hl : ∀ y ∈ o.op.operands.toList, litO y = true := fun y hy => List.all_eq_true.1 hlit y hy
  split at h
  · rename_i v hn
    cases h
    unfold namedO at hn
    split at hn
    · rename_i op t a b yt ho
      unfold symF at hn
      simp only [evF_eq] at hn
      split at hn
      · rename_i k m k' m' hx hy
        cases hk : i64 k with
        | false => simp [hk] at hn
        | true =>
        cases hk' : i64 k' with
        | false => simp [hk, hk'] at hn
        | true =>
        have e1 : k = .i64 := by cases k <;> simp_all [i64]
        have e2 : k' = .i64 := by cases k' <;> simp_all [i64]
        subst e1; subst e2
        simp only [hk, Bool.and_self, cond_true] at hn
        cases hlt : (isLit m && isLit m') with
        | true => rw [hlt] at hn; cases hn
        | false =>
        rw [hlt] at hn
        simp only [cond_false] at hn
        have hb := hO _ _ _ _ hn
        have p := binSem_op (P := P) (tm := s.tm.map (mapV σ)) ho (by rw [ev_map σ (hl a (by simp [ho, Op.operands])), hx]; simp [mapV]) (by rw [ev_map σ (hl b (by simp [ho, Op.operands])), hy]; simp [mapV]) hb
        rw [doOp_simple (by simp [isSimple, ho]), hok]
        show valF (mapS σ s) (simpleB P (s.tm.map (mapV σ)) (mapH σ s.h) o) = _
        simp only [simpleB, ho, p]
        rfl
      · cases hn
    · cases hn
  · unfold restO at h
    cases hg : guardO P s.tm o with
    | false => rw [hg] at h; cases h
    | true =>
    rw [hg] at h
    simp only [cond_true] at h
    rw [dispF_eq] at h
    cases hs : isSimple o with
    | false =>
      have hn : ∀ tm h, simpleB P tm h o = none := by
        intro tm h
        unfold simpleB
        unfold isSimple at hs
        split <;> first | rfl | simp_all
      have hc : chkO o (slowF P R x s o) = slowF P R x s o := by
        unfold chkO
        split <;> first | rfl | simp_all [isSimple]
      rw [hc, slowF_act hs (hn _ _)] at h
      rw [doOp_act hs (hn _ _), hok]
      exact act_map σ N hl hg hs h
    | true =>
      rw [slowF_simple hs] at h
      cases he : simpleB P s.tm s.h o with
      | none =>
        rw [he] at h
        unfold chkO at h
        split at h <;> cases h
      | some p =>
        obtain ⟨v, h1⟩ := p
        rw [he] at h
        have h2 : (match o.op with | .binOp .. | .unOp .. | .index .. => litV deep v | _ => true) = true ∧ d = .val v ∧ s1 = { s with h := h1 } := by
          unfold chkO at h
          simp only [valF, heapF] at h
          clear hl hlit hs he hg hok
          generalize o.op = q at h ⊢
          cases hv : litV deep v with
          | true =>
            cases q <;> (try rw [hv] at h) <;> (cases h; exact ⟨rfl, rfl, rfl⟩)
          | false =>
            cases q <;> (try rw [hv] at h) <;> (first | (cases h; done) | (cases h; exact ⟨rfl, rfl, rfl⟩))
        obtain ⟨hc, rfl, rfl⟩ := h2
        have := simple_map σ hl hg hs he hc
        rw [doOp_simple hs, hok]
        show valF (mapS σ s) (simpleB P (s.tm.map (mapV σ)) (mapH σ s.h) o) = _
        rw [this]
        rfl

end
end Go.AX

namespace Go.AX

noncomputable def seqO (P : Program) (O : Orc) (R : Recs) (x : Ctx) (ops : Array Oper) : List Oper → St → Option (Ex × St) :=
  @List.rec Oper (fun _ => St → Option (Ex × St)) (fun s => some (.normal, s))
    (fun o _ ih s => bif wantF ops s.tm o then afterF o (doOpO P O R x s o) ih else ih { s with tm := putF s.tm o.dst undef })

def noRecs : Recs := ⟨fun _ _ _ => none, fun _ _ _ _ _ => none, fun _ _ _ => none⟩

noncomputable def openSimO (P : Program) (O : Orc) (x : Ctx) (ops : Array Oper) (ps : List (List Nat)) (z : Open) (i : Nat) (o : Oper) : Option Open :=
  match doOpO P O noRecs x z.s o with
  | some (.val v, s) =>
    bif Nat.beq s.h.n z.s.h.n then
      some { z with s := { z.s with tm := putF z.s.tm o.dst v }, looks := bif looks o then { o, tm := z.s.tm, v, n := z.s.h.n, lo := actsIn ops (ps.getD i []), hi := actsMost ops ps i } :: z.looks else z.looks }
    else
      match s.h.get? z.s.h.n with
      | some b => some { z with s := { z.s with h := s.h, tm := putF z.s.tm o.dst v }, news := (i, z.s.h.n, b) :: z.news }
      | none => none
  | _ => none

noncomputable def openActO (P : Program) (O : Orc) (R : Recs) (x : Ctx) (ps : List (List Nat)) (z : Open) (i : Nat) (o : Oper) : Option Open :=
  match doOpO P O R x { z.s with h := hide (unseen ps z.news i) z.s.h } o with
  | some (.val v, s) =>
    if (unseen ps z.news i).all fun p => (s.h.get? p.2.1).isSome then some { z with s := { s with tm := putF s.tm o.dst v, h := unhide (unseen ps z.news i) s.h }, hs := unhide (unseen ps z.news i) s.h :: z.hs } else none
  | _ => none

noncomputable def openStepO (P : Program) (O : Orc) (R : Recs) (x : Ctx) (ops : Array Oper) (ps : List (List Nat)) (z : Open) (i : Nat) : Option Open :=
  match ops[i]? with
  | none => none
  | some o =>
    bif isSimple o then
      bif wantF ops z.s.tm o then openSimO P O x ops ps z i o
      else some { z with s := { z.s with tm := putF z.s.tm o.dst undef } }
    else bif wantF ops z.s.tm o then openActO P O R x ps z i o
    else some { z with s := { z.s with tm := putF z.s.tm o.dst undef }, hs := z.s.h :: z.hs }

noncomputable def lookO (P : Program) (O : Orc) (hs : List Heap) (l : Look) : Bool :=
  (List.range (hs.length)).all fun k => k < l.lo || l.hi < k ||
    match hs[hs.length - 1 - k]? with
    | some h => match doOpO P O noRecs ⟨0, none, false⟩ ⟨l.tm, [], .run, h⟩ l.o with
      | some (.val v, s) => same 20 v l.v && s.h.n == h.n && within 20 l.n l.v && isSimple l.o
      | _ => false
    | none => false

noncomputable def openO (P : Program) (O : Orc) (R : Recs) (x : Ctx) (ops : Array Oper) (s : St) : Option (Ex × St) :=
  bif openOK ops then
    match (List.range ops.size).foldlM (openStepO P O R x ops (preds ops.toList)) { s, hs := [s.h], looks := [], news := [] } with
    | some z => bif Nat.ble z.hs.length 1 || z.looks.all (lookO P O z.hs) then some (.normal, z.s) else none
    | none => none
  else none

noncomputable def regionO (P : Program) (O : Orc) (R : Recs) (x : Ctx) (ops : Array Oper) (draw : Bool) (s : St) : Option (Ex × St) := bif draw then openO P O R x ops s else seqO P O R x ops ops.toList s

noncomputable def codeO (P : Program) (O : Orc) (R : Recs) (x : Ctx) (c : Code) (s : St) : Option (Ex × St) :=
  match c with
  | .skip | .label _ => some (.normal, s)
  | .region _ ops draw => regionO P O R x ops draw s
  | .seq a b => thenF R x b (R.code x a s)
  | .cond c a b => condF R x (evF s.tm c) a b s
  | .block id b => blockF id (R.code x b s)
  | .loop b => thenF R x (.loop b) (R.code x b s)
  | .scope b => R.code x b s
  | .exit id => some (.exit id, s)
  | .ret => some (.ret, s)
  | _ => none

noncomputable def leftO (P : Program) (fn : Func) (r : Option (Ex × St)) : Option (End × FrameMode × Heap) :=
  match r with
  | some (.normal, s) => bif s.df.isEmpty then (resultsB P fn s.tm s.h).map fun v => (.ret v, s.up, s.h) else none
  | some (.ret, s) => bif s.df.isEmpty then (resultsB P fn s.tm s.h).map fun v => (.ret v, s.up, s.h) else none
  | _ => none

noncomputable def bodyO (P : Program) (R : Recs) (f : FuncId) (args : Array Value) (dfr : Bool) (up : FrameMode) (h : Heap) : Option (End × FrameMode × Heap) :=
  match P.funcs[f]? with
  | none => none
  | some fn =>
    match fn.body with
    | none => none
    | some c => leftO P fn (R.code { fn := f, round := none, dfr } c { tm := ⟨appendF args.toList (undefs (fn.ntmps - args.size))⟩, df := [], up, h })

/-- The known functions, their answers with names. -/
noncomputable def callO (P : Program) (kf : FuncId → Bool) (KO : Known) (R : Recs) (f : FuncId) (args : Array Value) (dfr : Bool) (up : FrameMode) (h : Heap) : Option (End × FrameMode × Heap) :=
  bif kf f then bif dfr then none else (match KO f args with
    | some v => some (.ret v, up, h)
    | none => none)
  else bodyO P R f args dfr up h

noncomputable def runO (P : Program) (kf : FuncId → Bool) (KO : Known) (O : Orc) : Nat → Recs := @Nat.rec (fun _ => Recs) noRecs
  (fun _ R => { code := codeO P O R, call := callO P kf KO R, round := fun _ _ _ => none })

section
variable (σ : Int → Int) {P : Program} {R R' : Recs} {x : Ctx} {O : Orc}

theorem noNames (R' : Recs) : Names σ noRecs R' := ⟨fun _ _ _ _ _ h => (by cases h), fun _ _ _ _ _ _ _ _ h => (by cases h), fun _ _ _ _ _ h => (by cases h)⟩

theorem wanted_map (ops : Array Oper) (tm : Array Value) (o : Oper) : wantedB ops (tm.map (mapV σ)) o = wantedB ops tm o := by
  have : yielded ops (tm.map (mapV σ)) = yielded ops tm := by
    funext j
    unfold yielded
    cases ((ops[j]?).bind (·.dst)) with
    | none => rfl
    | some t =>
      simp only [Option.bind_some, Array.getElem?_map]
      cases tm[t]? with
      | none => rfl
      | some v => cases v <;> simp [mapV]
  unfold wantedB; rw [this]

theorem mapS_put (s : St) (d : Option Tmp) (v : Value) : mapS σ { s with tm := put s.tm d v } = { mapS σ s with tm := put (mapS σ s).tm d (mapV σ v) } := by
  simp only [mapS, put_map]

theorem seqO_sound (hO : OrcOK σ O) (N : Names σ R R') (ops : Array Oper) : ∀ (n i : Nat), i + n = ops.size → ∀ s e s1, seqO P O R x ops (ops.toList.drop i) s = some (e, s1) → seqOps P R' x ops (List.range' i n) (mapS σ s) = some (mapX σ e, mapS σ s1) := by
  intro n
  induction n with
  | zero =>
    intro i hi s e s1 h
    rw [List.drop_eq_nil_of_le (by simp; omega)] at h
    cases h; rfl
  | succ n ih =>
    intro i hi s e s1 h
    have hlt : i < ops.size := by omega
    have hd : ops.toList.drop i = ops[i] :: ops.toList.drop (i + 1) := by
      rw [List.drop_eq_getElem_cons (by simpa using hlt)]; simp
    rw [hd] at h
    rw [List.range'_succ]
    simp only [seqOps, Array.getElem?_eq_getElem hlt]
    have h' : (bif wantF ops s.tm ops[i] then afterF ops[i] (doOpO P O R x s ops[i]) (seqO P O R x ops (ops.toList.drop (i + 1))) else seqO P O R x ops (ops.toList.drop (i + 1)) { s with tm := putF s.tm ops[i].dst undef }) = some (e, s1) := h
    rw [wantF_eq] at h'
    rw [show wantedB ops (mapS σ s).tm ops[i] = wantedB ops s.tm ops[i] from wanted_map σ _ _ _]
    cases hw : wantedB ops s.tm ops[i] with
    | false =>
      rw [hw] at h'
      simp only [cond_false, putF_eq] at h'
      simp only [Bool.false_eq_true, if_false]
      have := ih (i + 1) (by omega) _ _ _ h'
      rw [mapS_put, mapV_undef] at this
      exact this
    | true =>
      rw [hw] at h'
      simp only [cond_true] at h'
      simp only [if_true]
      cases hop : doOpO P O R x s ops[i] with
      | none => rw [hop] at h'; cases h'
      | some p =>
        obtain ⟨d, s2⟩ := p
        rw [doOpO_sound σ hO N hop]
        rw [hop] at h'
        cases d with
        | val v =>
          simp only [afterF, putF_eq] at h'
          have := ih (i + 1) (by omega) _ _ _ h'
          rw [mapS_put] at this
          exact this
        | panic c => cases h'; rfl

def mapN (p : Nat × Nat × Blk) : Nat × Nat × Blk := (p.1, p.2.1, mapB σ p.2.2)
def mapL (l : Look) : Look := { l with tm := l.tm.map (mapV σ), v := mapV σ l.v }
def mapO (z : Open) : Open := { s := mapS σ z.s, hs := z.hs.map (mapH σ), looks := z.looks.map (mapL σ), news := z.news.map (mapN σ) }

theorem hide_map : ∀ (l : List (Nat × Nat × Blk)) (h : Heap), mapH σ (hide l h) = hide (l.map (mapN σ)) (mapH σ h) := by
  intro l
  induction l with
  | nil => intro h; rfl
  | cons p l ih =>
    intro h
    simp only [hide, List.foldl_cons, List.map_cons]
    have := ih (h.set p.2.1 .dead)
    simp only [hide] at this
    rw [this, mapH_set]; rfl
theorem unhide_map : ∀ (l : List (Nat × Nat × Blk)) (h : Heap), mapH σ (unhide l h) = unhide (l.map (mapN σ)) (mapH σ h) := by
  intro l
  induction l with
  | nil => intro h; rfl
  | cons p l ih =>
    intro h
    simp only [unhide, List.foldl_cons, List.map_cons]
    have := ih (h.set p.2.1 p.2.2)
    simp only [unhide] at this
    rw [this, mapH_set]; rfl
theorem unseen_map (ps : List (List Nat)) (l : List (Nat × Nat × Blk)) (i : Nat) : unseen ps (l.map (mapN σ)) i = (unseen ps l i).map (mapN σ) := by
  unfold unseen
  rw [List.filter_map]; rfl

theorem simple_of_doOp {R : Recs} {s : St} {o : Oper} {v : Value} {s1 : St} (hs : isSimple o = true) (h : doOp P R x s o = some (.val v, s1)) : opsOK P o = true ∧ simpleB P s.tm s.h o = some (v, s1.h) := by
  rw [doOp_simple hs] at h
  cases hok : opsOK P o with
  | false => rw [hok] at h; cases h
  | true =>
    rw [hok] at h
    refine ⟨rfl, ?_⟩
    cases he : simpleB P s.tm s.h o with
    | none => rw [he] at h; cases h
    | some p => rw [he] at h; obtain ⟨w, h2⟩ := p; cases h; rfl

theorem openStepO_sound (hO : OrcOK σ O) (N : Names σ R R') {ops : Array Oper} {ps : List (List Nat)} {z z1 : Open} {i : Nat} (h : openStepO P O R x ops ps z i = some z1) : openStep P R' x ops ps (mapO σ z) i = some (mapO σ z1) := by
  unfold openStepO at h
  unfold openStep
  cases ho : ops[i]? with
  | none => rw [ho] at h; cases h
  | some o =>
    rw [ho] at h
    simp only [wantF_eq, putF_eq] at h ⊢
    rw [show wantedB ops (mapO σ z).s.tm o = wantedB ops z.s.tm o from wanted_map σ _ _ _]
    have hskip : put (mapS σ z.s).tm o.dst undef = (put z.s.tm o.dst undef).map (mapV σ) := by
      have := put_map σ z.s.tm o.dst undef; rw [mapV_undef] at this; exact this
    cases hs : isSimple o with
    | true =>
      rw [hs] at h
      simp only [cond_true] at h
      simp only [if_true]
      cases hw : wantedB ops z.s.tm o with
      | false =>
        rw [hw] at h
        simp only [cond_false] at h
        cases h
        simp only [Bool.false_eq_true, if_false, mapO, hskip]; rfl
      | true =>
        rw [hw] at h
        simp only [cond_true] at h
        simp only [if_true]
        unfold openSimO at h
        split at h
        · rename_i v s hop
          have hd := doOpO_sound σ hO (noNames σ noRecs) hop
          obtain ⟨hok, hsim⟩ := simple_of_doOp hs hd
          unfold openSimple
          rw [if_pos hok]
          rw [show simpleB P (mapO σ z).s.tm (mapO σ z).s.h o = some (mapV σ v, mapH σ s.h) from hsim]
          simp only []
          cases hn : Nat.beq s.h.n z.s.h.n with
          | true =>
            rw [hn] at h
            have hn' : ((mapH σ s.h).n == (mapO σ z).s.h.n) = true := by
              show (s.h.n == z.s.h.n) = true
              exact beq_iff_eq.2 (Nat.eq_of_beq_eq_true hn)
            rw [if_pos hn']
            simp only [cond_true] at h
            cases h
            simp only [mapO, putF_eq]
            congr 2
            · simp only [mapS, put_map]
            · cases looks o <;> rfl
          | false =>
            rw [hn] at h
            have hn' : ¬ ((mapH σ s.h).n == (mapO σ z).s.h.n) = true := by
              show ¬ (s.h.n == z.s.h.n) = true
              rw [beq_iff_eq]
              intro k; rw [k, Nat.beq_refl] at hn; cases hn
            rw [if_neg hn']
            simp only [cond_false] at h
            rw [show (mapH σ s.h).get? (mapO σ z).s.h.n = ((s.h).get? z.s.h.n).map (mapB σ) from mapH_get σ _ _]
            cases hb : s.h.get? z.s.h.n with
            | none => rw [hb] at h; cases h
            | some b =>
              rw [hb] at h
              cases h
              simp only [Option.map_some, mapO, putF_eq]
              congr 2
              simp only [mapS, put_map]
        · cases h
    | false =>
      rw [hs] at h
      simp only [cond_false] at h
      simp only [Bool.false_eq_true, if_false]
      cases hw : wantedB ops z.s.tm o with
      | false =>
        rw [hw] at h
        simp only [cond_false] at h
        cases h
        simp only [Bool.false_eq_true, if_false, mapO, hskip]; rfl
      | true =>
        rw [hw] at h
        simp only [cond_true] at h
        simp only [if_true]
        unfold openActO at h
        split at h
        · rename_i v s hop
          have hd := doOpO_sound σ hO N hop
          unfold openAct
          have e1 : ({ (mapO σ z).s with h := hide (unseen ps (mapO σ z).news i) (mapO σ z).s.h } : St) = mapS σ { z.s with h := hide (unseen ps z.news i) z.s.h } := by
            simp only [mapO, mapS, unseen_map, hide_map]
          rw [e1, hd]
          simp only [mapDid]
          split at h
          · rename_i hall
            have hall' : ((unseen ps (mapO σ z).news i).all fun p => ((mapS σ s).h.get? p.2.1).isSome) = true := by
              simp only [mapO, unseen_map, List.all_map]
              rw [← hall]
              congr 1
              funext p
              simp only [Function.comp, mapN, mapS, mapH_get, Option.isSome_map]
            rw [if_pos hall']
            cases h
            simp only [mapO, mapS, unseen_map, unhide_map, putF_eq, put_map, List.map_cons]
          · cases h
        · cases h

theorem fold_map {α : Type} (f g : Open → α → Option Open) (hfg : ∀ z i z1, f z i = some z1 → g (mapO σ z) i = some (mapO σ z1)) : ∀ (l : List α) (z z1 : Open), l.foldlM f z = some z1 → l.foldlM g (mapO σ z) = some (mapO σ z1) := by
  intro l
  induction l with
  | nil => intro z z1 h; cases h; rfl
  | cons i l ih =>
    intro z z1 h
    simp only [List.foldlM_cons] at h ⊢
    cases hf : f z i with
    | none => rw [hf] at h; cases h
    | some z2 =>
      rw [hf] at h
      rw [hfg _ _ _ hf]
      exact ih _ _ h

theorem same_map : ∀ (n : Nat) (a b : Value), same n a b = true → same n (mapV σ a) (mapV σ b) = true := by
  intro n
  induction n with
  | zero => intro a b h; simp [same] at h
  | succ n ih =>
    have arr : ∀ (l m : List Value), same.all2 n l m = true → same.all2 n (l.map (mapV σ)) (m.map (mapV σ)) = true := by
      intro l
      induction l with
      | nil => intro m h; cases m <;> first | rfl | cases h
      | cons a l ihl =>
        intro m h
        cases m with
        | nil => cases h
        | cons b m =>
          simp only [same.all2, Bool.and_eq_true, List.map_cons] at h ⊢
          exact ⟨ih _ _ h.1, ihl _ h.2⟩
    intro a b h
    cases a <;> cases b <;> simp only [same, mapV] at h ⊢ <;> (try (cases h; done)) <;> (try exact h)
    · simp only [Bool.and_eq_true, beq_iff_eq] at h ⊢; exact ⟨h.1, by rw [h.2]⟩
    · simp only [Bool.and_eq_true, Array.toList_map] at h ⊢; exact ⟨⟨h.1.1, arr _ _ h.1.2⟩, arr _ _ h.2⟩
    · simp only [Bool.and_eq_true] at h ⊢; exact ⟨h.1, ih _ _ h.2⟩
    · simp only [Array.toList_map]; exact arr _ _ h
    · simp only [Array.toList_map]; exact arr _ _ h

theorem within_map : ∀ (k n : Nat) (v : Value), within k n (mapV σ v) = within k n v := by
  intro k
  induction k with
  | zero => intro n v; rfl
  | succ k ih =>
    have arr : ∀ (n : Nat) (a : Array Value), ((a.map fun v => mapV σ v).toList.all (within k n)) = a.toList.all (within k n) := by
      intro n a
      rw [Array.toList_map, List.all_map]; congr 1; funext v; exact ih n v
    intro n v
    cases v with
    | func f a b => simp only [mapV, within, arr]
    | iface t v => simp only [mapV, within, ih]
    | agg cs => simp only [mapV, within, arr]
    | tuple cs => simp only [mapV, within, arr]
    | pointer a => simp only [mapV]
    | slice a n c => simp only [mapV]
    | map r => simp only [mapV]
    | _ => simp only [mapV, within]

theorem lookO_sound (hO : OrcOK σ O) {hs : List Heap} {l : Look} (h : lookO P O hs l = true) : lookOK P (hs.map (mapH σ)) (mapL σ l) = true := by
  unfold lookO at h
  unfold lookOK
  rw [List.all_eq_true] at h ⊢
  intro k hk
  rw [List.length_map] at hk
  have := h k hk
  simp only [List.length_map, List.getElem?_map]
  simp only [Bool.or_eq_true] at this ⊢
  rcases this with this | this
  · exact .inl this
  · refine .inr ?_
    cases hg : hs[hs.length - 1 - k]? with
    | none => rw [hg] at this; cases this
    | some h1 =>
      rw [hg] at this
      simp only [Option.map_some] at this ⊢
      split at this
      · rename_i v s hop
        simp only [Bool.and_eq_true, beq_iff_eq] at this
        have hd := doOpO_sound σ hO (noNames σ noRecs) hop
        obtain ⟨_, hsim⟩ := simple_of_doOp this.2 hd
        rw [show simpleB P (mapL σ l).tm (mapH σ h1) (mapL σ l).o = some (mapV σ v, mapH σ s.h) from hsim]
        simp only [Bool.and_eq_true, beq_iff_eq]
        exact ⟨⟨same_map σ _ _ _ this.1.1.1, this.1.1.2⟩, by rw [show (mapL σ l).v = mapV σ l.v from rfl, within_map]; exact this.1.2⟩
      · cases this

theorem openO_sound (hO : OrcOK σ O) (N : Names σ R R') {ops : Array Oper} {s : St} {e : Ex} {s1 : St} (h : openO P O R x ops s = some (e, s1)) : openOps P R' x ops (mapS σ s) = some (mapX σ e, mapS σ s1) := by
  unfold openO at h
  unfold openOps
  cases hok : openOK ops with
  | false => rw [hok] at h; cases h
  | true =>
    rw [hok] at h
    simp only [cond_true] at h
    simp only [if_true]
    split at h
    · rename_i z hz
      have hz' := fold_map σ _ (openStep P R' x ops (preds ops.toList)) (fun z i z1 hh => openStepO_sound σ hO N hh) _ _ _ hz
      rw [show (mapO σ { s, hs := [s.h], looks := [], news := [] }) = { s := mapS σ s, hs := [(mapS σ s).h], looks := [], news := [] } from rfl] at hz'
      rw [hz']
      cases hl : (Nat.ble z.hs.length 1 || z.looks.all (lookO P O z.hs)) with
      | false => rw [hl] at h; cases h
      | true =>
        rw [hl] at h
        cases h
        have : (decide ((mapO σ z).hs.length ≤ 1) || (mapO σ z).looks.all (lookOK P (mapO σ z).hs)) = true := by
          rw [Bool.or_eq_true] at hl ⊢
          rcases hl with hl | hl
          · exact .inl (by simpa [mapO] using hl)
          · refine .inr ?_
            rw [List.all_eq_true] at hl ⊢
            intro l hlm
            simp only [mapO, List.mem_map] at hlm
            obtain ⟨l0, h0, rfl⟩ := hlm
            exact lookO_sound σ hO (hl l0 h0)
        simp only []
        rw [if_pos this]; rfl
    · cases h

theorem resultB_map (tm : Array Value) (h : Heap) (r : ResultVar) : resultB P (tm.map (mapV σ)) (mapH σ h) r = (resultB P tm h r).map (mapV σ) := by
  cases r with
  | tmp t =>
    have := ev_map σ (tm := tm) (o := .tmp t) rfl
    simp only [ev] at this
    simp only [resultB, this, Option.map_some]
  | cell a t =>
    have := ev_map σ (tm := tm) (o := .tmp a) rfl
    simp only [ev] at this
    simp only [resultB, this, readB_map]

theorem mapM_map {α : Type} (f g : α → Option Value) (hfg : ∀ a, g a = (f a).map (mapV σ)) : ∀ l : List α, l.mapM g = (l.mapM f).map (List.map (mapV σ)) := by
  intro l
  induction l with
  | nil => rfl
  | cons a l ih =>
    simp only [List.mapM_cons, hfg, ih]
    cases f a with
    | none => rfl
    | some v => cases l.mapM f <;> rfl

theorem resultsB_map (fn : Func) (tm : Array Value) (h : Heap) : resultsB P fn (tm.map (mapV σ)) (mapH σ h) = (resultsB P fn tm h).map (mapV σ) := by
  unfold resultsB
  rw [mapM_map σ _ _ (fun r => resultB_map σ tm h r)]
  cases fn.results.toList.mapM (resultB P tm h) with
  | none => rfl
  | some vs =>
    simp only [Option.map_some]
    congr 1
    match vs with
    | [] => simp [mapV]
    | [v] => rfl
    | a :: b :: l => simp [mapV]

theorem codeO_sound (hO : OrcOK σ O) (N : Names σ R R') {c : Code} {s : St} {e : Ex} {s1 : St} (h : codeO P O R x c s = some (e, s1)) : codeF P R' x c (mapS σ s) = some (mapX σ e, mapS σ s1) := by
  cases c with
  | skip => cases h; rfl
  | label l => cases h; rfl
  | region id ops draw =>
    simp only [codeO, regionO] at h
    simp only [codeF]
    cases draw with
    | true => exact openO_sound σ hO N h
    | false =>
      simp only [cond_false] at h
      simp only [Bool.false_eq_true, if_false]
      rw [List.range_eq_range']
      exact seqO_sound σ hO N ops ops.size 0 (by omega) s e s1 (by rw [List.drop_zero]; exact h)
  | seq a b =>
    simp only [codeO, thenF] at h
    simp only [codeF]
    cases hr : R.code x a s with
    | none => rw [hr] at h; cases h
    | some p =>
      obtain ⟨e1, s2⟩ := p
      rw [N.code _ _ _ _ _ hr]
      rw [hr] at h
      cases e1 with
      | normal => exact N.code _ _ _ _ _ h
      | _ => cases h; rfl
  | cond c a b =>
    simp only [codeO, condF, evF_eq] at h
    simp only [codeF]
    have : ∀ t, ev s.tm c = .bool t → ev (mapS σ s).tm c = .bool t := by
      intro t ht
      cases c with
      | tmp i => rw [show ev (mapS σ s).tm (.tmp i) = mapV σ (ev s.tm (.tmp i)) from ev_map σ rfl, ht]; simp [mapV]
      | const v => exact ht
      | global g => exact ht
      | func f => exact ht
    cases hc : ev s.tm c with
    | bool t =>
      rw [hc] at h
      rw [this t hc]
      simp only [cond_eq_ite] at h ⊢
      exact N.code _ _ _ _ _ h
    | _ => rw [hc] at h; cases h
  | block id b =>
    simp only [codeO, blockF] at h
    simp only [codeF]
    cases hr : R.code x b s with
    | none => rw [hr] at h; cases h
    | some p =>
      obtain ⟨e1, s2⟩ := p
      rw [N.code _ _ _ _ _ hr]
      rw [hr] at h
      cases e1 with
      | exit i =>
        simp only [mapX] at h ⊢
        cases hi : Nat.beq i id with
        | true => rw [hi] at h; rw [if_pos (Nat.eq_of_beq_eq_true hi)]; cases h; rfl
        | false => rw [hi] at h; rw [if_neg (fun k => by rw [k, Nat.beq_refl] at hi; cases hi)]; cases h; rfl
      | _ => cases h; rfl
  | loop b =>
    simp only [codeO, thenF] at h
    simp only [codeF]
    cases hr : R.code x b s with
    | none => rw [hr] at h; cases h
    | some p =>
      obtain ⟨e1, s2⟩ := p
      rw [N.code _ _ _ _ _ hr]
      rw [hr] at h
      cases e1 with
      | normal => exact N.code _ _ _ _ _ h
      | _ => cases h; rfl
  | scope b => exact N.code _ _ _ _ _ h
  | exit id => cases h; rfl
  | ret => cases h; rfl
  | rangeFunc f p a b => cases h
  | goto l => cases h
  | refuse w => cases h

theorem callO_sound {kf : FuncId → Bool} {KO K : Known} (hK : ∀ f args v, KO f args = some v → K f (args.map (mapV σ)) = some (mapV σ v)) (hk : ∀ f args, kf f = false → K f args = none) (N : Names σ R R')
    {f : FuncId} {args : Array Value} {dfr : Bool} {up : FrameMode} {h : Heap} {e : End} {up1 : FrameMode} {h1 : Heap} (he : callO P kf KO R f args dfr up h = some (e, up1, h1)) :
    callF P K R' f (args.map (mapV σ)) dfr (mapU σ up) (mapH σ h) = some (mapEnd σ e, mapU σ up1, mapH σ h1) := by
  unfold callO at he
  unfold callF
  cases hkf : kf f with
  | true =>
    rw [hkf] at he
    simp only [cond_true] at he
    cases dfr with
    | true => cases he
    | false =>
      simp only [cond_false] at he
      cases hv : KO f args with
      | none => rw [hv] at he; cases he
      | some v =>
        rw [hv] at he
        cases he
        simp only [Bool.false_eq_true, if_false, hK _ _ _ hv]
        rfl
  | false =>
    rw [hkf] at he
    simp only [cond_false, bodyO] at he
    rw [show (if dfr = true then none else K f (args.map (mapV σ))) = none from by rw [hk _ _ hkf]; cases dfr <;> rfl]
    simp only []
    cases hf : P.funcs[f]? with
    | none => rw [hf] at he; cases he
    | some fn =>
      rw [hf] at he
      simp only [] at he ⊢
      cases hb : fn.body with
      | none => rw [hb] at he; cases he
      | some c =>
        rw [hb] at he
        simp only [] at he ⊢
        have e1 : ({ tm := args.map (mapV σ) ++ Array.replicate (fn.ntmps - (args.map (mapV σ)).size) undef, df := [], up := mapU σ up, h := mapH σ h } : St) = mapS σ { tm := ⟨appendF args.toList (undefs (fn.ntmps - args.size))⟩, df := [], up, h } := by
          simp only [mapS, List.map_nil]
          congr 1
          apply Array.ext'
          simp [appendF_eq, undefs_eq, mapV_undef]
        rw [e1]
        cases hr : R.code { fn := f, round := none, dfr } c { tm := ⟨appendF args.toList (undefs (fn.ntmps - args.size))⟩, df := [], up, h } with
        | none => rw [hr] at he; cases he
        | some p =>
          obtain ⟨ex, s⟩ := p
          rw [N.code _ _ _ _ _ hr]
          rw [hr] at he
          have hfin : (bif s.df.isEmpty then (resultsB P fn s.tm s.h).map fun v => (End.ret v, s.up, s.h) else none) = some (e, up1, h1) →
              ((leaveB P R' fn (mapS σ s).tm (mapS σ s).df .returning (mapS σ s).h).map fun (e, h) => (e, (mapS σ s).up, h)) = some (mapEnd σ e, mapU σ up1, mapH σ h1) := by
            intro hh
            cases hd : s.df with
            | nil =>
              rw [hd] at hh
              simp only [List.isEmpty_nil, cond_true] at hh
              simp only [mapS, hd, List.map_nil, leaveB, resultsB_map]
              cases hres : resultsB P fn s.tm s.h with
              | none => rw [hres] at hh; cases hh
              | some v => rw [hres] at hh; cases hh; rfl
            | cons a l => rw [hd] at hh; cases hh
          cases ex with
          | normal => exact hfin he
          | ret => exact hfin he
          | exit i => cases he
          | panic c => cases he

/-- What a reading with names comes to, the reading comes to. -/
theorem runO_sound {kf : FuncId → Bool} {KO K : Known} (hO : OrcOK σ O) (hK : ∀ f args v, KO f args = some v → K f (args.map (mapV σ)) = some (mapV σ v)) (hk : ∀ f args, kf f = false → K f args = none) : ∀ n, Names σ (runO P kf KO O n) (run P K n) := by
  intro n
  induction n with
  | zero => exact noNames σ _
  | succ n ih =>
    exact ⟨fun x c s e s1 h => codeO_sound σ hO ih h, fun f args dfr up h e up1 h1 he => callO_sound σ hK hk ih he, fun l args h e h1 he => (by cases he)⟩

end
end Go.AX

namespace Go.AX

/-! All paths of a call whose arguments bear names. -/

/-- The first name. -/
def T0 : Int := 1180591620717411303425
def sOf (ys : List Int) (n : Int) : Int := ys.getD (n - T0).toNat 0

inductive Res where
  | int (n : Int)
  | bool (b : Bool)
def Res.val : Res → Value
  | .int n => .int .i64 n
  | .bool b => .bool b
structure Entry where
  op : BinOp
  a : Int
  b : Int
  r : Res

def opN : BinOp → Nat
  | .add => 0 | .sub => 1 | .mul => 2 | .eql => 3 | .neq => 4 | .lss => 5 | .leq => 6 | .gtr => 7 | .geq => 8 | .quo => 9 | .rem => 10
  | .and => 11 | .or => 12 | .xor => 13 | .shl => 14 | .shr => 15 | .andNot => 16
theorem opN_inj {a b : BinOp} (h : opN a = opN b) : a = b := by cases a <;> cases b <;> simp [opN] at h <;> rfl

noncomputable def findE (op : BinOp) (a b : Int) : List Entry → Option Value := @List.rec Entry (fun _ => Option Value) none
  (fun e _ ih => bif Nat.beq (opN e.op) (opN op) && eqF e.a a && eqF e.b b then some e.r.val else ih)
/-- An answer, or the other one. -/
def flipV (neg : Bool) : Option Value → Option Value
  | some (.bool c) => some (.bool (bif neg then !c else c))
  | _ => none
noncomputable def askF (T : List Entry) (op : BinOp) (a b : Int) (neg : Bool) : Option Value := bif eqF a b then some (.bool (!neg)) else flipV neg (findE op a b T)
noncomputable def orc (T : List Entry) : Orc := fun op a b =>
  match op with
  | .leq => askF T .leq a b false
  | .geq => askF T .leq b a false
  | .lss => askF T .leq b a true
  | .gtr => askF T .leq a b true
  | .eql => askF T .eql a b false
  | .neq => askF T .eql a b true
  | _ => findE op a b T

def EntryOK (ys : List Int) (e : Entry) : Prop := binSem e.op (sg (sOf ys) e.a) (sg (sOf ys) e.b) = some (mapV (sOf ys) e.r.val)

theorem findE_ok {ys : List Int} : ∀ {T : List Entry}, (∀ e ∈ T, EntryOK ys e) → ∀ op a b v, findE op a b T = some v → binSem op (sg (sOf ys) a) (sg (sOf ys) b) = some (mapV (sOf ys) v) := by
  intro T
  induction T with
  | nil => intro _ op a b v h; cases h
  | cons e T ih =>
    intro hT op a b v h
    have h' : (bif Nat.beq (opN e.op) (opN op) && eqF e.a a && eqF e.b b then some e.r.val else findE op a b T) = some v := h
    cases hc : (Nat.beq (opN e.op) (opN op) && eqF e.a a && eqF e.b b) with
    | false => rw [hc] at h'; exact ih (fun e he => hT e (List.mem_cons_of_mem _ he)) op a b v h'
    | true =>
      rw [hc] at h'
      simp only [cond_true] at h'
      cases h'
      simp only [Bool.and_eq_true, eqF_eq, beq_iff_eq] at hc
      obtain ⟨⟨h1, h2⟩, h3⟩ := hc
      have h1' := opN_inj (Nat.eq_of_beq_eq_true h1)
      subst h1'; subst h2; subst h3
      exact hT e (List.mem_cons_self ..)

theorem askF_ok {ys : List Int} {T : List Entry} (hT : ∀ e ∈ T, EntryOK ys e) {op : BinOp} (hop : op = .leq ∨ op = .eql) {a b : Int} {neg : Bool} {v : Value} (h : askF T op a b neg = some v) :
    ∃ c, v = .bool (bif neg then !c else c) ∧ binSem op (sg (sOf ys) a) (sg (sOf ys) b) = some (.bool c) := by
  unfold askF at h
  cases he : eqF a b with
  | true =>
    rw [he] at h
    rw [eqF_eq, beq_iff_eq] at he
    subst he
    cases h
    refine ⟨true, by cases neg <;> rfl, ?_⟩
    rcases hop with rfl | rfl <;> simp [binSem]
  | false =>
    rw [he] at h
    simp only [cond_false] at h
    cases hf : findE op a b T with
    | none => rw [hf] at h; cases h
    | some w =>
      rw [hf] at h
      have := findE_ok hT op a b w hf
      cases w with
      | bool c => cases h; exact ⟨c, rfl, by simpa [mapV] using this⟩
      | _ => cases h

theorem orc_ok {ys : List Int} {T : List Entry} (hT : ∀ e ∈ T, EntryOK ys e) : OrcOK (sOf ys) (orc T) := by
  intro op a b v h
  cases op with
  | leq => obtain ⟨c, rfl, hc⟩ := askF_ok hT (.inl rfl) h; simpa [mapV] using hc
  | geq =>
    obtain ⟨c, rfl, hc⟩ := askF_ok hT (.inl rfl) h
    simp only [binSem, Option.some.injEq, Value.bool.injEq] at hc
    subst hc
    simp [mapV, binSem]
  | lss =>
    obtain ⟨c, rfl, hc⟩ := askF_ok hT (.inl rfl) h
    simp only [binSem, Option.some.injEq, Value.bool.injEq] at hc
    subst hc
    simp only [mapV, binSem, cond_true, Option.some.injEq, Value.bool.injEq]
    rw [Bool.eq_iff_iff]; simp
  | gtr =>
    obtain ⟨c, rfl, hc⟩ := askF_ok hT (.inl rfl) h
    simp only [binSem, Option.some.injEq, Value.bool.injEq] at hc
    subst hc
    simp only [mapV, binSem, cond_true, Option.some.injEq, Value.bool.injEq]
    rw [Bool.eq_iff_iff]; simp
  | eql => obtain ⟨c, rfl, hc⟩ := askF_ok hT (.inr rfl) h; simpa [mapV] using hc
  | neq =>
    obtain ⟨c, rfl, hc⟩ := askF_ok hT (.inr rfl) h
    simp only [binSem, Option.some.injEq, Value.bool.injEq] at hc
    subst hc
    simp only [mapV, binSem, cond_true]; rfl
  | _ => exact findE_ok hT _ a b v h

/-- A number, or one of so many names. -/
def named (n : Nat) (a : Int) : Bool := isLit a || (ltF a (T0 + n) && !(ltF a T0))

theorem named_ext {ys : List Int} (l : List Int) {a : Int} (h : named ys.length a = true) : sg (sOf (ys ++ l)) a = sg (sOf ys) a := by
  unfold sg
  cases hl : isLit a with
  | true => rfl
  | false =>
    simp only [cond_false, sOf]
    unfold named at h
    rw [hl] at h
    simp only [Bool.false_or, ltF_eq, Bool.and_eq_true, decide_eq_true_eq, Bool.not_eq_true', decide_eq_false_iff_not] at h
    have : (a - T0).toNat < ys.length := by omega
    rw [List.getD_eq_getElem?_getD, List.getD_eq_getElem?_getD, List.getElem?_append_left this]

def resIn (n : Nat) : Res → Bool
  | .int m => named n m
  | .bool _ => true
def entryIn (n : Nat) (e : Entry) : Bool := named n e.a && named n e.b && resIn n e.r

theorem named_mono {n m : Nat} (h : n ≤ m) {a : Int} (k : named n a = true) : named m a = true := by
  unfold named at *
  cases hl : isLit a with
  | true => rfl
  | false =>
    rw [hl] at k
    simp only [Bool.false_or, ltF_eq, Bool.and_eq_true, decide_eq_true_eq, Bool.not_eq_true', decide_eq_false_iff_not] at k ⊢
    omega

/-- The entries hold. -/
def Cons (ys : List Int) (T : List Entry) : Prop := ∀ e ∈ T, EntryOK ys e ∧ entryIn ys.length e = true

theorem mapV_ext {ys : List Int} (l : List Int) {r : Res} (h : resIn ys.length r = true) : mapV (sOf (ys ++ l)) r.val = mapV (sOf ys) r.val := by
  cases r with
  | int m => simp only [Res.val, mapV, named_ext l h]
  | bool b => simp [Res.val, mapV]

theorem Cons.ext {ys : List Int} {T : List Entry} (h : Cons ys T) (l : List Int) : Cons (ys ++ l) T := by
  intro e he
  obtain ⟨h1, h2⟩ := h e he
  unfold entryIn at h2
  simp only [Bool.and_eq_true] at h2
  refine ⟨?_, ?_⟩
  · unfold EntryOK
    rw [named_ext l h2.1.1, named_ext l h2.1.2, mapV_ext l h2.2]
    exact h1
  · unfold entryIn
    have hl : ys.length ≤ (ys ++ l).length := by simp
    have h3 : resIn (ys ++ l).length e.r = true := by
      cases hr : e.r with
      | int m => rw [hr] at h2; exact named_mono hl h2.2
      | bool b => rfl
    rw [named_mono hl h2.1.1, named_mono hl h2.1.2, h3]; rfl

theorem Cons.cons {ys : List Int} {T : List Entry} {e : Entry} (h : Cons ys T) (h1 : EntryOK ys e) (h2 : entryIn ys.length e = true) : Cons ys (e :: T) := by
  intro x hx
  rcases List.mem_cons.1 hx with rfl | hx
  · exact ⟨h1, h2⟩
  · exact h x hx

/-- The paths: a name for a number, a question, a question whose answer is plain, an end, an end that is left open. -/
inductive Tree where
  | leaf
  | stop
  | dfn (op : BinOp) (a b : Int) (t : Tree)
  | cmp (op : BinOp) (a b : Int) (t f : Tree)

def isArith : BinOp → Bool
  | .add | .sub | .mul => true
  | _ => false
def isCmp : BinOp → Bool
  | .eql | .leq => true
  | _ => false

def Tree.ok (leaf : List Entry → Bool) : Tree → Nat → List Entry → Bool
  | .leaf, _, T => leaf T
  | .stop, _, _ => true
  | .dfn op a b t, n, T => isArith op && named n a && named n b && t.ok leaf (n + 1) (⟨op, a, b, .int (T0 + n)⟩ :: T)
  | .cmp op a b t f, n, T => isCmp op && named n a && named n b && t.ok leaf n (⟨op, a, b, .bool true⟩ :: T) && f.ok leaf n (⟨op, a, b, .bool false⟩ :: T)

/-- What is known at the open ends. -/
def Tree.stops : Tree → Nat → List Entry → List (List Entry)
  | .leaf, _, _ => []
  | .stop, _, T => [T]
  | .dfn op a b t, n, T => t.stops (n + 1) (⟨op, a, b, .int (T0 + n)⟩ :: T)
  | .cmp op a b t f, n, T => t.stops n (⟨op, a, b, .bool true⟩ :: T) ++ f.stops n (⟨op, a, b, .bool false⟩ :: T)

theorem named_last (n : Nat) : named (n + 1) (T0 + n) = true := by
  unfold named
  simp only [ltF_eq, Bool.or_eq_true, Bool.and_eq_true, decide_eq_true_eq, Bool.not_eq_true', decide_eq_false_iff_not]
  right; constructor <;> omega

theorem sg_last (ys : List Int) (y : Int) : sg (sOf (ys ++ [y])) (T0 + ys.length) = y := by
  have hl : isLit (T0 + ys.length) = false := by
    show Nat.ble (1180591620717411303425 + ys.length) 1180591620717411303424 = false
    rw [Bool.eq_false_iff]; intro h; rw [Nat.ble_eq] at h; omega
  unfold sg
  rw [hl]
  simp only [cond_false, sOf]
  rw [show (T0 + (ys.length : Int) - T0).toNat = ys.length from by omega]
  simp [List.getD_eq_getElem?_getD]

theorem tree_sound {leaf : List Entry → Bool} {C : Prop} : ∀ (t : Tree) (ys : List Int) (T : List Entry), t.ok leaf ys.length T = true → Cons ys T →
    (∀ l T', leaf T' = true → Cons (ys ++ l) T' → C) → (∀ l T', T' ∈ t.stops ys.length T → Cons (ys ++ l) T' → C) → C := by
  intro t
  induction t with
  | leaf => intro ys T h hT hl hs; exact hl [] T h (by rwa [List.append_nil])
  | stop => intro ys T h hT hl hs; exact hs [] T (by simp [Tree.stops]) (by rwa [List.append_nil])
  | dfn op a b t ih =>
    intro ys T h hT hl hs
    simp only [Tree.ok, Bool.and_eq_true] at h
    obtain ⟨⟨⟨h1, h2⟩, h3⟩, h4⟩ := h
    have : ∃ y, binSem op (sg (sOf ys) a) (sg (sOf ys) b) = some (.int .i64 y) := by
      cases op <;> first | (cases h1; done) | exact ⟨_, rfl⟩
    obtain ⟨y, hy⟩ := this
    refine ih (ys ++ [y]) (⟨op, a, b, .int (T0 + ys.length)⟩ :: T) (by simpa using h4) ((hT.ext [y]).cons ?_ ?_) (fun l T' q1 q2 => hl (y :: l) T' q1 (by simpa using q2)) (fun l T' q1 q2 => hs (y :: l) T' (by simpa [Tree.stops] using q1) (by simpa using q2))
    · unfold EntryOK
      rw [named_ext [y] h2, named_ext [y] h3, hy]
      simp only [Res.val, mapV, sg_last]
    · simp only [entryIn, resIn, List.length_append, List.length_cons, List.length_nil, Nat.zero_add, named_mono (Nat.le_succ _) h2, named_mono (Nat.le_succ _) h3, named_last, Bool.and_self]
  | cmp op a b t f iht ihf =>
    intro ys T h hT hl hs
    simp only [Tree.ok, Bool.and_eq_true] at h
    obtain ⟨⟨⟨⟨h1, h2⟩, h3⟩, h4⟩, h5⟩ := h
    have : ∃ c, binSem op (sg (sOf ys) a) (sg (sOf ys) b) = some (.bool c) := by
      cases op <;> first | (cases h1; done) | exact ⟨_, rfl⟩
    obtain ⟨c, hc⟩ := this
    have hin : ∀ c, entryIn ys.length ⟨op, a, b, .bool c⟩ = true := fun c => by simp [entryIn, resIn, h2, h3]
    cases c with
    | true =>
      exact iht ys _ h4 (hT.cons (by unfold EntryOK; simp only [Res.val, mapV]; exact hc) (hin _)) hl (fun l T' q1 q2 => hs l T' (by simp only [Tree.stops, List.mem_append]; exact .inl q1) q2)
    | false =>
      exact ihf ys _ h5 (hT.cons (by unfold EntryOK; simp only [Res.val, mapV]; exact hc) (hin _)) hl (fun l T' q1 q2 => hs l T' (by simp only [Tree.stops, List.mem_append]; exact .inr q1) q2)

/-- Did the call return true? -/
def retT (r : Option (End × FrameMode × Heap)) : Bool :=
  match r with
  | some (.ret (.bool b), .run, _) => b
  | _ => false

/-- The call's reading at one path. -/
noncomputable def leafOK (P : Program) (kf : FuncId → Bool) (KO : Known) (n : Nat) (f : FuncId) (args : Array Value) (h : Heap) (T : List Entry) : Bool := retT ((runO P kf KO (orc T) n).call f args false .run h)

theorem leaf_run {P : Program} {kf : FuncId → Bool} {KO K : Known} {n : Nat} {f : FuncId} {args : Array Value} {h : Heap} {T : List Entry} {ys : List Int}
    (hK : ∀ f args v, KO f args = some v → K f (args.map (mapV (sOf ys))) = some (mapV (sOf ys) v)) (hk : ∀ f args, kf f = false → K f args = none) (hT : Cons ys T) (he : leafOK P kf KO n f args h T = true) :
    ∃ h1, (run P K n).call f (args.map (mapV (sOf ys))) false .run (mapH (sOf ys) h) = some (.ret (.bool true), .run, h1) := by
  unfold leafOK retT at he
  split at he
  · rename_i b h1 hr
    subst he
    have := (runO_sound (sOf ys) (orc_ok fun e k => (hT e k).1) hK hk n).call _ _ _ _ _ _ _ _ hr
    exact ⟨_, by simpa [mapU, mapEnd, mapV] using this⟩
  · cases he

end Go.AX
