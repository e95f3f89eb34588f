/- What a code brings about, told by what is known of its temporaries: rules for codes and operations. -/
import Derived.Test.YtjdopbcoaocllaaGreatDoorAxD
import Derived.Test.YtjdopbcoaocllaaGreatDoorAxE
namespace Go.AX
structure Leq (R R' : Recs) : Prop where
  code : ∀ x c s r, R.code x c s = some r → R'.code x c s = some r
  call : ∀ f a d u h r, R.call f a d u h = some r → R'.call f a d u h = some r
  round : ∀ l a h r, R.round l a h = some r → R'.round l a h = some r
section
variable {P : Program} {K : Known} {R R' : Recs}
theorem zct (L : Leq R R') {x : Ctx} {s : St} {o : Oper} {r : Did × St} (h : doOp P R x s o = some r) : doOp P R' x s o = some r := by
  unfold doOp at h ⊢
  cases h0 : !(opsOK P o) with
  | true => rw [h0] at h; cases h
  | false =>
  rw [h0] at h
  simp only [Bool.false_eq_true, if_false] at h ⊢
  cases h1 : simpleB P s.tm s.h o with
  | some q => rw [h1] at h; exact h
  | none =>
  rw [h1] at h
  simp only at h ⊢
  cases h2 : isSimple o with
  | true => rw [h2] at h; cases h
  | false =>
  rw [h2] at h
  simp only [Bool.false_eq_true, if_false] at h ⊢
  cases h3 : effectB P s.tm s.h o with
  | none => rw [h3] at h; cases h
  | some q =>
  rw [h3] at h
  obtain ⟨ot, h'⟩ := q
  cases ot with
  | val v => exact h
  | enter f args =>
    simp only at h ⊢
    cases hc : R.call f args false .run h' with
    | none => rw [hc] at h; cases h
    | some q => rw [L.call _ _ _ _ _ _ hc]; rw [hc] at h; exact h
  | round l args =>
    simp only at h ⊢
    cases hc : R.round l args h' with
    | none => rw [hc] at h; cases h
    | some q => rw [L.round _ _ _ _ hc]; rw [hc] at h; exact h
  | defer d => exact h
  | recover => exact h
  | panic v => exact h
theorem zb8 (L : Leq R R') {x : Ctx} {ops : Array Oper} : ∀ (l : List Nat) (s : St) (r : Ex × St), seqOps P R x ops l s = some r → seqOps P R' x ops l s = some r := by
  intro l
  induction l with
  | nil => intro s r h; exact h
  | cons i l ih =>
    intro s r h
    simp only [seqOps] at h ⊢
    cases ho : ops[i]? with
    | none => rw [ho] at h; cases h
    | some o =>
      rw [ho] at h
      simp only at h ⊢
      split at h
      · rename_i hw
        rw [if_pos hw]
        cases hd : doOp P R x s o with
        | none => rw [hd] at h; cases h
        | some q =>
          rw [hd] at h
          rw [zct L hd]
          obtain ⟨d, s1⟩ := q
          cases d with
          | val v => exact ih _ _ h
          | panic c => exact h
      · rename_i hw
        rw [if_neg hw]
        exact ih _ _ h
theorem zga (L : Leq R R') {x : Ctx} {ps : List (List Nat)} {z : Open} {i : Nat} {o : Oper} {r : Open} (h : openAct P R x ps z i o = some r) : openAct P R' x ps z i o = some r := by
  unfold openAct at h ⊢
  split at h
  · rename_i hd; rw [zct L hd]; exact h
  · cases h
theorem zbs (L : Leq R R') {x : Ctx} {ops : Array Oper} {ps : List (List Nat)} {z : Open} {i : Nat} {r : Open} (h : openStep P R x ops ps z i = some r) : openStep P R' x ops ps z i = some r := by
  unfold openStep at h ⊢
  split at h
  · cases h
  · rename_i ho
    split at h
    · rename_i hs; rw [if_pos hs]; exact h
    · rename_i hs
      rw [if_neg hs]
      split at h
      · rename_i hw; rw [if_pos hw]; exact zga L h
      · rename_i hw; rw [if_neg hw]; exact h
theorem zcL {α β : Type} {f g : α → β → Option α} (h : ∀ a b r, f a b = some r → g a b = some r) : ∀ (l : List β) (a r : α), l.foldlM f a = some r → l.foldlM g a = some r := by
  intro l
  induction l with
  | nil => intro a r e; exact e
  | cons b l ih =>
    intro a r e
    simp only [List.foldlM_cons, Option.bind_eq_bind, Option.bind_eq_some_iff] at e ⊢
    obtain ⟨a1, h1, h2⟩ := e
    exact ⟨a1, h _ _ _ h1, ih _ _ h2⟩
theorem zf9 (L : Leq R R') {x : Ctx} {ops : Array Oper} {s : St} {r : Ex × St} (h : openOps P R x ops s = some r) : openOps P R' x ops s = some r := by
  unfold openOps at h ⊢
  split at h
  · rename_i hk
    rw [if_pos hk]
    split at h
    · rename_i z hz
      rw [zcL (fun a b r => zbs L) _ _ _ hz]
      exact h
    · cases h
  · cases h
theorem zeB (L : Leq R R') {x : Ctx} {s : St} {f : Operand} {params : Array Tmp} {assign body : Code} {r : Ex × St} (h : rangeFuncB P R x s f params assign body = some r) : rangeFuncB P R' x s f params assign body = some r := by
  unfold rangeFuncB at h ⊢
  split at h
  · cases h
  · rename_i l mark h' he
    dsimp only at h ⊢
    split at h
    · cases h
    · rename_i hf
      rw [if_neg hf]
      split at h
      · rename_i g args hc
        split at h
        · rename_i v u h1 hr
          rw [L.call _ _ _ _ _ _ hr]
          simp only
          split at h
          · rename_i r0 hl
            (try simp only [hl])
            split at h
            · cases h
            · rename_i hb
              rw [if_neg hb]
              split at h
              · exact h
              · exact L.code _ _ _ _ h
          · cases h
        · rename_i c u h1 hr; rw [L.call _ _ _ _ _ _ hr]; exact h
        · cases h
      · cases h
theorem zjB (L : Leq R R') {x : Ctx} {c : Code} {s : St} {r : Ex × St} (h : codeF P R x c s = some r) : codeF P R' x c s = some r := by
  cases c with
  | skip => exact h
  | label l => exact h
  | region id ops draw =>
    simp only [codeF] at h ⊢
    split at h
    · rename_i hd; rw [if_pos hd]; exact zf9 L h
    · rename_i hd; rw [if_neg hd]; exact zb8 L _ _ _ h
  | seq a b =>
    simp only [codeF] at h ⊢
    cases ha : R.code x a s with
    | none => rw [ha] at h; cases h
    | some q =>
      rw [L.code _ _ _ _ ha]
      rw [ha] at h
      obtain ⟨e, s1⟩ := q
      cases e with
      | normal => exact L.code _ _ _ _ h
      | _ => exact h
  | cond c a b =>
    simp only [codeF] at h ⊢
    split at h
    · rename_i t ht; exact L.code _ _ _ _ h
    · cases h
  | block id b =>
    simp only [codeF] at h ⊢
    cases ha : R.code x b s with
    | none => rw [ha] at h; cases h
    | some q => rw [L.code _ _ _ _ ha]; rw [ha] at h; exact h
  | loop b =>
    simp only [codeF] at h ⊢
    cases ha : R.code x b s with
    | none => rw [ha] at h; cases h
    | some q =>
      rw [L.code _ _ _ _ ha]
      rw [ha] at h
      obtain ⟨e, s1⟩ := q
      cases e with
      | normal => exact L.code _ _ _ _ h
      | _ => exact h
  | scope b => exact L.code _ _ _ _ h
  | exit id => exact h
  | ret => exact h
  | rangeFunc f p a b => exact zeB L h
  | goto l => cases h
  | refuse w => cases h
theorem zbt (L : Leq R R') {fn : Func} {tm : Array Value} : ∀ (ds : List Deferred) (u : FrameMode) (h : Heap) (r : End × Heap), leaveB P R fn tm ds u h = some r → leaveB P R' fn tm ds u h = some r := by
  intro ds
  induction ds with
  | nil => intro u h r e; cases u <;> exact e
  | cons d ds ih =>
    intro u h r e
    unfold leaveB at e ⊢
    split at e
    · cases e
    · rename_i hu
      rw [if_neg hu]
      split at e
      · rename_i l hd
        (try simp only [hd])
        split at e
        · rename_i hg; (try simp only [hg]); exact ih _ _ _ e
        · cases e
      · rename_i g captured hd
        (try simp only [hd])
        split at e
        · rename_i g' args hc
          (try simp only [hc])
          split at e
          · rename_i v u1 h1 hr; rw [L.call _ _ _ _ _ _ hr]; exact ih _ _ _ e
          · rename_i c u1 h1 hr; rw [L.call _ _ _ _ _ _ hr]; exact ih _ _ _ e
          · cases e
        · cases e
      · cases e
theorem zjD (L : Leq R R') {f : FuncId} {args : Array Value} {dfr : Bool} {up : FrameMode} {h : Heap} {r : End × FrameMode × Heap} (e : callF P K R f args dfr up h = some r) : callF P K R' f args dfr up h = some r := by
  unfold callF at e ⊢
  split at e
  · rename_i hk; exact e
  · rename_i hk
    simp only
    split at e
    · cases e
    · rename_i fn hf
      split at e
      · cases e
      · rename_i c hb
        split at e
        · rename_i s hr
          rw [L.code _ _ _ _ hr]
          simp only [Option.map_eq_some_iff] at e ⊢
          obtain ⟨q, h1, h2⟩ := e
          exact ⟨q, zbt L _ _ _ _ h1, h2⟩
        · rename_i s hr
          rw [L.code _ _ _ _ hr]
          simp only [Option.map_eq_some_iff] at e ⊢
          obtain ⟨q, h1, h2⟩ := e
          exact ⟨q, zbt L _ _ _ _ h1, h2⟩
        · rename_i ch s hr
          rw [L.code _ _ _ _ hr]
          simp only [Option.map_eq_some_iff] at e ⊢
          obtain ⟨q, h1, h2⟩ := e
          exact ⟨q, zbt L _ _ _ _ h1, h2⟩
        · cases e
theorem zg4 (L : Leq R R') {l : Nat} {args : Array Value} {h : Heap} {r : End × Heap} (e : roundF P R l args h = some r) : roundF P R' l args h = some r := by
  unfold roundF at e ⊢
  split at e
  · cases e
  · rename_i r0 hl
    split at e
    · cases e
    · rename_i hs
      rw [if_neg hs]
      split at e
      · rename_i s hr
        rw [L.code _ _ _ _ hr]
        simp only
        split at e
        · rename_i r1 hl1
          (try simp only [hl1])
          split at e
          · rename_i hst
            rw [if_pos hst]
            split at e
            · rename_i hb; rw [L.code _ _ _ _ hb]; exact e
            · rename_i hb; rw [L.code _ _ _ _ hb]; exact e
            · rename_i hb; rw [L.code _ _ _ _ hb]; exact e
            · rename_i hb; rw [L.code _ _ _ _ hb]; exact e
            · cases e
          · cases e
        · cases e
      · cases e
theorem run_leq (P : Program) (K : Known) : ∀ n, Leq (run P K n) (run P K (n + 1)) := by
  intro n
  induction n with
  | zero => exact ⟨fun _ _ _ _ h => (nomatch h), fun _ _ _ _ _ _ h => (nomatch h), fun _ _ _ _ h => (nomatch h)⟩
  | succ n ih => exact ⟨fun x c s r h => zjB ih h, fun f a d u h r e => zjD ih e, fun l a h r e => zg4 ih e⟩
theorem Leq.refl (R : Recs) : Leq R R := ⟨fun _ _ _ _ h => h, fun _ _ _ _ _ _ h => h, fun _ _ _ _ h => h⟩
theorem Leq.trans {A B C : Recs} (h : Leq A B) (k : Leq B C) : Leq A C := ⟨fun _ _ _ _ e => k.code _ _ _ _ (h.code _ _ _ _ e), fun _ _ _ _ _ _ e => k.call _ _ _ _ _ _ (h.call _ _ _ _ _ _ e), fun _ _ _ _ e => k.round _ _ _ _ (h.round _ _ _ _ e)⟩
theorem zas (P : Program) (K : Known) {n m : Nat} (h : n ≤ m) : Leq (run P K n) (run P K m) := by
  obtain ⟨d, rfl⟩ := Nat.exists_eq_add_of_le h
  induction d with
  | zero => exact Leq.refl _
  | succ d ih => exact (ih (Nat.le_add_right _ _)).trans (run_leq P K _)
end
end Go.AX

namespace Go.AX
abbrev Env := List (Nat × Value)
def Env.get : Env → Nat → Option Value
  | [], _ => none
  | (a, v) :: E, t => bif Nat.beq a t then some v else Env.get E t
structure EnvOK (N : Nat) (E : Env) (tm : Array Value) : Prop where
  size : tm.size = N
  get : ∀ t v, E.get t = some v → tm[t]? = some v
theorem zbl {a b : Nat} (h : Nat.blt a b = true) : a < b := Nat.le_of_ble_eq_true h
theorem EnvOK.put {N : Nat} {E : Env} {tm : Array Value} (h : EnvOK N E tm) {d : Nat} (hd : d < N) (v : Value) : EnvOK N ((d, v) :: E) (put tm (some d) v) where
  size := by simp [AX.put, h.size]
  get := fun t u e => by
    simp only [Env.get] at e
    simp only [AX.put, Array.getElem?_setIfInBounds]
    cases hc : Nat.beq d t with
    | true =>
      rw [hc] at e
      have := Nat.eq_of_beq_eq_true hc
      subst this
      simp only [cond_true] at e
      cases e
      rw [if_pos rfl, if_pos (by rw [h.size]; exact hd)]
    | false =>
      rw [hc] at e
      simp only [cond_false] at e
      rw [if_neg (fun k => by rw [k, Nat.beq_refl] at hc; cases hc)]
      exact h.get _ _ e
theorem EnvOK.sub {N : Nat} {E E' : Env} {tm : Array Value} (h : EnvOK N E tm) (hs : ∀ p ∈ E', E.get p.1 = some p.2) : EnvOK N E' tm where
  size := h.size
  get := fun t v e => by
    refine h.get t v ?_
    have : ∀ E' : Env, Env.get E' t = some v → (t, v) ∈ E' := by
      intro E'
      induction E' with
      | nil => intro e; cases e
      | cons p E' ih =>
        intro e
        obtain ⟨a, u⟩ := p
        simp only [Env.get] at e
        cases hc : Nat.beq a t with
        | true =>
          rw [hc] at e
          have := Nat.eq_of_beq_eq_true hc
          subst this
          cases e
          exact List.mem_cons_self ..
        | false => rw [hc] at e; exact List.mem_cons_of_mem _ (ih e)
    exact hs _ (this E' e)
def Env.ev (E : Env) : Operand → Option Value
  | .tmp t => E.get t
  | .const v => some v
  | .global g => some (.pointer (some ⟨g, 0, none⟩))
  | .func f => some (.func (.func f) #[] #[])
theorem EnvOK.ev {N : Nat} {E : Env} {tm : Array Value} (h : EnvOK N E tm) {o : Operand} {v : Value} (e : E.ev o = some v) : AX.ev tm o = v := by
  cases o with
  | tmp t =>
    have := h.get t v e
    simp [AX.ev, Array.getD_eq_getD_getElem?, this]
  | const c => cases e; rfl
  | global g => cases e; rfl
  | func f => cases e; rfl
def Env.evs (E : Env) : List Operand → Option (List Value)
  | [] => some []
  | o :: l => match E.ev o, Env.evs E l with
    | some v, some vs => some (v :: vs)
    | _, _ => none
theorem EnvOK.evs {N : Nat} {E : Env} {tm : Array Value} (h : EnvOK N E tm) : ∀ {l : List Operand} {vs : List Value}, E.evs l = some vs → l.map (AX.ev tm) = vs := by
  intro l
  induction l with
  | nil => intro vs e; cases e; rfl
  | cons o l ih =>
    intro vs e
    simp only [Env.evs] at e
    split at e
    · rename_i v vs' h1 h2
      cases e
      rw [List.map_cons, h.ev h1, ih h2]
    · cases e
def CallW (P : Program) (K : Known) (f : FuncId) (args : Array Value) (h : Heap) (G : Value → Heap → Prop) : Prop :=
  ∃ n v h1, (run P K n).call f args false .run h = some (.ret v, .run, h1) ∧ G v h1
theorem CallW.mono {P : Program} {K : Known} {f : FuncId} {args : Array Value} {h : Heap} {G G' : Value → Heap → Prop} (c : CallW P K f args h G) (k : ∀ v h1, G v h1 → G' v h1) : CallW P K f args h G' := by
  obtain ⟨n, v, h1, a, b⟩ := c
  exact ⟨n, v, h1, a, k _ _ b⟩
theorem CallW.of_known {P : Program} {K : Known} {f : FuncId} {args : Array Value} {h : Heap} {G : Value → Heap → Prop} {v : Value} {l : List (List Value × TypeId)} (hk : K f args h = some (v, l)) (g : G v (pushAll h l)) : CallW P K f args h G := by
  refine ⟨1, v, pushAll h l, ?_, g⟩
  show callF P K (run P K 0) f args false .run h = _
  unfold callF
  simp only [Bool.false_eq_true, if_false, hk]
section
variable {P : Program} {K : Known} {x : Ctx} {N : Nat}
def W (P : Program) (K : Known) (x : Ctx) (N : Nat) (c : Code) (E : Env) (h : Heap) (Q : Ex → Env → Heap → Prop) : Prop :=
  ∀ tm D U, EnvOK N E tm → ∃ n e tm' h' E', (run P K n).code x c ⟨tm, D, U, h⟩ = some (e, ⟨tm', D, U, h'⟩) ∧ EnvOK N E' tm' ∧ Q e E' h'
inductive Kt where
  | seq (b : Code)
  | block (id : Nat)
  | loop (b : Code)
def Cont (P : Program) (K : Known) (x : Ctx) (N : Nat) (Q : Ex → Env → Heap → Prop) : List Kt → Ex → Env → Heap → Prop
  | [], e, E, h => Q e E h
  | .seq b :: ks, e, E, h => match e with
    | .normal => W P K x N b E h (Cont P K x N Q ks)
    | e => Cont P K x N Q ks e E h
  | .block id :: ks, e, E, h => match e with
    | .exit i => if i = id then Cont P K x N Q ks .normal E h else Cont P K x N Q ks (.exit i) E h
    | e => Cont P K x N Q ks e E h
  | .loop b :: ks, e, E, h => match e with
    | .normal => W P K x N (.loop b) E h (Cont P K x N Q ks)
    | e => Cont P K x N Q ks e E h
def WK (P : Program) (K : Known) (x : Ctx) (N : Nat) (Q : Ex → Env → Heap → Prop) (c : Code) (ks : List Kt) (E : Env) (h : Heap) : Prop := W P K x N c E h (Cont P K x N Q ks)
variable {Q : Ex → Env → Heap → Prop} {ks : List Kt} {E : Env} {h : Heap}
theorem zbm (n : Nat) (c : Code) (s : St) : (run P K (n + 1)).code x c s = codeF P (run P K n) x c s := rfl
theorem W_seq {a b : Code} (H : WK P K x N Q a (.seq b :: ks) E h) : WK P K x N Q (.seq a b) ks E h := by
  intro tm D U hE
  obtain ⟨n, e, tm1, h1, E1, hr, hE1, hc⟩ := H tm D U hE
  have other : e ≠ .normal → ∃ n e tm' h' E', (run P K n).code x (.seq a b) ⟨tm, D, U, h⟩ = some (e, ⟨tm', D, U, h'⟩) ∧ EnvOK N E' tm' ∧ Cont P K x N Q ks e E' h' := by
    intro hne
    refine ⟨n + 1, e, tm1, h1, E1, ?_, hE1, ?_⟩
    · rw [zbm]; simp only [codeF, hr]
      cases e <;> first | rfl | exact absurd rfl hne
    · cases e <;> first | exact hc | exact absurd rfl hne
  cases e with
  | normal =>
    obtain ⟨m, e2, tm2, h2, E2, hr2, hE2, hc2⟩ := (show W P K x N b E1 h1 (Cont P K x N Q ks) from hc) tm1 D U hE1
    refine ⟨max n m + 1, e2, tm2, h2, E2, ?_, hE2, hc2⟩
    rw [zbm]
    simp only [codeF]
    rw [(zas P K (Nat.le_max_left n m)).code _ _ _ _ hr]
    exact (zas P K (Nat.le_max_right n m)).code _ _ _ _ hr2
  | _ => exact other (by intro q; cases q)
theorem W_skip (H : Cont P K x N Q ks .normal E h) : WK P K x N Q .skip ks E h := fun tm _ _ hE => ⟨1, .normal, tm, h, E, rfl, hE, H⟩
theorem W_exit {id : Nat} (H : Cont P K x N Q ks (.exit id) E h) : WK P K x N Q (.exit id) ks E h := fun tm _ _ hE => ⟨1, .exit id, tm, h, E, rfl, hE, H⟩
theorem W_ret (H : Cont P K x N Q ks .ret E h) : WK P K x N Q .ret ks E h := fun tm _ _ hE => ⟨1, .ret, tm, h, E, rfl, hE, H⟩
theorem W_if {c : Operand} {a b : Code} {t : Bool} (hc : E.ev c = some (.bool t)) (H : WK P K x N Q (bif t then a else b) ks E h) : WK P K x N Q (.cond c a b) ks E h := by
  intro tm D U hE
  obtain ⟨n, e, tm1, h1, E1, hr, hE1, hk⟩ := H tm D U hE
  refine ⟨n + 1, e, tm1, h1, E1, ?_, hE1, hk⟩
  rw [zbm]
  simp only [codeF, hE.ev hc]
  cases t <;> exact hr
theorem W_block {id : Nat} {b : Code} (H : WK P K x N Q b (.block id :: ks) E h) : WK P K x N Q (.block id b) ks E h := by
  intro tm D U hE
  obtain ⟨n, e, tm1, h1, E1, hr, hE1, hk⟩ := H tm D U hE
  cases e with
  | exit i =>
    simp only [Cont] at hk
    by_cases hi : i = id
    · rw [if_pos hi] at hk
      refine ⟨n + 1, .normal, tm1, h1, E1, ?_, hE1, hk⟩
      rw [zbm]; simp only [codeF, hr, if_pos hi]
    · rw [if_neg hi] at hk
      refine ⟨n + 1, .exit i, tm1, h1, E1, ?_, hE1, hk⟩
      rw [zbm]; simp only [codeF, hr, if_neg hi]
  | _ => exact ⟨n + 1, _, tm1, h1, E1, by rw [zbm]; simp only [codeF, hr], hE1, hk⟩
theorem W_loop {b : Code} (H : WK P K x N Q b (.loop b :: ks) E h) : WK P K x N Q (.loop b) ks E h := by
  intro tm D U hE
  obtain ⟨n, e, tm1, h1, E1, hr, hE1, hc⟩ := H tm D U hE
  cases e with
  | normal =>
    obtain ⟨m, e2, tm2, h2, E2, hr2, hE2, hc2⟩ := (show W P K x N (.loop b) E1 h1 (Cont P K x N Q ks) from hc) tm1 D U hE1
    refine ⟨max n m + 1, e2, tm2, h2, E2, ?_, hE2, hc2⟩
    rw [zbm]
    simp only [codeF]
    rw [(zas P K (Nat.le_max_left n m)).code _ _ _ _ hr]
    exact (zas P K (Nat.le_max_right n m)).code _ _ _ _ hr2
  | _ => exact ⟨n + 1, _, tm1, h1, E1, by rw [zbm]; simp only [codeF, hr], hE1, hc⟩
theorem W_weak {c : Code} {E' : Env} (hs : ∀ p ∈ E', E.get p.1 = some p.2) (H : WK P K x N Q c ks E' h) : WK P K x N Q c ks E h := fun tm D U hE => H tm D U (hE.sub hs)
def WO (P : Program) (K : Known) (x : Ctx) (N : Nat) (ops : Array Oper) (F : Ex → Env → Heap → Prop) (i : Nat) (E : Env) (h : Heap) : Prop :=
  ∀ tm D U, EnvOK N E tm → ∃ n e tm' h' E', seqOps P (run P K n) x ops (List.range' i (ops.size - i)) ⟨tm, D, U, h⟩ = some (e, ⟨tm', D, U, h'⟩) ∧ EnvOK N E' tm' ∧ F e E' h'
theorem W_region {id : Nat} {ops : Array Oper} (H : WO P K x N ops (Cont P K x N Q ks) 0 E h) : WK P K x N Q (.region id ops false) ks E h := by
  intro tm D U hE
  obtain ⟨n, e, tm1, h1, E1, hr, hE1, hc⟩ := H tm D U hE
  refine ⟨n + 1, e, tm1, h1, E1, ?_, hE1, hc⟩
  rw [zbm]
  simp only [codeF, Bool.false_eq_true, if_false]
  rw [List.range_eq_range']
  exact hr
variable {ops : Array Oper} {F : Ex → Env → Heap → Prop} {i : Nat}
theorem O_end (hi : i = ops.size) (H : F .normal E h) : WO P K x N ops F i E h := by
  intro tm D U hE
  refine ⟨0, .normal, tm, h, E, ?_, hE, H⟩
  rw [hi, Nat.sub_self]; rfl
def gval (ops : Array Oper) (E : Env) : Option (Nat × Bool) → Option Bool
  | none => some true
  | some (j, w) => match (ops[j]?).bind (·.dst) with
    | some t => match E.get t with
      | some (.bool b) => some (b == w)
      | some (.tuple _) => some false
      | _ => none
    | none => none
theorem zaS {tm : Array Value} (hE : EnvOK N E tm) {o : Oper} {b : Bool} (hg : gval ops E o.guard = some b) : wantedB ops tm o = b := by
  unfold wantedB Region.wanted
  cases hgd : o.guard with
  | none => rw [hgd] at hg; cases hg; rfl
  | some p =>
    obtain ⟨j, w⟩ := p
    rw [hgd] at hg
    simp only [gval] at hg
    unfold yielded
    cases ht : (ops[j]?).bind (·.dst) with
    | none => rw [ht] at hg; cases hg
    | some t =>
      rw [ht] at hg
      simp only at hg
      cases hv : E.get t with
      | none => rw [hv] at hg; cases hg
      | some v =>
        rw [hv] at hg
        have := hE.get t v hv
        cases v with
        | bool c =>
          simp at hg
          simp only [ht, Option.bind_some, this]
          subst hg
          cases c <;> cases w <;> rfl
        | tuple cs =>
          simp at hg
          simp only [ht, Option.bind_some, this]
          subst hg
          rfl
        | _ => simp at hg
theorem ze8 {R : Recs} {s : St} (hi : i < ops.size) : seqOps P R x ops (List.range' i (ops.size - i)) s = seqOps P R x ops (i :: List.range' (i + 1) (ops.size - (i + 1))) s := by
  rw [show ops.size - i = (ops.size - (i + 1)) + 1 from by omega, List.range'_succ]
theorem O_skip {o : Oper} {d : Nat} (ho : ops[i]? = some o) (hd : o.dst = some d) (hN : Nat.blt d N = true) (hg : gval ops E o.guard = some false) (k : WO P K x N ops F (i + 1) ((d, undef) :: E) h) : WO P K x N ops F i E h := by
  intro tm D U hE
  obtain ⟨n, e, tm1, h1, E1, hr, hE1, hc⟩ := k _ D U (hE.put (zbl hN) undef)
  refine ⟨n, e, tm1, h1, E1, ?_, hE1, hc⟩
  rw [ze8 (Array.getElem?_eq_some_iff.1 ho).1]
  simp only [seqOps, ho]
  rw [zaS hE hg, if_neg (by simp), hd]
  exact hr
theorem O_op {o : Oper} {d : Nat} {G : Value → Heap → Prop} (ho : ops[i]? = some o) (hd : o.dst = some d) (hN : Nat.blt d N = true) (hg : gval ops E o.guard = some true)
    (hop : ∀ tm D U, EnvOK N E tm → ∃ n v h1, doOp P (run P K n) x ⟨tm, D, U, h⟩ o = some (.val v, ⟨tm, D, U, h1⟩) ∧ G v h1)
    (k : ∀ v h1, G v h1 → WO P K x N ops F (i + 1) ((d, v) :: E) h1) : WO P K x N ops F i E h := by
  intro tm D U hE
  obtain ⟨n, v, h1, hr, hv⟩ := hop tm D U hE
  obtain ⟨m, e, tm1, h2, E1, hr2, hE1, hc⟩ := k v h1 hv _ D U (hE.put (zbl hN) v)
  refine ⟨max n m, e, tm1, h2, E1, ?_, hE1, hc⟩
  rw [ze8 (Array.getElem?_eq_some_iff.1 ho).1]
  simp only [seqOps, ho]
  rw [zaS hE hg, if_pos rfl, zct (zas P K (Nat.le_max_left n m)) hr, hd]
  exact zb8 (zas P K (Nat.le_max_right n m)) _ _ _ hr2
theorem O_act {o : Oper} {G : Heap → Prop} (ho : ops[i]? = some o) (hd : o.dst = none) (hg : gval ops E o.guard = some true)
    (hop : ∀ tm D U, EnvOK N E tm → ∃ n v h1, doOp P (run P K n) x ⟨tm, D, U, h⟩ o = some (.val v, ⟨tm, D, U, h1⟩) ∧ G h1)
    (k : ∀ h1, G h1 → WO P K x N ops F (i + 1) E h1) : WO P K x N ops F i E h := by
  intro tm D U hE
  obtain ⟨n, v, h1, hr, hv⟩ := hop tm D U hE
  obtain ⟨m, e, tm1, h2, E1, hr2, hE1, hc⟩ := k h1 hv tm D U hE
  refine ⟨max n m, e, tm1, h2, E1, ?_, hE1, hc⟩
  rw [ze8 (Array.getElem?_eq_some_iff.1 ho).1]
  simp only [seqOps, ho]
  rw [zaS hE hg, if_pos rfl, zct (zas P K (Nat.le_max_left n m)) hr, hd]
  exact zb8 (zas P K (Nat.le_max_right n m)) _ _ _ hr2
theorem zk7 {R : Recs} {tm : Array Value} {D : List Deferred} {U : FrameMode} {o : Oper} {v : Value} {h1 : Heap} (hk : opsOK P o = true) (hs : simpleB P tm h o = some (v, h1)) : doOp P R x ⟨tm, D, U, h⟩ o = some (.val v, ⟨tm, D, U, h1⟩) := by
  unfold doOp
  rw [hk]
  simp only [Bool.not_true, Bool.false_eq_true, if_false, hs]
theorem zaC {o : Oper} {d : Nat} {v : Value} {h1 : Heap} (ho : ops[i]? = some o) (hd : o.dst = some d) (hN : Nat.blt d N = true) (hg : gval ops E o.guard = some true) (hk : opsOK P o = true)
    (hs : ∀ tm, EnvOK N E tm → simpleB P tm h o = some (v, h1)) (k : WO P K x N ops F (i + 1) ((d, v) :: E) h1) : WO P K x N ops F i E h :=
  O_op (G := fun v' h' => v' = v ∧ h' = h1) ho hd hN hg (fun tm _ _ hE => ⟨0, v, h1, zk7 hk (hs tm hE), rfl, rfl⟩) (fun _ _ q => by obtain ⟨rfl, rfl⟩ := q; exact k)
theorem zei {R : Recs} {tm : Array Value} {D : List Deferred} {U : FrameMode} {o : Oper} {v : Value} {h1 : Heap} (hk : opsOK P o = true) (hn : simpleB P tm h o = none) (hi : isSimple o = false) (hs : effectB P tm h o = some (.val v, h1)) : doOp P R x ⟨tm, D, U, h⟩ o = some (.val v, ⟨tm, D, U, h1⟩) := by
  unfold doOp
  rw [hk]
  simp only [Bool.not_true, Bool.false_eq_true, if_false, hn, hi, hs]
def envFrom : Nat → List Value → Env
  | _, [] => []
  | i, v :: l => (i, v) :: envFrom (i + 1) l
theorem zhz : ∀ (l : List Value) (i t : Nat) (v : Value), (envFrom i l).get t = some v → i ≤ t ∧ l[t - i]? = some v := by
  intro l
  induction l with
  | nil => intro i t v h; cases h
  | cons a l ih =>
    intro i t v h
    simp only [envFrom, Env.get] at h
    cases hc : Nat.beq i t with
    | true =>
      rw [hc] at h
      have := Nat.eq_of_beq_eq_true hc
      subst this
      cases h
      exact ⟨Nat.le_refl _, by simp⟩
    | false =>
      rw [hc] at h
      have hne : i ≠ t := fun k => by rw [k, Nat.beq_refl] at hc; cases hc
      obtain ⟨h1, h2⟩ := ih _ _ _ h
      refine ⟨by omega, ?_⟩
      rw [show t - i = (t - (i + 1)) + 1 from by omega, List.getElem?_cons_succ]; exact h2
def resE (P : Program) (E : Env) (h : Heap) : List ResultVar → Option (List Value)
  | [] => some []
  | .tmp t :: l => match E.get t, resE P E h l with
    | some v, some vs => some (v :: vs)
    | _, _ => none
  | .cell a t :: l => match E.get a with
    | some p => match readB P h t p, resE P E h l with
      | some v, some vs => some (v :: vs)
      | _, _ => none
    | none => none
theorem resE_ok {tm : Array Value} (hE : EnvOK N E tm) : ∀ {l : List ResultVar} {vs : List Value}, resE P E h l = some vs → l.mapM (resultB P tm h) = some vs := by
  intro l
  induction l with
  | nil => intro vs e; cases e; rfl
  | cons r l ih =>
    intro vs e
    have g : ∀ t v, E.get t = some v → tm.getD t undef = v := fun t v q => by
      have := hE.get t v q
      simp [Array.getD_eq_getD_getElem?, this]
    cases r with
    | tmp t =>
      simp only [resE] at e
      split at e
      · rename_i v vs' h1 h2
        cases e
        simp only [List.mapM_cons, resultB, g _ _ h1, ih h2]; rfl
      · cases e
    | cell a t =>
      simp only [resE] at e
      split at e
      · rename_i p hp
        split at e
        · rename_i v vs' h1 h2
          cases e
          simp only [List.mapM_cons, resultB, g _ _ hp, h1, ih h2]; rfl
        · cases e
      · cases e
def resV : List Value → Value
  | [v] => v
  | vs => .tuple vs.toArray
theorem CallW.of_body {f : FuncId} {args : Array Value} {fn : Func} {c : Code} {G : Value → Heap → Prop} (hf : P.funcs[f]? = some fn) (hb : fn.body = some c) (hk : K f args h = none) (hN : fn.ntmps = N) (ha : Nat.ble args.size N = true)
    (H : WK P K { fn := f, round := none, dfr := false } N (fun e E' h1 => (e = .normal ∨ e = .ret) ∧ ∃ vs, resE P E' h1 fn.results.toList = some vs ∧ G (resV vs) h1) c [] (envFrom 0 args.toList) h) : CallW P K f args h G := by
  have h0 : EnvOK N (envFrom 0 args.toList) (args ++ Array.replicate (N - args.size) undef) := by
    have ha := Nat.le_of_ble_eq_true ha
    refine ⟨by simp; omega, fun t v e => ?_⟩
    obtain ⟨_, h2⟩ := zhz _ _ _ _ e
    simp only [Nat.sub_zero, Array.getElem?_toList] at h2
    rw [Array.getElem?_append_left (Array.getElem?_eq_some_iff.1 h2).1]
    exact h2
  obtain ⟨n, e, tm1, h1, E1, hr, hE1, he, vs, hres, hg⟩ := H _ [] .run h0
  have hl : leaveB P (run P K n) fn tm1 [] .returning h1 = some (.ret (resV vs), h1) := by
    simp only [leaveB, resultsB, resE_ok hE1 hres, Option.map_some]
    rfl
  refine ⟨n + 1, resV vs, h1, ?_, hg⟩
  show callF P K (run P K n) f args false .run h = _
  unfold callF
  simp only [Bool.false_eq_true, if_false, hk, hf, hb, hN]
  rw [hr]
  rcases he with rfl | rfl <;> simp only [hl, Option.map_some]
end
end Go.AX

namespace Go.AX
def one (P : Program) (t : TypeId) : Bool :=
  match aggB P t, sizeB P t with
  | some false, some 1 => true
  | _, _ => false
def aggN (P : Program) (t : TypeId) : Option Nat :=
  match aggB P t, sizeB P t with
  | some true, some n => some n
  | _, _ => none
theorem zd4 {P : Program} {t : TypeId} (h : one P t = true) : aggB P t = some false := by
  unfold one at h; split at h
  · rename_i a _; exact a
  · cases h
theorem zcX {P : Program} {t : TypeId} (h : one P t = true) : sizeB P t = some 1 := by
  unfold one at h; split at h
  · rename_i _ a; exact a
  · cases h
theorem zdL {P : Program} {t : TypeId} {n : Nat} (h : aggN P t = some n) : aggB P t = some true := by
  unfold aggN at h; split at h
  · rename_i a _; exact a
  · cases h
theorem zc7 {P : Program} {t : TypeId} {n : Nat} (h : aggN P t = some n) : sizeB P t = some n := by
  unfold aggN at h; split at h
  · rename_i m _ a; cases h; exact a
  · cases h
def fit (n : Int) : Prop := -9223372036854775808 ≤ n ∧ n < 9223372036854775808
theorem zcc {n : Int} (h : fit n) : IntKind.wrap .i64 n = n := by
  refine zbA n ?_
  unfold fit at h
  cases n with
  | ofNat m => simp only [Int.ofNat_eq_natCast] at h; simp only [fitsF, Nat.ble_eq]; omega
  | negSucc m => simp only [fitsF, Nat.ble_eq]; omega
section
variable {P : Program} {K : Known} {x : Ctx} {N : Nat} {E : Env} {h : Heap} {ops : Array Oper} {F : Ex → Env → Heap → Prop} {i : Nat}
variable {d : Nat} {ty : TypeId} {pos : String} {af : Array Edge} {g : Option (Nat × Bool)}
theorem O_move {a : Operand} {v : Value} (ho : ops[i]? = some ⟨some d, .move a, ty, pos, af, g⟩) (hN : Nat.blt d N = true) (hg : gval ops E g = some true) (hk : opsOK P ⟨some d, .move a, ty, pos, af, g⟩ = true)
    (ha : E.ev a = some v) (k : WO P K x N ops F (i + 1) ((d, v) :: E) h) : WO P K x N ops F i E h :=
  zaC ho rfl hN hg hk (fun tm hE => by show some (ev tm a, h) = _; rw [hE.ev ha]) k
theorem O_assign {a : Operand} {v : Value} (ho : ops[i]? = some ⟨some d, .assign a, ty, pos, af, g⟩) (hN : Nat.blt d N = true) (hg : gval ops E g = some true) (hk : opsOK P ⟨some d, .assign a, ty, pos, af, g⟩ = true)
    (ha : E.ev a = some v) (k : WO P K x N ops F (i + 1) ((d, v) :: E) h) : WO P K x N ops F i E h :=
  zaC ho rfl hN hg hk (fun tm hE => by show some (ev tm a, h) = _; rw [hE.ev ha]) k
theorem O_pick {c a b : Operand} {t : Bool} {u v : Value} (ho : ops[i]? = some ⟨some d, .pick c a b, ty, pos, af, g⟩) (hN : Nat.blt d N = true) (hg : gval ops E g = some true) (hk : opsOK P ⟨some d, .pick c a b, ty, pos, af, g⟩ = true)
    (hc : E.ev c = some (.bool t)) (ha : E.ev a = some u) (hb : E.ev b = some v) (k : WO P K x N ops F (i + 1) ((d, bif t then u else v) :: E) h) : WO P K x N ops F i E h :=
  zaC ho rfl hN hg hk (fun tm hE => by
    show (match ev tm c with | .bool t => some (if t then ev tm a else ev tm b, h) | _ => none) = _
    rw [hE.ev hc, hE.ev ha, hE.ev hb]; cases t <;> rfl) k
theorem zcv {op : BinOp} {t yt : TypeId} {a b : Operand} {m n : Int} {v : Value} (ho : ops[i]? = some ⟨some d, .binOp op t a b yt, ty, pos, af, g⟩) (hN : Nat.blt d N = true) (hg : gval ops E g = some true) (hk : opsOK P ⟨some d, .binOp op t a b yt, ty, pos, af, g⟩ = true)
    (ha : E.ev a = some (.int .i64 m)) (hb : E.ev b = some (.int .i64 n)) (hs : binSem op m n = some v) (k : WO P K x N ops F (i + 1) ((d, v) :: E) h) : WO P K x N ops F i E h :=
  zaC ho rfl hN hg hk (fun tm hE => by
    have := zep (P := P) (tm := tm) (o := ⟨some d, .binOp op t a b yt, ty, pos, af, g⟩) rfl (hE.ev ha) (hE.ev hb) hs
    show (match plainOp P tm ⟨some d, .binOp op t a b yt, ty, pos, af, g⟩ with | some v => some (v, h) | none => _) = _
    rw [this]) k
theorem O_add {t yt : TypeId} {a b : Operand} {m n : Int} (ho : ops[i]? = some ⟨some d, .binOp .add t a b yt, ty, pos, af, g⟩) (hN : Nat.blt d N = true) (hg : gval ops E g = some true) (hk : opsOK P ⟨some d, .binOp .add t a b yt, ty, pos, af, g⟩ = true)
    (ha : E.ev a = some (.int .i64 m)) (hb : E.ev b = some (.int .i64 n)) (hf : fit (m + n)) (k : WO P K x N ops F (i + 1) ((d, .int .i64 (m + n)) :: E) h) : WO P K x N ops F i E h :=
  zcv ho hN hg hk ha hb (by simp only [binSem, zcc hf]) k
theorem O_sub {t yt : TypeId} {a b : Operand} {m n : Int} (ho : ops[i]? = some ⟨some d, .binOp .sub t a b yt, ty, pos, af, g⟩) (hN : Nat.blt d N = true) (hg : gval ops E g = some true) (hk : opsOK P ⟨some d, .binOp .sub t a b yt, ty, pos, af, g⟩ = true)
    (ha : E.ev a = some (.int .i64 m)) (hb : E.ev b = some (.int .i64 n)) (hf : fit (m - n)) (k : WO P K x N ops F (i + 1) ((d, .int .i64 (m - n)) :: E) h) : WO P K x N ops F i E h :=
  zcv ho hN hg hk ha hb (by simp only [binSem, zcc hf]) k
theorem O_mul {t yt : TypeId} {a b : Operand} {m n : Int} (ho : ops[i]? = some ⟨some d, .binOp .mul t a b yt, ty, pos, af, g⟩) (hN : Nat.blt d N = true) (hg : gval ops E g = some true) (hk : opsOK P ⟨some d, .binOp .mul t a b yt, ty, pos, af, g⟩ = true)
    (ha : E.ev a = some (.int .i64 m)) (hb : E.ev b = some (.int .i64 n)) (hf : fit (m * n)) (k : WO P K x N ops F (i + 1) ((d, .int .i64 (m * n)) :: E) h) : WO P K x N ops F i E h :=
  zcv ho hN hg hk ha hb (by simp only [binSem, zcc hf]) k
theorem O_quo {t yt : TypeId} {a b : Operand} {m n : Int} (ho : ops[i]? = some ⟨some d, .binOp .quo t a b yt, ty, pos, af, g⟩) (hN : Nat.blt d N = true) (hg : gval ops E g = some true) (hk : opsOK P ⟨some d, .binOp .quo t a b yt, ty, pos, af, g⟩ = true)
    (ha : E.ev a = some (.int .i64 m)) (hb : E.ev b = some (.int .i64 n)) (hz : n ≠ 0) (hf : fit (m.tdiv n)) (k : WO P K x N ops F (i + 1) ((d, .int .i64 (m.tdiv n)) :: E) h) : WO P K x N ops F i E h :=
  zcv ho hN hg hk ha hb (by simp only [binSem, if_neg hz, zcc hf]) k
theorem O_rem {t yt : TypeId} {a b : Operand} {m n : Int} (ho : ops[i]? = some ⟨some d, .binOp .rem t a b yt, ty, pos, af, g⟩) (hN : Nat.blt d N = true) (hg : gval ops E g = some true) (hk : opsOK P ⟨some d, .binOp .rem t a b yt, ty, pos, af, g⟩ = true)
    (ha : E.ev a = some (.int .i64 m)) (hb : E.ev b = some (.int .i64 n)) (hz : n ≠ 0) (k : WO P K x N ops F (i + 1) ((d, .int .i64 (m.tmod n)) :: E) h) : WO P K x N ops F i E h :=
  zcv ho hN hg hk ha hb (by simp only [binSem, if_neg hz]) k
theorem O_lss {t yt : TypeId} {a b : Operand} {m n : Int} (ho : ops[i]? = some ⟨some d, .binOp .lss t a b yt, ty, pos, af, g⟩) (hN : Nat.blt d N = true) (hg : gval ops E g = some true) (hk : opsOK P ⟨some d, .binOp .lss t a b yt, ty, pos, af, g⟩ = true)
    (ha : E.ev a = some (.int .i64 m)) (hb : E.ev b = some (.int .i64 n)) (kt : m < n → WO P K x N ops F (i + 1) ((d, .bool true) :: E) h) (kf : ¬ m < n → WO P K x N ops F (i + 1) ((d, .bool false) :: E) h) : WO P K x N ops F i E h := by
  by_cases hc : m < n
  · exact zcv ho hN hg hk ha hb (by simp only [binSem, hc, decide_true]) (kt hc)
  · exact zcv ho hN hg hk ha hb (by simp only [binSem, hc, decide_false]) (kf hc)
theorem O_leq {t yt : TypeId} {a b : Operand} {m n : Int} (ho : ops[i]? = some ⟨some d, .binOp .leq t a b yt, ty, pos, af, g⟩) (hN : Nat.blt d N = true) (hg : gval ops E g = some true) (hk : opsOK P ⟨some d, .binOp .leq t a b yt, ty, pos, af, g⟩ = true)
    (ha : E.ev a = some (.int .i64 m)) (hb : E.ev b = some (.int .i64 n)) (kt : m ≤ n → WO P K x N ops F (i + 1) ((d, .bool true) :: E) h) (kf : ¬ m ≤ n → WO P K x N ops F (i + 1) ((d, .bool false) :: E) h) : WO P K x N ops F i E h := by
  by_cases hc : m ≤ n
  · exact zcv ho hN hg hk ha hb (by simp only [binSem, hc, decide_true]) (kt hc)
  · exact zcv ho hN hg hk ha hb (by simp only [binSem, hc, decide_false]) (kf hc)
theorem O_gtr {t yt : TypeId} {a b : Operand} {m n : Int} (ho : ops[i]? = some ⟨some d, .binOp .gtr t a b yt, ty, pos, af, g⟩) (hN : Nat.blt d N = true) (hg : gval ops E g = some true) (hk : opsOK P ⟨some d, .binOp .gtr t a b yt, ty, pos, af, g⟩ = true)
    (ha : E.ev a = some (.int .i64 m)) (hb : E.ev b = some (.int .i64 n)) (kt : m > n → WO P K x N ops F (i + 1) ((d, .bool true) :: E) h) (kf : ¬ m > n → WO P K x N ops F (i + 1) ((d, .bool false) :: E) h) : WO P K x N ops F i E h := by
  by_cases hc : m > n
  · exact zcv ho hN hg hk ha hb (by simp only [binSem, hc, decide_true]) (kt hc)
  · exact zcv ho hN hg hk ha hb (by simp only [binSem, hc, decide_false]) (kf hc)
theorem O_geq {t yt : TypeId} {a b : Operand} {m n : Int} (ho : ops[i]? = some ⟨some d, .binOp .geq t a b yt, ty, pos, af, g⟩) (hN : Nat.blt d N = true) (hg : gval ops E g = some true) (hk : opsOK P ⟨some d, .binOp .geq t a b yt, ty, pos, af, g⟩ = true)
    (ha : E.ev a = some (.int .i64 m)) (hb : E.ev b = some (.int .i64 n)) (kt : m ≥ n → WO P K x N ops F (i + 1) ((d, .bool true) :: E) h) (kf : ¬ m ≥ n → WO P K x N ops F (i + 1) ((d, .bool false) :: E) h) : WO P K x N ops F i E h := by
  by_cases hc : m ≥ n
  · exact zcv ho hN hg hk ha hb (by simp only [binSem, hc, decide_true]) (kt hc)
  · exact zcv ho hN hg hk ha hb (by simp only [binSem, hc, decide_false]) (kf hc)
theorem O_eql {t yt : TypeId} {a b : Operand} {m n : Int} (ho : ops[i]? = some ⟨some d, .binOp .eql t a b yt, ty, pos, af, g⟩) (hN : Nat.blt d N = true) (hg : gval ops E g = some true) (hk : opsOK P ⟨some d, .binOp .eql t a b yt, ty, pos, af, g⟩ = true)
    (ha : E.ev a = some (.int .i64 m)) (hb : E.ev b = some (.int .i64 n)) (kt : m = n → WO P K x N ops F (i + 1) ((d, .bool true) :: E) h) (kf : ¬ m = n → WO P K x N ops F (i + 1) ((d, .bool false) :: E) h) : WO P K x N ops F i E h := by
  by_cases hc : m = n
  · exact zcv ho hN hg hk ha hb (by simp [binSem, hc]) (kt hc)
  · exact zcv ho hN hg hk ha hb (by simp [binSem, hc]) (kf hc)
theorem O_neq {t yt : TypeId} {a b : Operand} {m n : Int} (ho : ops[i]? = some ⟨some d, .binOp .neq t a b yt, ty, pos, af, g⟩) (hN : Nat.blt d N = true) (hg : gval ops E g = some true) (hk : opsOK P ⟨some d, .binOp .neq t a b yt, ty, pos, af, g⟩ = true)
    (ha : E.ev a = some (.int .i64 m)) (hb : E.ev b = some (.int .i64 n)) (kt : ¬ m = n → WO P K x N ops F (i + 1) ((d, .bool true) :: E) h) (kf : m = n → WO P K x N ops F (i + 1) ((d, .bool false) :: E) h) : WO P K x N ops F i E h := by
  by_cases hc : m = n
  · exact zcv ho hN hg hk ha hb (by simp [binSem, hc]) (kf hc)
  · exact zcv ho hN hg hk ha hb (by simp [binSem, hc]) (kt hc)
theorem not_op {tm : Array Value} {o : Oper} {t : TypeId} {a : Operand} {b : Bool} (ho : o.op = .unOp .not t a) (ha : ev tm a = .bool b) : plainOp P tm o = some (.bool (!b)) := by
  have hp : (plainKind o && o.op.operands.toList.all fun x => plain deep (ev tm x)) = true := by
    simp [plainKind, ho, Op.operands, ha, plain, deep]
  unfold plainOp
  rw [if_pos hp]
  have he : pe P (execOp (ev tm) o) = some (.value (.bool (!b))) := by
    unfold execOp; rw [ho]; simp only [ha]; rfl
  rw [he]; rfl
theorem O_not {t : TypeId} {a : Operand} {b : Bool} (ho : ops[i]? = some ⟨some d, .unOp .not t a, ty, pos, af, g⟩) (hN : Nat.blt d N = true) (hg : gval ops E g = some true) (hk : opsOK P ⟨some d, .unOp .not t a, ty, pos, af, g⟩ = true)
    (ha : E.ev a = some (.bool b)) (k : WO P K x N ops F (i + 1) ((d, .bool (!b)) :: E) h) : WO P K x N ops F i E h :=
  zaC ho rfl hN hg hk (fun tm hE => by
    show (plainOp P tm ⟨some d, .unOp .not t a, ty, pos, af, g⟩).map (fun v => (v, h)) = _
    rw [not_op rfl (hE.ev ha)]; rfl) k
theorem zhP {t : TypeId} {a : Operand} {f : Nat} {fs : Array Field} {fd : Field} {n b o : Nat} (ho : ops[i]? = some ⟨some d, .fieldAddr t a f, ty, pos, af, g⟩) (hN : Nat.blt d N = true) (hg : gval ops E g = some true) (hk : opsOK P ⟨some d, .fieldAddr t a f, ty, pos, af, g⟩ = true)
    (ha : E.ev a = some (.pointer (some ⟨b, o, none⟩))) (hfs : fieldsOf P t = some fs) (hfd : fs[f]? = some fd) (hs : sizeB P fd.type = some (n + 1)) (k : WO P K x N ops F (i + 1) ((d, .pointer (some ⟨b, o + fd.offset, none⟩)) :: E) h) : WO P K x N ops F i E h :=
  zaC ho rfl hN hg hk (fun tm hE => by
    show (fieldAtB P t (ev tm a) f).map (fun v => (v, h)) = _
    rw [hE.ev ha]; simp only [fieldAtB, hfs, hfd, hs, Option.map_some]) k
theorem O_load1 {t : TypeId} {a : Operand} {b o : Nat} {c : List Value} {e : TypeId} {own : Bool} {v : Value} (ho : ops[i]? = some ⟨some d, .load t a, ty, pos, af, g⟩) (hN : Nat.blt d N = true) (hg : gval ops E g = some true) (hk : opsOK P ⟨some d, .load t a, ty, pos, af, g⟩ = true)
    (ha : E.ev a = some (.pointer (some ⟨b, o, none⟩))) (ht : one P t = true) (hb : h.get? b = some (.cells c e own)) (hv : c[o]? = some v) (k : WO P K x N ops F (i + 1) ((d, v) :: E) h) : WO P K x N ops F i E h :=
  zaC ho rfl hN hg hk (fun tm hE => by
    show (readB P h t (ev tm a)).map (fun v => (v, h)) = _
    rw [hE.ev ha]; simp only [readB, hb, partB, zd4 ht, zcX ht, hv, Option.map_some]) k
theorem O_loadA {t : TypeId} {a : Operand} {b o n : Nat} {c : List Value} {e : TypeId} {own : Bool} {vs : List Value} (ho : ops[i]? = some ⟨some d, .load t a, ty, pos, af, g⟩) (hN : Nat.blt d N = true) (hg : gval ops E g = some true) (hk : opsOK P ⟨some d, .load t a, ty, pos, af, g⟩ = true)
    (ha : E.ev a = some (.pointer (some ⟨b, o, none⟩))) (ht : aggN P t = some n) (hb : h.get? b = some (.cells c e own)) (hl : o + n ≤ c.length) (hv : (c.drop o).take n = vs) (k : WO P K x N ops F (i + 1) ((d, .agg vs.toArray) :: E) h) : WO P K x N ops F i E h :=
  zaC ho rfl hN hg hk (fun tm hE => by
    show (readB P h t (ev tm a)).map (fun v => (v, h)) = _
    rw [hE.ev ha]; simp only [readB, hb, partB, zdL ht, zc7 ht, if_pos hl, hv, Option.map_some]) k
theorem O_idx {t e : TypeId} {a j : Operand} {b o len cap n : Nat} {ik : IntKind} {q : Int} (ho : ops[i]? = some ⟨some d, .indexAddr t a j, ty, pos, af, g⟩) (hN : Nat.blt d N = true) (hg : gval ops E g = some true) (hk : opsOK P ⟨some d, .indexAddr t a j, ty, pos, af, g⟩ = true)
    (ha : E.ev a = some (.slice (some ⟨b, o, none⟩) len cap)) (hj : E.ev j = some (.int ik q)) (hu : P.underlying t = some (.slice e)) (hs : sizeB P e = some n) (h0 : 0 ≤ q) (h1 : q < len) (k : WO P K x N ops F (i + 1) ((d, .pointer (some ⟨b, o + q.toNat * n, none⟩)) :: E) h) : WO P K x N ops F i E h :=
  zaC ho rfl hN hg hk (fun tm hE => by
    show (indexAtB P t (ev tm a) (ev tm j)).map (fun v => (v, h)) = _
    rw [hE.ev ha, hE.ev hj]; simp only [indexAtB, hu, hs, if_pos (And.intro h0 h1), Option.map_some]) k
theorem O_len {args : Array Operand} {ts : Array TypeId} {t e : TypeId} {a : Operand} {p : Option Addr} {n c : Nat} (ho : ops[i]? = some ⟨some d, .call ⟨.builtin .len, args, ts⟩, ty, pos, af, g⟩) (hN : Nat.blt d N = true) (hg : gval ops E g = some true) (hk : opsOK P ⟨some d, .call ⟨.builtin .len, args, ts⟩, ty, pos, af, g⟩ = true)
    (hts : ts[0]? = some t) (has : args[0]? = some a) (ha : E.ev a = some (.slice p n c)) (hu : P.underlying t = some (.slice e)) (k : WO P K x N ops F (i + 1) ((d, .int .i64 n) :: E) h) : WO P K x N ops F i E h :=
  zaC ho rfl hN hg hk (fun tm hE => by
    simp only [simpleB, hts, has, hu, hE.ev ha]; rfl) k
theorem zlt {a : Operand} {j : Nat} {vs : Array Value} {v : Value} (ho : ops[i]? = some ⟨some d, .extract a j, ty, pos, af, g⟩) (hN : Nat.blt d N = true) (hg : gval ops E g = some true) (hk : opsOK P ⟨some d, .extract a j, ty, pos, af, g⟩ = true)
    (ha : E.ev a = some (.tuple vs)) (hv : vs[j]? = some v) (k : WO P K x N ops F (i + 1) ((d, v) :: E) h) : WO P K x N ops F i E h :=
  zaC ho rfl hN hg hk (fun tm hE => by
    simp only [simpleB, hE.ev ha, hv]; rfl) k
theorem O_box {t : TypeId} {a : Operand} {v : Value} {n : Nat} (ho : ops[i]? = some ⟨some d, .box t a, ty, pos, af, g⟩) (hN : Nat.blt d N = true) (hg : gval ops E g = some true) (hk : opsOK P ⟨some d, .box t a, ty, pos, af, g⟩ = true)
    (ha : E.ev a = some v) (hs : sizeB P t = some n) (hc : v.cells.size = n) (hone : v.cells.toList.all oneB = true) (k : WO P K x N ops F (i + 1) ((d, .pointer (some ⟨h.n, 0, none⟩)) :: E) (h.push (.cells v.cells.toList t true))) : WO P K x N ops F i E h :=
  zaC ho rfl hN hg hk (fun tm hE => by
    show boxB P h t (ev tm a) = _
    rw [hE.ev ha]; simp only [boxB, hs, if_pos (And.intro hc hone), newB]) k
theorem O_alloc {t : TypeId} {z : Value} {n : Nat} (ho : ops[i]? = some ⟨some d, .alloc t, ty, pos, af, g⟩) (hN : Nat.blt d N = true) (hg : gval ops E g = some true) (hk : opsOK P ⟨some d, .alloc t, ty, pos, af, g⟩ = true)
    (hz : zeroB P t = some z) (hs : sizeB P t = some n) (hc : z.cells.size = n) (hone : z.cells.toList.all oneB = true) (k : WO P K x N ops F (i + 1) ((d, .pointer (some ⟨h.n, 0, none⟩)) :: E) (h.push (.cells z.cells.toList t true))) : WO P K x N ops F i E h :=
  zaC ho rfl hN hg hk (fun tm _ => by
    show (match zeroB P t with | some z => boxB P h t z | none => none) = _
    simp only [hz, boxB, hs, if_pos (And.intro hc hone), newB]) k
theorem O_store {t : TypeId} {a y : Operand} {b o n : Nat} {c : List Value} {e : TypeId} {v : Value} (ho : ops[i]? = some ⟨none, .store t a y, ty, pos, af, g⟩) (hg : gval ops E g = some true) (hk : opsOK P ⟨none, .store t a y, ty, pos, af, g⟩ = true)
    (ha : E.ev a = some (.pointer (some ⟨b, o, none⟩))) (hy : E.ev y = some v) (hb : h.get? b = some (.cells c e true)) (hs : sizeB P t = some n) (hc : v.cells.size = n) (hl : o + n ≤ c.length) (hone : v.cells.toList.all oneB = true)
    (k : WO P K x N ops F (i + 1) E (h.set b (.cells (splice c o v.cells.toList) e true))) : WO P K x N ops F i E h :=
  O_act (G := fun h' => h' = h.set b (.cells (splice c o v.cells.toList) e true)) ho rfl hg (fun tm _ _ hE => ⟨0, undef, _, zei hk rfl rfl (by
    show (writeB P h t (ev tm y) (ev tm a)).map (fun h => (Out.val undef, h)) = _
    rw [hE.ev ha, hE.ev hy]; simp only [writeB, hb, hs, if_pos (And.intro hc (And.intro hl hone)), Option.map_some]), rfl⟩) (fun _ q => by subst q; exact k)
def enters (P : Program) (f : FuncId) : Bool :=
  match P.funcs[f]? with
  | some fn => !(fn.name == "runtime.NumGoroutine") && fn.body.isSome
  | none => false
theorem zk5 {f : FuncId} (hf : enters P f = true) (args : Array Value) : callFuncB P f args = some (.enter f args) := by
  unfold enters at hf
  unfold callFuncB
  split at hf
  · rename_i fn hfn
    simp only [Bool.and_eq_true, Bool.not_eq_true'] at hf
    rw [hfn]
    simp only [hf.1, Bool.false_eq_true, if_false, hf.2, if_true]
  · cases hf
theorem zk8 {fo : Operand} {args : Array Operand} {ts : Array TypeId} {f : FuncId} {fi ca : Array Value} {vs : List Value} {dd : Option Tmp} {G : Value → Heap → Prop} (hk : opsOK P ⟨dd, .call ⟨.value fo, args, ts⟩, ty, pos, af, g⟩ = true)
    (hf : E.ev fo = some (.func (.func f) fi ca)) (hargs : E.evs args.toList = some vs) (hen : enters P f = true) (hc : CallW P K f (fi ++ vs.toArray ++ ca) h G) (tm : Array Value) (D : List Deferred) (U : FrameMode) (hE : EnvOK N E tm) :
    ∃ n v h1, doOp P (run P K n) x ⟨tm, D, U, h⟩ ⟨dd, .call ⟨.value fo, args, ts⟩, ty, pos, af, g⟩ = some (.val v, ⟨tm, D, U, h1⟩) ∧ G v h1 := by
  obtain ⟨n, v, h1, hr, hv⟩ := hc
  refine ⟨n, v, h1, ?_, hv⟩
  have e1 : args.map (ev tm) = vs.toArray := by
    apply Array.ext'
    rw [Array.toList_map, hE.evs hargs]
  unfold doOp
  rw [hk]
  have e2 : simpleB P tm h ⟨dd, .call ⟨.value fo, args, ts⟩, ty, pos, af, g⟩ = none := rfl
  have e3 : effectB P tm h ⟨dd, .call ⟨.value fo, args, ts⟩, ty, pos, af, g⟩ = some (.enter f (fi ++ vs.toArray ++ ca), h) := by
    show (callValueB P (ev tm fo) (args.map (ev tm))).map (fun r => (r, h)) = _
    rw [hE.ev hf, e1]
    simp only [callValueB]
    rw [zk5 hen]; rfl
  simp only [Bool.not_true, Bool.false_eq_true, if_false, e2, e3, hr]
  rfl
theorem O_call {fo : Operand} {args : Array Operand} {ts : Array TypeId} {f : FuncId} {fi ca : Array Value} {vs : List Value} {G : Value → Heap → Prop} (ho : ops[i]? = some ⟨some d, .call ⟨.value fo, args, ts⟩, ty, pos, af, g⟩) (hN : Nat.blt d N = true) (hg : gval ops E g = some true) (hk : opsOK P ⟨some d, .call ⟨.value fo, args, ts⟩, ty, pos, af, g⟩ = true)
    (hf : E.ev fo = some (.func (.func f) fi ca)) (hargs : E.evs args.toList = some vs) (hen : enters P f = true) (hc : CallW P K f (fi ++ vs.toArray ++ ca) h G) (k : ∀ v h1, G v h1 → WO P K x N ops F (i + 1) ((d, v) :: E) h1) : WO P K x N ops F i E h :=
  O_op ho rfl hN hg (zk8 hk hf hargs hen hc) k
end
end Go.AX

namespace Go.AX
section
variable {P : Program} {K : Known} {x : Ctx} {N : Nat} {E : Env} {h : Heap} {Q : Ex → Env → Heap → Prop} {ks : List Kt}
def OO (P : Program) (K : Known) (x : Ctx) (N : Nat) (ops : Array Oper) (F : Ex → Env → Heap → Prop) (i : Nat) (E : Env) (h : Heap) (Hs : List Heap) (L : List Heap → Prop) (nw : List (Nat × Nat × Blk)) : Prop :=
  ∀ tm D U, EnvOK N E tm → ∀ lk, (∀ hs', L hs' → lk.all (lookOK P hs') = true) →
    ∃ n tm' h' E' hs' lk' nw', (List.range' i (ops.size - i)).foldlM (openStep P (run P K n) x ops (preds ops.toList)) ⟨⟨tm, D, U, h⟩, Hs, lk, nw⟩ = some ⟨⟨tm', D, U, h'⟩, hs', lk', nw'⟩ ∧
      (hs'.length ≤ 1 ∨ lk'.all (lookOK P hs') = true) ∧ EnvOK N E' tm' ∧ F .normal E' h'
theorem W_open {id : Nat} {ops : Array Oper} (hok : openOK ops = true) (H : OO P K x N ops (Cont P K x N Q ks) 0 E h [h] (fun _ => True) []) : WK P K x N Q (.region id ops true) ks E h := by
  intro tm D U hE
  obtain ⟨n, tm1, h1, E1, hs1, lk1, nw1, hr, hl, hE1, hc⟩ := H tm D U hE [] (fun _ _ => rfl)
  refine ⟨n + 1, .normal, tm1, h1, E1, ?_, hE1, hc⟩
  rw [zbm]
  simp only [codeF, if_true]
  unfold openOps
  rw [if_pos hok, List.range_eq_range']
  rw [Nat.sub_zero] at hr
  rw [hr]
  simp only
  rw [if_pos]
  rcases hl with hl | hl
  · simp [hl]
  · simp [hl]
variable {ops : Array Oper} {F : Ex → Env → Heap → Prop} {i : Nat} {Hs : List Heap} {L : List Heap → Prop} {nw : List (Nat × Nat × Blk)}
theorem N_end (hi : i = ops.size) (hl : Hs.length ≤ 1 ∨ L Hs) (H : F .normal E h) : OO P K x N ops F i E h Hs L nw := by
  intro tm D U hE lk hlk
  refine ⟨0, tm, h, E, Hs, lk, nw, ?_, hl.imp id (hlk Hs), hE, H⟩
  rw [hi, Nat.sub_self]; rfl
theorem zed {f : Open → Nat → Option Open} {z : Open} (hi : i < ops.size) : (List.range' i (ops.size - i)).foldlM f z = (f z i).bind fun z => (List.range' (i + 1) (ops.size - (i + 1))).foldlM f z := by
  rw [show ops.size - i = (ops.size - (i + 1)) + 1 from by omega, List.range'_succ, List.foldlM_cons]; rfl
theorem zbY {n m : Nat} (h : n ≤ m) {ps : List (List Nat)} {z : Open} {i : Nat} {r : Open} (e : openStep P (run P K n) x ops ps z i = some r) : openStep P (run P K m) x ops ps z i = some r := zbs (zas P K h) e
theorem zdh {n m : Nat} (h : n ≤ m) {ps : List (List Nat)} {z : Open} {l : List Nat} {r : Open} (e : l.foldlM (openStep P (run P K n) x ops ps) z = some r) : l.foldlM (openStep P (run P K m) x ops ps) z = some r :=
  zcL (fun _ _ _ q => zbs (zas P K h) q) _ _ _ e
theorem zfB {L' : List Heap → Prop} (hL : ∀ hs, L hs → L' hs) (k : OO P K x N ops F i E h Hs L nw) : OO P K x N ops F i E h Hs L' nw := fun tm D U hE lk hlk => k tm D U hE lk fun hs' q => hlk hs' (hL hs' q)
structure Keeps (hs : List Heap) (b : Nat) (h : Heap) : Prop where
  out : ∀ hk ∈ hs, hk.get? b = h.get? b
theorem Keeps.nil (b : Nat) (h : Heap) : Keeps [] b h := ⟨fun _ q => nomatch q⟩
theorem Keeps.cons {hs : List Heap} {b : Nat} {h hk : Heap} {x : Blk} (g : hk.get? b = some x) (g' : h.get? b = some x) (r : Keeps hs b h) : Keeps (hk :: hs) b h := ⟨fun y q => by
  rcases List.mem_cons.1 q with rfl | q
  · rw [g, g']
  · exact r.out y q⟩
theorem zeu {o : Oper} {E' : Env} {h1 : Heap} {hs1 : List Heap} {L1 : List Heap → Prop} {nw1 : List (Nat × Nat × Blk)} (ho : ops[i]? = some o)
    (hst : ∀ tm D U, EnvOK N E tm → ∀ lk, (∀ hs', L hs' → lk.all (lookOK P hs') = true) → ∃ n tm1 lk1, openStep P (run P K n) x ops (preds ops.toList) ⟨⟨tm, D, U, h⟩, Hs, lk, nw⟩ i = some ⟨⟨tm1, D, U, h1⟩, hs1, lk1, nw1⟩ ∧ EnvOK N E' tm1 ∧ (∀ hs', L1 hs' → lk1.all (lookOK P hs') = true))
    (k : OO P K x N ops F (i + 1) E' h1 hs1 L1 nw1) : OO P K x N ops F i E h Hs L nw := by
  intro tm D U hE lk hlk
  obtain ⟨n, tm1, lk1, hr, hE1, hlk1⟩ := hst tm D U hE lk hlk
  obtain ⟨m, tm2, h2, E2, hs2, lk2, nw2, hr2, hl2, hE2, hF⟩ := k tm1 D U hE1 lk1 hlk1
  refine ⟨max n m, tm2, h2, E2, hs2, lk2, nw2, ?_, hl2, hE2, hF⟩
  rw [zed (Array.getElem?_eq_some_iff.1 ho).1, zbY (Nat.le_max_left n m) hr]
  exact zdh (Nat.le_max_right n m) hr2
theorem N_skip {o : Oper} {d : Nat} (ho : ops[i]? = some o) (hd : o.dst = some d) (hN : Nat.blt d N = true) (hg : gval ops E o.guard = some false) (hi : isSimple o = true) (k : OO P K x N ops F (i + 1) ((d, undef) :: E) h Hs L nw) : OO P K x N ops F i E h Hs L nw :=
  zeu ho (fun tm D U hE lk hlk => ⟨0, _, lk, by
    unfold openStep
    simp only [ho, hi, if_true, zaS hE hg, Bool.false_eq_true, if_false, hd], hE.put (zbl hN) undef, hlk⟩) k
theorem N_skipA {o : Oper} {d : Nat} (ho : ops[i]? = some o) (hd : o.dst = some d) (hN : Nat.blt d N = true) (hg : gval ops E o.guard = some false) (hi : isSimple o = false) (k : OO P K x N ops F (i + 1) ((d, undef) :: E) h (h :: Hs) L nw) : OO P K x N ops F i E h Hs L nw :=
  zeu ho (fun tm D U hE lk hlk => ⟨0, _, lk, by
    unfold openStep
    simp only [ho, hi, zaS hE hg, Bool.false_eq_true, if_false, hd], hE.put (zbl hN) undef, hlk⟩) k
theorem zbT {o : Oper} {d : Nat} {v : Value} (ho : ops[i]? = some o) (hd : o.dst = some d) (hN : Nat.blt d N = true) (hg : gval ops E o.guard = some true) (hk : opsOK P o = true) (hi : isSimple o = true) (hl : looks o = false)
    (hs' : ∀ tm, EnvOK N E tm → simpleB P tm h o = some (v, h)) (k : OO P K x N ops F (i + 1) ((d, v) :: E) h Hs L nw) : OO P K x N ops F i E h Hs L nw :=
  zeu ho (fun tm D U hE lk hlk => ⟨0, _, lk, by
    unfold openStep openSimple
    simp only [ho, hi, if_true, zaS hE hg, hk, hs' tm hE, beq_self_eq_true, hl, Bool.false_eq_true, if_false, hd], hE.put (zbl hN) v, hlk⟩) k
theorem zlv {o : Oper} {d : Nat} {v : Value} {A : Heap → Prop} (ho : ops[i]? = some o) (hd : o.dst = some d) (hN : Nat.blt d N = true) (hg : gval ops E o.guard = some true) (hk : opsOK P o = true) (hi : isSimple o = true) (hl : looks o = true)
    (hs' : ∀ tm, EnvOK N E tm → ∀ hk, A hk → simpleB P tm hk o = some (v, hk)) (ha : A h) (hsm : same 20 v v = true) (hw : within 20 h.n v = true) (k : OO P K x N ops F (i + 1) ((d, v) :: E) h Hs (fun hs => L hs ∧ ∀ hk ∈ hs, A hk) nw) : OO P K x N ops F i E h Hs L nw :=
  zeu ho (fun tm D U hE lk hlk => ⟨0, _, { o, tm, v, n := h.n, lo := actsIn ops ((preds ops.toList).getD i []), hi := actsMost ops (preds ops.toList) i } :: lk, by
    unfold openStep openSimple
    simp only [ho, hi, if_true, zaS hE hg, hk, hs' tm hE h ha, beq_self_eq_true, hl, hd], hE.put (zbl hN) v, fun hs2 hL => by
    rw [List.all_cons, hlk hs2 hL.1, Bool.and_true]
    unfold lookOK
    rw [List.all_eq_true]
    intro q hq
    simp only [Bool.or_eq_true, decide_eq_true_eq]
    right
    have hq' : q < hs2.length := List.mem_range.1 hq
    have hlt : hs2.length - 1 - q < hs2.length := by omega
    rw [List.getElem?_eq_getElem hlt]
    simp only [hs' tm hE _ (hL.2 _ (List.getElem_mem hlt)), hsm, hw, beq_self_eq_true, Bool.and_self]⟩) k
theorem zlu {o : Oper} {d : Nat} {v : Value} (ho : ops[i]? = some o) (hd : o.dst = some d) (hN : Nat.blt d N = true) (hg : gval ops E o.guard = some true) (hk : opsOK P o = true) (hi : isSimple o = true) (hl : looks o = true) (hz : actsMost ops (preds ops.toList) i = 0)
    (hs' : ∀ tm, EnvOK N E tm → simpleB P tm h o = some (v, h)) (hsm : same 20 v v = true) (hw : within 20 h.n v = true) (k : OO P K x N ops F (i + 1) ((d, v) :: E) h Hs (fun hs => L hs ∧ hs.getLast? = some h) nw) : OO P K x N ops F i E h Hs L nw :=
  zeu ho (fun tm D U hE lk hlk => ⟨0, _, { o, tm, v, n := h.n, lo := actsIn ops ((preds ops.toList).getD i []), hi := actsMost ops (preds ops.toList) i } :: lk, by
    unfold openStep openSimple
    simp only [ho, hi, if_true, zaS hE hg, hk, hs' tm hE, beq_self_eq_true, hl, hd], hE.put (zbl hN) v, fun hs2 hL => by
    rw [List.all_cons, hlk hs2 hL.1, Bool.and_true]
    unfold lookOK
    rw [List.all_eq_true]
    intro q hq
    simp only [Bool.or_eq_true, decide_eq_true_eq, hz]
    by_cases hq0 : q = 0
    · right
      subst hq0
      have hne : hs2 ≠ [] := by intro e; rw [e] at hL; cases hL.2
      have h1 : hs2[hs2.length - 1 - 0]? = some h := by rw [Nat.sub_zero, ← List.getLast?_eq_getElem?]; exact hL.2
      rw [h1]
      simp only [hs' tm hE, hsm, hw, beq_self_eq_true, Bool.and_self]
    · left; right; omega⟩) k
theorem N_new {o : Oper} {d : Nat} {v : Value} {b : Blk} (ho : ops[i]? = some o) (hd : o.dst = some d) (hN : Nat.blt d N = true) (hg : gval ops E o.guard = some true) (hk : opsOK P o = true) (hi : isSimple o = true)
    (hs' : ∀ tm, EnvOK N E tm → simpleB P tm h o = some (v, h.push b)) (k : OO P K x N ops F (i + 1) ((d, v) :: E) (h.push b) Hs L ((i, h.n, b) :: nw)) : OO P K x N ops F i E h Hs L nw :=
  zeu ho (fun tm D U hE lk hlk => ⟨0, _, lk, by
    have e1 : ((h.push b).n == h.n) = false := by
      have : (h.push b).n = h.n + 1 := rfl
      rw [this, beq_eq_false_iff_ne]; omega
    have e2 : (h.push b).get? h.n = some b := by rw [Heap.get_push, if_pos rfl]
    unfold openStep openSimple
    simp only [ho, hi, if_true, zaS hE hg, hk, hs' tm hE, e1, Bool.false_eq_true, if_false, e2, hd], hE.put (zbl hN) v, hlk⟩) k
theorem N_act {o : Oper} {d : Nat} {G : Value → Heap → Prop} (ho : ops[i]? = some o) (hd : o.dst = some d) (hN : Nat.blt d N = true) (hg : gval ops E o.guard = some true) (hi : isSimple o = false) (hnw : unseen (preds ops.toList) nw i = [])
    (hop : ∀ tm D U, EnvOK N E tm → ∃ n v h1, doOp P (run P K n) x ⟨tm, D, U, h⟩ o = some (.val v, ⟨tm, D, U, h1⟩) ∧ G v h1)
    (k : ∀ v h1, G v h1 → OO P K x N ops F (i + 1) ((d, v) :: E) h1 (h1 :: Hs) L nw) : OO P K x N ops F i E h Hs L nw := by
  intro tm D U hE lk hlk
  obtain ⟨n, v, h1, hr, hG⟩ := hop tm D U hE
  obtain ⟨m, tm2, h2, E2, hs2, lk2, nw2, hr2, hl2, hE2, hF⟩ := k v h1 hG _ D U (hE.put (zbl hN) v) lk hlk
  refine ⟨max n m, tm2, h2, E2, hs2, lk2, nw2, ?_, hl2, hE2, hF⟩
  have e : openStep P (run P K n) x ops (preds ops.toList) ⟨⟨tm, D, U, h⟩, Hs, lk, nw⟩ i = some ⟨⟨put tm (some d) v, D, U, h1⟩, h1 :: Hs, lk, nw⟩ := by
    unfold openStep openAct
    have hr' : doOp P (run P K n) x { (⟨tm, D, U, h⟩ : St) with h := hide [] h } o = some (.val v, ⟨tm, D, U, h1⟩) := hr
    simp only [hnw, ho, hi, Bool.false_eq_true, if_false, zaS hE hg, if_true, hr', hd]
    rfl
  rw [zed (Array.getElem?_eq_some_iff.1 ho).1, zbY (Nat.le_max_left n m) e]
  exact zdh (Nat.le_max_right n m) hr2
theorem N_act0 {o : Oper} {G : Heap → Prop} (ho : ops[i]? = some o) (hd : o.dst = none) (hg : gval ops E o.guard = some true) (hi : isSimple o = false) (hnw : unseen (preds ops.toList) nw i = [])
    (hop : ∀ tm D U, EnvOK N E tm → ∃ n v h1, doOp P (run P K n) x ⟨tm, D, U, h⟩ o = some (.val v, ⟨tm, D, U, h1⟩) ∧ G h1)
    (k : ∀ h1, G h1 → OO P K x N ops F (i + 1) E h1 (h1 :: Hs) L nw) : OO P K x N ops F i E h Hs L nw := by
  intro tm D U hE lk hlk
  obtain ⟨n, v, h1, hr, hG⟩ := hop tm D U hE
  obtain ⟨m, tm2, h2, E2, hs2, lk2, nw2, hr2, hl2, hE2, hF⟩ := k h1 hG tm D U hE lk hlk
  refine ⟨max n m, tm2, h2, E2, hs2, lk2, nw2, ?_, hl2, hE2, hF⟩
  have e : openStep P (run P K n) x ops (preds ops.toList) ⟨⟨tm, D, U, h⟩, Hs, lk, nw⟩ i = some ⟨⟨tm, D, U, h1⟩, h1 :: Hs, lk, nw⟩ := by
    unfold openStep openAct
    have hr' : doOp P (run P K n) x { (⟨tm, D, U, h⟩ : St) with h := hide [] h } o = some (.val v, ⟨tm, D, U, h1⟩) := hr
    simp only [hnw, ho, hi, Bool.false_eq_true, if_false, zaS hE hg, if_true, hr', hd]
    rfl
  rw [zed (Array.getElem?_eq_some_iff.1 ho).1, zbY (Nat.le_max_left n m) e]
  exact zdh (Nat.le_max_right n m) hr2
variable {d : Nat} {ty : TypeId} {pos : String} {af : Array Edge} {g : Option (Nat × Bool)}
theorem N_move {a : Operand} {v : Value} (ho : ops[i]? = some ⟨some d, .move a, ty, pos, af, g⟩) (hN : Nat.blt d N = true) (hg : gval ops E g = some true) (hk : opsOK P ⟨some d, .move a, ty, pos, af, g⟩ = true)
    (ha : E.ev a = some v) (k : OO P K x N ops F (i + 1) ((d, v) :: E) h Hs L nw) : OO P K x N ops F i E h Hs L nw :=
  zbT ho rfl hN hg hk rfl rfl (fun tm hE => by show some (ev tm a, h) = _; rw [hE.ev ha]) k
theorem N_assign {a : Operand} {v : Value} (ho : ops[i]? = some ⟨some d, .assign a, ty, pos, af, g⟩) (hN : Nat.blt d N = true) (hg : gval ops E g = some true) (hk : opsOK P ⟨some d, .assign a, ty, pos, af, g⟩ = true)
    (ha : E.ev a = some v) (k : OO P K x N ops F (i + 1) ((d, v) :: E) h Hs L nw) : OO P K x N ops F i E h Hs L nw :=
  zbT ho rfl hN hg hk rfl rfl (fun tm hE => by show some (ev tm a, h) = _; rw [hE.ev ha]) k
theorem N_pick {c a b : Operand} {t : Bool} {u v : Value} (ho : ops[i]? = some ⟨some d, .pick c a b, ty, pos, af, g⟩) (hN : Nat.blt d N = true) (hg : gval ops E g = some true) (hk : opsOK P ⟨some d, .pick c a b, ty, pos, af, g⟩ = true)
    (hc : E.ev c = some (.bool t)) (ha : E.ev a = some u) (hb : E.ev b = some v) (k : OO P K x N ops F (i + 1) ((d, bif t then u else v) :: E) h Hs L nw) : OO P K x N ops F i E h Hs L nw :=
  zbT ho rfl hN hg hk rfl rfl (fun tm hE => by
    show (match ev tm c with | .bool t => some (if t then ev tm a else ev tm b, h) | _ => none) = _
    rw [hE.ev hc, hE.ev ha, hE.ev hb]; cases t <;> rfl) k
theorem zdz {op : BinOp} {t yt : TypeId} {a b : Operand} {m n : Int} {v : Value} (ho : ops[i]? = some ⟨some d, .binOp op t a b yt, ty, pos, af, g⟩) (hN : Nat.blt d N = true) (hg : gval ops E g = some true) (hk : opsOK P ⟨some d, .binOp op t a b yt, ty, pos, af, g⟩ = true)
    (ha : E.ev a = some (.int .i64 m)) (hb : E.ev b = some (.int .i64 n)) (hs : binSem op m n = some v) (k : OO P K x N ops F (i + 1) ((d, v) :: E) h Hs L nw) : OO P K x N ops F i E h Hs L nw :=
  zbT ho rfl hN hg hk rfl rfl (fun tm hE => by
    have := zep (P := P) (tm := tm) (o := ⟨some d, .binOp op t a b yt, ty, pos, af, g⟩) rfl (hE.ev ha) (hE.ev hb) hs
    show (match plainOp P tm ⟨some d, .binOp op t a b yt, ty, pos, af, g⟩ with | some v => some (v, h) | none => _) = _
    rw [this]) k
theorem N_sub {t yt : TypeId} {a b : Operand} {m n : Int} (ho : ops[i]? = some ⟨some d, .binOp .sub t a b yt, ty, pos, af, g⟩) (hN : Nat.blt d N = true) (hg : gval ops E g = some true) (hk : opsOK P ⟨some d, .binOp .sub t a b yt, ty, pos, af, g⟩ = true)
    (ha : E.ev a = some (.int .i64 m)) (hb : E.ev b = some (.int .i64 n)) (hf : fit (m - n)) (k : OO P K x N ops F (i + 1) ((d, .int .i64 (m - n)) :: E) h Hs L nw) : OO P K x N ops F i E h Hs L nw :=
  zdz ho hN hg hk ha hb (by simp only [binSem, zcc hf]) k
theorem N_mul {t yt : TypeId} {a b : Operand} {m n : Int} (ho : ops[i]? = some ⟨some d, .binOp .mul t a b yt, ty, pos, af, g⟩) (hN : Nat.blt d N = true) (hg : gval ops E g = some true) (hk : opsOK P ⟨some d, .binOp .mul t a b yt, ty, pos, af, g⟩ = true)
    (ha : E.ev a = some (.int .i64 m)) (hb : E.ev b = some (.int .i64 n)) (hf : fit (m * n)) (k : OO P K x N ops F (i + 1) ((d, .int .i64 (m * n)) :: E) h Hs L nw) : OO P K x N ops F i E h Hs L nw :=
  zdz ho hN hg hk ha hb (by simp only [binSem, zcc hf]) k
theorem N_lss {t yt : TypeId} {a b : Operand} {m n : Int} (ho : ops[i]? = some ⟨some d, .binOp .lss t a b yt, ty, pos, af, g⟩) (hN : Nat.blt d N = true) (hg : gval ops E g = some true) (hk : opsOK P ⟨some d, .binOp .lss t a b yt, ty, pos, af, g⟩ = true)
    (ha : E.ev a = some (.int .i64 m)) (hb : E.ev b = some (.int .i64 n)) (kt : m < n → OO P K x N ops F (i + 1) ((d, .bool true) :: E) h Hs L nw) (kf : ¬ m < n → OO P K x N ops F (i + 1) ((d, .bool false) :: E) h Hs L nw) : OO P K x N ops F i E h Hs L nw := by
  by_cases hc : m < n
  · exact zdz ho hN hg hk ha hb (by simp only [binSem, hc, decide_true]) (kt hc)
  · exact zdz ho hN hg hk ha hb (by simp only [binSem, hc, decide_false]) (kf hc)
theorem N_leq {t yt : TypeId} {a b : Operand} {m n : Int} (ho : ops[i]? = some ⟨some d, .binOp .leq t a b yt, ty, pos, af, g⟩) (hN : Nat.blt d N = true) (hg : gval ops E g = some true) (hk : opsOK P ⟨some d, .binOp .leq t a b yt, ty, pos, af, g⟩ = true)
    (ha : E.ev a = some (.int .i64 m)) (hb : E.ev b = some (.int .i64 n)) (kt : m ≤ n → OO P K x N ops F (i + 1) ((d, .bool true) :: E) h Hs L nw) (kf : ¬ m ≤ n → OO P K x N ops F (i + 1) ((d, .bool false) :: E) h Hs L nw) : OO P K x N ops F i E h Hs L nw := by
  by_cases hc : m ≤ n
  · exact zdz ho hN hg hk ha hb (by simp only [binSem, hc, decide_true]) (kt hc)
  · exact zdz ho hN hg hk ha hb (by simp only [binSem, hc, decide_false]) (kf hc)
theorem N_gtr {t yt : TypeId} {a b : Operand} {m n : Int} (ho : ops[i]? = some ⟨some d, .binOp .gtr t a b yt, ty, pos, af, g⟩) (hN : Nat.blt d N = true) (hg : gval ops E g = some true) (hk : opsOK P ⟨some d, .binOp .gtr t a b yt, ty, pos, af, g⟩ = true)
    (ha : E.ev a = some (.int .i64 m)) (hb : E.ev b = some (.int .i64 n)) (kt : m > n → OO P K x N ops F (i + 1) ((d, .bool true) :: E) h Hs L nw) (kf : ¬ m > n → OO P K x N ops F (i + 1) ((d, .bool false) :: E) h Hs L nw) : OO P K x N ops F i E h Hs L nw := by
  by_cases hc : m > n
  · exact zdz ho hN hg hk ha hb (by simp only [binSem, hc, decide_true]) (kt hc)
  · exact zdz ho hN hg hk ha hb (by simp only [binSem, hc, decide_false]) (kf hc)
theorem N_eql {t yt : TypeId} {a b : Operand} {m n : Int} (ho : ops[i]? = some ⟨some d, .binOp .eql t a b yt, ty, pos, af, g⟩) (hN : Nat.blt d N = true) (hg : gval ops E g = some true) (hk : opsOK P ⟨some d, .binOp .eql t a b yt, ty, pos, af, g⟩ = true)
    (ha : E.ev a = some (.int .i64 m)) (hb : E.ev b = some (.int .i64 n)) (kt : m = n → OO P K x N ops F (i + 1) ((d, .bool true) :: E) h Hs L nw) (kf : ¬ m = n → OO P K x N ops F (i + 1) ((d, .bool false) :: E) h Hs L nw) : OO P K x N ops F i E h Hs L nw := by
  by_cases hc : m = n
  · exact zdz ho hN hg hk ha hb (by simp [binSem, hc]) (kt hc)
  · exact zdz ho hN hg hk ha hb (by simp [binSem, hc]) (kf hc)
theorem N_neq {t yt : TypeId} {a b : Operand} {m n : Int} (ho : ops[i]? = some ⟨some d, .binOp .neq t a b yt, ty, pos, af, g⟩) (hN : Nat.blt d N = true) (hg : gval ops E g = some true) (hk : opsOK P ⟨some d, .binOp .neq t a b yt, ty, pos, af, g⟩ = true)
    (ha : E.ev a = some (.int .i64 m)) (hb : E.ev b = some (.int .i64 n)) (kt : ¬ m = n → OO P K x N ops F (i + 1) ((d, .bool true) :: E) h Hs L nw) (kf : m = n → OO P K x N ops F (i + 1) ((d, .bool false) :: E) h Hs L nw) : OO P K x N ops F i E h Hs L nw := by
  by_cases hc : m = n
  · exact zdz ho hN hg hk ha hb (by simp [binSem, hc]) (kf hc)
  · exact zdz ho hN hg hk ha hb (by simp [binSem, hc]) (kt hc)
theorem zhQ {t : TypeId} {a : Operand} {f : Nat} {fs : Array Field} {fd : Field} {n b o : Nat} (ho : ops[i]? = some ⟨some d, .fieldAddr t a f, ty, pos, af, g⟩) (hN : Nat.blt d N = true) (hg : gval ops E g = some true) (hk : opsOK P ⟨some d, .fieldAddr t a f, ty, pos, af, g⟩ = true)
    (ha : E.ev a = some (.pointer (some ⟨b, o, none⟩))) (hfs : fieldsOf P t = some fs) (hfd : fs[f]? = some fd) (hs : sizeB P fd.type = some (n + 1)) (k : OO P K x N ops F (i + 1) ((d, .pointer (some ⟨b, o + fd.offset, none⟩)) :: E) h Hs L nw) : OO P K x N ops F i E h Hs L nw :=
  zbT ho rfl hN hg hk rfl rfl (fun tm hE => by
    show (fieldAtB P t (ev tm a) f).map (fun v => (v, h)) = _
    rw [hE.ev ha]; simp only [fieldAtB, hfs, hfd, hs, Option.map_some]) k
theorem N_idx {t e : TypeId} {a j : Operand} {b o len cap n : Nat} {ik : IntKind} {q : Int} (ho : ops[i]? = some ⟨some d, .indexAddr t a j, ty, pos, af, g⟩) (hN : Nat.blt d N = true) (hg : gval ops E g = some true) (hk : opsOK P ⟨some d, .indexAddr t a j, ty, pos, af, g⟩ = true)
    (ha : E.ev a = some (.slice (some ⟨b, o, none⟩) len cap)) (hj : E.ev j = some (.int ik q)) (hu : P.underlying t = some (.slice e)) (hs : sizeB P e = some n) (h0 : 0 ≤ q) (h1 : q < len) (k : OO P K x N ops F (i + 1) ((d, .pointer (some ⟨b, o + q.toNat * n, none⟩)) :: E) h Hs L nw) : OO P K x N ops F i E h Hs L nw :=
  zbT ho rfl hN hg hk rfl rfl (fun tm hE => by
    show (indexAtB P t (ev tm a) (ev tm j)).map (fun v => (v, h)) = _
    rw [hE.ev ha, hE.ev hj]; simp only [indexAtB, hu, hs, if_pos (And.intro h0 h1), Option.map_some]) k
theorem zlI {a : Operand} {j : Nat} {vs : Array Value} {v : Value} (ho : ops[i]? = some ⟨some d, .extract a j, ty, pos, af, g⟩) (hN : Nat.blt d N = true) (hg : gval ops E g = some true) (hk : opsOK P ⟨some d, .extract a j, ty, pos, af, g⟩ = true)
    (ha : E.ev a = some (.tuple vs)) (hv : vs[j]? = some v) (k : OO P K x N ops F (i + 1) ((d, v) :: E) h Hs L nw) : OO P K x N ops F i E h Hs L nw :=
  zbT ho rfl hN hg hk rfl rfl (fun tm hE => by
    simp only [simpleB, hE.ev ha, hv]; rfl) k
theorem N_load1 {t : TypeId} {a : Operand} {b o : Nat} {c : List Value} {e : TypeId} {own : Bool} {v : Value} (ho : ops[i]? = some ⟨some d, .load t a, ty, pos, af, g⟩) (hN : Nat.blt d N = true) (hg : gval ops E g = some true) (hk : opsOK P ⟨some d, .load t a, ty, pos, af, g⟩ = true)
    (ha : E.ev a = some (.pointer (some ⟨b, o, none⟩))) (ht : one P t = true) (hb : h.get? b = some (.cells c e own)) (hv : c[o]? = some v) (hsm : same 20 v v = true) (hw : within 20 h.n v = true) (k : OO P K x N ops F (i + 1) ((d, v) :: E) h Hs (fun hs => L hs ∧ Keeps hs b h) nw) : OO P K x N ops F i E h Hs L nw :=
  zlv (A := fun hk => hk.get? b = h.get? b) ho rfl hN hg hk rfl rfl (fun tm hE hk hA => by
    show (readB P hk t (ev tm a)).map (fun v => (v, hk)) = _
    rw [hE.ev ha]; simp only [readB, hA, hb, partB, zd4 ht, zcX ht, hv, Option.map_some]) rfl hsm hw (zfB (fun _ q => ⟨q.1, q.2.out⟩) k)
theorem N_loadA {t : TypeId} {a : Operand} {b o n : Nat} {c : List Value} {e : TypeId} {own : Bool} {vs : List Value} (ho : ops[i]? = some ⟨some d, .load t a, ty, pos, af, g⟩) (hN : Nat.blt d N = true) (hg : gval ops E g = some true) (hk : opsOK P ⟨some d, .load t a, ty, pos, af, g⟩ = true)
    (ha : E.ev a = some (.pointer (some ⟨b, o, none⟩))) (ht : aggN P t = some n) (hb : h.get? b = some (.cells c e own)) (hl : o + n ≤ c.length) (hv : (c.drop o).take n = vs) (hsm : same 20 (.agg vs.toArray) (.agg vs.toArray) = true) (hw : within 20 h.n (.agg vs.toArray) = true) (k : OO P K x N ops F (i + 1) ((d, .agg vs.toArray) :: E) h Hs (fun hs => L hs ∧ Keeps hs b h) nw) : OO P K x N ops F i E h Hs L nw :=
  zlv (A := fun hk => hk.get? b = h.get? b) ho rfl hN hg hk rfl rfl (fun tm hE hk hA => by
    show (readB P hk t (ev tm a)).map (fun v => (v, hk)) = _
    rw [hE.ev ha]; simp only [readB, hA, hb, partB, zdL ht, zc7 ht, if_pos hl, hv, Option.map_some]) rfl hsm hw (zfB (fun _ q => ⟨q.1, q.2.out⟩) k)
theorem N_load1E {t : TypeId} {a : Operand} {b o : Nat} {c : List Value} {e : TypeId} {own : Bool} {v : Value} (ho : ops[i]? = some ⟨some d, .load t a, ty, pos, af, g⟩) (hN : Nat.blt d N = true) (hg : gval ops E g = some true) (hk : opsOK P ⟨some d, .load t a, ty, pos, af, g⟩ = true)
    (ha : E.ev a = some (.pointer (some ⟨b, o, none⟩))) (ht : one P t = true) (hz : actsMost ops (preds ops.toList) i = 0) (hb : h.get? b = some (.cells c e own)) (hv : c[o]? = some v) (hsm : same 20 v v = true) (hw : within 20 h.n v = true) (k : OO P K x N ops F (i + 1) ((d, v) :: E) h Hs (fun hs => L hs ∧ hs.getLast? = some h) nw) : OO P K x N ops F i E h Hs L nw :=
  zlu ho rfl hN hg hk rfl rfl hz (fun tm hE => by
    show (readB P h t (ev tm a)).map (fun v => (v, h)) = _
    rw [hE.ev ha]; simp only [readB, hb, partB, zd4 ht, zcX ht, hv, Option.map_some]) hsm hw k
theorem N_loadAE {t : TypeId} {a : Operand} {b o n : Nat} {c : List Value} {e : TypeId} {own : Bool} {vs : List Value} (ho : ops[i]? = some ⟨some d, .load t a, ty, pos, af, g⟩) (hN : Nat.blt d N = true) (hg : gval ops E g = some true) (hk : opsOK P ⟨some d, .load t a, ty, pos, af, g⟩ = true)
    (ha : E.ev a = some (.pointer (some ⟨b, o, none⟩))) (ht : aggN P t = some n) (hz : actsMost ops (preds ops.toList) i = 0) (hb : h.get? b = some (.cells c e own)) (hl : o + n ≤ c.length) (hv : (c.drop o).take n = vs) (hsm : same 20 (.agg vs.toArray) (.agg vs.toArray) = true) (hw : within 20 h.n (.agg vs.toArray) = true) (k : OO P K x N ops F (i + 1) ((d, .agg vs.toArray) :: E) h Hs (fun hs => L hs ∧ hs.getLast? = some h) nw) : OO P K x N ops F i E h Hs L nw :=
  zlu ho rfl hN hg hk rfl rfl hz (fun tm hE => by
    show (readB P h t (ev tm a)).map (fun v => (v, h)) = _
    rw [hE.ev ha]; simp only [readB, hb, partB, zdL ht, zc7 ht, if_pos hl, hv, Option.map_some]) hsm hw k
theorem N_len {args : Array Operand} {ts : Array TypeId} {t e : TypeId} {a : Operand} {p : Option Addr} {n c : Nat} (ho : ops[i]? = some ⟨some d, .call ⟨.builtin .len, args, ts⟩, ty, pos, af, g⟩) (hN : Nat.blt d N = true) (hg : gval ops E g = some true) (hk : opsOK P ⟨some d, .call ⟨.builtin .len, args, ts⟩, ty, pos, af, g⟩ = true)
    (hts : ts[0]? = some t) (has : args[0]? = some a) (ha : E.ev a = some (.slice p n c)) (hu : P.underlying t = some (.slice e)) (k : OO P K x N ops F (i + 1) ((d, .int .i64 n) :: E) h Hs L nw) : OO P K x N ops F i E h Hs L nw :=
  zlv (A := fun _ => True) ho rfl hN hg hk rfl rfl (fun tm hE hk _ => by
    simp only [simpleB, hts, has, hu, hE.ev ha]; rfl) trivial (by simp [same]) rfl (zfB (fun _ q => ⟨q, fun _ _ => trivial⟩) k)
theorem N_call {fo : Operand} {args : Array Operand} {ts : Array TypeId} {f : FuncId} {fi ca : Array Value} {vs : List Value} {G : Value → Heap → Prop} (ho : ops[i]? = some ⟨some d, .call ⟨.value fo, args, ts⟩, ty, pos, af, g⟩) (hN : Nat.blt d N = true) (hg : gval ops E g = some true) (hk : opsOK P ⟨some d, .call ⟨.value fo, args, ts⟩, ty, pos, af, g⟩ = true)
    (hf : E.ev fo = some (.func (.func f) fi ca)) (hargs : E.evs args.toList = some vs) (hen : enters P f = true) (hnw : unseen (preds ops.toList) nw i = []) (hc : CallW P K f (fi ++ vs.toArray ++ ca) h G) (k : ∀ v h1, G v h1 → OO P K x N ops F (i + 1) ((d, v) :: E) h1 (h1 :: Hs) L nw) : OO P K x N ops F i E h Hs L nw :=
  N_act ho rfl hN hg rfl hnw (zk8 hk hf hargs hen hc) k
theorem N_store {t : TypeId} {a y : Operand} {b o n : Nat} {c : List Value} {e : TypeId} {v : Value} (ho : ops[i]? = some ⟨none, .store t a y, ty, pos, af, g⟩) (hg : gval ops E g = some true) (hk : opsOK P ⟨none, .store t a y, ty, pos, af, g⟩ = true)
    (ha : E.ev a = some (.pointer (some ⟨b, o, none⟩))) (hy : E.ev y = some v) (hb : h.get? b = some (.cells c e true)) (hs' : sizeB P t = some n) (hc : v.cells.size = n) (hl : o + n ≤ c.length) (hone : v.cells.toList.all oneB = true) (hnw : unseen (preds ops.toList) nw i = [])
    (k : OO P K x N ops F (i + 1) E (h.set b (.cells (splice c o v.cells.toList) e true)) (h.set b (.cells (splice c o v.cells.toList) e true) :: Hs) L nw) : OO P K x N ops F i E h Hs L nw :=
  N_act0 (G := fun h' => h' = h.set b (.cells (splice c o v.cells.toList) e true)) ho rfl hg rfl hnw (fun tm _ _ hE => ⟨0, undef, _, zei hk rfl rfl (by
    show (writeB P h t (ev tm y) (ev tm a)).map (fun h => (Out.val undef, h)) = _
    rw [hE.ev ha, hE.ev hy]; simp only [writeB, hb, hs', if_pos (And.intro hc (And.intro hl hone)), Option.map_some]), rfl⟩) (fun _ q => by subst q; exact k)
end
end Go.AX
