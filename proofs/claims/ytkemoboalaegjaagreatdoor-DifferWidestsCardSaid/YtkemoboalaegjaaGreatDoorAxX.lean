/- Rules for arrays, spans, lists of lists, and regions of many operations. -/
import Derived.Test.YtkemoboalaegjaaGreatDoorAxW
import Derived.KernelRfl
namespace Go.AX

/-! '==' of structs of two numbers. -/

theorem pe_bind {α β : Type} {P : Program} {s : Sem α} {k : α → Sem β} {a : α} (h : pe P s = some a) : pe P (Sem.bind s k) = pe P (k a) := by
  induction s with
  | pure b => cases h; rfl
  | program f ih => exact ih P h
  | mark m f ih => exact ih h
  | _ => cases h

/-- A struct of two numbers, both compared. -/
def spanT (P : Program) (t : TypeId) : Bool :=
  match P.underlying t with
  | some (.struct fs) => match fs.toList with
    | [f, g] => f.name != "_" && g.name != "_" && Nat.beq f.offset 0 && Nat.beq g.offset 1 && !P.stoodInHeld t &&
      (match P.underlying f.type with | some (.int _) => true | _ => false) && (match P.underlying g.type with | some (.int _) => true | _ => false)
    | _ => false
  | _ => false

theorem pe_underlying {P : Program} {t : TypeId} {u : TypeDesc} (h : P.underlying t = some u) : pe P (underlying t) = some u := by
  unfold underlying
  show pe P (match P.underlying t with | some d => Sem.pure d | none => stuck "no such type") = _
  rw [h]; rfl
theorem pe_eqInt {P : Program} {d : Nat} {t : TypeId} {k : IntKind} {a b : Int} (h : P.underlying t = some (.int k)) : pe P (Op.equalIn (d + 1) t (.int .i64 a) (.int .i64 b)) = some (a == b) := by
  unfold Op.equalIn
  refine (pe_bind (pe_underlying h)).trans ?_
  rfl
theorem pe_part {P : Program} {t : TypeId} {k : IntKind} {cs : Array Value} {o : Nat} {v : Value} (h : P.underlying t = some (.int k)) (hv : cs[o]? = some v) : pe P (part t cs o) = some v := by
  unfold part isAgg
  refine (pe_bind ((pe_bind (pe_underlying h)).trans rfl)).trans ?_
  simp only [Bool.false_eq_true, if_false, hv]; rfl
theorem pe_eqSpan {P : Program} {d : Nat} {t : TypeId} {a b c e : Int} (h : spanT P t = true) : pe P (Op.equalIn (d + 2) t (.agg #[.int .i64 a, .int .i64 b]) (.agg #[.int .i64 c, .int .i64 e])) = some (a == c && b == e) := by
  unfold spanT at h
  split at h
  · rename_i fs hu
    obtain ⟨l⟩ := fs
    simp only at h
    split at h
    · rename_i f g
      simp only [Bool.and_eq_true, bne_iff_ne, Bool.not_eq_true'] at h
      obtain ⟨⟨⟨⟨⟨⟨hf, hg⟩, ho⟩, ho'⟩, hs⟩, ht⟩, ht'⟩ := h
      have ho := Nat.eq_of_beq_eq_true ho
      have ho' := Nat.eq_of_beq_eq_true ho'
      split at ht
      · rename_i k hk
        split at ht'
        · rename_i k' hk'
          unfold Op.equalIn
          refine (pe_bind (pe_underlying hu)).trans ?_
          dsimp only
          refine (pe_bind (a := P) rfl).trans ?_
          rw [hs]
          simp only [Bool.false_eq_true, if_false]
          rw [List.forIn_toArray, List.forIn_cons]
          have p0 : pe P (part f.type #[Value.int .i64 a, Value.int .i64 b] f.offset) = some (.int .i64 a) := pe_part hk (by rw [ho]; rfl)
          have p1 : pe P (part f.type #[Value.int .i64 c, Value.int .i64 e] f.offset) = some (.int .i64 c) := pe_part hk (by rw [ho]; rfl)
          have q0 : pe P (part g.type #[Value.int .i64 a, Value.int .i64 b] g.offset) = some (.int .i64 b) := pe_part hk' (by rw [ho']; rfl)
          have q1 : pe P (part g.type #[Value.int .i64 c, Value.int .i64 e] g.offset) = some (.int .i64 e) := pe_part hk' (by rw [ho']; rfl)
          rw [if_pos hf]
          cases hac : (a == c) with
          | false =>
            refine (pe_bind (a := (some false, ())) ?_).trans rfl
            refine (pe_bind (a := .done (some false, ())) ?_).trans rfl
            exact (pe_bind p0).trans ((pe_bind p1).trans ((pe_bind (pe_eqInt hk)).trans (by rw [hac]; rfl)))
          | true =>
            cases hbe : (b == e) with
            | false =>
              refine (pe_bind (a := (some false, ())) ?_).trans rfl
              refine (pe_bind (a := .yield (none, ())) ?_).trans ?_
              · exact (pe_bind p0).trans ((pe_bind p1).trans ((pe_bind (pe_eqInt hk)).trans (by rw [hac]; rfl)))
              · dsimp only
                rw [List.forIn_cons, if_pos hg]
                refine (pe_bind (a := .done (some false, ())) ?_).trans rfl
                exact (pe_bind q0).trans ((pe_bind q1).trans ((pe_bind (pe_eqInt hk')).trans (by rw [hbe]; rfl)))
            | true =>
              refine (pe_bind (a := (none, ())) ?_).trans rfl
              refine (pe_bind (a := .yield (none, ())) ?_).trans ?_
              · exact (pe_bind p0).trans ((pe_bind p1).trans ((pe_bind (pe_eqInt hk)).trans (by rw [hac]; rfl)))
              · dsimp only
                rw [List.forIn_cons, if_pos hg]
                refine (pe_bind (a := .yield (none, ())) ?_).trans rfl
                exact (pe_bind q0).trans ((pe_bind q1).trans ((pe_bind (pe_eqInt hk')).trans (by rw [hbe]; rfl)))
        · cases ht'
      · cases ht
    · cases h
  · cases h

theorem neqS_op {P : Program} {tm : Array Value} {o : Oper} {t yt : TypeId} {x y : Operand} {a b c e : Int} (ho : o.op = .binOp .neq t x y yt) (hx : ev tm x = .agg #[.int .i64 a, .int .i64 b]) (hy : ev tm y = .agg #[.int .i64 c, .int .i64 e])
    (hs : spanT P t = true) (hq : P.eqGuardType P.depth t = false) : plainOp P tm o = some (.bool (!(a == c && b == e))) := by
  have hp : (plainKind o && o.op.operands.toList.all fun x => plain deep (ev tm x)) = true := by
    simp [plainKind, ho, Op.operands, hx, hy, plain, deep]
  unfold plainOp
  rw [if_pos hp]
  have he : execOp (ev tm) o = Sem.bind (do eqGuard .neq t x y (ev tm x) (ev tm y); binOp .neq t (ev tm x) (ev tm y)) fun v => .pure (Next.value v) := by
    unfold execOp; rw [ho]; rfl
  rw [he, hx, hy]
  have e1 : pe P (do eqGuard .neq t x y (.agg #[.int .i64 a, .int .i64 b]) (.agg #[.int .i64 c, .int .i64 e]); binOp .neq t (.agg #[.int .i64 a, .int .i64 b]) (.agg #[.int .i64 c, .int .i64 e])) = some (.bool (!(a == c && b == e))) := by
    refine (pe_bind (a := ()) ?_).trans ?_
    · unfold eqGuard
      simp only [Bool.not_true, Bool.false_eq_true, if_false]
      show pe P (if (!(P.eqGuardType P.depth t)) = true then _ else _) = _
      rw [hq]; rfl
    · show pe P (do pure (Value.bool (!(← Op.equal t (.agg #[.int .i64 a, .int .i64 b]) (.agg #[.int .i64 c, .int .i64 e]))))) = _
      exact (pe_bind (pe_eqSpan hs)).trans rfl
  rw [(pe_bind e1).trans rfl]
  rfl

section
variable {P : Program} {K : Known} {x : Ctx} {N : Nat} {E : Env} {h : Heap} {ops : Array Oper} {F : Ex → Env → Heap → Prop} {i : Nat} {Hs : List Heap} {L : List Heap → Prop} {nw : List (Nat × Nat × Blk)}
variable {d : Nat} {ty : TypeId} {pos : String} {af : Array Edge} {g : Option (Nat × Bool)}

theorem neqS_simple {tm : Array Value} {t yt : TypeId} {a b : Operand} {p q : Int × Int} (hE : EnvOK N E tm)
    (ha : E.ev a = some (.agg #[.int .i64 p.1, .int .i64 p.2])) (hb : E.ev b = some (.agg #[.int .i64 q.1, .int .i64 q.2])) (hs : spanT P t = true) (hq : P.eqGuardType P.depth t = false) :
    simpleB P tm h ⟨some d, .binOp .neq t a b yt, ty, pos, af, g⟩ = some (.bool (!(p.1 == q.1 && p.2 == q.2)), h) := by
  have := neqS_op (P := P) (tm := tm) (o := ⟨some d, .binOp .neq t a b yt, ty, pos, af, g⟩) rfl (hE.ev ha) (hE.ev hb) hs hq
  show (match plainOp P tm ⟨some d, .binOp .neq t a b yt, ty, pos, af, g⟩ with | some v => some (v, h) | none => _) = _
  rw [this]
theorem neq_t {p q : Int × Int} (h : ¬ p = q) : (!(p.1 == q.1 && p.2 == q.2)) = true := by
  obtain ⟨a, b⟩ := p; obtain ⟨c, e⟩ := q
  simp only [Bool.not_eq_true', Bool.and_eq_false_iff, beq_eq_false_iff_ne]
  by_cases k : a = c
  · subst k; right; intro r; subst r; exact h rfl
  · exact .inl k
theorem neq_f {p q : Int × Int} (h : p = q) : (!(p.1 == q.1 && p.2 == q.2)) = false := by subst h; simp
/-- Two spans. -/
theorem M_neqS {t yt : TypeId} {a b : Operand} {p q : Int × Int} (hN : Nat.blt d N = true) (hg : gval ops E g = some true) (hk : opsOK P ⟨some d, .binOp .neq t a b yt, ty, pos, af, g⟩ = true)
    (ha : E.ev a = some (.agg #[.int .i64 p.1, .int .i64 p.2])) (hb : E.ev b = some (.agg #[.int .i64 q.1, .int .i64 q.2])) (hs : spanT P t = true) (hq : P.eqGuardType P.depth t = false)
    (kt : ¬ p = q → S1 P K x N ops F (i + 1) ((d, .bool true) :: E) h Hs L nw) (kf : p = q → S1 P K x N ops F (i + 1) ((d, .bool false) :: E) h Hs L nw) : S2 P K x N ops F i ⟨some d, .binOp .neq t a b yt, ty, pos, af, g⟩ E h Hs L nw := by
  by_cases hc : p = q
  · exact ⟨fun ho => N_simple ho rfl hN hg hk rfl rfl (fun tm hE => by rw [neqS_simple hE ha hb hs hq, neq_f hc]) (kf hc).out⟩
  · exact ⟨fun ho => N_simple ho rfl hN hg hk rfl rfl (fun tm hE => by rw [neqS_simple hE ha hb hs hq, neq_t hc]) (kt hc).out⟩

/-! Arrays. -/
theorem index_op {tm : Array Value} {o : Oper} {t e : TypeId} {a j : Operand} {ik : IntKind} {k len : Nat} {cs : Array Value} {v : Value} (ho : o.op = .index t a j) (ha : ev tm a = .agg cs) (hj : ev tm j = .int ik (k : Nat))
    (hp : (cs.toList.all (plain 8)) = true) (hu : P.underlying t = some (.array len e)) (hs : one P e = true) (hv : cs[k]? = some v) (hl : k < len) (hpv : plain deep v = true) : plainOp P tm o = some v := by
  have hp' : (plainKind o && o.op.operands.toList.all fun x => plain deep (ev tm x)) = true := by
    simp only [plainKind, ho, Op.operands, Bool.true_and]
    simp only [List.all_cons, List.all_nil, Bool.and_true, ha, hj, Bool.and_eq_true]
    exact ⟨hp, rfl⟩
  unfold plainOp
  rw [if_pos hp']
  have he : execOp (ev tm) o = Sem.bind (Instr.index t (ev tm a) (ev tm j)) fun v => .pure (Next.value v) := by
    unfold execOp; rw [ho]; rfl
  rw [he, ha, hj]
  have hag := one_agg hs
  have hsz := one_size hs
  have e1 : pe P (Instr.index t (.agg cs) (.int ik (k : Nat))) = some v := by
    unfold Instr.index
    refine (pe_bind (a := (ik, (k : Int))) rfl).trans ?_
    refine (pe_bind (pe_underlying hu)).trans ?_
    dsimp only
    rw [if_pos ⟨by omega, by omega⟩]
    have es : pe P (sizeOf e) = some 1 := by
      unfold sizeB at hsz
      unfold sizeOf typeInfo
      show pe P (Sem.bind (match P.info? e with | some t => Sem.pure t | none => stuck "no such type") _) = _
      cases hi : P.info? e with
      | none => rw [hi] at hsz; cases hsz
      | some ti => rw [hi] at hsz; simp only [Option.map_some] at hsz; show some ti.size = some 1; exact hsz
    refine (pe_bind es).trans ?_
    rw [Nat.mul_one, show (k : Int).toNat = k from rfl]
    unfold part isAgg
    unfold aggB at hag
    cases hue : P.underlying e with
    | none => rw [hue] at hag; cases hag
    | some u =>
      refine (pe_bind (a := false) ((pe_bind (pe_underlying hue)).trans ?_)).trans ?_
      · rw [hue] at hag
        cases u <;> simp only [Option.some.injEq, Bool.true_eq_false] at hag <;> rfl
      · simp only [Bool.false_eq_true, if_false, hv]; rfl
  rw [(pe_bind e1).trans rfl]
  show (if plain deep v = true then some v else none) = some v
  rw [if_pos hpv]
theorem P_index {t e : TypeId} {a j : Operand} {ik : IntKind} {k len : Nat} {cs : Array Value} {v : Value} (hN : Nat.blt d N = true) (hg : gval ops E g = some true) (hk : opsOK P ⟨some d, .index t a j, ty, pos, af, g⟩ = true)
    (ha : E.ev a = some (.agg cs)) (hj : E.ev j = some (.int ik (k : Nat))) (hp : (cs.toList.all (plain 8)) = true) (hu : P.underlying t = some (.array len e)) (hs : one P e = true) (hv : cs[k]? = some v) (hl : k < len) (hpv : plain deep v = true)
    (kk : R1 P K x N ops F (i + 1) ((d, v) :: E) h) : R2 P K x N ops F i ⟨some d, .index t a j, ty, pos, af, g⟩ E h :=
  ⟨fun ho => O_simple ho rfl hN hg hk (fun tm hE => by
    show (plainOp P tm ⟨some d, .index t a j, ty, pos, af, g⟩).map (fun v => (v, h)) = _
    rw [index_op rfl (hE.ev ha) (hE.ev hj) hp hu hs hv hl hpv]; rfl) kk.out⟩
theorem idxP_simple {tm : Array Value} {t e : TypeId} {a j : Operand} {ik : IntKind} {b k len : Nat} (hE : EnvOK N E tm)
    (ha : E.ev a = some (.pointer (some ⟨b, 0, none⟩))) (hj : E.ev j = some (.int ik (k : Nat))) (hu : P.underlying t = some (.array len e)) (hs : sizeB P e = some 1) (hl : k < len) :
    simpleB P tm h ⟨some d, .indexAddr t a j, ty, pos, af, g⟩ = some (.pointer (some ⟨b, k, none⟩), h) := by
  show (indexAtB P t (ev tm a) (ev tm j)).map (fun v => (v, h)) = _
  rw [hE.ev ha, hE.ev hj]
  simp only [indexAtB, hu, hs]
  rw [if_pos ⟨by omega, by omega⟩]
  simp
/-- An element of an array in memory, of one cell. -/
theorem P_idxP {t e : TypeId} {a j : Operand} {ik : IntKind} {b k len : Nat} (hN : Nat.blt d N = true) (hg : gval ops E g = some true) (hk : opsOK P ⟨some d, .indexAddr t a j, ty, pos, af, g⟩ = true)
    (ha : E.ev a = some (.pointer (some ⟨b, 0, none⟩))) (hj : E.ev j = some (.int ik (k : Nat))) (hu : P.underlying t = some (.array len e)) (hs : sizeB P e = some 1) (hl : k < len)
    (kk : R1 P K x N ops F (i + 1) ((d, .pointer (some ⟨b, k, none⟩)) :: E) h) : R2 P K x N ops F i ⟨some d, .indexAddr t a j, ty, pos, af, g⟩ E h :=
  ⟨fun ho => O_simple ho rfl hN hg hk (fun _ hE => idxP_simple hE ha hj hu hs hl) kk.out⟩
theorem M_idxP {t e : TypeId} {a j : Operand} {ik : IntKind} {b k len : Nat} {q : Int} (hN : Nat.blt d N = true) (hg : gval ops E g = some true) (hk : opsOK P ⟨some d, .indexAddr t a j, ty, pos, af, g⟩ = true)
    (ha : E.ev a = some (.pointer (some ⟨b, 0, none⟩))) (hj : E.ev j = some (.int ik q)) (hu : P.underlying t = some (.array len e)) (hs : sizeB P e = some 1) (hq : q = (k : Nat)) (hl : k < len)
    (kk : S1 P K x N ops F (i + 1) ((d, .pointer (some ⟨b, k, none⟩)) :: E) h Hs L nw) : S2 P K x N ops F i ⟨some d, .indexAddr t a j, ty, pos, af, g⟩ E h Hs L nw := by
  subst hq
  exact ⟨fun ho => N_simple ho rfl hN hg hk rfl rfl (fun _ hE => idxP_simple hE ha hj hu hs hl) kk.out⟩

/-! Spans. -/
theorem M_build {t : TypeId} {ps : Array (Nat × Operand)} {vs : List (Nat × Value)} {v : Value} (hN : Nat.blt d N = true) (hg : gval ops E g = some true) (hk : opsOK P ⟨some d, .build t ps, ty, pos, af, g⟩ = true)
    (hps : E.parts ps.toList = some vs) (hb : fillB P t vs = some v) (k : S1 P K x N ops F (i + 1) ((d, v) :: E) h Hs L nw) : S2 P K x N ops F i ⟨some d, .build t ps, ty, pos, af, g⟩ E h Hs L nw :=
  ⟨fun ho => N_simple ho rfl hN hg hk rfl rfl (fun tm hE => by
    show (fillB P t (ps.toList.map fun (i, x) => (i, ev tm x))).map (fun v => (v, h)) = _
    rw [hE.parts hps, hb]; rfl) k.out⟩
theorem spanCells_set (l : List (Int × Int)) : ∀ (k : Nat) (p : Int × Int), k < l.length → splice (spanCells l) (k * 2) [.int .i64 p.1, .int .i64 p.2] = spanCells (l.set k p) := by
  induction l with
  | nil => intro k p h; simp at h
  | cons a l ih =>
    intro k p h
    cases k with
    | zero => simp [splice, spanCells]
    | succ k =>
      have := ih k p (by simpa using h)
      rw [show (k + 1) * 2 = k * 2 + 1 + 1 from by omega]
      simp only [splice, spanCells, List.take_succ_cons, List.set_cons_succ, List.cons_append, List.length_cons, List.length_nil] at this ⊢
      rw [← this]
      rfl
theorem P_storeS {t : TypeId} {a y : Operand} {b j o : Nat} {l : List (Int × Int)} {e : TypeId} {m n : Int} (hg : gval ops E g = some true) (hk : opsOK P ⟨none, .store t a y, ty, pos, af, g⟩ = true)
    (ha : E.ev a = some (.pointer (some ⟨b, o, none⟩))) (hy : E.ev y = some (.agg #[.int .i64 m, .int .i64 n])) (ho : o = j * 2) (hb : h.get? b = some (.cells (spanCells l) e true)) (hs : sizeB P t = some 2) (hl : j < l.length)
    (k : ∀ h1, h1.get? b = some (.cells (spanCells (l.set j (m, n))) e true) → ExtBut b h h1 → R1 P K x N ops F (i + 1) E h1) : R2 P K x N ops F i ⟨none, .store t a y, ty, pos, af, g⟩ E h := by
  subst ho
  refine P_store hg hk ha hy hb hs rfl (by rw [spanCells_len]; omega) rfl ?_
  rw [show (Value.agg #[.int .i64 m, .int .i64 n]).cells.toList = [.int .i64 (m, n).1, .int .i64 (m, n).2] from rfl, spanCells_set l j (m, n) hl]
  exact k _ (get_set_same hb) ((ExtBut.refl b h).set hb _)
theorem M_storeS {t : TypeId} {a y : Operand} {b j o : Nat} {l : List (Int × Int)} {e : TypeId} {m n : Int} (hg : gval ops E g = some true) (hk : opsOK P ⟨none, .store t a y, ty, pos, af, g⟩ = true)
    (ha : E.ev a = some (.pointer (some ⟨b, o, none⟩))) (hy : E.ev y = some (.agg #[.int .i64 m, .int .i64 n])) (ho : o = j * 2) (hb : h.get? b = some (.cells (spanCells l) e true)) (hs : sizeB P t = some 2) (hl : j < l.length) (hnw : unseen (preds ops.toList) nw i = [])
    (k : ∀ h1, h1.get? b = some (.cells (spanCells (l.set j (m, n))) e true) → ExtBut b h h1 → S1 P K x N ops F (i + 1) E h1 (h1 :: Hs) L nw) : S2 P K x N ops F i ⟨none, .store t a y, ty, pos, af, g⟩ E h Hs L nw := by
  subst ho
  refine M_store hg hk ha hy hb hs rfl (by rw [spanCells_len]; omega) rfl hnw ?_
  rw [show (Value.agg #[.int .i64 m, .int .i64 n]).cells.toList = [.int .i64 (m, n).1, .int .i64 (m, n).2] from rfl, spanCells_set l j (m, n) hl]
  exact k _ (get_set_same hb) ((ExtBut.refl b h).set hb _)
end
section
variable {P : Program} {K : Known} {x : Ctx} {N : Nat} {E : Env} {h : Heap} {ops : Array Oper} {F : Ex → Env → Heap → Prop} {i : Nat} {Hs : List Heap} {L : List Heap → Prop} {nw : List (Nat × Nat × Blk)}
variable {d : Nat} {ty : TypeId} {pos : String} {af : Array Edge} {g : Option (Nat × Bool)}
/-- The memories before the second act. -/
def early (hs : List Heap) : List Heap := hs.drop (hs.length - 2)
/-- A look ahead of which one act at most may come. -/
theorem N_lookH {o : Oper} {d : Nat} {v : Value} {A : Heap → Prop} (ho : ops[i]? = some o) (hd : o.dst = some d) (hN : Nat.blt d N = true) (hg : gval ops E o.guard = some true) (hk : opsOK P o = true) (hi : isSimple o = true) (hl : looks o = true) (hz : Nat.ble (actsMost ops (preds ops.toList) i) 1 = true)
    (hs' : ∀ tm, EnvOK N E tm → ∀ hk, A hk → simpleB P tm hk o = some (v, hk)) (ha : A h) (hsm : same 20 v v = true) (hw : within 20 h.n v = true) (k : OO P K x N ops F (i + 1) ((d, v) :: E) h Hs (fun hs => L hs ∧ ∀ hk ∈ early hs, A hk) nw) : OO P K x N ops F i E h Hs L nw :=
  N_step ho (fun tm D U hE lk hlk => ⟨0, _, { o, tm, v, n := h.n, lo := actsIn ops ((preds ops.toList).getD i []), hi := actsMost ops (preds ops.toList) i } :: lk, by
    unfold openStep openSimple
    simp only [ho, hi, if_true, gval_wanted hE hg, hk, hs' tm hE h ha, beq_self_eq_true, hl, hd], hE.put (lt_of_blt hN) v, fun hs2 hL => by
    rw [List.all_cons, hlk hs2 hL.1, Bool.and_true]
    unfold lookOK
    rw [List.all_eq_true]
    intro q hq
    have hz := Nat.le_of_ble_eq_true hz
    simp only [Bool.or_eq_true, decide_eq_true_eq]
    by_cases hq1 : q ≤ 1
    · right
      have hq' : q < hs2.length := List.mem_range.1 hq
      have hlt : hs2.length - 1 - q < hs2.length := by omega
      have hm : hs2[hs2.length - 1 - q] ∈ early hs2 := by
        unfold early
        refine List.mem_of_getElem? (i := hs2.length - 1 - q - (hs2.length - 2)) ?_
        rw [List.getElem?_drop, show hs2.length - 2 + (hs2.length - 1 - q - (hs2.length - 2)) = hs2.length - 1 - q from by omega, List.getElem?_eq_getElem hlt]
      rw [List.getElem?_eq_getElem hlt]
      simp only [hs' tm hE _ (hL.2 _ hm), hsm, hw, beq_self_eq_true, Bool.and_self]
    · left; right; omega⟩) k
theorem M_load1H {t : TypeId} {a : Operand} {b o : Nat} {c : List Value} {e : TypeId} {own : Bool} {v : Value} (hN : Nat.blt d N = true) (hg : gval ops E g = some true) (hk : opsOK P ⟨some d, .load t a, ty, pos, af, g⟩ = true)
    (ha : E.ev a = some (.pointer (some ⟨b, o, none⟩))) (ht : one P t = true) (hz : Nat.ble (actsMost ops (preds ops.toList) i) 1 = true) (hb : h.get? b = some (.cells c e own)) (hv : c[o]? = some v) (hsm : same 20 v v = true) (hw : within 20 h.n v = true) (k : S1 P K x N ops F (i + 1) ((d, v) :: E) h Hs (fun hs => L hs ∧ Keeps (early hs) b h) nw) : S2 P K x N ops F i ⟨some d, .load t a, ty, pos, af, g⟩ E h Hs L nw :=
  ⟨fun ho => N_lookH (A := fun hk => hk.get? b = h.get? b) ho rfl hN hg hk rfl rfl hz (fun tm hE hk hA => by
    show (readB P hk t (ev tm a)).map (fun v => (v, hk)) = _
    rw [hE.ev ha]; simp only [readB, hA, hb, partB, one_agg ht, one_size ht, hv, Option.map_some]) rfl hsm hw (OO_mono (fun _ q => ⟨q.1, q.2.out⟩) k.out)⟩
theorem M_loadAH {t : TypeId} {a : Operand} {b o n : Nat} {c : List Value} {e : TypeId} {own : Bool} {vs : List Value} (hN : Nat.blt d N = true) (hg : gval ops E g = some true) (hk : opsOK P ⟨some d, .load t a, ty, pos, af, g⟩ = true)
    (ha : E.ev a = some (.pointer (some ⟨b, o, none⟩))) (ht : aggN P t = some n) (hz : Nat.ble (actsMost ops (preds ops.toList) i) 1 = true) (hb : h.get? b = some (.cells c e own)) (hl : o + n ≤ c.length) (hv : (c.drop o).take n = vs) (hsm : same 20 (.agg vs.toArray) (.agg vs.toArray) = true) (hw : within 20 h.n (.agg vs.toArray) = true) (k : S1 P K x N ops F (i + 1) ((d, .agg vs.toArray) :: E) h Hs (fun hs => L hs ∧ Keeps (early hs) b h) nw) : S2 P K x N ops F i ⟨some d, .load t a, ty, pos, af, g⟩ E h Hs L nw :=
  ⟨fun ho => N_lookH (A := fun hk => hk.get? b = h.get? b) ho rfl hN hg hk rfl rfl hz (fun tm hE hk hA => by
    show (readB P hk t (ev tm a)).map (fun v => (v, hk)) = _
    rw [hE.ev ha]; simp only [readB, hA, hb, partB, aggN_agg ht, aggN_size ht, if_pos hl, hv, Option.map_some]) rfl hsm hw (OO_mono (fun _ q => ⟨q.1, q.2.out⟩) k.out)⟩
end
end Go.AX

namespace Go.AX

/-! Lists of spans that are made. -/

/-- The elements of a slice's type are two numbers each. -/
def cell2 (P : Program) (t : TypeId) : Option TypeId :=
  match P.underlying t with
  | some (.slice e) => match sizeB P e, bytesB P e, zeroB P e with
    | some 2, some by_, some (.agg ⟨[.int .i64 0, .int .i64 0]⟩) => bif Nat.ble by_ 64 then some e else none
    | _, _, _ => none
  | _ => none
theorem cell2_some {t e : TypeId} {P : Program} (hc : cell2 P t = some e) : P.underlying t = some (.slice e) ∧ sizeB P e = some 2 ∧ zeroB P e = some (.agg #[.int .i64 0, .int .i64 0]) ∧ ∃ by_, bytesB P e = some by_ ∧ by_ ≤ 64 := by
  unfold cell2 at hc
  split at hc
  · rename_i e' hu
    split at hc
    · rename_i by_ hs hb hz
      cases hle : Nat.ble by_ 64 with
      | true =>
        rw [hle] at hc
        cases hc
        exact ⟨hu, hs, hz, by_, hb, Nat.le_of_ble_eq_true hle⟩
      | false => rw [hle] at hc; cases hc
    · cases hc
  · cases hc

section
variable {P : Program} {h : Heap}
theorem row2 {b m cap : Nat} {c : List Value} {e : TypeId} {own : Bool} (hb : h.get? b = some (.cells c e own)) (hm : c.length = 2 * m) : rowB h 2 m (.slice (some ⟨b, 0, none⟩) m cap) = some c := by
  unfold rowB
  simp only [Nat.lt_irrefl, if_false, hb]
  split
  · rename_i h0; rw [List.length_eq_zero_iff.1 (show c.length = 0 by omega)]
  · rw [if_pos (by omega), List.drop_zero, List.take_of_length_le (by omega)]
theorem spans_one (l : List (Int × Int)) : (spanCells l).all oneB = true := by
  induction l with
  | nil => rfl
  | cons p l ih => simp only [spanCells, List.all_cons, ih, Bool.and_true, oneB]
theorem spans_app (a b : List (Int × Int)) : spanCells a ++ spanCells b = spanCells (a ++ b) := by
  induction a with
  | nil => rfl
  | cons p a ih => simp only [spanCells, List.cons_append, ih]
theorem app_nilS {ts : Array TypeId} {t t' e e' : TypeId} {b cap : Nat} {p : Int × Int} {e0 : TypeId} {own : Bool} (h0 : ts[0]? = some t) (h1 : ts[1]? = some t') (hc : cell2 P t = some e) (hc' : P.underlying t' = some (.slice e')) (hb : h.get? b = some (.cells (spanCells [p]) e0 own)) :
    appendB P h ts (.slice none 0 0) (.slice (some ⟨b, 0, none⟩) 1 cap) = some (.slice (some ⟨h.n, 0, none⟩) 1 unk, h.push (.cells (spanCells [p]) e true)) := by
  obtain ⟨hu, hs, hz, by_, hby, h64⟩ := cell2_some hc
  unfold appendB
  simp only [h0, h1, hu, hc']
  unfold appendRow
  simp only [hs, hby, hz, lenB, row2 hb (m := 1) rfl]
  rw [if_pos ⟨rfl, rfl, by omega⟩, if_neg (by omega)]
  simp
theorem app_unkS {ts : Array TypeId} {t t' e e' : TypeId} {b b' cap : Nat} {l : List (Int × Int)} {p : Int × Int} {e0 : TypeId} {own : Bool} (h0 : ts[0]? = some t) (h1 : ts[1]? = some t') (hc : cell2 P t = some e) (hc' : P.underlying t' = some (.slice e')) (hb : h.get? b = some (.cells (spanCells [p]) e0 own)) (hle : l.length ≤ 100000)
    (hx : h.get? b' = some (.cells (spanCells l) e true)) :
    appendB P h ts (.slice (some ⟨b', 0, none⟩) l.length unk) (.slice (some ⟨b, 0, none⟩) 1 cap) = some (.slice (some ⟨h.n, 0, none⟩) (l.length + 1) unk, (h.set b' .dead).push (.cells (spanCells (l ++ [p])) e true)) := by
  obtain ⟨hu, hs, hz, by_, hby, h64⟩ := cell2_some hc
  unfold appendB
  simp only [h0, h1, hu, hc']
  unfold appendRow
  simp only [hs, hby, hz, lenB, row2 hb (m := 1) rfl]
  have hbd : (l.length + 1) * (by_ + 1) ≤ 70368744177664 := Nat.le_trans (Nat.mul_le_mul (by omega : l.length + 1 ≤ 1000000) (by omega : by_ + 1 ≤ 65)) (by decide)
  rw [if_pos ⟨rfl, rfl, hbd⟩, if_neg (by omega), if_neg (by decide)]
  simp only [hx, if_true]
  rw [if_pos ⟨trivial, trivial, by rw [spanCells_len]; omega⟩, spans_app]
theorem fillS (m n : Int) : Instr.fill (fun i => some (i * 2, 2)) (zerosB (Value.agg #[.int .i64 0, .int .i64 0]).cells (1 * 2)) [(0, .agg #[.int .i64 m, .int .i64 n])] = some #[.int .i64 m, .int .i64 n] := by kernel_rfl
theorem build1S {t e : TypeId} {p : Int × Int} (hc : cell2 P t = some e) : buildSliceB P h t 1 [(0, .agg #[.int .i64 p.1, .int .i64 p.2])] = some (.slice (some ⟨h.n, 0, none⟩) 1 1, h.push (.cells (spanCells [p]) e true)) := by
  obtain ⟨hu, hs, hz, by_, hby, h64⟩ := cell2_some hc
  unfold buildSliceB
  simp only [hu, hs, hz, fillS]
  rw [if_pos ⟨by decide, rfl, by decide⟩]
  rfl
end

/-- A list of spans that is being made: nil, or a row of its own. -/
def OutS (e : TypeId) (h0 h : Heap) (v : Value) (l : List (Int × Int)) : Prop :=
  (l = [] ∧ v = .slice none 0 0) ∨ (l ≠ [] ∧ ∃ b, v = .slice (some ⟨b, 0, none⟩) l.length unk ∧ h.get? b = some (.cells (spanCells l) e true) ∧ h0.n ≤ b)
/-- A list of spans of its own as an answer. -/
def IsS (l : List (Int × Int)) (h : Heap) (v : Value) (h1 : Heap) : Prop := ∃ p cap, v = .slice p l.length cap ∧ (l = [] ∨ ∃ b, p = some ⟨b, 0, none⟩ ∧ h1.get? b = some (.cells (spanCells l) 48 true) ∧ h.n ≤ b) ∧ Ext h h1
theorem OutS.nil (e : TypeId) (h0 h : Heap) : OutS e h0 h (.slice none 0 0) [] := .inl ⟨rfl, rfl⟩
theorem OutS.ext {e : TypeId} {h0 h h1 : Heap} {v : Value} {l : List (Int × Int)} (o : OutS e h0 h v l) (x : Ext h h1) : OutS e h0 h1 v l := by
  rcases o with o | ⟨hl, b, h1, h2, h3⟩
  · exact .inl o
  · exact .inr ⟨hl, b, h1, x.get h2, h3⟩
theorem OutS.isS {h h0 h1 : Heap} {v : Value} {l : List (Int × Int)} (o : OutS 48 h0 h1 v l) (x : Ext h0 h1) (y : Ext h h0) : IsS l h v h1 := by
  rcases o with ⟨rfl, rfl⟩ | ⟨hl, b, q1, q2, q3⟩
  · exact ⟨none, 0, rfl, .inl rfl, y.trans x⟩
  · exact ⟨some ⟨b, 0, none⟩, unk, q1, .inr ⟨b, rfl, q2, Nat.le_trans y.n q3⟩, y.trans x⟩
theorem IsS.at {h h1 : Heap} {v : Value} {l : List (Int × Int)} (r : IsS l h v h1) (hp : 0 < l.length) : ∃ b cap, v = .slice (some ⟨b, 0, none⟩) l.length cap ∧ h1.get? b = some (.cells (spanCells l) 48 true) ∧ h.n ≤ b ∧ Ext h h1 := by
  obtain ⟨p, cap, rfl, r | ⟨b, rfl, hg, hb⟩, x⟩ := r
  · subst r; simp at hp
  · exact ⟨b, cap, rfl, hg, hb, x⟩
section
variable {P : Program} {K : Known} {x : Ctx} {N : Nat} {E : Env} {h : Heap} {ops : Array Oper} {F : Ex → Env → Heap → Prop} {i : Nat} {Hs : List Heap} {L : List Heap → Prop} {nw : List (Nat × Nat × Blk)}
variable {d : Nat} {ty : TypeId} {pos : String} {af : Array Edge} {g : Option (Nat × Bool)}
theorem M_build1S {t e : TypeId} {ps : Array (Nat × Operand)} {a : Operand} {p q : Int} (hN : Nat.blt d N = true) (hg : gval ops E g = some true) (hk : opsOK P ⟨some d, .buildSlice t 1 ps, ty, pos, af, g⟩ = true) (hps : ps.toList = [(0, a)])
    (ha : E.ev a = some (.agg #[.int .i64 p, .int .i64 q])) (hc : cell2 P t = some e) (k : S1 P K x N ops F (i + 1) ((d, .slice (some ⟨h.n, 0, none⟩) 1 1) :: E) (h.push (.cells (spanCells [(p, q)]) e true)) Hs L ((i, h.n, .cells (spanCells [(p, q)]) e true) :: nw)) : S2 P K x N ops F i ⟨some d, .buildSlice t 1 ps, ty, pos, af, g⟩ E h Hs L nw :=
  ⟨fun ho => N_new ho rfl hN hg hk rfl (fun tm hE => by
    show buildSliceB P h t 1 (ps.toList.map fun (i, x) => (i, ev tm x)) = _
    rw [hps]; simp only [List.map_cons, List.map_nil, hE.ev ha]; exact build1S (p := (p, q)) hc) k.out⟩
theorem M_appS {args : Array Operand} {ts : Array TypeId} {t t' e e' : TypeId} {a b : Operand} {by_ cap : Nat} {e0 : TypeId} {own : Bool} {p : Int × Int} {v : Value} {l : List (Int × Int)} {h0 : Heap} (hN : Nat.blt d N = true) (hg : gval ops E g = some true) (hk : opsOK P ⟨some d, .call ⟨.builtin .append, args, ts⟩, ty, pos, af, g⟩ = true) (hargs : args.toList = [a, b])
    (ha : E.ev a = some v) (hb : E.ev b = some (.slice (some ⟨by_, 0, none⟩) 1 cap)) (h0' : ts[0]? = some t) (h1' : ts[1]? = some t') (hc : cell2 P t = some e) (hc' : P.underlying t' = some (.slice e'))
    (hy : h.get? by_ = some (.cells (spanCells [p]) e0 own)) (ho : OutS e h0 h v l) (hx : Ext h0 h) (hle : l.length ≤ 10000) (hnw : unseen (preds ops.toList) nw i = [])
    (k : ∀ v' h1, OutS e h0 h1 v' (l ++ [p]) → Ext h0 h1 → S1 P K x N ops F (i + 1) ((d, v') :: E) h1 (h1 :: Hs) L nw) : S2 P K x N ops F i ⟨some d, .call ⟨.builtin .append, args, ts⟩, ty, pos, af, g⟩ E h Hs L nw := by
  rcases ho with ⟨rfl, rfl⟩ | ⟨hl, b', rfl, h2, h3⟩
  · exact M_append hN hg hk hargs ha hb (app_nilS h0' h1' hc hc' hy) hnw (k _ _ (.inr ⟨by simp, h.n, rfl, get_push_same, hx.n⟩) (hx.push _))
  · refine M_append hN hg hk hargs ha hb (app_unkS h0' h1' hc hc' hy (by omega) h2) hnw (k _ _ (.inr ⟨by simp, h.n, ?_, ?_, hx.n⟩) ?_)
    · simp
    · have : (h.set b' .dead).n = h.n := rfl
      rw [← this]
      exact get_push_same
    · exact (hx.set h3 h2 .dead).push _
theorem zeros2 (n : Nat) : (zerosB (Value.agg #[.int .i64 0, .int .i64 0]).cells (n * 2)).toList = spanCells (List.replicate n (0, 0)) := by
  have h2 : ∀ n, spanCells (List.replicate n (0, 0)) = List.replicate (n * 2) (.int .i64 0) := by
    intro n
    induction n with
    | zero => rfl
    | succ n ih =>
      rw [show (n + 1) * 2 = n * 2 + 1 + 1 from by omega, List.replicate_succ, List.replicate_succ, List.replicate_succ, ← ih]; rfl
  rw [h2]
  apply List.ext_getElem
  · simp [zerosB]
  · intro j q1 q2
    simp only [zerosB, Array.toList_map, List.getElem_map, List.getElem_replicate]
    have : ∀ m, m < 2 → (#[Value.int .i64 0, Value.int .i64 0])[m]! = Value.int .i64 0 := by
      intro m hm
      match m, hm with
      | 0, _ => rfl
      | 1, _ => rfl
    exact this _ (Nat.mod_lt _ (by decide))
theorem P_makeS {t e : TypeId} {a b : Operand} {n : Int} (hN : Nat.blt d N = true) (hg : gval ops E g = some true) (hk : opsOK P ⟨some d, .makeSlice t a b, ty, pos, af, g⟩ = true)
    (ha : E.ev a = some (.int .i64 n)) (hb : E.ev b = some (.int .i64 n)) (hc : cell2 P t = some e) (h0 : 0 ≤ n) (h1 : n ≤ 1048576) (k : R1 P K x N ops F (i + 1) ((d, .slice (some ⟨h.n, 0, none⟩) n.toNat n.toNat) :: E) (h.push (.cells (spanCells (List.replicate n.toNat (0, 0))) e true))) : R2 P K x N ops F i ⟨some d, .makeSlice t a b, ty, pos, af, g⟩ E h :=
  ⟨fun ho => O_simple ho rfl hN hg hk (fun tm hE => by
    show makeSliceB P h t (ev tm a) (ev tm b) = _
    rw [hE.ev ha, hE.ev hb]
    obtain ⟨hu, hs, hz, by_, hby, h64⟩ := cell2_some hc
    unfold makeSliceB
    simp only [hu, hs, hby, hz, zeros2]
    rw [if_pos ⟨h0, Int.le_refl n, h1, by omega, spans_one _, rfl⟩]) k.out⟩
end
theorem same_span (a b : Int) : same 20 (.agg [Value.int .i64 a, .int .i64 b].toArray) (.agg [Value.int .i64 a, .int .i64 b].toArray) = true := by simp [same, same.all2]
theorem within_span (a b : Int) (n : Nat) : within 20 n (.agg [Value.int .i64 a, .int .i64 b].toArray) = true := by simp [within]
theorem same_plan (p : Option Addr) (n c : Nat) (a b : Int) : same 20 (.agg [Value.slice p n c, .int .i64 a, .int .i64 b].toArray) (.agg [Value.slice p n c, .int .i64 a, .int .i64 b].toArray) = true := by simp [same, same.all2]
theorem within_plan {h : Heap} {b n c : Nat} {x y : Int} {z : Blk} (g : h.get? b = some z) : within 20 h.n (.agg [Value.slice (some ⟨b, 0, none⟩) n c, .int .i64 x, .int .i64 y].toArray) = true := by simp [within, Heap.get_lt g]
def tgetP : List (Nat × Nat × Nat) → Nat → Option (Nat × Nat)
  | [], _ => none
  | (a, p) :: l, t => bif Nat.beq a t then some p else tgetP l t
theorem tabP_ok {f : Nat → Option (Nat × Nat)} {T : List (Nat × Nat × Nat)} (h : T.all (fun p => f p.1 == some p.2) = true) {t : Nat} {n : Nat × Nat} (e : tgetP T t = some n) : f t = some n := by
  induction T with
  | nil => cases e
  | cons p T ih =>
    obtain ⟨a, m⟩ := p
    simp only [List.all_cons, Bool.and_eq_true, beq_iff_eq] at h
    simp only [tgetP] at e
    cases hc : Nat.beq a t with
    | true =>
      rw [hc] at e
      have := Nat.eq_of_beq_eq_true hc
      subst this
      cases e
      exact h.1
    | false => rw [hc] at e; exact ih h.2 e
def arrOf (P : Program) (t : TypeId) : Option (Nat × Nat) :=
  match P.underlying t with
  | some (.array n e) => some (n, e)
  | _ => none
theorem arrOf_some {P : Program} {t : TypeId} {n : Nat × Nat} (h : arrOf P t = some n) : P.underlying t = some (.array n.1 n.2) := by
  unfold arrOf at h
  split at h
  · rename_i a b hu; cases h; exact hu
  · cases h
section
variable {P : Program} {K : Known} {x : Ctx} {N : Nat} {E : Env} {h : Heap} {ops : Array Oper} {F : Ex → Env → Heap → Prop} {i : Nat}
variable {ty : TypeId} {pos : String} {af : Array Edge} {g : Option (Nat × Bool)}
/-- A store, told by what the block holds behind it. -/
theorem P_storeC {t : TypeId} {a y : Operand} {b o n : Nat} {c c' : List Value} {e : TypeId} {v : Value} (hg : gval ops E g = some true) (hk : opsOK P ⟨none, .store t a y, ty, pos, af, g⟩ = true)
    (ha : E.ev a = some (.pointer (some ⟨b, o, none⟩))) (hy : E.ev y = some v) (hb : h.get? b = some (.cells c e true)) (hs : sizeB P t = some n) (hc : v.cells.size = n) (hl : o + n ≤ c.length) (hone : v.cells.toList.all oneB = true) (hc' : splice c o v.cells.toList = c')
    (k : ∀ h1, h1.get? b = some (.cells c' e true) → ExtBut b h h1 → R1 P K x N ops F (i + 1) E h1) : R2 P K x N ops F i ⟨none, .store t a y, ty, pos, af, g⟩ E h := by
  subst hc'
  exact P_store hg hk ha hy hb hs hc hl hone (k _ (get_set_same hb) ((ExtBut.refl b h).set hb _))
end
end Go.AX

namespace Go.AX

/-! Comparisons that are decided. -/
section
variable {P : Program} {K : Known} {x : Ctx} {N : Nat} {E : Env} {h : Heap} {ops : Array Oper} {F : Ex → Env → Heap → Prop} {i : Nat} {Hs : List Heap} {L : List Heap → Prop} {nw : List (Nat × Nat × Blk)}
variable {d : Nat} {ty : TypeId} {pos : String} {af : Array Edge} {g : Option (Nat × Bool)}
theorem P_lssT {t yt : TypeId} {a b : Operand} {m n : Int} (hN : Nat.blt d N = true) (hg : gval ops E g = some true) (hk : opsOK P ⟨some d, .binOp .lss t a b yt, ty, pos, af, g⟩ = true) (ha : E.ev a = some (.int .i64 m)) (hb : E.ev b = some (.int .i64 n)) (hc : m < n) (k : R1 P K x N ops F (i + 1) ((d, .bool true) :: E) h) : R2 P K x N ops F i ⟨some d, .binOp .lss t a b yt, ty, pos, af, g⟩ E h := P_lss hN hg hk ha hb (fun _ => k) (fun q => absurd hc (by omega))
theorem P_lssF {t yt : TypeId} {a b : Operand} {m n : Int} (hN : Nat.blt d N = true) (hg : gval ops E g = some true) (hk : opsOK P ⟨some d, .binOp .lss t a b yt, ty, pos, af, g⟩ = true) (ha : E.ev a = some (.int .i64 m)) (hb : E.ev b = some (.int .i64 n)) (hc : ¬ (m < n)) (k : R1 P K x N ops F (i + 1) ((d, .bool false) :: E) h) : R2 P K x N ops F i ⟨some d, .binOp .lss t a b yt, ty, pos, af, g⟩ E h := P_lss hN hg hk ha hb (fun q => absurd hc (by omega)) (fun _ => k)
theorem P_leqT {t yt : TypeId} {a b : Operand} {m n : Int} (hN : Nat.blt d N = true) (hg : gval ops E g = some true) (hk : opsOK P ⟨some d, .binOp .leq t a b yt, ty, pos, af, g⟩ = true) (ha : E.ev a = some (.int .i64 m)) (hb : E.ev b = some (.int .i64 n)) (hc : m ≤ n) (k : R1 P K x N ops F (i + 1) ((d, .bool true) :: E) h) : R2 P K x N ops F i ⟨some d, .binOp .leq t a b yt, ty, pos, af, g⟩ E h := P_leq hN hg hk ha hb (fun _ => k) (fun q => absurd hc (by omega))
theorem P_leqF {t yt : TypeId} {a b : Operand} {m n : Int} (hN : Nat.blt d N = true) (hg : gval ops E g = some true) (hk : opsOK P ⟨some d, .binOp .leq t a b yt, ty, pos, af, g⟩ = true) (ha : E.ev a = some (.int .i64 m)) (hb : E.ev b = some (.int .i64 n)) (hc : ¬ (m ≤ n)) (k : R1 P K x N ops F (i + 1) ((d, .bool false) :: E) h) : R2 P K x N ops F i ⟨some d, .binOp .leq t a b yt, ty, pos, af, g⟩ E h := P_leq hN hg hk ha hb (fun q => absurd hc (by omega)) (fun _ => k)
theorem P_gtrT {t yt : TypeId} {a b : Operand} {m n : Int} (hN : Nat.blt d N = true) (hg : gval ops E g = some true) (hk : opsOK P ⟨some d, .binOp .gtr t a b yt, ty, pos, af, g⟩ = true) (ha : E.ev a = some (.int .i64 m)) (hb : E.ev b = some (.int .i64 n)) (hc : m > n) (k : R1 P K x N ops F (i + 1) ((d, .bool true) :: E) h) : R2 P K x N ops F i ⟨some d, .binOp .gtr t a b yt, ty, pos, af, g⟩ E h := P_gtr hN hg hk ha hb (fun _ => k) (fun q => absurd hc (by omega))
theorem P_gtrF {t yt : TypeId} {a b : Operand} {m n : Int} (hN : Nat.blt d N = true) (hg : gval ops E g = some true) (hk : opsOK P ⟨some d, .binOp .gtr t a b yt, ty, pos, af, g⟩ = true) (ha : E.ev a = some (.int .i64 m)) (hb : E.ev b = some (.int .i64 n)) (hc : ¬ (m > n)) (k : R1 P K x N ops F (i + 1) ((d, .bool false) :: E) h) : R2 P K x N ops F i ⟨some d, .binOp .gtr t a b yt, ty, pos, af, g⟩ E h := P_gtr hN hg hk ha hb (fun q => absurd hc (by omega)) (fun _ => k)
theorem P_geqT {t yt : TypeId} {a b : Operand} {m n : Int} (hN : Nat.blt d N = true) (hg : gval ops E g = some true) (hk : opsOK P ⟨some d, .binOp .geq t a b yt, ty, pos, af, g⟩ = true) (ha : E.ev a = some (.int .i64 m)) (hb : E.ev b = some (.int .i64 n)) (hc : m ≥ n) (k : R1 P K x N ops F (i + 1) ((d, .bool true) :: E) h) : R2 P K x N ops F i ⟨some d, .binOp .geq t a b yt, ty, pos, af, g⟩ E h := P_geq hN hg hk ha hb (fun _ => k) (fun q => absurd hc (by omega))
theorem P_geqF {t yt : TypeId} {a b : Operand} {m n : Int} (hN : Nat.blt d N = true) (hg : gval ops E g = some true) (hk : opsOK P ⟨some d, .binOp .geq t a b yt, ty, pos, af, g⟩ = true) (ha : E.ev a = some (.int .i64 m)) (hb : E.ev b = some (.int .i64 n)) (hc : ¬ (m ≥ n)) (k : R1 P K x N ops F (i + 1) ((d, .bool false) :: E) h) : R2 P K x N ops F i ⟨some d, .binOp .geq t a b yt, ty, pos, af, g⟩ E h := P_geq hN hg hk ha hb (fun q => absurd hc (by omega)) (fun _ => k)
theorem P_eqlT {t yt : TypeId} {a b : Operand} {m n : Int} (hN : Nat.blt d N = true) (hg : gval ops E g = some true) (hk : opsOK P ⟨some d, .binOp .eql t a b yt, ty, pos, af, g⟩ = true) (ha : E.ev a = some (.int .i64 m)) (hb : E.ev b = some (.int .i64 n)) (hc : m = n) (k : R1 P K x N ops F (i + 1) ((d, .bool true) :: E) h) : R2 P K x N ops F i ⟨some d, .binOp .eql t a b yt, ty, pos, af, g⟩ E h := P_eql hN hg hk ha hb (fun _ => k) (fun q => absurd hc (by omega))
theorem P_eqlF {t yt : TypeId} {a b : Operand} {m n : Int} (hN : Nat.blt d N = true) (hg : gval ops E g = some true) (hk : opsOK P ⟨some d, .binOp .eql t a b yt, ty, pos, af, g⟩ = true) (ha : E.ev a = some (.int .i64 m)) (hb : E.ev b = some (.int .i64 n)) (hc : ¬ (m = n)) (k : R1 P K x N ops F (i + 1) ((d, .bool false) :: E) h) : R2 P K x N ops F i ⟨some d, .binOp .eql t a b yt, ty, pos, af, g⟩ E h := P_eql hN hg hk ha hb (fun q => absurd hc (by omega)) (fun _ => k)
theorem P_neqT {t yt : TypeId} {a b : Operand} {m n : Int} (hN : Nat.blt d N = true) (hg : gval ops E g = some true) (hk : opsOK P ⟨some d, .binOp .neq t a b yt, ty, pos, af, g⟩ = true) (ha : E.ev a = some (.int .i64 m)) (hb : E.ev b = some (.int .i64 n)) (hc : ¬ m = n) (k : R1 P K x N ops F (i + 1) ((d, .bool true) :: E) h) : R2 P K x N ops F i ⟨some d, .binOp .neq t a b yt, ty, pos, af, g⟩ E h := P_neq hN hg hk ha hb (fun _ => k) (fun q => absurd hc (by omega))
theorem P_neqF {t yt : TypeId} {a b : Operand} {m n : Int} (hN : Nat.blt d N = true) (hg : gval ops E g = some true) (hk : opsOK P ⟨some d, .binOp .neq t a b yt, ty, pos, af, g⟩ = true) (ha : E.ev a = some (.int .i64 m)) (hb : E.ev b = some (.int .i64 n)) (hc : m = n) (k : R1 P K x N ops F (i + 1) ((d, .bool false) :: E) h) : R2 P K x N ops F i ⟨some d, .binOp .neq t a b yt, ty, pos, af, g⟩ E h := P_neq hN hg hk ha hb (fun q => absurd hc (by omega)) (fun _ => k)
theorem M_lssT {t yt : TypeId} {a b : Operand} {m n : Int} (hN : Nat.blt d N = true) (hg : gval ops E g = some true) (hk : opsOK P ⟨some d, .binOp .lss t a b yt, ty, pos, af, g⟩ = true) (ha : E.ev a = some (.int .i64 m)) (hb : E.ev b = some (.int .i64 n)) (hc : m < n) (k : S1 P K x N ops F (i + 1) ((d, .bool true) :: E) h Hs L nw) : S2 P K x N ops F i ⟨some d, .binOp .lss t a b yt, ty, pos, af, g⟩ E h Hs L nw := M_lss hN hg hk ha hb (fun _ => k) (fun q => absurd hc (by omega))
theorem M_lssF {t yt : TypeId} {a b : Operand} {m n : Int} (hN : Nat.blt d N = true) (hg : gval ops E g = some true) (hk : opsOK P ⟨some d, .binOp .lss t a b yt, ty, pos, af, g⟩ = true) (ha : E.ev a = some (.int .i64 m)) (hb : E.ev b = some (.int .i64 n)) (hc : ¬ (m < n)) (k : S1 P K x N ops F (i + 1) ((d, .bool false) :: E) h Hs L nw) : S2 P K x N ops F i ⟨some d, .binOp .lss t a b yt, ty, pos, af, g⟩ E h Hs L nw := M_lss hN hg hk ha hb (fun q => absurd hc (by omega)) (fun _ => k)
theorem M_leqT {t yt : TypeId} {a b : Operand} {m n : Int} (hN : Nat.blt d N = true) (hg : gval ops E g = some true) (hk : opsOK P ⟨some d, .binOp .leq t a b yt, ty, pos, af, g⟩ = true) (ha : E.ev a = some (.int .i64 m)) (hb : E.ev b = some (.int .i64 n)) (hc : m ≤ n) (k : S1 P K x N ops F (i + 1) ((d, .bool true) :: E) h Hs L nw) : S2 P K x N ops F i ⟨some d, .binOp .leq t a b yt, ty, pos, af, g⟩ E h Hs L nw := M_leq hN hg hk ha hb (fun _ => k) (fun q => absurd hc (by omega))
theorem M_leqF {t yt : TypeId} {a b : Operand} {m n : Int} (hN : Nat.blt d N = true) (hg : gval ops E g = some true) (hk : opsOK P ⟨some d, .binOp .leq t a b yt, ty, pos, af, g⟩ = true) (ha : E.ev a = some (.int .i64 m)) (hb : E.ev b = some (.int .i64 n)) (hc : ¬ (m ≤ n)) (k : S1 P K x N ops F (i + 1) ((d, .bool false) :: E) h Hs L nw) : S2 P K x N ops F i ⟨some d, .binOp .leq t a b yt, ty, pos, af, g⟩ E h Hs L nw := M_leq hN hg hk ha hb (fun q => absurd hc (by omega)) (fun _ => k)
theorem M_gtrT {t yt : TypeId} {a b : Operand} {m n : Int} (hN : Nat.blt d N = true) (hg : gval ops E g = some true) (hk : opsOK P ⟨some d, .binOp .gtr t a b yt, ty, pos, af, g⟩ = true) (ha : E.ev a = some (.int .i64 m)) (hb : E.ev b = some (.int .i64 n)) (hc : m > n) (k : S1 P K x N ops F (i + 1) ((d, .bool true) :: E) h Hs L nw) : S2 P K x N ops F i ⟨some d, .binOp .gtr t a b yt, ty, pos, af, g⟩ E h Hs L nw := M_gtr hN hg hk ha hb (fun _ => k) (fun q => absurd hc (by omega))
theorem M_gtrF {t yt : TypeId} {a b : Operand} {m n : Int} (hN : Nat.blt d N = true) (hg : gval ops E g = some true) (hk : opsOK P ⟨some d, .binOp .gtr t a b yt, ty, pos, af, g⟩ = true) (ha : E.ev a = some (.int .i64 m)) (hb : E.ev b = some (.int .i64 n)) (hc : ¬ (m > n)) (k : S1 P K x N ops F (i + 1) ((d, .bool false) :: E) h Hs L nw) : S2 P K x N ops F i ⟨some d, .binOp .gtr t a b yt, ty, pos, af, g⟩ E h Hs L nw := M_gtr hN hg hk ha hb (fun q => absurd hc (by omega)) (fun _ => k)
theorem M_geqT {t yt : TypeId} {a b : Operand} {m n : Int} (hN : Nat.blt d N = true) (hg : gval ops E g = some true) (hk : opsOK P ⟨some d, .binOp .geq t a b yt, ty, pos, af, g⟩ = true) (ha : E.ev a = some (.int .i64 m)) (hb : E.ev b = some (.int .i64 n)) (hc : m ≥ n) (k : S1 P K x N ops F (i + 1) ((d, .bool true) :: E) h Hs L nw) : S2 P K x N ops F i ⟨some d, .binOp .geq t a b yt, ty, pos, af, g⟩ E h Hs L nw := M_geq hN hg hk ha hb (fun _ => k) (fun q => absurd hc (by omega))
theorem M_geqF {t yt : TypeId} {a b : Operand} {m n : Int} (hN : Nat.blt d N = true) (hg : gval ops E g = some true) (hk : opsOK P ⟨some d, .binOp .geq t a b yt, ty, pos, af, g⟩ = true) (ha : E.ev a = some (.int .i64 m)) (hb : E.ev b = some (.int .i64 n)) (hc : ¬ (m ≥ n)) (k : S1 P K x N ops F (i + 1) ((d, .bool false) :: E) h Hs L nw) : S2 P K x N ops F i ⟨some d, .binOp .geq t a b yt, ty, pos, af, g⟩ E h Hs L nw := M_geq hN hg hk ha hb (fun q => absurd hc (by omega)) (fun _ => k)
theorem M_eqlT {t yt : TypeId} {a b : Operand} {m n : Int} (hN : Nat.blt d N = true) (hg : gval ops E g = some true) (hk : opsOK P ⟨some d, .binOp .eql t a b yt, ty, pos, af, g⟩ = true) (ha : E.ev a = some (.int .i64 m)) (hb : E.ev b = some (.int .i64 n)) (hc : m = n) (k : S1 P K x N ops F (i + 1) ((d, .bool true) :: E) h Hs L nw) : S2 P K x N ops F i ⟨some d, .binOp .eql t a b yt, ty, pos, af, g⟩ E h Hs L nw := M_eql hN hg hk ha hb (fun _ => k) (fun q => absurd hc (by omega))
theorem M_eqlF {t yt : TypeId} {a b : Operand} {m n : Int} (hN : Nat.blt d N = true) (hg : gval ops E g = some true) (hk : opsOK P ⟨some d, .binOp .eql t a b yt, ty, pos, af, g⟩ = true) (ha : E.ev a = some (.int .i64 m)) (hb : E.ev b = some (.int .i64 n)) (hc : ¬ (m = n)) (k : S1 P K x N ops F (i + 1) ((d, .bool false) :: E) h Hs L nw) : S2 P K x N ops F i ⟨some d, .binOp .eql t a b yt, ty, pos, af, g⟩ E h Hs L nw := M_eql hN hg hk ha hb (fun q => absurd hc (by omega)) (fun _ => k)
theorem M_neqT {t yt : TypeId} {a b : Operand} {m n : Int} (hN : Nat.blt d N = true) (hg : gval ops E g = some true) (hk : opsOK P ⟨some d, .binOp .neq t a b yt, ty, pos, af, g⟩ = true) (ha : E.ev a = some (.int .i64 m)) (hb : E.ev b = some (.int .i64 n)) (hc : ¬ m = n) (k : S1 P K x N ops F (i + 1) ((d, .bool true) :: E) h Hs L nw) : S2 P K x N ops F i ⟨some d, .binOp .neq t a b yt, ty, pos, af, g⟩ E h Hs L nw := M_neq hN hg hk ha hb (fun _ => k) (fun q => absurd hc (by omega))
theorem M_neqF {t yt : TypeId} {a b : Operand} {m n : Int} (hN : Nat.blt d N = true) (hg : gval ops E g = some true) (hk : opsOK P ⟨some d, .binOp .neq t a b yt, ty, pos, af, g⟩ = true) (ha : E.ev a = some (.int .i64 m)) (hb : E.ev b = some (.int .i64 n)) (hc : m = n) (k : S1 P K x N ops F (i + 1) ((d, .bool false) :: E) h Hs L nw) : S2 P K x N ops F i ⟨some d, .binOp .neq t a b yt, ty, pos, af, g⟩ E h Hs L nw := M_neq hN hg hk ha hb (fun q => absurd hc (by omega)) (fun _ => k)
end
end Go.AX

namespace Go.AX

/-! What must have been done before each operation, as bits. -/

def maskOf (ms : List Nat) (o : Oper) : Nat := o.after.toList.foldl (fun m e => bif binds e then Nat.lor (Nat.lor m (Nat.shiftLeft 1 e.on)) (ms.getD e.on 0) else m) 0
def masks (ops : List Oper) : List Nat := ops.foldl (fun ms o => ms ++ [maskOf ms o]) []
theorem masks_snoc (l : List Oper) (o : Oper) : masks (l ++ [o]) = masks l ++ [maskOf (masks l) o] := by
  simp [masks, List.foldl_append]
theorem masks_length (l : List Oper) : (masks l).length = l.length := by
  refine snoc_ind (p := fun l => (masks l).length = l.length) rfl (fun l o ih => ?_) l
  rw [masks_snoc]; simp [ih]
theorem bit_maskOf (ms : List Nat) (o : Oper) (i : Nat) : (maskOf ms o).testBit i = true ↔ ∃ e ∈ o.after.toList, binds e = true ∧ (i = e.on ∨ (ms.getD e.on 0).testBit i = true) := by
  unfold maskOf
  have : ∀ (es : List Edge) (m : Nat), (es.foldl (fun m e => bif binds e then Nat.lor (Nat.lor m (Nat.shiftLeft 1 e.on)) (ms.getD e.on 0) else m) m).testBit i = true ↔ m.testBit i = true ∨ ∃ e ∈ es, binds e = true ∧ (i = e.on ∨ (ms.getD e.on 0).testBit i = true) := by
    intro es
    induction es with
    | nil => intro m; simp
    | cons e es ih =>
      intro m
      rw [List.foldl_cons, ih]
      cases hb : binds e with
      | true =>
        have e1 : (Nat.lor (Nat.lor m (Nat.shiftLeft 1 e.on)) (ms.getD e.on 0)).testBit i = true ↔ m.testBit i = true ∨ i = e.on ∨ (ms.getD e.on 0).testBit i = true := by
          show ((m ||| (1 <<< e.on)) ||| ms.getD e.on 0).testBit i = true ↔ _
          rw [Nat.testBit_or, Nat.testBit_or, Bool.or_eq_true, Bool.or_eq_true, Nat.testBit_shiftLeft]
          have : (decide (i ≥ e.on) && Nat.testBit 1 (i - e.on)) = true ↔ i = e.on := by
            rw [Bool.and_eq_true, decide_eq_true_eq]
            constructor
            · rintro ⟨h1, h2⟩
              have h3 : i - e.on = 0 := by
                by_cases q : i - e.on = 0
                · exact q
                · obtain ⟨k, hk⟩ := Nat.exists_eq_succ_of_ne_zero q
                  rw [hk, Nat.testBit_succ] at h2
                  simp at h2
              omega
            · rintro rfl
              exact ⟨Nat.le_refl _, by rw [Nat.sub_self]; rfl⟩
          rw [this, or_assoc]
        rw [cond_true, e1]
        constructor
        · rintro ((h | h) | ⟨e', h1, h2⟩)
          · exact .inl h
          · exact .inr ⟨e, by simp, hb, h⟩
          · exact .inr ⟨e', by simp [h1], h2⟩
        · rintro (h | ⟨e', h1, h2, h3⟩)
          · exact .inl (.inl h)
          · rcases List.mem_cons.1 h1 with rfl | h1
            · exact .inl (.inr h3)
            · exact .inr ⟨e', h1, h2, h3⟩
      | false =>
        rw [cond_false]
        constructor
        · rintro (h | ⟨e', h1, h2⟩)
          · exact .inl h
          · exact .inr ⟨e', by simp [h1], h2⟩
        · rintro (h | ⟨e', h1, h2, h3⟩)
          · exact .inl h
          · rcases List.mem_cons.1 h1 with rfl | h1
            · rw [hb] at h2; cases h2
            · exact .inr ⟨e', h1, h2, h3⟩
  rw [this]; simp
theorem preds_bit (l : List Oper) : ∀ j i, ((preds l).getD j []).contains i = ((masks l).getD j 0).testBit i := by
  refine snoc_ind (p := fun l => ∀ j i, ((preds l).getD j []).contains i = ((masks l).getD j 0).testBit i) (fun j i => by simp [preds, masks]) (fun l o ih => ?_) l
  intro j i
  rw [preds_snoc, masks_snoc]
  simp only [List.getD_eq_getElem?_getD]
  by_cases hj : j < l.length
  · rw [List.getElem?_append_left (by rw [preds_length]; exact hj), List.getElem?_append_left (by rw [masks_length]; exact hj)]
    have := ih j i
    simpa only [List.getD_eq_getElem?_getD] using this
  · rw [List.getElem?_append_right (by rw [preds_length]; omega), List.getElem?_append_right (by rw [masks_length]; omega), preds_length, masks_length]
    by_cases h0 : j - l.length = 0
    · rw [h0]
      simp only [List.getElem?_cons_zero, Option.getD_some]
      rw [Bool.eq_iff_iff, List.contains_iff_mem, mem_predsOf, bit_maskOf]
      constructor
      · rintro ⟨e, h1, h2, h3⟩
        refine ⟨e, h1, h2, h3.imp id fun q => ?_⟩
        rw [← ih]; exact List.contains_iff_mem.2 q
      · rintro ⟨e, h1, h2, h3⟩
        refine ⟨e, h1, h2, h3.imp id fun q => ?_⟩
        rw [← ih] at q; exact List.contains_iff_mem.1 q
    · obtain ⟨k, hk⟩ := Nat.exists_eq_succ_of_ne_zero h0
      rw [hk]; simp

def openOKm (ops : Array Oper) : Bool :=
  let ms := masks ops.toList
  let ordered (i j : Nat) : Bool := (ms.getD j 0).testBit i || (ms.getD i 0).testBit j
  (List.range ops.size).all fun j =>
    match ops[j]? with
    | none => false
    | some o =>
      (o.after.toList.all fun e => !binds e || e.on < j) &&
      ((List.range ops.size).all fun i => i == j ||
        match ops[i]? with
        | none => false
        | some p =>
          (isSimple o || isSimple p || ordered i j) &&
          (match p.dst with
           | some t => (!((readsOf ops o).contains t) && !(o.dst == some t)) || ordered i j
           | none => true))
theorem openOK_m (ops : Array Oper) : openOK ops = openOKm ops := by
  unfold openOK openOKm
  simp only [preds_bit]
  rfl
def actsMostm (ops : Array Oper) (j : Nat) : Nat :=
  let ms := masks ops.toList
  ((List.range ops.size).filter fun i => !((ms.getD i 0).testBit j) && (match ops[i]? with | some o => !isSimple o | none => false)).length
theorem actsMost_m (ops : Array Oper) (j : Nat) : actsMost ops (preds ops.toList) j = actsMostm ops j := by
  unfold actsMost actsMostm
  simp only [preds_bit]
  rfl
theorem actsMost_0 {ops : Array Oper} {j : Nat} (h : Nat.beq (actsMostm ops j) 0 = true) : actsMost ops (preds ops.toList) j = 0 := (actsMost_m ops j).trans (Nat.eq_of_beq_eq_true h)
theorem actsMost_1 {ops : Array Oper} {j : Nat} (h : Nat.ble (actsMostm ops j) 1 = true) : Nat.ble (actsMost ops (preds ops.toList) j) 1 = true := by rw [actsMost_m]; exact h
theorem openOK_of {ops : Array Oper} (h : openOKm ops = true) : openOK ops = true := (openOK_m ops).trans h
end Go.AX

namespace Go.AX

/-! Lists of lists; parts of lists. -/
section
variable {P : Program} {K : Known} {x : Ctx} {N : Nat} {E : Env} {h : Heap} {ops : Array Oper} {F : Ex → Env → Heap → Prop} {i : Nat}
variable {d : Nat} {ty : TypeId} {pos : String} {af : Array Edge} {g : Option (Nat × Bool)}

theorem zeros1 (v : Value) (hv : v.cells = #[v]) (n : Nat) : (zerosB v.cells (n * 1)).toList = List.replicate n v := by
  simp only [zerosB, Nat.mul_one, Array.toList_map, hv]
  apply List.ext_getElem
  · simp
  · intro j q1 q2
    simp [Nat.mod_one]
/-- A list of lists that is made: all nil. -/
theorem P_makeL {t e : TypeId} {a b : Operand} {n : Int} (hN : Nat.blt d N = true) (hg : gval ops E g = some true) (hk : opsOK P ⟨some d, .makeSlice t a b, ty, pos, af, g⟩ = true)
    (ha : E.ev a = some (.int .i64 n)) (hb : E.ev b = some (.int .i64 n)) (hc : cell1 P t = some e) (hz : zeroB P e = some (.slice none 0 0)) (h0 : 0 ≤ n) (h1 : n ≤ 1048576) (k : R1 P K x N ops F (i + 1) ((d, .slice (some ⟨h.n, 0, none⟩) n.toNat n.toNat) :: E) (h.push (.cells (List.replicate n.toNat (.slice none 0 0)) e true))) : R2 P K x N ops F i ⟨some d, .makeSlice t a b, ty, pos, af, g⟩ E h :=
  ⟨fun ho => O_simple ho rfl hN hg hk (fun tm hE => by
    show makeSliceB P h t (ev tm a) (ev tm b) = _
    rw [hE.ev ha, hE.ev hb]
    obtain ⟨hu, hs, by_, z, hby, hz', h64, hz1, _⟩ := cell1_some hc
    rw [hz] at hz'
    cases hz'
    unfold makeSliceB
    simp only [hu, hs, hby, hz, zeros1 (.slice none 0 0) rfl]
    rw [if_pos ⟨h0, Int.le_refl n, h1, by omega, by simp [oneB], rfl⟩]) k.out⟩
theorem splice_set {c : List Value} {k : Nat} {v : Value} (h : k < c.length) : splice c k [v] = c.set k v := by
  simp only [splice, List.length_cons, List.length_nil]
  rw [List.set_eq_take_append_cons_drop, if_pos h]
  simp
/-- A list in a list of lists is changed. -/
theorem P_storeL {t : TypeId} {a y : Operand} {b j : Nat} {c : List Value} {e : TypeId} {q : Option Addr} {n m : Nat} (hg : gval ops E g = some true) (hk : opsOK P ⟨none, .store t a y, ty, pos, af, g⟩ = true)
    (ha : E.ev a = some (.pointer (some ⟨b, j, none⟩))) (hy : E.ev y = some (.slice q n m)) (hb : h.get? b = some (.cells c e true)) (hs : sizeB P t = some 1) (hl : j < c.length)
    (k : ∀ h1, h1.get? b = some (.cells (c.set j (.slice q n m)) e true) → ExtBut b h h1 → R1 P K x N ops F (i + 1) E h1) : R2 P K x N ops F i ⟨none, .store t a y, ty, pos, af, g⟩ E h := by
  refine P_store hg hk ha hy hb hs rfl (by omega) rfl ?_
  rw [show (Value.slice q n m).cells.toList = [.slice q n m] from rfl, splice_set hl]
  exact k _ (get_set_same hb) ((ExtBut.refl b h).set hb _)
/-- The first elements of a list whose capacity is known. -/
theorem P_sliceHi {t e : TypeId} {a c : Operand} {b len cap n : Nat} {ik : IntKind} {q : Int} (hN : Nat.blt d N = true) (hg : gval ops E g = some true) (hk : opsOK P ⟨some d, .slice t a none (some c) none, ty, pos, af, g⟩ = true)
    (ha : E.ev a = some (.slice (some ⟨b, 0, none⟩) len cap)) (hc : E.ev c = some (.int ik q)) (hu : P.underlying t = some (.slice e)) (hs : sizeB P e = some n) (hlc : len ≤ cap) (hcap : cap ≤ 1048576) (h0 : 0 ≤ q) (h1 : q ≤ cap)
    (k : R1 P K x N ops F (i + 1) ((d, .slice (some ⟨b, 0, none⟩) q.toNat cap) :: E) h) : R2 P K x N ops F i ⟨some d, .slice t a none (some c) none, ty, pos, af, g⟩ E h :=
  ⟨fun ho => O_simple ho rfl hN hg hk (fun tm hE => by
    have hk1 : (cap == unk || cap == anyCap) = false := by
      simp only [Bool.or_eq_false_iff, beq_eq_false_iff_ne]
      unfold unk anyCap
      omega
    have e1 : simpleB P tm h ⟨some d, .slice t a none (some c) none, ty, pos, af, g⟩ = (sliceB P t (ev tm a) none (some (ev tm c)) none).map fun v => (v, h) := by
      show (match ev tm a with | .string _ => _ | x => _) = _
      rw [hE.ev ha]; rfl
    rw [e1, hE.ev ha, hE.ev hc]
    unfold sliceB
    simp only [hu, Option.isSome_none, Bool.false_and, Bool.false_eq_true, if_false]
    unfold sliceRowB
    simp only [hk1, Bool.not_false, if_true, maxB, boundB]
    rw [if_pos ⟨h0, h1⟩]
    simp only [hs]
    rw [if_pos ⟨by unfold unk; omega, hlc⟩]
    simp) k.out⟩
end
end Go.AX

namespace Go.AX

/-! Lists of lists that are made. -/

/-- A list of one-cell values that is being made: nil, or a row of its own. -/
def OutV (e : TypeId) (h0 h : Heap) (v : Value) (c : List Value) : Prop :=
  (c = [] ∧ v = .slice none 0 0) ∨ (c ≠ [] ∧ ∃ b, v = .slice (some ⟨b, 0, none⟩) c.length unk ∧ h.get? b = some (.cells c e true) ∧ h0.n ≤ b)
theorem OutV.nil (e : TypeId) (h0 h : Heap) : OutV e h0 h (.slice none 0 0) [] := .inl ⟨rfl, rfl⟩
theorem OutV.ext {e : TypeId} {h0 h h1 : Heap} {v : Value} {c : List Value} (o : OutV e h0 h v c) (x : Ext h h1) : OutV e h0 h1 v c := by
  rcases o with o | ⟨hl, b, h1, h2, h3⟩
  · exact .inl o
  · exact .inr ⟨hl, b, h1, x.get h2, h3⟩
section
variable {P : Program} {K : Known} {x : Ctx} {N : Nat} {E : Env} {h : Heap} {ops : Array Oper} {F : Ex → Env → Heap → Prop} {i : Nat}
variable {d : Nat} {ty : TypeId} {pos : String} {af : Array Edge} {g : Option (Nat × Bool)}
theorem P_appV {args : Array Operand} {ts : Array TypeId} {t t' e e' : TypeId} {a b : Operand} {by_ cap : Nat} {e0 : TypeId} {own : Bool} {u v : Value} {c : List Value} {h0 : Heap} (hN : Nat.blt d N = true) (hg : gval ops E g = some true) (hk : opsOK P ⟨some d, .call ⟨.builtin .append, args, ts⟩, ty, pos, af, g⟩ = true) (hargs : args.toList = [a, b])
    (ha : E.ev a = some v) (hb : E.ev b = some (.slice (some ⟨by_, 0, none⟩) 1 cap)) (h0' : ts[0]? = some t) (h1' : ts[1]? = some t') (hc : cell1 P t = some e) (hc' : P.underlying t' = some (.slice e'))
    (hy : h.get? by_ = some (.cells [u] e0 own)) (hu : oneB u = true) (ho : OutV e h0 h v c) (hx : Ext h0 h) (hle : c.length ≤ 10000)
    (k : ∀ v' h1, OutV e h0 h1 v' (c ++ [u]) → Ext h0 h1 → (∀ b y, h.get? b = some y → y ≠ .cells c e true → h1.get? b = some y) → R1 P K x N ops F (i + 1) ((d, v') :: E) h1) : R2 P K x N ops F i ⟨some d, .call ⟨.builtin .append, args, ts⟩, ty, pos, af, g⟩ E h := by
  rcases ho with ⟨rfl, rfl⟩ | ⟨hl, b', rfl, h2, h3⟩
  · exact P_append hN hg hk hargs ha hb (app_nil h0' h1' hc hc' hy rfl (by omega) (by omega) (by simp [hu])) (k _ _ (.inr ⟨by simp, h.n, rfl, get_push_same, hx.n⟩) (hx.push _) fun _ _ g _ => get_push_old g)
  · refine P_append hN hg hk hargs ha hb (app_unk h0' h1' hc hc' hy rfl (by omega) (by omega) (by simp [hu]) h2 rfl) (k _ _ (.inr ⟨by simp, h.n, ?_, ?_, hx.n⟩) ?_ fun b y g hy => get_push_old (get_set_other h2 (fun q => ?_) g))
    · simp
    · have : (h.set b' .dead).n = h.n := rfl
      rw [← this]
      exact get_push_same
    · exact (hx.set h3 h2 .dead).push _
    · subst q
      rw [h2] at g
      cases g
      exact hy rfl
end
end Go.AX

namespace Go.AX

/-! Lists that are made beside blocks that change; spans that are the same. -/

/-- What lies below, and what is not this block, is there. -/
structure KeepB (m : Nat) (z : Blk) (h h1 : Heap) : Prop where
  n : h.n ≤ h1.n
  get' : ∀ b y, h.get? b = some y → (b < m ∨ y ≠ z) → h1.get? b = some y
theorem KeepB.lo {m : Nat} {z : Blk} {h h1 : Heap} (k : KeepB m z h h1) {b : Nat} {y : Blk} (hb : b < m) (g : h.get? b = some y) : h1.get? b = some y := k.get' b y g (.inl hb)
theorem KeepB.ne {m : Nat} {z : Blk} {h h1 : Heap} (k : KeepB m z h h1) {b : Nat} {y : Blk} (hb : y ≠ z) (g : h.get? b = some y) : h1.get? b = some y := k.get' b y g (.inr hb)
theorem OutI.but {e : TypeId} {h0 h h1 : Heap} {v : Value} {l : List Int} {b0 : Nat} (o : OutI e h0 h v l) (x : ExtBut b0 h h1) (hb : b0 < h0.n) : OutI e h0 h1 v l := by
  rcases o with o | ⟨hl, b, h1, h2, h3⟩
  · exact .inl o
  · exact .inr ⟨hl, b, h1, x.get (by omega) h2, h3⟩
theorem OutS.but {e : TypeId} {h0 h h1 : Heap} {v : Value} {l : List (Int × Int)} {b0 : Nat} (o : OutS e h0 h v l) (x : ExtBut b0 h h1) (hb : b0 < h0.n) : OutS e h0 h1 v l := by
  rcases o with o | ⟨hl, b, h1, h2, h3⟩
  · exact .inl o
  · exact .inr ⟨hl, b, h1, x.get (by omega) h2, h3⟩
section
variable {P : Program} {K : Known} {x : Ctx} {N : Nat} {E : Env} {h : Heap} {ops : Array Oper} {F : Ex → Env → Heap → Prop} {i : Nat} {Hs : List Heap} {L : List Heap → Prop} {nw : List (Nat × Nat × Blk)}
variable {d : Nat} {ty : TypeId} {pos : String} {af : Array Edge} {g : Option (Nat × Bool)}
theorem M_appIK {args : Array Operand} {ts : Array TypeId} {t t' e e' : TypeId} {a b : Operand} {by_ cap : Nat} {e0 : TypeId} {own : Bool} {n : Int} {v : Value} {l : List Int} {h0 : Heap} (hN : Nat.blt d N = true) (hg : gval ops E g = some true) (hk : opsOK P ⟨some d, .call ⟨.builtin .append, args, ts⟩, ty, pos, af, g⟩ = true) (hargs : args.toList = [a, b])
    (ha : E.ev a = some v) (hb : E.ev b = some (.slice (some ⟨by_, 0, none⟩) 1 cap)) (h0' : ts[0]? = some t) (h1' : ts[1]? = some t') (hc : cell1 P t = some e) (hc' : P.underlying t' = some (.slice e'))
    (hy : h.get? by_ = some (.cells [.int .i64 n] e0 own)) (ho : OutI e h0 h v l) (hx : h0.n ≤ h.n) (hle : l.length ≤ 10000) (hnw : unseen (preds ops.toList) nw i = [])
    (k : ∀ v' h1, OutI e h0 h1 v' (l ++ [n]) → KeepB h0.n (.cells (ints l) e true) h h1 → S1 P K x N ops F (i + 1) ((d, v') :: E) h1 (h1 :: Hs) L nw) : S2 P K x N ops F i ⟨some d, .call ⟨.builtin .append, args, ts⟩, ty, pos, af, g⟩ E h Hs L nw := by
  rcases ho with ⟨rfl, rfl⟩ | ⟨hl, b', rfl, h2, h3⟩
  · refine M_append hN hg hk hargs ha hb (app_nil h0' h1' hc hc' hy rfl (by omega) (by omega) rfl) hnw (k _ _ (.inr ⟨by simp, h.n, rfl, get_push_same, hx⟩) ⟨Nat.le_succ _, fun _ _ g _ => get_push_old g⟩)
  · refine M_append hN hg hk hargs ha hb (app_unk h0' h1' hc hc' hy rfl (by omega) (by omega) rfl h2 (ints_len _)) hnw (k _ _ (.inr ⟨by simp, h.n, ?_, ?_, hx⟩) ⟨Nat.le_succ _, fun c y q r => get_push_old (get_set_other h2 (fun u => ?_) q)⟩)
    · simp
    · have : (h.set b' .dead).n = h.n := rfl
      rw [← this, show ints (l ++ [n]) = ints l ++ [Value.int .i64 n] from (ints_app l [n]).symm]
      exact get_push_same
    · subst u
      rw [h2] at q
      cases q
      rcases r with r | r
      · omega
      · exact r rfl
theorem M_appSK {args : Array Operand} {ts : Array TypeId} {t t' e e' : TypeId} {a b : Operand} {by_ cap : Nat} {e0 : TypeId} {own : Bool} {p : Int × Int} {v : Value} {l : List (Int × Int)} {h0 : Heap} (hN : Nat.blt d N = true) (hg : gval ops E g = some true) (hk : opsOK P ⟨some d, .call ⟨.builtin .append, args, ts⟩, ty, pos, af, g⟩ = true) (hargs : args.toList = [a, b])
    (ha : E.ev a = some v) (hb : E.ev b = some (.slice (some ⟨by_, 0, none⟩) 1 cap)) (h0' : ts[0]? = some t) (h1' : ts[1]? = some t') (hc : cell2 P t = some e) (hc' : P.underlying t' = some (.slice e'))
    (hy : h.get? by_ = some (.cells (spanCells [p]) e0 own)) (ho : OutS e h0 h v l) (hx : h0.n ≤ h.n) (hle : l.length ≤ 10000) (hnw : unseen (preds ops.toList) nw i = [])
    (k : ∀ v' h1, OutS e h0 h1 v' (l ++ [p]) → KeepB h0.n (.cells (spanCells l) e true) h h1 → S1 P K x N ops F (i + 1) ((d, v') :: E) h1 (h1 :: Hs) L nw) : S2 P K x N ops F i ⟨some d, .call ⟨.builtin .append, args, ts⟩, ty, pos, af, g⟩ E h Hs L nw := by
  rcases ho with ⟨rfl, rfl⟩ | ⟨hl, b', rfl, h2, h3⟩
  · exact M_append hN hg hk hargs ha hb (app_nilS h0' h1' hc hc' hy) hnw (k _ _ (.inr ⟨by simp, h.n, rfl, get_push_same, hx⟩) ⟨Nat.le_succ _, fun _ _ g _ => get_push_old g⟩)
  · refine M_append hN hg hk hargs ha hb (app_unkS h0' h1' hc hc' hy (by omega) h2) hnw (k _ _ (.inr ⟨by simp, h.n, ?_, ?_, hx⟩) ⟨Nat.le_succ _, fun c y q r => get_push_old (get_set_other h2 (fun u => ?_) q)⟩)
    · simp
    · have : (h.set b' .dead).n = h.n := rfl
      rw [← this]
      exact get_push_same
    · subst u
      rw [h2] at q
      cases q
      rcases r with r | r
      · omega
      · exact r rfl
/-- A copy of a list of spans: append to nil. -/
theorem app_nilL {ts : Array TypeId} {t t' e e' : TypeId} {b cap : Nat} {l : List (Int × Int)} {e0 : TypeId} {own : Bool} (h0 : ts[0]? = some t) (h1 : ts[1]? = some t') (hc : cell2 P t = some e) (hc' : P.underlying t' = some (.slice e')) (hb : h.get? b = some (.cells (spanCells l) e0 own)) (hp : 0 < l.length) (hle : l.length ≤ 1000000) :
    appendB P h ts (.slice none 0 0) (.slice (some ⟨b, 0, none⟩) l.length cap) = some (.slice (some ⟨h.n, 0, none⟩) l.length unk, h.push (.cells (spanCells l) e true)) := by
  obtain ⟨hu, hs, hz, by_, hby, h64⟩ := cell2_some hc
  unfold appendB
  simp only [h0, h1, hu, hc']
  unfold appendRow
  simp only [hs, hby, hz, lenB, row2 hb (m := l.length) (by rw [spanCells_len])]
  have hbd : (0 + l.length) * (by_ + 1) ≤ 70368744177664 := Nat.le_trans (Nat.mul_le_mul (by omega : 0 + l.length ≤ 1000000) (by omega : by_ + 1 ≤ 65)) (by decide)
  rw [if_pos ⟨rfl, spans_one _, hbd⟩, if_neg (by omega)]
  simp
theorem P_appCopyS {args : Array Operand} {ts : Array TypeId} {t t' e e' : TypeId} {a b : Operand} {bx cap : Nat} {l : List (Int × Int)} {e0 : TypeId} {own : Bool} (hN : Nat.blt d N = true) (hg : gval ops E g = some true) (hk : opsOK P ⟨some d, .call ⟨.builtin .append, args, ts⟩, ty, pos, af, g⟩ = true) (hargs : args.toList = [a, b])
    (ha : E.ev a = some (.slice none 0 0)) (hb : E.ev b = some (.slice (some ⟨bx, 0, none⟩) l.length cap)) (h0' : ts[0]? = some t) (h1' : ts[1]? = some t') (hc : cell2 P t = some e) (hc' : P.underlying t' = some (.slice e'))
    (hx : h.get? bx = some (.cells (spanCells l) e0 own)) (hp : 0 < l.length) (hle : l.length ≤ 1000000)
    (k : R1 P K x N ops F (i + 1) ((d, .slice (some ⟨h.n, 0, none⟩) l.length unk) :: E) (h.push (.cells (spanCells l) e true))) : R2 P K x N ops F i ⟨some d, .call ⟨.builtin .append, args, ts⟩, ty, pos, af, g⟩ E h :=
  P_append hN hg hk hargs ha hb (app_nilL h0' h1' hc hc' hx hp hle) k

theorem eqlS_op {P : Program} {tm : Array Value} {o : Oper} {t yt : TypeId} {x y : Operand} {a b c e : Int} (ho : o.op = .binOp .eql t x y yt) (hx : ev tm x = .agg #[.int .i64 a, .int .i64 b]) (hy : ev tm y = .agg #[.int .i64 c, .int .i64 e])
    (hs : spanT P t = true) (hq : P.eqGuardType P.depth t = false) : plainOp P tm o = some (.bool (a == c && b == e)) := by
  have hp : (plainKind o && o.op.operands.toList.all fun x => plain deep (ev tm x)) = true := by
    simp [plainKind, ho, Op.operands, hx, hy, plain, deep]
  unfold plainOp
  rw [if_pos hp]
  have he : execOp (ev tm) o = Sem.bind (do eqGuard .eql t x y (ev tm x) (ev tm y); binOp .eql t (ev tm x) (ev tm y)) fun v => .pure (Next.value v) := by
    unfold execOp; rw [ho]; rfl
  rw [he, hx, hy]
  have e1 : pe P (do eqGuard .eql t x y (.agg #[.int .i64 a, .int .i64 b]) (.agg #[.int .i64 c, .int .i64 e]); binOp .eql t (.agg #[.int .i64 a, .int .i64 b]) (.agg #[.int .i64 c, .int .i64 e])) = some (.bool (a == c && b == e)) := by
    refine (pe_bind (a := ()) ?_).trans ?_
    · unfold eqGuard
      simp only [Bool.not_true, Bool.false_eq_true, if_false]
      show pe P (if (!(P.eqGuardType P.depth t)) = true then _ else _) = _
      rw [hq]; rfl
    · show pe P (do pure (Value.bool (← Op.equal t (.agg #[.int .i64 a, .int .i64 b]) (.agg #[.int .i64 c, .int .i64 e])))) = _
      exact (pe_bind (pe_eqSpan hs)).trans rfl
  rw [(pe_bind e1).trans rfl]
  rfl
theorem eqlS_simple {tm : Array Value} {t yt : TypeId} {a b : Operand} {p q : Int × Int} (hE : EnvOK N E tm)
    (ha : E.ev a = some (.agg #[.int .i64 p.1, .int .i64 p.2])) (hb : E.ev b = some (.agg #[.int .i64 q.1, .int .i64 q.2])) (hs : spanT P t = true) (hq : P.eqGuardType P.depth t = false) :
    simpleB P tm h ⟨some d, .binOp .eql t a b yt, ty, pos, af, g⟩ = some (.bool (p.1 == q.1 && p.2 == q.2), h) := by
  have := eqlS_op (P := P) (tm := tm) (o := ⟨some d, .binOp .eql t a b yt, ty, pos, af, g⟩) rfl (hE.ev ha) (hE.ev hb) hs hq
  show (match plainOp P tm ⟨some d, .binOp .eql t a b yt, ty, pos, af, g⟩ with | some v => some (v, h) | none => _) = _
  rw [this]
theorem eql_f {p q : Int × Int} (h : ¬ p = q) : (p.1 == q.1 && p.2 == q.2) = false := by
  have := neq_t h
  cases hb : (p.1 == q.1 && p.2 == q.2) with
  | false => rfl
  | true => rw [hb] at this; cases this
theorem eql_t {p q : Int × Int} (h : p = q) : (p.1 == q.1 && p.2 == q.2) = true := by subst h; simp
/-- Two spans. -/
theorem M_eqlS {t yt : TypeId} {a b : Operand} {p q : Int × Int} (hN : Nat.blt d N = true) (hg : gval ops E g = some true) (hk : opsOK P ⟨some d, .binOp .eql t a b yt, ty, pos, af, g⟩ = true)
    (ha : E.ev a = some (.agg #[.int .i64 p.1, .int .i64 p.2])) (hb : E.ev b = some (.agg #[.int .i64 q.1, .int .i64 q.2])) (hs : spanT P t = true) (hq : P.eqGuardType P.depth t = false)
    (kt : p = q → S1 P K x N ops F (i + 1) ((d, .bool true) :: E) h Hs L nw) (kf : ¬ p = q → S1 P K x N ops F (i + 1) ((d, .bool false) :: E) h Hs L nw) : S2 P K x N ops F i ⟨some d, .binOp .eql t a b yt, ty, pos, af, g⟩ E h Hs L nw := by
  by_cases hc : p = q
  · exact ⟨fun ho => N_simple ho rfl hN hg hk rfl rfl (fun tm hE => by rw [eqlS_simple hE ha hb hs hq, eql_t hc]) (kt hc).out⟩
  · exact ⟨fun ho => N_simple ho rfl hN hg hk rfl rfl (fun tm hE => by rw [eqlS_simple hE ha hb hs hq, eql_f hc]) (kf hc).out⟩
/-- A store, told by what the block holds behind it, where the order is open. -/
theorem M_storeC {t : TypeId} {a y : Operand} {b o n : Nat} {c c' : List Value} {e : TypeId} {v : Value} (hg : gval ops E g = some true) (hk : opsOK P ⟨none, .store t a y, ty, pos, af, g⟩ = true)
    (ha : E.ev a = some (.pointer (some ⟨b, o, none⟩))) (hy : E.ev y = some v) (hb : h.get? b = some (.cells c e true)) (hs : sizeB P t = some n) (hc : v.cells.size = n) (hl : o + n ≤ c.length) (hone : v.cells.toList.all oneB = true) (hc' : splice c o v.cells.toList = c') (hnw : unseen (preds ops.toList) nw i = [])
    (k : ∀ h1, h1.get? b = some (.cells c' e true) → ExtBut b h h1 → S1 P K x N ops F (i + 1) E h1 (h1 :: Hs) L nw) : S2 P K x N ops F i ⟨none, .store t a y, ty, pos, af, g⟩ E h Hs L nw := by
  subst hc'
  exact M_store hg hk ha hy hb hs hc hl hone hnw (k _ (get_set_same hb) ((ExtBut.refl b h).set hb _))
/-! Results that lie in memory. -/
theorem readA {t : TypeId} {b o n : Nat} {c : List Value} {e : TypeId} {own : Bool} {vs : List Value} (ht : aggN P t = some n) (hb : h.get? b = some (.cells c e own)) (hl : o + n ≤ c.length) (hv : (c.drop o).take n = vs) : readB P h t (.pointer (some ⟨b, o, none⟩)) = some (.agg vs.toArray) := by
  simp only [readB, hb, partB, aggN_agg ht, aggN_size ht, if_pos hl, hv]
theorem read1 {t : TypeId} {b o : Nat} {c : List Value} {e : TypeId} {own : Bool} {v : Value} (ht : one P t = true) (hb : h.get? b = some (.cells c e own)) (hv : c[o]? = some v) : readB P h t (.pointer (some ⟨b, o, none⟩)) = some v := by
  simp only [readB, hb, partB, one_agg ht, one_size ht, hv]
theorem resE_c {a : Tmp} {t : TypeId} {l : List ResultVar} {p v : Value} {vs : List Value} (hp : E.get a = some p) (hv : readB P h t p = some v) (hl : resE P E h l = some vs) : resE P E h (.cell a t :: l) = some (v :: vs) := by
  simp only [resE, hp, hv, hl]
end
theorem within_optO {h0 h : Heap} {q : Option Addr} {n c : Nat} (hp : ∀ a, q = some a → a.block < h0.n) (e : Ext h0 h) : within 20 h.n (.slice q n c) = true := by
  cases q with
  | none => rfl
  | some a => have := hp a rfl; have := e.n; simp [within]; omega
theorem within_planO {h0 h : Heap} {q : Option Addr} {n c : Nat} {x y : Int} (hp : ∀ a, q = some a → a.block < h0.n) (e : Ext h0 h) : within 20 h.n (.agg [Value.slice q n c, .int .i64 x, .int .i64 y].toArray) = true := by
  cases q with
  | none => simp [within]
  | some a => have := hp a rfl; have := e.n; simp [within]; omega
theorem OutS.same {e : TypeId} {h0 h : Heap} {v : Value} {l : List (Int × Int)} (o : OutS e h0 h v l) : same 20 v v = true := by
  rcases o with ⟨_, rfl⟩ | ⟨_, b, rfl, _, _⟩ <;> exact same_slice _ _ _
theorem OutS.within {e : TypeId} {h0 h : Heap} {v : Value} {l : List (Int × Int)} (o : OutS e h0 h v l) : within 20 h.n v = true := by
  rcases o with ⟨_, rfl⟩ | ⟨_, b, rfl, g, _⟩
  · rfl
  · exact within_get g
theorem OutS.keep {e e' : TypeId} {h0 h h1 : Heap} {v : Value} {l : List (Int × Int)} {m : Nat} {c : List Value} (o : OutS e h0 h v l) (k : KeepB m (.cells c e' true) h h1) (hne : e ≠ e') : OutS e h0 h1 v l := by
  rcases o with o | ⟨hl, b, h1, h2, h3⟩
  · exact .inl o
  · exact .inr ⟨hl, b, h1, k.ne (by intro q; injection q with _ q _; exact hne q) h2, h3⟩
theorem OutI.keep {e e' : TypeId} {h0 h h1 : Heap} {v : Value} {l : List Int} {m : Nat} {c : List Value} (o : OutI e h0 h v l) (k : KeepB m (.cells c e' true) h h1) (hne : e ≠ e') : OutI e h0 h1 v l := by
  rcases o with o | ⟨hl, b, h1, h2, h3⟩
  · exact .inl o
  · exact .inr ⟨hl, b, h1, k.ne (by intro q; injection q with _ q _; exact hne q) h2, h3⟩
theorem OutS.cells {e : TypeId} {h0 h : Heap} {v : Value} {l : List (Int × Int)} (o : OutS e h0 h v l) : v.cells = #[v] ∧ oneB v = true := by
  rcases o with ⟨_, rfl⟩ | ⟨_, b, rfl, _, _⟩ <;> exact ⟨rfl, rfl⟩
end Go.AX

namespace Go.AX

/-! Panics, deferred calls, recover. -/

/-- A call that panics. -/
def CallP (P : Program) (K : Known) (f : FuncId) (args : Array Value) (h : Heap) (ch : List PanicEntry) (G : Heap → Prop) : Prop :=
  ∃ n h1, (run P K n).call f args false .run h = some (.panic ch, .run, h1) ∧ G h1
/-- A deferred call that returns. -/
def CallD (P : Program) (K : Known) (f : FuncId) (args : Array Value) (u : FrameMode) (h : Heap) (u' : FrameMode) (h1 : Heap) : Prop :=
  ∃ n v, (run P K n).call f args true u h = some (.ret v, u', h1)

section
variable {P : Program} {K : Known} {x : Ctx} {N : Nat} {E : Env} {h : Heap} {Q : Ex → Env → Heap → Prop} {ks : List Kt}

theorem env_args {args : Array Value} (ha : args.size ≤ N) : EnvOK N (envFrom 0 args.toList) (args ++ Array.replicate (N - args.size) undef) := by
  refine ⟨by simp; omega, fun t v e => ?_⟩
  obtain ⟨_, h2⟩ := envFrom_get _ _ _ _ e
  simp only [Nat.sub_zero, Array.getElem?_toList] at h2
  rw [Array.getElem?_append_left (Array.getElem?_eq_some_iff.1 h2).1]
  exact h2

theorem bodyP {f : FuncId} {args : Array Value} {fn : Func} {c : Code} {ch : List PanicEntry} {G : Heap → Prop} (hf : P.funcs[f]? = some fn) (hb : fn.body = some c) (hk : K f args h = none) (hN : fn.ntmps = N) (ha : Nat.ble args.size N = true)
    (H : K1 P K { fn := f, round := none, dfr := false } N (fun e _ h1 => e = .panic ch ∧ G h1) c [] (envFrom 0 args.toList) h) : CallP P K f args h ch G := by
  obtain ⟨n, e, tm1, h1, E1, hr, hE1, he, hg⟩ := H.out _ [] .run (env_args (Nat.le_of_ble_eq_true ha))
  subst he
  refine ⟨n + 1, h1, ?_, hg⟩
  show callF P K (run P K n) f args false .run h = _
  unfold callF
  simp only [Bool.false_eq_true, if_false, hk, hf, hb, hN]
  rw [hr]
  simp only [leaveB, Option.map_some]

theorem C_panS {b : Code} {c : List PanicEntry} (H : C1 P K x N Q ks (.panic c) E h) : C1 P K x N Q (.seq b :: ks) (.panic c) E h := ⟨H.out⟩
theorem C_panL {b : Code} {c : List PanicEntry} (H : C1 P K x N Q ks (.panic c) E h) : C1 P K x N Q (.loop b :: ks) (.panic c) E h := ⟨H.out⟩
theorem C_panB {id : Nat} {c : List PanicEntry} (H : C1 P K x N Q ks (.panic c) E h) : C1 P K x N Q (.block id :: ks) (.panic c) E h := ⟨H.out⟩

variable {ops : Array Oper} {F : Ex → Env → Heap → Prop} {i : Nat}
variable {d : Nat} {ty : TypeId} {pos : String} {af : Array Edge} {g : Option (Nat × Bool)}

/-- An operation that panics. -/
theorem O_pan {o : Oper} {ch : List PanicEntry} {G : Heap → Prop} (ho : ops[i]? = some o) (hg : gval ops E o.guard = some true)
    (hop : ∀ tm D U, EnvOK N E tm → ∃ n h1, doOp P (run P K n) x ⟨tm, D, U, h⟩ o = some (.panic ch, ⟨tm, D, U, h1⟩) ∧ G h1)
    (k : ∀ h1, G h1 → F (.panic ch) E h1) : WO P K x N ops F i E h := by
  intro tm D U hE
  obtain ⟨n, h1, hr, hv⟩ := hop tm D U hE
  refine ⟨n, _, tm, h1, E, ?_, hE, k h1 hv⟩
  rw [seq_cons (Array.getElem?_eq_some_iff.1 ho).1]
  simp only [seqOps, ho]
  rw [gval_wanted hE hg, if_pos rfl, hr]
theorem P_panic {dd : Option Tmp} {a : Operand} {t : TypeId} {v : Value} (hg : gval ops E g = some true) (hk : opsOK P ⟨dd, .panic a, ty, pos, af, g⟩ = true) (ha : E.ev a = some (.iface t v))
    (k : F (.panic [⟨.iface t v, false, false⟩]) E h) : R2 P K x N ops F i ⟨dd, .panic a, ty, pos, af, g⟩ E h :=
  ⟨fun ho => O_pan (G := fun h1 => h1 = h) ho hg (fun tm D U hE => ⟨0, h, by
    unfold doOp
    rw [hk]
    have e2 : simpleB P tm h ⟨dd, .panic a, ty, pos, af, g⟩ = none := rfl
    have e3 : effectB P tm h ⟨dd, .panic a, ty, pos, af, g⟩ = some (.panic (.iface t v), h) := by
      show (match AX.ev tm a with | .iface t v => some (Out.panic (.iface t v), h) | _ => none) = _
      rw [hE.ev ha]
    simp only [Bool.not_true, Bool.false_eq_true, if_false, e2, e3]
    rfl, rfl⟩) (fun _ q => by subst q; exact k)⟩
theorem P_callP {dd : Option Tmp} {fo : Operand} {args : Array Operand} {ts : Array TypeId} {f : FuncId} {fi ca : Array Value} {vs : List Value} {ch : List PanicEntry} {G : Heap → Prop} (hg : gval ops E g = some true) (hk : opsOK P ⟨dd, .call ⟨.value fo, args, ts⟩, ty, pos, af, g⟩ = true)
    (hf : E.ev fo = some (.func (.func f) fi ca)) (hargs : E.evs args.toList = some vs) (hen : enters P f = true) (hc : CallP P K f (fi ++ vs.toArray ++ ca) h ch G) (k : ∀ h1, G h1 → F (.panic ch) E h1) : R2 P K x N ops F i ⟨dd, .call ⟨.value fo, args, ts⟩, ty, pos, af, g⟩ E h :=
  ⟨fun ho => O_pan ho hg (fun tm D U hE => by
    obtain ⟨n, h1, hr, hv⟩ := hc
    refine ⟨n, h1, ?_, hv⟩
    have e1 : args.map (AX.ev tm) = vs.toArray := by
      apply Array.ext'
      rw [Array.toList_map, hE.evs hargs]
    unfold doOp
    rw [hk]
    have e2 : simpleB P tm h ⟨dd, .call ⟨.value fo, args, ts⟩, ty, pos, af, g⟩ = none := rfl
    have e3 : effectB P tm h ⟨dd, .call ⟨.value fo, args, ts⟩, ty, pos, af, g⟩ = some (.enter f (fi ++ vs.toArray ++ ca), h) := by
      show (callValueB P (AX.ev tm fo) (args.map (AX.ev tm))).map (fun r => (r, h)) = _
      rw [hE.ev hf, e1]
      simp only [callValueB]
      rw [enters_ok hen]; rfl
    simp only [Bool.not_true, Bool.false_eq_true, if_false, e2, e3, hr]
    rfl) k⟩
theorem P_iface {t : TypeId} {a : Operand} {v : Value} (hN : Nat.blt d N = true) (hg : gval ops E g = some true) (hk : opsOK P ⟨some d, .makeInterface t a, ty, pos, af, g⟩ = true) (ha : E.ev a = some v) (hu : (match P.underlying t with | some (.interface _) | none => false | some _ => true) = true)
    (k : R1 P K x N ops F (i + 1) ((d, .iface t v) :: E) h) : R2 P K x N ops F i ⟨some d, .makeInterface t a, ty, pos, af, g⟩ E h :=
  ⟨fun ho => O_simple ho rfl hN hg hk (fun tm hE => by
    show (match P.underlying t with | some (.interface _) | none => none | some _ => some (Value.iface t (AX.ev tm a), h)) = _
    rw [hE.ev ha]
    split at hu
    · cases hu
    · cases hu
    · rfl) k.out⟩
theorem P_assert {t t' : TypeId} {a : Operand} {v r : Value} {ok : Bool} (hN : Nat.blt d N = true) (hg : gval ops E g = some true) (hk : opsOK P ⟨some d, .typeAssert a t t' ok, ty, pos, af, g⟩ = true) (ha : E.ev a = some v) (hr : assertB P v t' ok = some r)
    (k : R1 P K x N ops F (i + 1) ((d, r) :: E) h) : R2 P K x N ops F i ⟨some d, .typeAssert a t t' ok, ty, pos, af, g⟩ E h :=
  ⟨fun ho => O_simple ho rfl hN hg hk (fun tm hE => by
    show (assertB P (AX.ev tm a) t' ok).map (fun v => (v, h)) = _
    rw [hE.ev ha, hr]; rfl) k.out⟩

/-! A code's first parts, and what follows. -/
def preOf : Nat → Code → Code
  | n + 1, .seq a b => .seq a (preOf n b)
  | _, _ => .skip
def restOf : Nat → Code → Code
  | n + 1, .seq _ b => restOf n b
  | _, c => c
theorem run_cut : ∀ (k : Nat) (c : Code) (s s1 : St) (e : Ex) (n : Nat), (run P K n).code x (preOf k c) s = some (e, s1) →
    (e ≠ .normal → ∃ m, (run P K m).code x c s = some (e, s1)) ∧ (e = .normal → ∀ e2 s2 m, (run P K m).code x (restOf k c) s1 = some (e2, s2) → ∃ j, (run P K j).code x c s = some (e2, s2)) := by
  intro k
  have skip : ∀ (c : Code) (s s1 : St) (e : Ex) (n : Nat), (run P K n).code x .skip s = some (e, s1) → e = .normal ∧ s1 = s := by
    intro c s s1 e n hr
    cases n with
    | zero => cases hr
    | succ n => rw [code_succ] at hr; simp only [codeF] at hr; cases hr; exact ⟨rfl, rfl⟩
  induction k with
  | zero =>
    intro c s s1 e n hr
    obtain ⟨rfl, rfl⟩ := skip c s s1 e n (by cases c <;> exact hr)
    exact ⟨fun q => absurd rfl q, fun _ e2 s2 m hm => ⟨m, by cases c <;> exact hm⟩⟩
  | succ k ih =>
    intro c s s1 e n hr
    cases c with
    | seq a b =>
      cases n with
      | zero => cases hr
      | succ n =>
        rw [show preOf (k + 1) (.seq a b) = .seq a (preOf k b) from rfl, code_succ] at hr
        simp only [codeF] at hr
        split at hr
        · rename_i s0 ha
          obtain ⟨h1, h2⟩ := ih b s0 s1 e n hr
          have join : ∀ e2 s2 m, (run P K m).code x b s0 = some (e2, s2) → ∃ j, (run P K j).code x (.seq a b) s = some (e2, s2) := fun e2 s2 m hm => by
            refine ⟨max n m + 1, ?_⟩
            rw [code_succ]
            simp only [codeF]
            rw [(run_mono P K (Nat.le_max_left n m)).code _ _ _ _ ha]
            exact (run_mono P K (Nat.le_max_right n m)).code _ _ _ _ hm
          exact ⟨fun q => by obtain ⟨m, hm⟩ := h1 q; exact join _ _ m hm, fun q e2 s2 m hm => by obtain ⟨j, hj⟩ := h2 q e2 s2 m hm; exact join _ _ j hj⟩
        · rename_i r hne
          have hee : e ≠ .normal := fun q => by subst q; exact hne _ hr
          refine ⟨fun _ => ⟨n + 1, ?_⟩, fun q => absurd q hee⟩
          rw [code_succ]
          simp only [codeF]
          rw [hr]
    | _ =>
      obtain ⟨rfl, rfl⟩ := skip .skip s s1 e n hr
      exact ⟨fun q => absurd rfl q, fun _ e2 s2 m hm => ⟨m, hm⟩⟩

/-- A deferred call that recovers first. -/
theorem bodyD {f : FuncId} {args : Array Value} {fn : Func} {id : Nat} {rest : Code} {u : FrameMode} {ops : Array Oper} {d : Nat} {as : Array Operand} {ts : Array TypeId} {ty : TypeId} {pos : String} {af : Array Edge} {G : Heap → Prop}
    (hf : P.funcs[f]? = some fn) (hb : fn.body = some (.seq (.region id ops false) rest)) (hN : fn.ntmps = N) (ha : Nat.ble args.size N = true) (ho : ops[0]? = some ⟨some d, .call ⟨.builtin .recover, as, ts⟩, ty, pos, af, none⟩) (hd : Nat.blt d N = true) (hk : opsOK P ⟨some d, .call ⟨.builtin .recover, as, ts⟩, ty, pos, af, none⟩ = true) (hres : fn.results.toList = [])
    (H : R1 P K { fn := f, round := none, dfr := true } N ops (C1 P K { fn := f, round := none, dfr := true } N (fun e _ h1 => (e = .normal ∨ e = .ret) ∧ G h1) [.seq rest]) 1 ((d, (recoverB u).1) :: envFrom 0 args.toList) h) :
    ∃ h1, CallD P K f args u h (recoverB u).2 h1 ∧ G h1 := by
  have h0 := env_args (N := N) (Nat.le_of_ble_eq_true ha)
  obtain ⟨n, e, tm1, h1, E1, hr, hE1, hc⟩ := H.out _ [] (recoverB u).2 (h0.put (lt_of_blt hd) _)
  have hsz := (Array.getElem?_eq_some_iff.1 ho).1
  have hreg : (run P K (n + 1)).code { fn := f, round := none, dfr := true } (.region id ops false) ⟨args ++ Array.replicate (N - args.size) undef, [], u, h⟩ = some (e, ⟨tm1, [], (recoverB u).2, h1⟩) := by
    rw [code_succ]
    simp only [codeF, Bool.false_eq_true, if_false]
    rw [List.range_eq_range', show ops.size = ops.size - 0 from rfl, seq_cons hsz]
    simp only [seqOps, ho]
    have hw : wantedB ops (args ++ Array.replicate (N - args.size) undef) ⟨some d, .call ⟨.builtin .recover, as, ts⟩, ty, pos, af, none⟩ = true := rfl
    have hdo : doOp P (run P K n) { fn := f, round := none, dfr := true } ⟨args ++ Array.replicate (N - args.size) undef, [], u, h⟩ ⟨some d, .call ⟨.builtin .recover, as, ts⟩, ty, pos, af, none⟩ = some (.val (recoverB u).1, ⟨args ++ Array.replicate (N - args.size) undef, [], (recoverB u).2, h⟩) := by
      unfold doOp
      rw [hk]
      have e2 : simpleB P (args ++ Array.replicate (N - args.size) undef) h ⟨some d, .call ⟨.builtin .recover, as, ts⟩, ty, pos, af, none⟩ = none := rfl
      have e3 : effectB P (args ++ Array.replicate (N - args.size) undef) h ⟨some d, .call ⟨.builtin .recover, as, ts⟩, ty, pos, af, none⟩ = some (.recover, h) := rfl
      simp only [Bool.not_true, Bool.false_eq_true, if_false, e2, e3, Option.isSome_none, if_true]
      rfl
    rw [hw, if_pos rfl, hdo]
    exact hr
  have hc1 := hc.out
  have fin : ∀ (m : Nat) (e2 : Ex) (tm2 : Array Value) (h2 : Heap), (run P K m).code { fn := f, round := none, dfr := true } (.seq (.region id ops false) rest) ⟨args ++ Array.replicate (N - args.size) undef, [], u, h⟩ = some (e2, ⟨tm2, [], (recoverB u).2, h2⟩) → (e2 = .normal ∨ e2 = .ret) → CallD P K f args u h (recoverB u).2 h2 := by
    intro m e2 tm2 h2 hm he
    refine ⟨m + 1, .tuple #[], ?_⟩
    show callF P K (run P K m) f args true u h = _
    unfold callF
    simp only [if_true, hf, hb, hN]
    rw [hm]
    have hl : leaveB P (run P K m) fn tm2 [] .returning h2 = some (.ret (.tuple #[]), h2) := by
      simp only [leaveB, resultsB, hres, List.mapM_nil, Option.pure_def, Option.map_some]
    rcases he with rfl | rfl <;> simp only [hl, Option.map_some]
  cases e with
  | normal =>
    obtain ⟨m, e2, tm2, h2, E2, hr2, _, hq, hG⟩ := (show W P K _ N rest E1 h1 (Cont P K _ N _ []) from hc1) tm1 [] (recoverB u).2 hE1
    refine ⟨h2, fin (max (n + 1) m + 1) e2 tm2 h2 ?_ hq, hG⟩
    rw [code_succ]
    simp only [codeF]
    rw [(run_mono P K (Nat.le_max_left (n + 1) m)).code _ _ _ _ hreg]
    exact (run_mono P K (Nat.le_max_right (n + 1) m)).code _ _ _ _ hr2
  | ret =>
    obtain ⟨hq, hG⟩ := (show ((Ex.ret : Ex) = .normal ∨ (Ex.ret : Ex) = .ret) ∧ G h1 from hc1)
    refine ⟨h1, fin (n + 2) .ret tm1 h1 ?_ (.inr rfl), hG⟩
    rw [code_succ]
    simp only [codeF]
    rw [hreg]
  | exit j => obtain ⟨hq, _⟩ := (show ((Ex.exit j : Ex) = .normal ∨ (Ex.exit j : Ex) = .ret) ∧ G h1 from hc1); rcases hq with q | q <;> cases q
  | panic c => obtain ⟨hq, _⟩ := (show ((Ex.panic c : Ex) = .normal ∨ (Ex.panic c : Ex) = .ret) ∧ G h1 from hc1); rcases hq with q | q <;> cases q

/-- How the frame leaves: returning or panicking. -/
def modeOf : Ex → Option FrameMode
  | .normal | .ret => some .returning
  | .panic c => some (.panicking c)
  | .exit _ => none
/-- A function that defers one call, which recovers, and goes on. -/
theorem body_defer {f : FuncId} {args : Array Value} {fn : Func} {c : Code} (k : Nat) {G : Value → Heap → Prop} {id : Nat} {rest : Code} {a : Nat} {g0 : FuncId} {ca : Array Operand} {vs : List Value} {ty ty' : TypeId} {pos pos' : String} {af af' : Array Edge} {ts : Array TypeId} {dd : Option Tmp}
    (hf : P.funcs[f]? = some fn) (hb : fn.body = some c) (hk : K f args h = none) (hN : fn.ntmps = N) (ha : Nat.ble args.size N = true)
    (hc : restOf k c = .seq (.region id #[⟨some a, .makeFunc (.func g0) #[] ca, ty, pos, af, none⟩, ⟨dd, .defer ⟨.value (.tmp a), #[], ts⟩, ty', pos', af', none⟩] false) rest) (hdd : dd = none) (hd : Nat.blt a N = true) (hen : enters P g0 = true)
    (hk1 : opsOK P ⟨some a, .makeFunc (.func g0) #[] ca, ty, pos, af, none⟩ = true) (hk2 : opsOK P ⟨dd, .defer ⟨.value (.tmp a), #[], ts⟩, ty', pos', af', none⟩ = true)
    (H : K1 P K { fn := f, round := none, dfr := false } N (fun e E1 h1 => (e = .ret ∧ ∃ vs, resE P E1 h1 fn.results.toList = some vs ∧ G (resV vs) h1) ∨
      (e = .normal ∧ E1.evs ca.toList = some vs ∧ K1 P K { fn := f, round := none, dfr := false } N (fun e E2 h2 => ∃ u u' h3, modeOf e = some u ∧ CallD P K g0 vs.toArray u h2 u' h3 ∧ settleB u' = .returning ∧ ∃ ws, resE P E2 h3 fn.results.toList = some ws ∧ G (resV ws) h3) rest [] ((a, .func (.func g0) #[] vs.toArray) :: E1) h1)) (preOf k c) [] (envFrom 0 args.toList) h) : CallW P K f args h G := by
  subst hdd
  have h0 := env_args (N := N) (Nat.le_of_ble_eq_true ha)
  obtain ⟨n, e, tm1, h1, E1, hr, hE1, hq⟩ := H.out _ [] .run h0
  obtain ⟨c1, c2⟩ := run_cut k c _ _ e n hr
  rcases hq with ⟨rfl, ws, hres, hg⟩ | ⟨rfl, hvs, HK⟩
  · obtain ⟨m, hm⟩ := c1 (by intro q; cases q)
    refine ⟨m + 1, resV ws, h1, ?_, hg⟩
    show callF P K (run P K m) f args false .run h = _
    unfold callF
    simp only [Bool.false_eq_true, if_false, hk, hf, hb, hN]
    rw [hm]
    have hl : leaveB P (run P K m) fn tm1 [] .returning h1 = some (.ret (resV ws), h1) := by
      simp only [leaveB, resultsB, resE_ok hE1 hres, Option.map_some]
      rfl
    simp only [hl, Option.map_some]
  · have hca : ca.map (AX.ev tm1) = vs.toArray := by
      apply Array.ext'
      rw [Array.toList_map, hE1.evs hvs]
    have hE2 := hE1.put (lt_of_blt hd) (.func (.func g0) #[] vs.toArray)
    let D : List Deferred := [{ target := .fn (.func g0) vs.toArray, args := #[] }]
    obtain ⟨m, e2, tm2, h2, E2, hr2, hE3, u, u', h3, hmo, ⟨j, v, hj⟩, hset, ws, hres, hg⟩ := HK.out _ D .run hE2
    have hreg : (run P K 1).code { fn := f, round := none, dfr := false } (.region id #[⟨some a, .makeFunc (.func g0) #[] ca, ty, pos, af, none⟩, ⟨none, .defer ⟨.value (.tmp a), #[], ts⟩, ty', pos', af', none⟩] false) ⟨tm1, [], .run, h1⟩ = some (.normal, ⟨put tm1 (some a) (.func (.func g0) #[] vs.toArray), D, .run, h1⟩) := by
      rw [code_succ]
      simp only [codeF, Bool.false_eq_true, if_false]
      have hs1 : doOp P (run P K 0) { fn := f, round := none, dfr := false } ⟨tm1, [], .run, h1⟩ ⟨some a, .makeFunc (.func g0) #[] ca, ty, pos, af, none⟩ = some (.val (.func (.func g0) #[] vs.toArray), ⟨tm1, [], .run, h1⟩) := by
        refine do_simple hk1 ?_
        show some (Value.func (.func g0) ((#[] : Array Operand).map (AX.ev tm1)) (ca.map (AX.ev tm1)), h1) = _
        rw [hca]; simp
      have hev : AX.ev (put tm1 (some a) (.func (.func g0) #[] vs.toArray)) (.tmp a) = .func (.func g0) #[] vs.toArray := hE2.ev (o := .tmp a) (by simp [Env.ev, Env.get])
      have hs2 : doOp P (run P K 0) { fn := f, round := none, dfr := false } ⟨put tm1 (some a) (.func (.func g0) #[] vs.toArray), [], .run, h1⟩ ⟨none, .defer ⟨.value (.tmp a), #[], ts⟩, ty', pos', af', none⟩ = some (.val undef, ⟨put tm1 (some a) (.func (.func g0) #[] vs.toArray), D, .run, h1⟩) := by
        unfold doOp
        rw [hk2]
        have e2 : simpleB P (put tm1 (some a) (.func (.func g0) #[] vs.toArray)) h1 ⟨none, .defer ⟨.value (.tmp a), #[], ts⟩, ty', pos', af', none⟩ = none := rfl
        have e3 : effectB P (put tm1 (some a) (.func (.func g0) #[] vs.toArray)) h1 ⟨none, .defer ⟨.value (.tmp a), #[], ts⟩, ty', pos', af', none⟩ = some (.defer { target := .fn (.func g0) vs.toArray, args := #[] }, h1) := by
          show (match AX.ev (put tm1 (some a) (.func (.func g0) #[] vs.toArray)) (.tmp a) with | .func (.func g) first captured => some (Out.defer { target := .fn (.func g) captured, args := first ++ (#[] : Array Operand).map (AX.ev _) }, h1) | _ => none) = _
          rw [hev]; simp
        simp only [Bool.not_true, Bool.false_eq_true, if_false, e2, e3, Option.isSome_none]
        rfl
      show seqOps P (run P K 0) _ _ [0, 1] _ = _
      simp only [seqOps, List.getElem?_toArray, List.getElem?_cons_zero, List.getElem?_cons_succ]
      have w1 : wantedB #[⟨some a, .makeFunc (.func g0) #[] ca, ty, pos, af, none⟩, ⟨none, .defer ⟨.value (.tmp a), #[], ts⟩, ty', pos', af', none⟩] tm1 ⟨some a, .makeFunc (.func g0) #[] ca, ty, pos, af, none⟩ = true := rfl
      have w2 : ∀ tm, wantedB #[⟨some a, .makeFunc (.func g0) #[] ca, ty, pos, af, none⟩, ⟨none, .defer ⟨.value (.tmp a), #[], ts⟩, ty', pos', af', none⟩] tm ⟨none, .defer ⟨.value (.tmp a), #[], ts⟩, ty', pos', af', none⟩ = true := fun _ => rfl
      simp only [w1, w2, if_true, hs1, hs2]
      rfl
    obtain ⟨j2, hj2⟩ := c2 rfl e2 ⟨tm2, D, .run, h2⟩ (max 1 m + 1) (by
      rw [hc, code_succ]
      simp only [codeF]
      rw [(run_mono P K (Nat.le_max_left 1 m)).code _ _ _ _ hreg]
      exact (run_mono P K (Nat.le_max_right 1 m)).code _ _ _ _ hr2)
    refine ⟨max j j2 + 1, resV ws, h3, ?_, hg⟩
    show callF P K (run P K (max j j2)) f args false .run h = _
    unfold callF
    simp only [Bool.false_eq_true, if_false, hk, hf, hb, hN]
    rw [(run_mono P K (Nat.le_max_right j j2)).code _ _ _ _ hj2]
    have hl : leaveB P (run P K (max j j2)) fn tm2 D u h2 = some (.ret (resV ws), h3) := by
      have hir : isRun u = false := by cases e2 <;> cases hmo <;> rfl
      show leaveB P (run P K (max j j2)) fn tm2 [{ target := .fn (.func g0) vs.toArray, args := #[] }] u h2 = _
      simp only [leaveB, hir, Bool.false_eq_true, if_false]
      rw [show (#[] : Array Value) ++ vs.toArray = vs.toArray from by simp, enters_ok hen]
      have hl0 : leaveB P (run P K (max j j2)) fn tm2 [] .returning h3 = some (.ret (resV ws), h3) := by
        simp only [leaveB, resultsB, resE_ok hE3 hres, Option.map_some]
        rfl
      simp only [(run_mono P K (Nat.le_max_left j j2)).call _ _ _ _ _ _ hj, hset]
      exact hl0
    cases e2 with
    | normal => cases hmo; simp only [hl, Option.map_some]
    | ret => cases hmo; simp only [hl, Option.map_some]
    | panic ch => cases hmo; simp only [hl, Option.map_some]
    | exit j => cases hmo
theorem K_label {id : Nat} (H : C1 P K x N Q ks .normal E h) : K1 P K x N Q (.label id) ks E h := ⟨fun tm _ _ hE => ⟨1, .normal, tm, h, E, rfl, hE, H.out⟩⟩
/-! A copy of a list of spans, made by Clone. -/
theorem build0S {t e : TypeId} (hc : cell2 P t = some e) : buildSliceB P h t 0 [] = some (.slice (some ⟨h.n, 0, none⟩) 0 0, h.push (.cells [] e true)) := by
  obtain ⟨hu, hs, hz, by_, hby, h64⟩ := cell2_some hc
  have hf : Instr.fill (fun i => some (i * 2, 2)) (zerosB (Value.agg #[.int .i64 0, .int .i64 0]).cells (0 * 2)) [] = some #[] := by kernel_rfl
  unfold buildSliceB
  simp only [hu, hs, hz, hf]
  rw [if_pos ⟨by decide, rfl, by decide⟩]
  rfl
theorem P_build0S {t e : TypeId} {ps : Array (Nat × Operand)} (hN : Nat.blt d N = true) (hg : gval ops E g = some true) (hk : opsOK P ⟨some d, .buildSlice t 0 ps, ty, pos, af, g⟩ = true) (hps : ps.toList = [])
    (hc : cell2 P t = some e) (k : R1 P K x N ops F (i + 1) ((d, .slice (some ⟨h.n, 0, none⟩) 0 0) :: E) (h.push (.cells [] e true))) : R2 P K x N ops F i ⟨some d, .buildSlice t 0 ps, ty, pos, af, g⟩ E h :=
  P_buildS hN hg hk (vs := []) (fun tm _ => by rw [hps]; rfl) (build0S hc) k
theorem app_zeroL {ts : Array TypeId} {t t' e e' : TypeId} {b b0 cap : Nat} {l : List (Int × Int)} {e0 : TypeId} {own : Bool} (h0 : ts[0]? = some t) (h1 : ts[1]? = some t') (hc : cell2 P t = some e) (hc' : P.underlying t' = some (.slice e')) (hb : h.get? b = some (.cells (spanCells l) e0 own)) (hp : 0 < l.length) (hle : l.length ≤ 1000000) :
    appendB P h ts (.slice (some ⟨b0, 0, none⟩) 0 0) (.slice (some ⟨b, 0, none⟩) l.length cap) = some (.slice (some ⟨h.n, 0, none⟩) l.length unk, h.push (.cells (spanCells l) e true)) := by
  obtain ⟨hu, hs, hz, by_, hby, h64⟩ := cell2_some hc
  unfold appendB
  simp only [h0, h1, hu, hc']
  unfold appendRow
  simp only [hs, hby, hz, lenB, row2 hb (m := l.length) (by rw [spanCells_len])]
  have hbd : (0 + l.length) * (by_ + 1) ≤ 70368744177664 := Nat.le_trans (Nat.mul_le_mul (by omega : 0 + l.length ≤ 1000000) (by omega : by_ + 1 ≤ 65)) (by decide)
  rw [if_pos ⟨rfl, spans_one _, hbd⟩, if_neg (by omega), if_neg (by decide), if_neg (by decide), if_neg (by omega)]
  simp [rowB]
theorem P_appZeroS {args : Array Operand} {ts : Array TypeId} {t t' e e' : TypeId} {a b : Operand} {bx b0 cap : Nat} {l : List (Int × Int)} {e0 : TypeId} {own : Bool} (hN : Nat.blt d N = true) (hg : gval ops E g = some true) (hk : opsOK P ⟨some d, .call ⟨.builtin .append, args, ts⟩, ty, pos, af, g⟩ = true) (hargs : args.toList = [a, b])
    (ha : E.ev a = some (.slice (some ⟨b0, 0, none⟩) 0 0)) (hb : E.ev b = some (.slice (some ⟨bx, 0, none⟩) l.length cap)) (h0' : ts[0]? = some t) (h1' : ts[1]? = some t') (hc : cell2 P t = some e) (hc' : P.underlying t' = some (.slice e'))
    (hx : h.get? bx = some (.cells (spanCells l) e0 own)) (hp : 0 < l.length) (hle : l.length ≤ 1000000)
    (k : R1 P K x N ops F (i + 1) ((d, .slice (some ⟨h.n, 0, none⟩) l.length unk) :: E) (h.push (.cells (spanCells l) e true))) : R2 P K x N ops F i ⟨some d, .call ⟨.builtin .append, args, ts⟩, ty, pos, af, g⟩ E h :=
  P_append hN hg hk hargs ha hb (app_zeroL h0' h1' hc hc' hx hp hle) k
/-! Two bools. -/
theorem neqB_op {P : Program} {tm : Array Value} {o : Oper} {t yt : TypeId} {x y : Operand} {p q : Bool} (ho : o.op = .binOp .neq t x y yt) (hx : AX.ev tm x = .bool p) (hy : AX.ev tm y = .bool q)
    (hpe : pe P (do eqGuard .neq t x y (.bool p) (.bool q); binOp .neq t (.bool p) (.bool q)) = some (.bool (p != q))) : plainOp P tm o = some (.bool (p != q)) := by
  have hp : (plainKind o && o.op.operands.toList.all fun x => plain deep (AX.ev tm x)) = true := by
    simp [plainKind, ho, Op.operands, hx, hy, plain, deep]
  unfold plainOp
  rw [if_pos hp]
  have he : execOp (AX.ev tm) o = Sem.bind (do eqGuard .neq t x y (AX.ev tm x) (AX.ev tm y); binOp .neq t (AX.ev tm x) (AX.ev tm y)) fun v => .pure (Next.value v) := by
    unfold execOp; rw [ho]; rfl
  rw [he, hx, hy]
  rw [(pe_bind hpe).trans rfl]
  rfl
theorem P_neqB {t yt : TypeId} {a b : Operand} {p q : Bool} (hN : Nat.blt d N = true) (hg : gval ops E g = some true) (hk : opsOK P ⟨some d, .binOp .neq t a b yt, ty, pos, af, g⟩ = true) (ha : E.ev a = some (.bool p)) (hb : E.ev b = some (.bool q))
    (hpe : pe P (do eqGuard .neq t a b (.bool p) (.bool q); binOp .neq t (.bool p) (.bool q)) = some (.bool (p != q)))
    (k : R1 P K x N ops F (i + 1) ((d, .bool (p != q)) :: E) h) : R2 P K x N ops F i ⟨some d, .binOp .neq t a b yt, ty, pos, af, g⟩ E h :=
  ⟨fun ho => O_simple ho rfl hN hg hk (fun tm hE => by
    have := neqB_op (P := P) (tm := tm) (o := ⟨some d, .binOp .neq t a b yt, ty, pos, af, g⟩) rfl (hE.ev ha) (hE.ev hb) hpe
    show (match plainOp P tm ⟨some d, .binOp .neq t a b yt, ty, pos, af, g⟩ with | some v => some (v, h) | none => _) = _
    rw [this]) k.out⟩
variable {Hs : List Heap} {L : List Heap → Prop} {nw : List (Nat × Nat × Blk)}
theorem M_neqB {t yt : TypeId} {a b : Operand} {p q : Bool} (hN : Nat.blt d N = true) (hg : gval ops E g = some true) (hk : opsOK P ⟨some d, .binOp .neq t a b yt, ty, pos, af, g⟩ = true) (ha : E.ev a = some (.bool p)) (hb : E.ev b = some (.bool q))
    (hpe : pe P (do eqGuard .neq t a b (.bool p) (.bool q); binOp .neq t (.bool p) (.bool q)) = some (.bool (p != q)))
    (k : S1 P K x N ops F (i + 1) ((d, .bool (p != q)) :: E) h Hs L nw) : S2 P K x N ops F i ⟨some d, .binOp .neq t a b yt, ty, pos, af, g⟩ E h Hs L nw :=
  ⟨fun ho => N_simple ho rfl hN hg hk rfl rfl (fun tm hE => by
    have := neqB_op (P := P) (tm := tm) (o := ⟨some d, .binOp .neq t a b yt, ty, pos, af, g⟩) rfl (hE.ev ha) (hE.ev hb) hpe
    show (match plainOp P tm ⟨some d, .binOp .neq t a b yt, ty, pos, af, g⟩ with | some v => some (v, h) | none => _) = _
    rw [this]) k.out⟩
theorem eqlB_op {P : Program} {tm : Array Value} {o : Oper} {t yt : TypeId} {x y : Operand} {p q : Bool} (ho : o.op = .binOp .eql t x y yt) (hx : AX.ev tm x = .bool p) (hy : AX.ev tm y = .bool q)
    (hpe : pe P (do eqGuard .eql t x y (.bool p) (.bool q); binOp .eql t (.bool p) (.bool q)) = some (.bool (p == q))) : plainOp P tm o = some (.bool (p == q)) := by
  have hp : (plainKind o && o.op.operands.toList.all fun x => plain deep (AX.ev tm x)) = true := by
    simp [plainKind, ho, Op.operands, hx, hy, plain, deep]
  unfold plainOp
  rw [if_pos hp]
  have he : execOp (AX.ev tm) o = Sem.bind (do eqGuard .eql t x y (AX.ev tm x) (AX.ev tm y); binOp .eql t (AX.ev tm x) (AX.ev tm y)) fun v => .pure (Next.value v) := by
    unfold execOp; rw [ho]; rfl
  rw [he, hx, hy]
  rw [(pe_bind hpe).trans rfl]
  rfl
theorem P_eqlB {t yt : TypeId} {a b : Operand} {p q : Bool} (hN : Nat.blt d N = true) (hg : gval ops E g = some true) (hk : opsOK P ⟨some d, .binOp .eql t a b yt, ty, pos, af, g⟩ = true) (ha : E.ev a = some (.bool p)) (hb : E.ev b = some (.bool q))
    (hpe : pe P (do eqGuard .eql t a b (.bool p) (.bool q); binOp .eql t (.bool p) (.bool q)) = some (.bool (p == q)))
    (k : R1 P K x N ops F (i + 1) ((d, .bool (p == q)) :: E) h) : R2 P K x N ops F i ⟨some d, .binOp .eql t a b yt, ty, pos, af, g⟩ E h :=
  ⟨fun ho => O_simple ho rfl hN hg hk (fun tm hE => by
    have := eqlB_op (P := P) (tm := tm) (o := ⟨some d, .binOp .eql t a b yt, ty, pos, af, g⟩) rfl (hE.ev ha) (hE.ev hb) hpe
    show (match plainOp P tm ⟨some d, .binOp .eql t a b yt, ty, pos, af, g⟩ with | some v => some (v, h) | none => _) = _
    rw [this]) k.out⟩
/-! Unary minus. -/
section
variable {P : Program} {K : Known} {x : Ctx} {N : Nat} {E : Env} {h : Heap} {ops : Array Oper} {F : Ex → Env → Heap → Prop} {i : Nat}
variable {d : Nat} {ty : TypeId} {pos : String} {af : Array Edge} {g : Option (Nat × Bool)}
theorem neg_op {P : Program} {tm : Array Value} {o : Oper} {t : TypeId} {a : Operand} {n : Int} (ho : o.op = .unOp .neg t a) (ha : ev tm a = .int .i64 n) : plainOp P tm o = some (.int .i64 (w64 (0 - n))) := by
  have hp : (plainKind o && o.op.operands.toList.all fun x => plain deep (ev tm x)) = true := by
    simp [plainKind, ho, Op.operands, ha, plain, deep]
  unfold plainOp
  rw [if_pos hp]
  have he : pe P (execOp (ev tm) o) = some (.value (.int .i64 (w64 (0 - n)))) := by
    unfold execOp; rw [ho]; simp only [ha]; rfl
  rw [he]; rfl
theorem P_neg {t : TypeId} {a : Operand} {n : Int} (hN : Nat.blt d N = true) (hg : gval ops E g = some true) (hk : opsOK P ⟨some d, .unOp .neg t a, ty, pos, af, g⟩ = true)
    (ha : E.ev a = some (.int .i64 n)) (hf : fit (0 - n)) (k : R1 P K x N ops F (i + 1) ((d, .int .i64 (0 - n)) :: E) h) : R2 P K x N ops F i ⟨some d, .unOp .neg t a, ty, pos, af, g⟩ E h :=
  ⟨fun ho => O_simple ho rfl hN hg hk (fun tm hE => by
    show (plainOp P tm ⟨some d, .unOp .neg t a, ty, pos, af, g⟩).map (fun v => (v, h)) = _
    rw [neg_op rfl (hE.ev ha), show w64 (0 - n) = 0 - n from fit_wrap hf]; rfl) k.out⟩
end
end
end Go.AX
