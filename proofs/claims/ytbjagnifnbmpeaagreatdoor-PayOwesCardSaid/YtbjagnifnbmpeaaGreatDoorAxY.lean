/- Rules for maps of numbers, structs of numbers, bound methods, quotients. -/
import Derived.Test.YtbjagnifnbmpeaaGreatDoorAxX
import Derived.Test.YtbjagnifnbmpeaaGreatDoorAxG
namespace Go.AX
open Instr
def mapT (P : Program) (t : TypeId) : Bool :=
  match P.underlying t with
  | some (.map kt e) => (match P.underlying kt with | some (.int _) => true | _ => false) && (match zeroB P e with | some (.int .i64 0) => true | _ => false)
  | _ => false
def Ents : List MapEntry → List (Int × Int) → Prop
  | [], [] => True
  | e :: es, p :: l => e.key = .int .i64 p.1 ∧ e.val = .int .i64 p.2 ∧ Ents es l
  | _, _ => False
def lk : List (Int × Int) → Int → Nat → Option (Nat × Int)
  | [], _, _ => none
  | p :: l, k, i => if k = p.1 then some (i, p.2) else lk l k (i + 1)
def updI : List (Int × Int) → Int → Int → List (Int × Int)
  | [], k, v => [(k, v)]
  | p :: l, k, v => if k = p.1 then (k, v) :: l else p :: updI l k v
def MapI (h : Heap) (r : Nat) (f : Int → Int) : Prop := ∃ es c l, h.get? r = some (.obj (.map es c)) ∧ Ents es.toList l ∧ ∀ k, ((lk l k 0).map (·.2)).getD 0 = f k
theorem MapI.ext {h h1 : Heap} {r : Nat} {f : Int → Int} (m : MapI h r f) (x : Ext h h1) : MapI h1 r f := by
  obtain ⟨es, c, l, a, b, d⟩ := m
  exact ⟨es, c, l, x.get a, b, d⟩
theorem MapI.but {h h1 : Heap} {r b : Nat} {f : Int → Int} (m : MapI h r f) (x : ExtBut b h h1) (hb : r ≠ b) : MapI h1 r f := by
  obtain ⟨es, c, l, a, e, d⟩ := m
  exact ⟨es, c, l, x.get hb a, e, d⟩
theorem MapI.lt {h : Heap} {r : Nat} {f : Int → Int} (m : MapI h r f) : r < h.n := by
  obtain ⟨es, c, l, a, e, d⟩ := m
  exact Heap.get_lt a
section
variable {P : Program} {K : Known} {x : Ctx} {N : Nat} {E : Env} {h : Heap} {ops : Array Oper} {F : Ex → Env → Heap → Prop} {i : Nat} {Hs : List Heap} {L : List Heap → Prop} {nw : List (Nat × Nat × Blk)}
variable {d : Nat} {ty : TypeId} {pos : String} {af : Array Edge} {g : Option (Nat × Bool)}
end
end Go.AX

namespace Go.AX
section
variable {P : Program} {K : Known} {x : Ctx} {N : Nat} {E : Env} {h : Heap} {ops : Array Oper} {F : Ex → Env → Heap → Prop} {i : Nat} {Hs : List Heap} {L : List Heap → Prop} {nw : List (Nat × Nat × Blk)}
variable {d : Nat} {ty : TypeId} {pos : String} {af : Array Edge} {g : Option (Nat × Bool)}
theorem eqlI_simple {tm : Array Value} {t yt : TypeId} {x y : Operand} {n : Nat} {va vb : Value} (neg : Bool) {a b : List Int} (hE : EnvOK N E tm) (ha : E.ev x = some va) (hb : E.ev y = some vb) (hva : va = .agg (ints a).toArray) (hvb : vb = .agg (ints b).toArray)
    (hs : intsT P t n = true) (la : a.length = n) (lb : b.length = n) : simpleB P tm h ⟨some d, .binOp (if neg then .neq else .eql) t x y yt, ty, pos, af, g⟩ = some (.bool (if neg then !decide (a = b) else decide (a = b)), h) := by
  subst hva; subst hvb
  have := eqlI_op (P := P) (tm := tm) (o := ⟨some d, .binOp (if neg then .neq else .eql) t x y yt, ty, pos, af, g⟩) neg rfl (hE.ev ha) (hE.ev hb) hs la lb
  unfold simpleB
  simp only [this]
theorem P_eqlI (a b : List Int) {t yt : TypeId} {x' y' : Operand} {n : Nat} {va vb : Value} (hN : Nat.blt d N = true) (hg : gval ops E g = some true) (hk : opsOK P ⟨some d, .binOp .eql t x' y' yt, ty, pos, af, g⟩ = true)
    (ha : E.ev x' = some va) (hb : E.ev y' = some vb) (hs : intsT P t n = true) (hva : va = .agg (ints a).toArray) (hvb : vb = .agg (ints b).toArray) (la : a.length = n) (lb : b.length = n)
    (kt : a = b → R1 P K x N ops F (i + 1) ((d, .bool true) :: E) h) (kf : ¬ a = b → R1 P K x N ops F (i + 1) ((d, .bool false) :: E) h) : R2 P K x N ops F i ⟨some d, .binOp .eql t x' y' yt, ty, pos, af, g⟩ E h := by
  by_cases hc : a = b
  · exact ⟨fun ho => O_simple ho rfl hN hg hk (fun tm hE => (eqlI_simple false hE ha hb hva hvb hs la lb).trans (by rw [decide_eq_true hc]; rfl)) (kt hc).out⟩
  · exact ⟨fun ho => O_simple ho rfl hN hg hk (fun tm hE => (eqlI_simple false hE ha hb hva hvb hs la lb).trans (by rw [decide_eq_false hc]; rfl)) (kf hc).out⟩
theorem M_eqlI (a b : List Int) {t yt : TypeId} {x' y' : Operand} {n : Nat} {va vb : Value} (hN : Nat.blt d N = true) (hg : gval ops E g = some true) (hk : opsOK P ⟨some d, .binOp .eql t x' y' yt, ty, pos, af, g⟩ = true)
    (ha : E.ev x' = some va) (hb : E.ev y' = some vb) (hs : intsT P t n = true) (hva : va = .agg (ints a).toArray) (hvb : vb = .agg (ints b).toArray) (la : a.length = n) (lb : b.length = n)
    (kt : a = b → S1 P K x N ops F (i + 1) ((d, .bool true) :: E) h Hs L nw) (kf : ¬ a = b → S1 P K x N ops F (i + 1) ((d, .bool false) :: E) h Hs L nw) : S2 P K x N ops F i ⟨some d, .binOp .eql t x' y' yt, ty, pos, af, g⟩ E h Hs L nw := by
  by_cases hc : a = b
  · exact ⟨fun ho => N_simple ho rfl hN hg hk rfl rfl (fun tm hE => (eqlI_simple false hE ha hb hva hvb hs la lb).trans (by rw [decide_eq_true hc]; rfl)) (kt hc).out⟩
  · exact ⟨fun ho => N_simple ho rfl hN hg hk rfl rfl (fun tm hE => (eqlI_simple false hE ha hb hva hvb hs la lb).trans (by rw [decide_eq_false hc]; rfl)) (kf hc).out⟩
theorem P_bound {g0 : FuncId} {fs ca : Array Operand} {us vs : List Value} (hN : Nat.blt d N = true) (hg : gval ops E g = some true) (hk : opsOK P ⟨some d, .makeFunc (.func g0) fs ca, ty, pos, af, g⟩ = true)
    (hus : E.evs fs.toList = some us) (hvs : E.evs ca.toList = some vs) (k : R1 P K x N ops F (i + 1) ((d, .func (.func g0) us.toArray vs.toArray) :: E) h) : R2 P K x N ops F i ⟨some d, .makeFunc (.func g0) fs ca, ty, pos, af, g⟩ E h :=
  ⟨fun ho => O_simple ho rfl hN hg hk (fun tm hE => by
    have h1 : fs.map (ev tm) = us.toArray := by
      apply Array.ext'
      rw [Array.toList_map, hE.evs hus]
    have h2 : ca.map (ev tm) = vs.toArray := by
      apply Array.ext'
      rw [Array.toList_map, hE.evs hvs]
    show some (Value.func (.func g0) (fs.map (ev tm)) (ca.map (ev tm)), h) = _
    rw [h1, h2]) k.out⟩
theorem index_opG {tm : Array Value} {o : Oper} {t e : TypeId} {a j : Operand} {ik : IntKind} {k len : Nat} {cs : Array Value} {v : Value} (ho : o.op = .index t a j) (ha : AX.ev tm a = .agg cs) (hj : AX.ev tm j = .int ik (k : Nat))
    (hu : P.underlying t = some (.array len e)) (hs : one P e = true) (hv : cs[k]? = some v) (hl : k < len) : indexV P tm o t (.agg cs) (.int ik (k : Nat)) = some v := by
  have hag := one_agg hs
  have hsz := one_size hs
  have he : execOp (AX.ev tm) o = Sem.bind (Instr.index t (AX.ev tm a) (AX.ev tm j)) fun v => .pure (Next.value v) := by
    unfold execOp; rw [ho]; rfl
  have e1 : pe P (Instr.index t (.agg cs) (.int ik (k : Nat))) = some v := by
    unfold Instr.index
    refine (pe_bind (a := (ik, (k : Int))) rfl).trans ?_
    refine (pe_bind (pe_underlying hu)).trans ?_
    dsimp only
    rw [if_pos ⟨by omega, by omega⟩]
    have es : pe P (sizeOf e) = some 1 := by
      unfold sizeB at hsz
      unfold sizeOf typeInfo
      show pe P (Sem.bind (match P.info? e with | some t => Sem.pure t | none => stuck "no such type") _) = _
      cases hi : P.info? e with
      | none => rw [hi] at hsz; cases hsz
      | some ti => rw [hi] at hsz; simp only [Option.map_some] at hsz; show some ti.size = some 1; exact hsz
    refine (pe_bind es).trans ?_
    rw [Nat.mul_one, show (k : Int).toNat = k from rfl]
    unfold part isAgg
    unfold aggB at hag
    cases hue : P.underlying e with
    | none => rw [hue] at hag; cases hag
    | some u =>
      refine (pe_bind (a := false) ((pe_bind (pe_underlying hue)).trans ?_)).trans ?_
      · rw [hue] at hag
        cases u <;> simp only [Option.some.injEq, Bool.true_eq_false] at hag <;> rfl
      · simp only [Bool.false_eq_true, if_false, hv]; rfl
  have e2 : indexB P t (.agg cs) (.int ik (k : Nat)) = some v := by
    unfold indexB
    rw [hu]
    simp only [hsz]
    rw [if_pos ⟨by omega, by omega⟩, Nat.mul_one, show (k : Int).toNat = k from rfl]
    unfold partB
    rw [hag, hsz]
    simpa using hv
  have e3 : plainOp P tm o = some v ∨ plainOp P tm o = none := by
    unfold plainOp
    split
    · rw [he, ha, hj, (pe_bind e1).trans rfl]
      show (if plain deep v = true then some v else none) = some v ∨ (if plain deep v = true then some v else none) = none
      split <;> simp
    · exact .inr rfl
  unfold indexV
  rcases e3 with e | e <;> rw [e]
  exact e2
theorem P_indexG {t e : TypeId} {a j : Operand} {ik : IntKind} {k len : Nat} {q : Int} {cs : Array Value} {v : Value} (hN : Nat.blt d N = true) (hg : gval ops E g = some true) (hk : opsOK P ⟨some d, .index t a j, ty, pos, af, g⟩ = true)
    (ha : E.ev a = some (.agg cs)) (hj : E.ev j = some (.int ik q)) (hq : q = (k : Nat)) (hu : P.underlying t = some (.array len e)) (hs : one P e = true) (hl : k < len) (hv : cs[k]? = some v)
    (kk : R1 P K x N ops F (i + 1) ((d, v) :: E) h) : R2 P K x N ops F i ⟨some d, .index t a j, ty, pos, af, g⟩ E h :=
  ⟨fun ho => O_simple ho rfl hN hg hk (fun tm hE => by
    subst hq
    show (indexV P tm ⟨some d, .index t a j, ty, pos, af, g⟩ t (AX.ev tm a) (AX.ev tm j)).map (fun v => (v, h)) = _
    have ea := hE.ev ha
    have ej := hE.ev hj
    rw [ea, ej, index_opG rfl ea ej hu hs hv hl]; rfl) kk.out⟩
theorem P_idxQ {t e : TypeId} {a j : Operand} {ik : IntKind} {b k len : Nat} {q : Int} (hN : Nat.blt d N = true) (hg : gval ops E g = some true) (hk : opsOK P ⟨some d, .indexAddr t a j, ty, pos, af, g⟩ = true)
    (ha : E.ev a = some (.pointer (some ⟨b, 0, none⟩))) (hj : E.ev j = some (.int ik q)) (hu : P.underlying t = some (.array len e)) (hs : sizeB P e = some 1) (hq : q = (k : Nat)) (hl : k < len)
    (kk : R1 P K x N ops F (i + 1) ((d, .pointer (some ⟨b, k, none⟩)) :: E) h) : R2 P K x N ops F i ⟨some d, .indexAddr t a j, ty, pos, af, g⟩ E h := by
  subst hq
  exact P_idxP hN hg hk ha hj hu hs hl kk
theorem P_storeW {t : TypeId} {a y : Operand} {b n : Nat} {c : List Value} {e : TypeId} {v : Value} (hg : gval ops E g = some true) (hk : opsOK P ⟨none, .store t a y, ty, pos, af, g⟩ = true)
    (ha : E.ev a = some (.pointer (some ⟨b, 0, none⟩))) (hy : E.ev y = some v) (hb : h.get? b = some (.cells c e true)) (hs : sizeB P t = some n) (hc : v.cells.size = n) (hl : c.length = n) (hone : v.cells.toList.all oneB = true)
    (k : ∀ h1, h1.get? b = some (.cells v.cells.toList e true) → ExtBut b h h1 → R1 P K x N ops F (i + 1) E h1) : R2 P K x N ops F i ⟨none, .store t a y, ty, pos, af, g⟩ E h := by
  refine P_store hg hk ha hy hb hs hc (by omega) hone ?_
  have e1 : splice c 0 v.cells.toList = v.cells.toList := by
    have : v.cells.toList.length = c.length := by simp [hc, hl]
    simp [splice, this]
  rw [e1]
  exact k _ (get_set_same hb) ((ExtBut.refl b h).set hb _)
theorem M_storeW {t : TypeId} {a y : Operand} {b n : Nat} {c : List Value} {e : TypeId} {v : Value} (hg : gval ops E g = some true) (hk : opsOK P ⟨none, .store t a y, ty, pos, af, g⟩ = true)
    (ha : E.ev a = some (.pointer (some ⟨b, 0, none⟩))) (hy : E.ev y = some v) (hb : h.get? b = some (.cells c e true)) (hs : sizeB P t = some n) (hc : v.cells.size = n) (hl : c.length = n) (hone : v.cells.toList.all oneB = true) (hnw : unseen (preds ops.toList) nw i = [])
    (k : ∀ h1, h1.get? b = some (.cells v.cells.toList e true) → ExtBut b h h1 → S1 P K x N ops F (i + 1) E h1 (h1 :: Hs) L nw) : S2 P K x N ops F i ⟨none, .store t a y, ty, pos, af, g⟩ E h Hs L nw := by
  refine M_store hg hk ha hy hb hs hc (by omega) hone hnw ?_
  have e1 : splice c 0 v.cells.toList = v.cells.toList := by
    have : v.cells.toList.length = c.length := by simp [hc, hl]
    simp [splice, this]
  rw [e1]
  exact k _ (get_set_same hb) ((ExtBut.refl b h).set hb _)
end
end Go.AX
