/- Rules for maps of numbers, structs of numbers, bound methods, quotients. -/
import Derived.Test.YtbjagnifnbmpeaaGreatDoorAxX
import Derived.Test.YtbjagnifnbmpeaaGreatDoorAxG
namespace Go.AX
open Instr
def mapT (P : Program) (t : TypeId) : Bool :=
  match P.underlying t with
  | some (.map kt e) => (match P.underlying kt with | some (.int _) => true | _ => false) && (match zeroB P e with | some (.int .i64 0) => true | _ => false)
  | _ => false
def Ents : List MapEntry → List (Int × Int) → Prop
  | [], [] => True
  | e :: es, p :: l => e.key = .int .i64 p.1 ∧ e.val = .int .i64 p.2 ∧ Ents es l
  | _, _ => False
def lk : List (Int × Int) → Int → Nat → Option (Nat × Int)
  | [], _, _ => none
  | p :: l, k, i => if k = p.1 then some (i, p.2) else lk l k (i + 1)
def updI : List (Int × Int) → Int → Int → List (Int × Int)
  | [], k, v => [(k, v)]
  | p :: l, k, v => if k = p.1 then (k, v) :: l else p :: updI l k v
def MapI (h : Heap) (r : Nat) (f : Int → Int) : Prop := ∃ es c l, h.get? r = some (.obj (.map es c)) ∧ Ents es.toList l ∧ ∀ k, ((lk l k 0).map (·.2)).getD 0 = f k
theorem MapI.ext {h h1 : Heap} {r : Nat} {f : Int → Int} (m : MapI h r f) (x : Ext h h1) : MapI h1 r f := by
  obtain ⟨es, c, l, a, b, d⟩ := m
  exact ⟨es, c, l, x.get a, b, d⟩
theorem MapI.but {h h1 : Heap} {r b : Nat} {f : Int → Int} (m : MapI h r f) (x : ExtBut b h h1) (hb : r ≠ b) : MapI h1 r f := by
  obtain ⟨es, c, l, a, e, d⟩ := m
  exact ⟨es, c, l, x.get hb a, e, d⟩
theorem MapI.lt {h : Heap} {r : Nat} {f : Int → Int} (m : MapI h r f) : r < h.n := by
  obtain ⟨es, c, l, a, e, d⟩ := m
  exact Heap.get_lt a
section
variable {P : Program} {K : Known} {x : Ctx} {N : Nat} {E : Env} {h : Heap} {ops : Array Oper} {F : Ex → Env → Heap → Prop} {i : Nat} {Hs : List Heap} {L : List Heap → Prop} {nw : List (Nat × Nat × Blk)}
variable {d : Nat} {ty : TypeId} {pos : String} {af : Array Edge} {g : Option (Nat × Bool)}
end
end Go.AX

namespace Go.AX
section
variable {P : Program} {K : Known} {x : Ctx} {N : Nat} {E : Env} {h : Heap} {ops : Array Oper} {F : Ex → Env → Heap → Prop} {i : Nat} {Hs : List Heap} {L : List Heap → Prop} {nw : List (Nat × Nat × Blk)}
variable {d : Nat} {ty : TypeId} {pos : String} {af : Array Edge} {g : Option (Nat × Bool)}
theorem index_opG {tm : Array Value} {o : Oper} {t e : TypeId} {a j : Operand} {ik : IntKind} {k len : Nat} {cs : Array Value} {v : Value} (ho : o.op = .index t a j) (ha : AX.ev tm a = .agg cs) (hj : AX.ev tm j = .int ik (k : Nat))
    (hu : P.underlying t = some (.array len e)) (hs : one P e = true) (hv : cs[k]? = some v) (hl : k < len) : indexV P tm o t (.agg cs) (.int ik (k : Nat)) = some v := by
  have hag := one_agg hs
  have hsz := one_size hs
  have he : execOp (AX.ev tm) o = Sem.bind (Instr.index t (AX.ev tm a) (AX.ev tm j)) fun v => .pure (Next.value v) := by
    unfold execOp; rw [ho]; rfl
  have e1 : pe P (Instr.index t (.agg cs) (.int ik (k : Nat))) = some v := by
    unfold Instr.index
    refine (pe_bind (a := (ik, (k : Int))) rfl).trans ?_
    refine (pe_bind (pe_underlying hu)).trans ?_
    dsimp only
    rw [if_pos ⟨by omega, by omega⟩]
    have es : pe P (sizeOf e) = some 1 := by
      unfold sizeB at hsz
      unfold sizeOf typeInfo
      show pe P (Sem.bind (match P.info? e with | some t => Sem.pure t | none => stuck "no such type") _) = _
      cases hi : P.info? e with
      | none => rw [hi] at hsz; cases hsz
      | some ti => rw [hi] at hsz; simp only [Option.map_some] at hsz; show some ti.size = some 1; exact hsz
    refine (pe_bind es).trans ?_
    rw [Nat.mul_one, show (k : Int).toNat = k from rfl]
    unfold part isAgg
    unfold aggB at hag
    cases hue : P.underlying e with
    | none => rw [hue] at hag; cases hag
    | some u =>
      refine (pe_bind (a := false) ((pe_bind (pe_underlying hue)).trans ?_)).trans ?_
      · rw [hue] at hag
        cases u <;> simp only [Option.some.injEq, Bool.true_eq_false] at hag <;> rfl
      · simp only [Bool.false_eq_true, if_false, hv]; rfl
  have e2 : indexB P t (.agg cs) (.int ik (k : Nat)) = some v := by
    unfold indexB
    rw [hu]
    simp only [hsz]
    rw [if_pos ⟨by omega, by omega⟩, Nat.mul_one, show (k : Int).toNat = k from rfl]
    unfold partB
    rw [hag, hsz]
    simpa using hv
  have e3 : plainOp P tm o = some v ∨ plainOp P tm o = none := by
    unfold plainOp
    split
    · rw [he, ha, hj, (pe_bind e1).trans rfl]
      show (if plain deep v = true then some v else none) = some v ∨ (if plain deep v = true then some v else none) = none
      split <;> simp
    · exact .inr rfl
  unfold indexV
  rcases e3 with e | e <;> rw [e]
  exact e2
theorem P_indexG {t e : TypeId} {a j : Operand} {ik : IntKind} {k len : Nat} {q : Int} {cs : Array Value} {v : Value} (hN : Nat.blt d N = true) (hg : gval ops E g = some true) (hk : opsOK P ⟨some d, .index t a j, ty, pos, af, g⟩ = true)
    (ha : E.ev a = some (.agg cs)) (hj : E.ev j = some (.int ik q)) (hq : q = (k : Nat)) (hu : P.underlying t = some (.array len e)) (hs : one P e = true) (hl : k < len) (hv : cs[k]? = some v)
    (kk : R1 P K x N ops F (i + 1) ((d, v) :: E) h) : R2 P K x N ops F i ⟨some d, .index t a j, ty, pos, af, g⟩ E h :=
  ⟨fun ho => O_simple ho rfl hN hg hk (fun tm hE => by
    subst hq
    show (indexV P tm ⟨some d, .index t a j, ty, pos, af, g⟩ t (AX.ev tm a) (AX.ev tm j)).map (fun v => (v, h)) = _
    have ea := hE.ev ha
    have ej := hE.ev hj
    rw [ea, ej, index_opG rfl ea ej hu hs hv hl]; rfl) kk.out⟩
theorem P_quoN {t yt : TypeId} {a b : Operand} {m n : Int} (hN : Nat.blt d N = true) (hg : gval ops E g = some true) (hk : opsOK P ⟨some d, .binOp .quo t a b yt, ty, pos, af, g⟩ = true)
    (ha : E.ev a = some (.int .i64 m)) (hb : E.ev b = some (.int .i64 n)) (h0 : 0 ≤ m) (h1 : m < 9223372036854775808) (hn : 0 < n) (k : R1 P K x N ops F (i + 1) ((d, .int .i64 (m / n)) :: E) h) : R2 P K x N ops F i ⟨some d, .binOp .quo t a b yt, ty, pos, af, g⟩ E h := by
  have e : m.tdiv n = m / n := Int.tdiv_eq_ediv_of_nonneg h0
  have h2 : 0 ≤ m / n := Int.ediv_nonneg h0 (by omega)
  have h3 : m / n ≤ m := Int.ediv_le_self n h0
  refine P_quo hN hg hk ha hb (by omega) ?_ ?_
  · rw [e]; unfold fit; omega
  · rw [e]; exact k
theorem M_remN {t yt : TypeId} {a b : Operand} {m n : Int} (hN : Nat.blt d N = true) (hg : gval ops E g = some true) (hk : opsOK P ⟨some d, .binOp .rem t a b yt, ty, pos, af, g⟩ = true)
    (ha : E.ev a = some (.int .i64 m)) (hb : E.ev b = some (.int .i64 n)) (h0 : 0 ≤ m) (hn : 0 < n) (k : S1 P K x N ops F (i + 1) ((d, .int .i64 (m % n)) :: E) h Hs L nw) : S2 P K x N ops F i ⟨some d, .binOp .rem t a b yt, ty, pos, af, g⟩ E h Hs L nw := by
  refine M_rem hN hg hk ha hb (by omega) ?_
  rw [Int.tmod_eq_emod_of_nonneg h0]; exact k
theorem P_idxQ {t e : TypeId} {a j : Operand} {ik : IntKind} {b k len : Nat} {q : Int} (hN : Nat.blt d N = true) (hg : gval ops E g = some true) (hk : opsOK P ⟨some d, .indexAddr t a j, ty, pos, af, g⟩ = true)
    (ha : E.ev a = some (.pointer (some ⟨b, 0, none⟩))) (hj : E.ev j = some (.int ik q)) (hu : P.underlying t = some (.array len e)) (hs : sizeB P e = some 1) (hq : q = (k : Nat)) (hl : k < len)
    (kk : R1 P K x N ops F (i + 1) ((d, .pointer (some ⟨b, k, none⟩)) :: E) h) : R2 P K x N ops F i ⟨some d, .indexAddr t a j, ty, pos, af, g⟩ E h := by
  subst hq
  exact P_idxP hN hg hk ha hj hu hs hl kk
end
end Go.AX
