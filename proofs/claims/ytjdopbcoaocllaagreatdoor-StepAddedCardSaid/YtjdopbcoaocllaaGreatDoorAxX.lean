/- Rules for arrays, spans, lists of lists, regions of many operations, and loops over functions. -/
import Derived.Test.YtjdopbcoaocllaaGreatDoorAxW
import Derived.KernelRfl
import Derived.Test.YtjdopbcoaocllaaGreatDoorAxE
namespace Go.AX
theorem zam {α β : Type} {P : Program} {s : Sem α} {k : α → Sem β} {a : α} (h : pe P s = some a) : pe P (Sem.bind s k) = pe P (k a) := by
  induction s with
  | pure b => cases h; rfl
  | program f ih => exact ih P h
  | mark m f ih => exact ih h
  | _ => cases h
def spanT (P : Program) (t : TypeId) : Bool :=
  match P.underlying t with
  | some (.struct fs) => match fs.toList with
    | [f, g] => f.name != "_" && g.name != "_" && Nat.beq f.offset 0 && Nat.beq g.offset 1 && !P.stoodInHeld t &&
      (match P.underlying f.type with | some (.int _) => true | _ => false) && (match P.underlying g.type with | some (.int _) => true | _ => false)
    | _ => false
  | _ => false
theorem zaL {P : Program} {t : TypeId} {u : TypeDesc} (h : P.underlying t = some u) : pe P (underlying t) = some u := by
  unfold underlying
  show pe P (match P.underlying t with | some d => Sem.pure d | none => stuck "no such type") = _
  rw [h]; rfl
theorem zcw {P : Program} {d : Nat} {t : TypeId} {k : IntKind} {a b : Int} (h : P.underlying t = some (.int k)) : pe P (Op.equalIn (d + 1) t (.int .i64 a) (.int .i64 b)) = some (a == b) := by
  unfold Op.equalIn
  refine (zam (zaL h)).trans ?_
  rfl
theorem zcn {P : Program} {t : TypeId} {k : IntKind} {cs : Array Value} {o : Nat} {v : Value} (h : P.underlying t = some (.int k)) (hv : cs[o]? = some v) : pe P (part t cs o) = some v := by
  unfold part isAgg
  refine (zam ((zam (zaL h)).trans rfl)).trans ?_
  simp only [Bool.false_eq_true, if_false, hv]; rfl
theorem zkv {P : Program} {d : Nat} {t : TypeId} {a b c e : Int} (h : spanT P t = true) : pe P (Op.equalIn (d + 2) t (.agg #[.int .i64 a, .int .i64 b]) (.agg #[.int .i64 c, .int .i64 e])) = some (a == c && b == e) := by
  unfold spanT at h
  split at h
  · rename_i fs hu
    obtain ⟨l⟩ := fs
    simp only at h
    split at h
    · rename_i f g
      simp only [Bool.and_eq_true, bne_iff_ne, Bool.not_eq_true'] at h
      obtain ⟨⟨⟨⟨⟨⟨hf, hg⟩, ho⟩, ho'⟩, hs⟩, ht⟩, ht'⟩ := h
      have ho := Nat.eq_of_beq_eq_true ho
      have ho' := Nat.eq_of_beq_eq_true ho'
      split at ht
      · rename_i k hk
        split at ht'
        · rename_i k' hk'
          unfold Op.equalIn
          refine (zam (zaL hu)).trans ?_
          dsimp only
          refine (zam (a := P) rfl).trans ?_
          rw [hs]
          simp only [Bool.false_eq_true, if_false]
          rw [List.forIn_toArray, List.forIn_cons]
          have p0 : pe P (part f.type #[Value.int .i64 a, Value.int .i64 b] f.offset) = some (.int .i64 a) := zcn hk (by rw [ho]; rfl)
          have p1 : pe P (part f.type #[Value.int .i64 c, Value.int .i64 e] f.offset) = some (.int .i64 c) := zcn hk (by rw [ho]; rfl)
          have q0 : pe P (part g.type #[Value.int .i64 a, Value.int .i64 b] g.offset) = some (.int .i64 b) := zcn hk' (by rw [ho']; rfl)
          have q1 : pe P (part g.type #[Value.int .i64 c, Value.int .i64 e] g.offset) = some (.int .i64 e) := zcn hk' (by rw [ho']; rfl)
          rw [if_pos hf]
          cases hac : (a == c) with
          | false =>
            refine (zam (a := (some false, ())) ?_).trans rfl
            refine (zam (a := .done (some false, ())) ?_).trans rfl
            exact (zam p0).trans ((zam p1).trans ((zam (zcw hk)).trans (by rw [hac]; rfl)))
          | true =>
            cases hbe : (b == e) with
            | false =>
              refine (zam (a := (some false, ())) ?_).trans rfl
              refine (zam (a := .yield (none, ())) ?_).trans ?_
              · exact (zam p0).trans ((zam p1).trans ((zam (zcw hk)).trans (by rw [hac]; rfl)))
              · dsimp only
                rw [List.forIn_cons, if_pos hg]
                refine (zam (a := .done (some false, ())) ?_).trans rfl
                exact (zam q0).trans ((zam q1).trans ((zam (zcw hk')).trans (by rw [hbe]; rfl)))
            | true =>
              refine (zam (a := (none, ())) ?_).trans rfl
              refine (zam (a := .yield (none, ())) ?_).trans ?_
              · exact (zam p0).trans ((zam p1).trans ((zam (zcw hk)).trans (by rw [hac]; rfl)))
              · dsimp only
                rw [List.forIn_cons, if_pos hg]
                refine (zam (a := .yield (none, ())) ?_).trans rfl
                exact (zam q0).trans ((zam q1).trans ((zam (zcw hk')).trans (by rw [hbe]; rfl)))
        · cases ht'
      · cases ht
    · cases h
  · cases h
section
variable {P : Program} {K : Known} {x : Ctx} {N : Nat} {E : Env} {h : Heap} {ops : Array Oper} {F : Ex → Env → Heap → Prop} {i : Nat} {Hs : List Heap} {L : List Heap → Prop} {nw : List (Nat × Nat × Blk)}
variable {d : Nat} {ty : TypeId} {pos : String} {af : Array Edge} {g : Option (Nat × Bool)}
theorem zea {tm : Array Value} {t e : TypeId} {a j : Operand} {ik : IntKind} {b k len : Nat} (hE : EnvOK N E tm)
    (ha : E.ev a = some (.pointer (some ⟨b, 0, none⟩))) (hj : E.ev j = some (.int ik (k : Nat))) (hu : P.underlying t = some (.array len e)) (hs : sizeB P e = some 1) (hl : k < len) :
    simpleB P tm h ⟨some d, .indexAddr t a j, ty, pos, af, g⟩ = some (.pointer (some ⟨b, k, none⟩), h) := by
  show (indexAtB P t (ev tm a) (ev tm j)).map (fun v => (v, h)) = _
  rw [hE.ev ha, hE.ev hj]
  simp only [indexAtB, hu, hs]
  rw [if_pos ⟨by omega, by omega⟩]
  simp
theorem P_idxP {t e : TypeId} {a j : Operand} {ik : IntKind} {b k len : Nat} (hN : Nat.blt d N = true) (hg : gval ops E g = some true) (hk : opsOK P ⟨some d, .indexAddr t a j, ty, pos, af, g⟩ = true)
    (ha : E.ev a = some (.pointer (some ⟨b, 0, none⟩))) (hj : E.ev j = some (.int ik (k : Nat))) (hu : P.underlying t = some (.array len e)) (hs : sizeB P e = some 1) (hl : k < len)
    (kk : R1 P K x N ops F (i + 1) ((d, .pointer (some ⟨b, k, none⟩)) :: E) h) : R2 P K x N ops F i ⟨some d, .indexAddr t a j, ty, pos, af, g⟩ E h :=
  ⟨fun ho => zaC ho rfl hN hg hk (fun _ hE => zea hE ha hj hu hs hl) kk.out⟩
theorem zgK {t e : TypeId} {a j : Operand} {ik : IntKind} {b k len : Nat} {q : Int} (hN : Nat.blt d N = true) (hg : gval ops E g = some true) (hk : opsOK P ⟨some d, .indexAddr t a j, ty, pos, af, g⟩ = true)
    (ha : E.ev a = some (.pointer (some ⟨b, 0, none⟩))) (hj : E.ev j = some (.int ik q)) (hu : P.underlying t = some (.array len e)) (hs : sizeB P e = some 1) (hq : q = (k : Nat)) (hl : k < len)
    (kk : S1 P K x N ops F (i + 1) ((d, .pointer (some ⟨b, k, none⟩)) :: E) h Hs L nw) : S2 P K x N ops F i ⟨some d, .indexAddr t a j, ty, pos, af, g⟩ E h Hs L nw := by
  subst hq
  exact ⟨fun ho => zbT ho rfl hN hg hk rfl rfl (fun _ hE => zea hE ha hj hu hs hl) kk.out⟩
end
section
variable {P : Program} {K : Known} {x : Ctx} {N : Nat} {E : Env} {h : Heap} {ops : Array Oper} {F : Ex → Env → Heap → Prop} {i : Nat} {Hs : List Heap} {L : List Heap → Prop} {nw : List (Nat × Nat × Blk)}
variable {d : Nat} {ty : TypeId} {pos : String} {af : Array Edge} {g : Option (Nat × Bool)}
def early (hs : List Heap) : List Heap := hs.drop (hs.length - 2)
theorem N_lookH {o : Oper} {d : Nat} {v : Value} {A : Heap → Prop} (ho : ops[i]? = some o) (hd : o.dst = some d) (hN : Nat.blt d N = true) (hg : gval ops E o.guard = some true) (hk : opsOK P o = true) (hi : isSimple o = true) (hl : looks o = true) (hz : Nat.ble (actsMost ops (preds ops.toList) i) 1 = true)
    (hs' : ∀ tm, EnvOK N E tm → ∀ hk, A hk → simpleB P tm hk o = some (v, hk)) (ha : A h) (hsm : same 20 v v = true) (hw : within 20 h.n v = true) (k : OO P K x N ops F (i + 1) ((d, v) :: E) h Hs (fun hs => L hs ∧ ∀ hk ∈ early hs, A hk) nw) : OO P K x N ops F i E h Hs L nw :=
  zeu ho (fun tm D U hE lk hlk => ⟨0, _, { o, tm, v, n := h.n, lo := actsIn ops ((preds ops.toList).getD i []), hi := actsMost ops (preds ops.toList) i } :: lk, by
    unfold openStep openSimple
    simp only [ho, hi, if_true, zaS hE hg, hk, hs' tm hE h ha, beq_self_eq_true, hl, hd], hE.put (zbl hN) v, fun hs2 hL => by
    rw [List.all_cons, hlk hs2 hL.1, Bool.and_true]
    unfold lookOK
    rw [List.all_eq_true]
    intro q hq
    have hz := Nat.le_of_ble_eq_true hz
    simp only [Bool.or_eq_true, decide_eq_true_eq]
    by_cases hq1 : q ≤ 1
    · right
      have hq' : q < hs2.length := List.mem_range.1 hq
      have hlt : hs2.length - 1 - q < hs2.length := by omega
      have hm : hs2[hs2.length - 1 - q] ∈ early hs2 := by
        unfold early
        refine List.mem_of_getElem? (i := hs2.length - 1 - q - (hs2.length - 2)) ?_
        rw [List.getElem?_drop, show hs2.length - 2 + (hs2.length - 1 - q - (hs2.length - 2)) = hs2.length - 1 - q from by omega, List.getElem?_eq_getElem hlt]
      rw [List.getElem?_eq_getElem hlt]
      simp only [hs' tm hE _ (hL.2 _ hm), hsm, hw, beq_self_eq_true, Bool.and_self]
    · left; right; omega⟩) k
theorem ziM {t : TypeId} {a : Operand} {b o : Nat} {c : List Value} {e : TypeId} {own : Bool} {v : Value} (hN : Nat.blt d N = true) (hg : gval ops E g = some true) (hk : opsOK P ⟨some d, .load t a, ty, pos, af, g⟩ = true)
    (ha : E.ev a = some (.pointer (some ⟨b, o, none⟩))) (ht : one P t = true) (hz : Nat.ble (actsMost ops (preds ops.toList) i) 1 = true) (hb : h.get? b = some (.cells c e own)) (hv : c[o]? = some v) (hsm : same 20 v v = true) (hw : within 20 h.n v = true) (k : S1 P K x N ops F (i + 1) ((d, v) :: E) h Hs (fun hs => L hs ∧ Keeps (early hs) b h) nw) : S2 P K x N ops F i ⟨some d, .load t a, ty, pos, af, g⟩ E h Hs L nw :=
  ⟨fun ho => N_lookH (A := fun hk => hk.get? b = h.get? b) ho rfl hN hg hk rfl rfl hz (fun tm hE hk hA => by
    show (readB P hk t (ev tm a)).map (fun v => (v, hk)) = _
    rw [hE.ev ha]; simp only [readB, hA, hb, partB, zd4 ht, zcX ht, hv, Option.map_some]) rfl hsm hw (zfB (fun _ q => ⟨q.1, q.2.out⟩) k.out)⟩
end
end Go.AX

namespace Go.AX
def cell2 (P : Program) (t : TypeId) : Option TypeId :=
  match P.underlying t with
  | some (.slice e) => match sizeB P e, bytesB P e, zeroB P e with
    | some 2, some by_, some (.agg ⟨[.int .i64 0, .int .i64 0]⟩) => bif Nat.ble by_ 64 then some e else none
    | _, _, _ => none
  | _ => none
theorem zdj {t e : TypeId} {P : Program} (hc : cell2 P t = some e) : P.underlying t = some (.slice e) ∧ sizeB P e = some 2 ∧ zeroB P e = some (.agg #[.int .i64 0, .int .i64 0]) ∧ ∃ by_, bytesB P e = some by_ ∧ by_ ≤ 64 := by
  unfold cell2 at hc
  split at hc
  · rename_i e' hu
    split at hc
    · rename_i by_ hs hb hz
      cases hle : Nat.ble by_ 64 with
      | true =>
        rw [hle] at hc
        cases hc
        exact ⟨hu, hs, hz, by_, hb, Nat.le_of_ble_eq_true hle⟩
      | false => rw [hle] at hc; cases hc
    · cases hc
  · cases hc
section
variable {P : Program} {h : Heap}
theorem row2 {b m cap : Nat} {c : List Value} {e : TypeId} {own : Bool} (hb : h.get? b = some (.cells c e own)) (hm : c.length = 2 * m) : rowB h 2 m (.slice (some ⟨b, 0, none⟩) m cap) = some c := by
  unfold rowB
  simp only [Nat.lt_irrefl, if_false, hb]
  split
  · rename_i h0; rw [List.length_eq_zero_iff.1 (show c.length = 0 by omega)]
  · rw [if_pos (by omega), List.drop_zero, List.take_of_length_le (by omega)]
theorem zjX (a b : List (Int × Int)) : spanCells a ++ spanCells b = spanCells (a ++ b) := by
  induction a with
  | nil => rfl
  | cons p a ih => simp only [spanCells, List.cons_append, ih]
theorem app_nilS {ts : Array TypeId} {t t' e e' : TypeId} {b cap : Nat} {p : Int × Int} {e0 : TypeId} {own : Bool} (h0 : ts[0]? = some t) (h1 : ts[1]? = some t') (hc : cell2 P t = some e) (hc' : P.underlying t' = some (.slice e')) (hb : h.get? b = some (.cells (spanCells [p]) e0 own)) :
    appendB P h ts (.slice none 0 0) (.slice (some ⟨b, 0, none⟩) 1 cap) = some (.slice (some ⟨h.n, 0, none⟩) 1 unk, h.push (.cells (spanCells [p]) e true)) := by
  obtain ⟨hu, hs, hz, by_, hby, h64⟩ := zdj hc
  unfold appendB
  simp only [h0, h1, hu, hc']
  unfold appendRow
  simp only [hs, hby, hz, lenB, row2 hb (m := 1) rfl]
  rw [if_pos ⟨rfl, rfl, by omega⟩, if_neg (by omega)]
  simp
theorem app_unkS {ts : Array TypeId} {t t' e e' : TypeId} {b b' cap : Nat} {l : List (Int × Int)} {p : Int × Int} {e0 : TypeId} {own : Bool} (h0 : ts[0]? = some t) (h1 : ts[1]? = some t') (hc : cell2 P t = some e) (hc' : P.underlying t' = some (.slice e')) (hb : h.get? b = some (.cells (spanCells [p]) e0 own)) (hle : l.length ≤ 100000)
    (hx : h.get? b' = some (.cells (spanCells l) e true)) :
    appendB P h ts (.slice (some ⟨b', 0, none⟩) l.length unk) (.slice (some ⟨b, 0, none⟩) 1 cap) = some (.slice (some ⟨h.n, 0, none⟩) (l.length + 1) unk, (h.set b' .dead).push (.cells (spanCells (l ++ [p])) e true)) := by
  obtain ⟨hu, hs, hz, by_, hby, h64⟩ := zdj hc
  unfold appendB
  simp only [h0, h1, hu, hc']
  unfold appendRow
  simp only [hs, hby, hz, lenB, row2 hb (m := 1) rfl]
  have hbd : (l.length + 1) * (by_ + 1) ≤ 70368744177664 := Nat.le_trans (Nat.mul_le_mul (by omega : l.length + 1 ≤ 1000000) (by omega : by_ + 1 ≤ 65)) (by decide)
  rw [if_pos ⟨rfl, rfl, hbd⟩, if_neg (by omega), if_neg (by rintro ⟨q, _⟩; exact absurd q (by decide))]
  simp only [hx, if_true]
  rw [if_pos ⟨trivial, trivial, by rw [zai]; omega⟩, zjX]
theorem fillS (m n : Int) : Instr.fill (fun i => some (i * 2, 2)) (zerosB (Value.agg #[.int .i64 0, .int .i64 0]).cells (1 * 2)) [(0, .agg #[.int .i64 m, .int .i64 n])] = some #[.int .i64 m, .int .i64 n] := by kernel_rfl
theorem build1S {t e : TypeId} {p : Int × Int} (hc : cell2 P t = some e) : buildSliceB P h t 1 [(0, .agg #[.int .i64 p.1, .int .i64 p.2])] = some (.slice (some ⟨h.n, 0, none⟩) 1 1, h.push (.cells (spanCells [p]) e true)) := by
  obtain ⟨hu, hs, hz, by_, hby, h64⟩ := zdj hc
  unfold buildSliceB
  simp only [hu, hs, hz, fillS]
  rw [if_pos ⟨by decide, rfl, by decide⟩]
  rfl
end
def OutS (e : TypeId) (h0 h : Heap) (v : Value) (l : List (Int × Int)) : Prop :=
  (l = [] ∧ v = .slice none 0 0) ∨ (l ≠ [] ∧ ∃ b, v = .slice (some ⟨b, 0, none⟩) l.length unk ∧ h.get? b = some (.cells (spanCells l) e true) ∧ h0.n ≤ b)
def IsS (l : List (Int × Int)) (h : Heap) (v : Value) (h1 : Heap) : Prop := ∃ p cap, v = .slice p l.length cap ∧ (l = [] ∨ ∃ b, p = some ⟨b, 0, none⟩ ∧ h1.get? b = some (.cells (spanCells l) 72 true) ∧ h.n ≤ b) ∧ Ext h h1
theorem OutS.nil (e : TypeId) (h0 h : Heap) : OutS e h0 h (.slice none 0 0) [] := .inl ⟨rfl, rfl⟩
theorem OutS.ext {e : TypeId} {h0 h h1 : Heap} {v : Value} {l : List (Int × Int)} (o : OutS e h0 h v l) (x : Ext h h1) : OutS e h0 h1 v l := by
  rcases o with o | ⟨hl, b, h1, h2, h3⟩
  · exact .inl o
  · exact .inr ⟨hl, b, h1, x.get h2, h3⟩
theorem OutS.isS {h h0 h1 : Heap} {v : Value} {l : List (Int × Int)} (o : OutS 72 h0 h1 v l) (x : Ext h0 h1) (y : Ext h h0) : IsS l h v h1 := by
  rcases o with ⟨rfl, rfl⟩ | ⟨hl, b, q1, q2, q3⟩
  · exact ⟨none, 0, rfl, .inl rfl, y.trans x⟩
  · exact ⟨some ⟨b, 0, none⟩, unk, q1, .inr ⟨b, rfl, q2, Nat.le_trans y.n q3⟩, y.trans x⟩
theorem IsS.at {h h1 : Heap} {v : Value} {l : List (Int × Int)} (r : IsS l h v h1) (hp : 0 < l.length) : ∃ b cap, v = .slice (some ⟨b, 0, none⟩) l.length cap ∧ h1.get? b = some (.cells (spanCells l) 72 true) ∧ h.n ≤ b ∧ Ext h h1 := by
  obtain ⟨p, cap, rfl, r | ⟨b, rfl, hg, hb⟩, x⟩ := r
  · subst r; simp at hp
  · exact ⟨b, cap, rfl, hg, hb, x⟩
section
variable {P : Program} {K : Known} {x : Ctx} {N : Nat} {E : Env} {h : Heap} {ops : Array Oper} {F : Ex → Env → Heap → Prop} {i : Nat} {Hs : List Heap} {L : List Heap → Prop} {nw : List (Nat × Nat × Blk)}
variable {d : Nat} {ty : TypeId} {pos : String} {af : Array Edge} {g : Option (Nat × Bool)}
end
theorem zdS (a b : Int) : same 20 (.agg [Value.int .i64 a, .int .i64 b].toArray) (.agg [Value.int .i64 a, .int .i64 b].toArray) = true := by simp [same, same.all2]
def tgetP : List (Nat × Nat × Nat) → Nat → Option (Nat × Nat)
  | [], _ => none
  | (a, p) :: l, t => bif Nat.beq a t then some p else tgetP l t
theorem tabP_ok {f : Nat → Option (Nat × Nat)} {T : List (Nat × Nat × Nat)} (h : T.all (fun p => f p.1 == some p.2) = true) {t : Nat} {n : Nat × Nat} (e : tgetP T t = some n) : f t = some n := by
  induction T with
  | nil => cases e
  | cons p T ih =>
    obtain ⟨a, m⟩ := p
    simp only [List.all_cons, Bool.and_eq_true, beq_iff_eq] at h
    simp only [tgetP] at e
    cases hc : Nat.beq a t with
    | true =>
      rw [hc] at e
      have := Nat.eq_of_beq_eq_true hc
      subst this
      cases e
      exact h.1
    | false => rw [hc] at e; exact ih h.2 e
def arrOf (P : Program) (t : TypeId) : Option (Nat × Nat) :=
  match P.underlying t with
  | some (.array n e) => some (n, e)
  | _ => none
theorem zjH {P : Program} {t : TypeId} {n : Nat × Nat} (h : arrOf P t = some n) : P.underlying t = some (.array n.1 n.2) := by
  unfold arrOf at h
  split at h
  · rename_i a b hu; cases h; exact hu
  · cases h
section
variable {P : Program} {K : Known} {x : Ctx} {N : Nat} {E : Env} {h : Heap} {ops : Array Oper} {F : Ex → Env → Heap → Prop} {i : Nat}
variable {ty : TypeId} {pos : String} {af : Array Edge} {g : Option (Nat × Bool)}
theorem P_storeC {t : TypeId} {a y : Operand} {b o n : Nat} {c c' : List Value} {e : TypeId} {v : Value} (hg : gval ops E g = some true) (hk : opsOK P ⟨none, .store t a y, ty, pos, af, g⟩ = true)
    (ha : E.ev a = some (.pointer (some ⟨b, o, none⟩))) (hy : E.ev y = some v) (hb : h.get? b = some (.cells c e true)) (hs : sizeB P t = some n) (hc : v.cells.size = n) (hl : o + n ≤ c.length) (hone : v.cells.toList.all oneB = true) (hc' : splice c o v.cells.toList = c')
    (k : ∀ h1, h1.get? b = some (.cells c' e true) → ExtBut b h h1 → R1 P K x N ops F (i + 1) E h1) : R2 P K x N ops F i ⟨none, .store t a y, ty, pos, af, g⟩ E h := by
  subst hc'
  exact zfA hg hk ha hy hb hs hc hl hone (k _ (zbz hb) ((ExtBut.refl b h).set hb _))
end
end Go.AX

namespace Go.AX
section
variable {P : Program} {K : Known} {x : Ctx} {N : Nat} {E : Env} {h : Heap} {ops : Array Oper} {F : Ex → Env → Heap → Prop} {i : Nat} {Hs : List Heap} {L : List Heap → Prop} {nw : List (Nat × Nat × Blk)}
variable {d : Nat} {ty : TypeId} {pos : String} {af : Array Edge} {g : Option (Nat × Bool)}
theorem zaA {t yt : TypeId} {a b : Operand} {m n : Int} (hN : Nat.blt d N = true) (hg : gval ops E g = some true) (hk : opsOK P ⟨some d, .binOp .lss t a b yt, ty, pos, af, g⟩ = true) (ha : E.ev a = some (.int .i64 m)) (hb : E.ev b = some (.int .i64 n)) (hc : m < n) (k : R1 P K x N ops F (i + 1) ((d, .bool true) :: E) h) : R2 P K x N ops F i ⟨some d, .binOp .lss t a b yt, ty, pos, af, g⟩ E h := P_lss hN hg hk ha hb (fun _ => k) (fun q => absurd hc (by omega))
theorem zaR {t yt : TypeId} {a b : Operand} {m n : Int} (hN : Nat.blt d N = true) (hg : gval ops E g = some true) (hk : opsOK P ⟨some d, .binOp .lss t a b yt, ty, pos, af, g⟩ = true) (ha : E.ev a = some (.int .i64 m)) (hb : E.ev b = some (.int .i64 n)) (hc : ¬ (m < n)) (k : R1 P K x N ops F (i + 1) ((d, .bool false) :: E) h) : R2 P K x N ops F i ⟨some d, .binOp .lss t a b yt, ty, pos, af, g⟩ E h := P_lss hN hg hk ha hb (fun q => absurd hc (by omega)) (fun _ => k)
theorem ziG {t yt : TypeId} {a b : Operand} {m n : Int} (hN : Nat.blt d N = true) (hg : gval ops E g = some true) (hk : opsOK P ⟨some d, .binOp .leq t a b yt, ty, pos, af, g⟩ = true) (ha : E.ev a = some (.int .i64 m)) (hb : E.ev b = some (.int .i64 n)) (hc : m ≤ n) (k : R1 P K x N ops F (i + 1) ((d, .bool true) :: E) h) : R2 P K x N ops F i ⟨some d, .binOp .leq t a b yt, ty, pos, af, g⟩ E h := zjJ hN hg hk ha hb (fun _ => k) (fun q => absurd hc (by omega))
theorem zlp {t yt : TypeId} {a b : Operand} {m n : Int} (hN : Nat.blt d N = true) (hg : gval ops E g = some true) (hk : opsOK P ⟨some d, .binOp .leq t a b yt, ty, pos, af, g⟩ = true) (ha : E.ev a = some (.int .i64 m)) (hb : E.ev b = some (.int .i64 n)) (hc : ¬ (m ≤ n)) (k : R1 P K x N ops F (i + 1) ((d, .bool false) :: E) h) : R2 P K x N ops F i ⟨some d, .binOp .leq t a b yt, ty, pos, af, g⟩ E h := zjJ hN hg hk ha hb (fun q => absurd hc (by omega)) (fun _ => k)
theorem zes {t yt : TypeId} {a b : Operand} {m n : Int} (hN : Nat.blt d N = true) (hg : gval ops E g = some true) (hk : opsOK P ⟨some d, .binOp .gtr t a b yt, ty, pos, af, g⟩ = true) (ha : E.ev a = some (.int .i64 m)) (hb : E.ev b = some (.int .i64 n)) (hc : m > n) (k : R1 P K x N ops F (i + 1) ((d, .bool true) :: E) h) : R2 P K x N ops F i ⟨some d, .binOp .gtr t a b yt, ty, pos, af, g⟩ E h := P_gtr hN hg hk ha hb (fun _ => k) (fun q => absurd hc (by omega))
theorem zda {t yt : TypeId} {a b : Operand} {m n : Int} (hN : Nat.blt d N = true) (hg : gval ops E g = some true) (hk : opsOK P ⟨some d, .binOp .gtr t a b yt, ty, pos, af, g⟩ = true) (ha : E.ev a = some (.int .i64 m)) (hb : E.ev b = some (.int .i64 n)) (hc : ¬ (m > n)) (k : R1 P K x N ops F (i + 1) ((d, .bool false) :: E) h) : R2 P K x N ops F i ⟨some d, .binOp .gtr t a b yt, ty, pos, af, g⟩ E h := P_gtr hN hg hk ha hb (fun q => absurd hc (by omega)) (fun _ => k)
theorem ziH {t yt : TypeId} {a b : Operand} {m n : Int} (hN : Nat.blt d N = true) (hg : gval ops E g = some true) (hk : opsOK P ⟨some d, .binOp .geq t a b yt, ty, pos, af, g⟩ = true) (ha : E.ev a = some (.int .i64 m)) (hb : E.ev b = some (.int .i64 n)) (hc : m ≥ n) (k : R1 P K x N ops F (i + 1) ((d, .bool true) :: E) h) : R2 P K x N ops F i ⟨some d, .binOp .geq t a b yt, ty, pos, af, g⟩ E h := zls hN hg hk ha hb (fun _ => k) (fun q => absurd hc (by omega))
theorem zlr {t yt : TypeId} {a b : Operand} {m n : Int} (hN : Nat.blt d N = true) (hg : gval ops E g = some true) (hk : opsOK P ⟨some d, .binOp .geq t a b yt, ty, pos, af, g⟩ = true) (ha : E.ev a = some (.int .i64 m)) (hb : E.ev b = some (.int .i64 n)) (hc : ¬ (m ≥ n)) (k : R1 P K x N ops F (i + 1) ((d, .bool false) :: E) h) : R2 P K x N ops F i ⟨some d, .binOp .geq t a b yt, ty, pos, af, g⟩ E h := zls hN hg hk ha hb (fun q => absurd hc (by omega)) (fun _ => k)
theorem zbC {t yt : TypeId} {a b : Operand} {m n : Int} (hN : Nat.blt d N = true) (hg : gval ops E g = some true) (hk : opsOK P ⟨some d, .binOp .eql t a b yt, ty, pos, af, g⟩ = true) (ha : E.ev a = some (.int .i64 m)) (hb : E.ev b = some (.int .i64 n)) (hc : m = n) (k : R1 P K x N ops F (i + 1) ((d, .bool true) :: E) h) : R2 P K x N ops F i ⟨some d, .binOp .eql t a b yt, ty, pos, af, g⟩ E h := P_eql hN hg hk ha hb (fun _ => k) (fun q => absurd hc (by omega))
theorem zbR {t yt : TypeId} {a b : Operand} {m n : Int} (hN : Nat.blt d N = true) (hg : gval ops E g = some true) (hk : opsOK P ⟨some d, .binOp .eql t a b yt, ty, pos, af, g⟩ = true) (ha : E.ev a = some (.int .i64 m)) (hb : E.ev b = some (.int .i64 n)) (hc : ¬ (m = n)) (k : R1 P K x N ops F (i + 1) ((d, .bool false) :: E) h) : R2 P K x N ops F i ⟨some d, .binOp .eql t a b yt, ty, pos, af, g⟩ E h := P_eql hN hg hk ha hb (fun q => absurd hc (by omega)) (fun _ => k)
theorem P_neqT {t yt : TypeId} {a b : Operand} {m n : Int} (hN : Nat.blt d N = true) (hg : gval ops E g = some true) (hk : opsOK P ⟨some d, .binOp .neq t a b yt, ty, pos, af, g⟩ = true) (ha : E.ev a = some (.int .i64 m)) (hb : E.ev b = some (.int .i64 n)) (hc : ¬ m = n) (k : R1 P K x N ops F (i + 1) ((d, .bool true) :: E) h) : R2 P K x N ops F i ⟨some d, .binOp .neq t a b yt, ty, pos, af, g⟩ E h := P_neq hN hg hk ha hb (fun _ => k) (fun q => absurd hc (by omega))
theorem ziF {t yt : TypeId} {a b : Operand} {m n : Int} (hN : Nat.blt d N = true) (hg : gval ops E g = some true) (hk : opsOK P ⟨some d, .binOp .neq t a b yt, ty, pos, af, g⟩ = true) (ha : E.ev a = some (.int .i64 m)) (hb : E.ev b = some (.int .i64 n)) (hc : m = n) (k : R1 P K x N ops F (i + 1) ((d, .bool false) :: E) h) : R2 P K x N ops F i ⟨some d, .binOp .neq t a b yt, ty, pos, af, g⟩ E h := P_neq hN hg hk ha hb (fun q => absurd hc (by omega)) (fun _ => k)
theorem M_lssT {t yt : TypeId} {a b : Operand} {m n : Int} (hN : Nat.blt d N = true) (hg : gval ops E g = some true) (hk : opsOK P ⟨some d, .binOp .lss t a b yt, ty, pos, af, g⟩ = true) (ha : E.ev a = some (.int .i64 m)) (hb : E.ev b = some (.int .i64 n)) (hc : m < n) (k : S1 P K x N ops F (i + 1) ((d, .bool true) :: E) h Hs L nw) : S2 P K x N ops F i ⟨some d, .binOp .lss t a b yt, ty, pos, af, g⟩ E h Hs L nw := M_lss hN hg hk ha hb (fun _ => k) (fun q => absurd hc (by omega))
theorem zly {t yt : TypeId} {a b : Operand} {m n : Int} (hN : Nat.blt d N = true) (hg : gval ops E g = some true) (hk : opsOK P ⟨some d, .binOp .lss t a b yt, ty, pos, af, g⟩ = true) (ha : E.ev a = some (.int .i64 m)) (hb : E.ev b = some (.int .i64 n)) (hc : ¬ (m < n)) (k : S1 P K x N ops F (i + 1) ((d, .bool false) :: E) h Hs L nw) : S2 P K x N ops F i ⟨some d, .binOp .lss t a b yt, ty, pos, af, g⟩ E h Hs L nw := M_lss hN hg hk ha hb (fun q => absurd hc (by omega)) (fun _ => k)
theorem M_leqT {t yt : TypeId} {a b : Operand} {m n : Int} (hN : Nat.blt d N = true) (hg : gval ops E g = some true) (hk : opsOK P ⟨some d, .binOp .leq t a b yt, ty, pos, af, g⟩ = true) (ha : E.ev a = some (.int .i64 m)) (hb : E.ev b = some (.int .i64 n)) (hc : m ≤ n) (k : S1 P K x N ops F (i + 1) ((d, .bool true) :: E) h Hs L nw) : S2 P K x N ops F i ⟨some d, .binOp .leq t a b yt, ty, pos, af, g⟩ E h Hs L nw := M_leq hN hg hk ha hb (fun _ => k) (fun q => absurd hc (by omega))
theorem M_leqF {t yt : TypeId} {a b : Operand} {m n : Int} (hN : Nat.blt d N = true) (hg : gval ops E g = some true) (hk : opsOK P ⟨some d, .binOp .leq t a b yt, ty, pos, af, g⟩ = true) (ha : E.ev a = some (.int .i64 m)) (hb : E.ev b = some (.int .i64 n)) (hc : ¬ (m ≤ n)) (k : S1 P K x N ops F (i + 1) ((d, .bool false) :: E) h Hs L nw) : S2 P K x N ops F i ⟨some d, .binOp .leq t a b yt, ty, pos, af, g⟩ E h Hs L nw := M_leq hN hg hk ha hb (fun q => absurd hc (by omega)) (fun _ => k)
theorem M_gtrT {t yt : TypeId} {a b : Operand} {m n : Int} (hN : Nat.blt d N = true) (hg : gval ops E g = some true) (hk : opsOK P ⟨some d, .binOp .gtr t a b yt, ty, pos, af, g⟩ = true) (ha : E.ev a = some (.int .i64 m)) (hb : E.ev b = some (.int .i64 n)) (hc : m > n) (k : S1 P K x N ops F (i + 1) ((d, .bool true) :: E) h Hs L nw) : S2 P K x N ops F i ⟨some d, .binOp .gtr t a b yt, ty, pos, af, g⟩ E h Hs L nw := M_gtr hN hg hk ha hb (fun _ => k) (fun q => absurd hc (by omega))
theorem M_gtrF {t yt : TypeId} {a b : Operand} {m n : Int} (hN : Nat.blt d N = true) (hg : gval ops E g = some true) (hk : opsOK P ⟨some d, .binOp .gtr t a b yt, ty, pos, af, g⟩ = true) (ha : E.ev a = some (.int .i64 m)) (hb : E.ev b = some (.int .i64 n)) (hc : ¬ (m > n)) (k : S1 P K x N ops F (i + 1) ((d, .bool false) :: E) h Hs L nw) : S2 P K x N ops F i ⟨some d, .binOp .gtr t a b yt, ty, pos, af, g⟩ E h Hs L nw := M_gtr hN hg hk ha hb (fun q => absurd hc (by omega)) (fun _ => k)
theorem M_eqlT {t yt : TypeId} {a b : Operand} {m n : Int} (hN : Nat.blt d N = true) (hg : gval ops E g = some true) (hk : opsOK P ⟨some d, .binOp .eql t a b yt, ty, pos, af, g⟩ = true) (ha : E.ev a = some (.int .i64 m)) (hb : E.ev b = some (.int .i64 n)) (hc : m = n) (k : S1 P K x N ops F (i + 1) ((d, .bool true) :: E) h Hs L nw) : S2 P K x N ops F i ⟨some d, .binOp .eql t a b yt, ty, pos, af, g⟩ E h Hs L nw := M_eql hN hg hk ha hb (fun _ => k) (fun q => absurd hc (by omega))
theorem M_eqlF {t yt : TypeId} {a b : Operand} {m n : Int} (hN : Nat.blt d N = true) (hg : gval ops E g = some true) (hk : opsOK P ⟨some d, .binOp .eql t a b yt, ty, pos, af, g⟩ = true) (ha : E.ev a = some (.int .i64 m)) (hb : E.ev b = some (.int .i64 n)) (hc : ¬ (m = n)) (k : S1 P K x N ops F (i + 1) ((d, .bool false) :: E) h Hs L nw) : S2 P K x N ops F i ⟨some d, .binOp .eql t a b yt, ty, pos, af, g⟩ E h Hs L nw := M_eql hN hg hk ha hb (fun q => absurd hc (by omega)) (fun _ => k)
theorem M_neqT {t yt : TypeId} {a b : Operand} {m n : Int} (hN : Nat.blt d N = true) (hg : gval ops E g = some true) (hk : opsOK P ⟨some d, .binOp .neq t a b yt, ty, pos, af, g⟩ = true) (ha : E.ev a = some (.int .i64 m)) (hb : E.ev b = some (.int .i64 n)) (hc : ¬ m = n) (k : S1 P K x N ops F (i + 1) ((d, .bool true) :: E) h Hs L nw) : S2 P K x N ops F i ⟨some d, .binOp .neq t a b yt, ty, pos, af, g⟩ E h Hs L nw := M_neq hN hg hk ha hb (fun _ => k) (fun q => absurd hc (by omega))
theorem M_neqF {t yt : TypeId} {a b : Operand} {m n : Int} (hN : Nat.blt d N = true) (hg : gval ops E g = some true) (hk : opsOK P ⟨some d, .binOp .neq t a b yt, ty, pos, af, g⟩ = true) (ha : E.ev a = some (.int .i64 m)) (hb : E.ev b = some (.int .i64 n)) (hc : m = n) (k : S1 P K x N ops F (i + 1) ((d, .bool false) :: E) h Hs L nw) : S2 P K x N ops F i ⟨some d, .binOp .neq t a b yt, ty, pos, af, g⟩ E h Hs L nw := M_neq hN hg hk ha hb (fun q => absurd hc (by omega)) (fun _ => k)
end
end Go.AX

namespace Go.AX
end Go.AX

namespace Go.AX
section
variable {P : Program} {K : Known} {x : Ctx} {N : Nat} {E : Env} {h : Heap} {ops : Array Oper} {F : Ex → Env → Heap → Prop} {i : Nat}
variable {d : Nat} {ty : TypeId} {pos : String} {af : Array Edge} {g : Option (Nat × Bool)}
theorem ziX {c : List Value} {k : Nat} {v : Value} (h : k < c.length) : splice c k [v] = c.set k v := by
  simp only [splice, List.length_cons, List.length_nil]
  rw [List.set_eq_take_append_cons_drop, if_pos h]
  simp
theorem ziE {t : TypeId} {a y : Operand} {b j : Nat} {c : List Value} {e : TypeId} {q : Option Addr} {n m : Nat} (hg : gval ops E g = some true) (hk : opsOK P ⟨none, .store t a y, ty, pos, af, g⟩ = true)
    (ha : E.ev a = some (.pointer (some ⟨b, j, none⟩))) (hy : E.ev y = some (.slice q n m)) (hb : h.get? b = some (.cells c e true)) (hs : sizeB P t = some 1) (hl : j < c.length)
    (k : ∀ h1, h1.get? b = some (.cells (c.set j (.slice q n m)) e true) → ExtBut b h h1 → R1 P K x N ops F (i + 1) E h1) : R2 P K x N ops F i ⟨none, .store t a y, ty, pos, af, g⟩ E h := by
  refine zfA hg hk ha hy hb hs rfl (by omega) rfl ?_
  rw [show (Value.slice q n m).cells.toList = [.slice q n m] from rfl, ziX hl]
  exact k _ (zbz hb) ((ExtBut.refl b h).set hb _)
end
end Go.AX

namespace Go.AX
def OutV (e : TypeId) (h0 h : Heap) (v : Value) (c : List Value) : Prop :=
  (c = [] ∧ v = .slice none 0 0) ∨ (c ≠ [] ∧ ∃ b, v = .slice (some ⟨b, 0, none⟩) c.length unk ∧ h.get? b = some (.cells c e true) ∧ h0.n ≤ b)
theorem OutV.nil (e : TypeId) (h0 h : Heap) : OutV e h0 h (.slice none 0 0) [] := .inl ⟨rfl, rfl⟩
theorem OutV.ext {e : TypeId} {h0 h h1 : Heap} {v : Value} {c : List Value} (o : OutV e h0 h v c) (x : Ext h h1) : OutV e h0 h1 v c := by
  rcases o with o | ⟨hl, b, h1, h2, h3⟩
  · exact .inl o
  · exact .inr ⟨hl, b, h1, x.get h2, h3⟩
section
variable {P : Program} {K : Known} {x : Ctx} {N : Nat} {E : Env} {h : Heap} {ops : Array Oper} {F : Ex → Env → Heap → Prop} {i : Nat}
variable {d : Nat} {ty : TypeId} {pos : String} {af : Array Edge} {g : Option (Nat × Bool)}
end
end Go.AX

namespace Go.AX
structure KeepB (m : Nat) (z : Blk) (h h1 : Heap) : Prop where
  n : h.n ≤ h1.n
  get' : ∀ b y, h.get? b = some y → (b < m ∨ y ≠ z) → h1.get? b = some y
theorem KeepB.lo {m : Nat} {z : Blk} {h h1 : Heap} (k : KeepB m z h h1) {b : Nat} {y : Blk} (hb : b < m) (g : h.get? b = some y) : h1.get? b = some y := k.get' b y g (.inl hb)
theorem KeepB.ne {m : Nat} {z : Blk} {h h1 : Heap} (k : KeepB m z h h1) {b : Nat} {y : Blk} (hb : y ≠ z) (g : h.get? b = some y) : h1.get? b = some y := k.get' b y g (.inr hb)
theorem OutI.but {e : TypeId} {h0 h h1 : Heap} {v : Value} {l : List Int} {b0 : Nat} (o : OutI e h0 h v l) (x : ExtBut b0 h h1) (hb : b0 < h0.n) : OutI e h0 h1 v l := by
  rcases o with o | ⟨hl, b, h1, h2, h3⟩
  · exact .inl o
  · exact .inr ⟨hl, b, h1, x.get (by omega) h2, h3⟩
theorem OutS.but {e : TypeId} {h0 h h1 : Heap} {v : Value} {l : List (Int × Int)} {b0 : Nat} (o : OutS e h0 h v l) (x : ExtBut b0 h h1) (hb : b0 < h0.n) : OutS e h0 h1 v l := by
  rcases o with o | ⟨hl, b, h1, h2, h3⟩
  · exact .inl o
  · exact .inr ⟨hl, b, h1, x.get (by omega) h2, h3⟩
section
variable {P : Program} {K : Known} {x : Ctx} {N : Nat} {E : Env} {h : Heap} {ops : Array Oper} {F : Ex → Env → Heap → Prop} {i : Nat} {Hs : List Heap} {L : List Heap → Prop} {nw : List (Nat × Nat × Blk)}
variable {d : Nat} {ty : TypeId} {pos : String} {af : Array Edge} {g : Option (Nat × Bool)}
theorem zlz {args : Array Operand} {ts : Array TypeId} {t t' e e' : TypeId} {a b : Operand} {by_ cap : Nat} {e0 : TypeId} {own : Bool} {n : Int} {v : Value} {l : List Int} {h0 : Heap} (hN : Nat.blt d N = true) (hg : gval ops E g = some true) (hk : opsOK P ⟨some d, .call ⟨.builtin .append, args, ts⟩, ty, pos, af, g⟩ = true) (hargs : args.toList = [a, b])
    (ha : E.ev a = some v) (hb : E.ev b = some (.slice (some ⟨by_, 0, none⟩) 1 cap)) (h0' : ts[0]? = some t) (h1' : ts[1]? = some t') (hc : cell1 P t = some e) (hc' : P.underlying t' = some (.slice e'))
    (hy : h.get? by_ = some (.cells [.int .i64 n] e0 own)) (ho : OutI e h0 h v l) (hx : h0.n ≤ h.n) (hle : l.length ≤ 10000) (hnw : unseen (preds ops.toList) nw i = [])
    (k : ∀ v' h1, OutI e h0 h1 v' (l ++ [n]) → KeepB h0.n (.cells (ints l) e true) h h1 → S1 P K x N ops F (i + 1) ((d, v') :: E) h1 (h1 :: Hs) L nw) : S2 P K x N ops F i ⟨some d, .call ⟨.builtin .append, args, ts⟩, ty, pos, af, g⟩ E h Hs L nw := by
  rcases ho with ⟨rfl, rfl⟩ | ⟨hl, b', rfl, h2, h3⟩
  · refine ziO hN hg hk hargs ha hb (zlm h0' h1' hc hc' hy rfl (by omega) (by omega) rfl) hnw (k _ _ (.inr ⟨by simp, h.n, rfl, zaa, hx⟩) ⟨Nat.le_succ _, fun _ _ g _ => zab g⟩)
  · refine ziO hN hg hk hargs ha hb (zll h0' h1' hc hc' hy rfl (by omega) (by omega) rfl h2 (zau _)) hnw (k _ _ (.inr ⟨by simp, h.n, ?_, ?_, hx⟩) ⟨Nat.le_succ _, fun c y q r => zab (zbD h2 (fun u => ?_) q)⟩)
    · simp
    · have : (h.set b' .dead).n = h.n := rfl
      rw [← this, show ints (l ++ [n]) = ints l ++ [Value.int .i64 n] from (ints_app l [n]).symm]
      exact zaa
    · subst u
      rw [h2] at q
      cases q
      rcases r with r | r
      · omega
      · exact r rfl
theorem ziK {t : TypeId} {a y : Operand} {b o n : Nat} {c c' : List Value} {e : TypeId} {v : Value} (hg : gval ops E g = some true) (hk : opsOK P ⟨none, .store t a y, ty, pos, af, g⟩ = true)
    (ha : E.ev a = some (.pointer (some ⟨b, o, none⟩))) (hy : E.ev y = some v) (hb : h.get? b = some (.cells c e true)) (hs : sizeB P t = some n) (hc : v.cells.size = n) (hl : o + n ≤ c.length) (hone : v.cells.toList.all oneB = true) (hc' : splice c o v.cells.toList = c') (hnw : unseen (preds ops.toList) nw i = [])
    (k : ∀ h1, h1.get? b = some (.cells c' e true) → ExtBut b h h1 → S1 P K x N ops F (i + 1) E h1 (h1 :: Hs) L nw) : S2 P K x N ops F i ⟨none, .store t a y, ty, pos, af, g⟩ E h Hs L nw := by
  subst hc'
  exact zlw hg hk ha hy hb hs hc hl hone hnw (k _ (zbz hb) ((ExtBut.refl b h).set hb _))
theorem readA {t : TypeId} {b o n : Nat} {c : List Value} {e : TypeId} {own : Bool} {vs : List Value} (ht : aggN P t = some n) (hb : h.get? b = some (.cells c e own)) (hl : o + n ≤ c.length) (hv : (c.drop o).take n = vs) : readB P h t (.pointer (some ⟨b, o, none⟩)) = some (.agg vs.toArray) := by
  simp only [readB, hb, partB, zdL ht, zc7 ht, if_pos hl, hv]
theorem zkn {a : Tmp} {t : TypeId} {l : List ResultVar} {p v : Value} {vs : List Value} (hp : E.get a = some p) (hv : readB P h t p = some v) (hl : resE P E h l = some vs) : resE P E h (.cell a t :: l) = some (v :: vs) := by
  simp only [resE, hp, hv, hl]
end
theorem OutS.same {e : TypeId} {h0 h : Heap} {v : Value} {l : List (Int × Int)} (o : OutS e h0 h v l) : same 20 v v = true := by
  rcases o with ⟨_, rfl⟩ | ⟨_, b, rfl, _, _⟩ <;> exact zbc _ _ _
theorem OutS.within {e : TypeId} {h0 h : Heap} {v : Value} {l : List (Int × Int)} (o : OutS e h0 h v l) : within 20 h.n v = true := by
  rcases o with ⟨_, rfl⟩ | ⟨_, b, rfl, g, _⟩
  · rfl
  · exact zb1 g
theorem OutS.keep {e e' : TypeId} {h0 h h1 : Heap} {v : Value} {l : List (Int × Int)} {m : Nat} {c : List Value} (o : OutS e h0 h v l) (k : KeepB m (.cells c e' true) h h1) (hne : e ≠ e') : OutS e h0 h1 v l := by
  rcases o with o | ⟨hl, b, h1, h2, h3⟩
  · exact .inl o
  · exact .inr ⟨hl, b, h1, k.ne (by intro q; injection q with _ q _; exact hne q) h2, h3⟩
theorem OutI.keep {e e' : TypeId} {h0 h h1 : Heap} {v : Value} {l : List Int} {m : Nat} {c : List Value} (o : OutI e h0 h v l) (k : KeepB m (.cells c e' true) h h1) (hne : e ≠ e') : OutI e h0 h1 v l := by
  rcases o with o | ⟨hl, b, h1, h2, h3⟩
  · exact .inl o
  · exact .inr ⟨hl, b, h1, k.ne (by intro q; injection q with _ q _; exact hne q) h2, h3⟩
theorem OutS.cells {e : TypeId} {h0 h : Heap} {v : Value} {l : List (Int × Int)} (o : OutS e h0 h v l) : v.cells = #[v] ∧ oneB v = true := by
  rcases o with ⟨_, rfl⟩ | ⟨_, b, rfl, _, _⟩ <;> exact ⟨rfl, rfl⟩
end Go.AX

namespace Go.AX
def CallP (P : Program) (K : Known) (f : FuncId) (args : Array Value) (h : Heap) (ch : List PanicEntry) (G : Heap → Prop) : Prop :=
  ∃ n h1, (run P K n).call f args false .run h = some (.panic ch, .run, h1) ∧ G h1
def CallD (P : Program) (K : Known) (f : FuncId) (args : Array Value) (u : FrameMode) (h : Heap) (u' : FrameMode) (h1 : Heap) : Prop :=
  ∃ n v, (run P K n).call f args true u h = some (.ret v, u', h1)
section
variable {P : Program} {K : Known} {x : Ctx} {N : Nat} {E : Env} {h : Heap} {Q : Ex → Env → Heap → Prop} {ks : List Kt}
variable {ops : Array Oper} {F : Ex → Env → Heap → Prop} {i : Nat}
variable {d : Nat} {ty : TypeId} {pos : String} {af : Array Edge} {g : Option (Nat × Bool)}
def preOf : Nat → Code → Code
  | n + 1, .seq a b => .seq a (preOf n b)
  | _, _ => .skip
def restOf : Nat → Code → Code
  | n + 1, .seq _ b => restOf n b
  | _, c => c
def modeOf : Ex → Option FrameMode
  | .normal | .ret => some .returning
  | .panic c => some (.panicking c)
  | .exit _ => none
variable {Hs : List Heap} {L : List Heap → Prop} {nw : List (Nat × Nat × Blk)}
section
variable {P : Program} {K : Known} {x : Ctx} {N : Nat} {E : Env} {h : Heap} {ops : Array Oper} {F : Ex → Env → Heap → Prop} {i : Nat}
variable {d : Nat} {ty : TypeId} {pos : String} {af : Array Edge} {g : Option (Nat × Bool)}
theorem neg_op {P : Program} {tm : Array Value} {o : Oper} {t : TypeId} {a : Operand} {n : Int} (ho : o.op = .unOp .neg t a) (ha : ev tm a = .int .i64 n) : plainOp P tm o = some (.int .i64 (w64 (0 - n))) := by
  have hp : (plainKind o && o.op.operands.toList.all fun x => plain deep (ev tm x)) = true := by
    simp [plainKind, ho, Op.operands, ha, plain, deep]
  unfold plainOp
  rw [if_pos hp]
  have he : pe P (execOp (ev tm) o) = some (.value (.int .i64 (w64 (0 - n)))) := by
    unfold execOp; rw [ho]; simp only [ha]; rfl
  rw [he]; rfl
theorem P_neg {t : TypeId} {a : Operand} {n : Int} (hN : Nat.blt d N = true) (hg : gval ops E g = some true) (hk : opsOK P ⟨some d, .unOp .neg t a, ty, pos, af, g⟩ = true)
    (ha : E.ev a = some (.int .i64 n)) (hf : fit (0 - n)) (k : R1 P K x N ops F (i + 1) ((d, .int .i64 (0 - n)) :: E) h) : R2 P K x N ops F i ⟨some d, .unOp .neg t a, ty, pos, af, g⟩ E h :=
  ⟨fun ho => zaC ho rfl hN hg hk (fun tm hE => by
    show (plainOp P tm ⟨some d, .unOp .neg t a, ty, pos, af, g⟩).map (fun v => (v, h)) = _
    rw [neg_op rfl (hE.ev ha), show w64 (0 - n) = 0 - n from zcc hf]; rfl) k.out⟩
end
end
end Go.AX

namespace Go.AX
def RoundW (P : Program) (K : Known) (l : Nat) (args : Array Value) (h : Heap) (G : Value → Heap → Prop) : Prop :=
  ∃ n v h1, (run P K n).round l args h = some (.ret v, h1) ∧ G v h1
theorem RoundW.mono {P : Program} {K : Known} {l : Nat} {args : Array Value} {h : Heap} {G G' : Value → Heap → Prop} (c : RoundW P K l args h G) (k : ∀ v h1, G v h1 → G' v h1) : RoundW P K l args h G' := by
  obtain ⟨n, v, h1, a, b⟩ := c
  exact ⟨n, v, h1, a, k _ _ b⟩
section
variable {P : Program} {K : Known} {x : Ctx} {N : Nat} {E : Env} {h : Heap} {Q : Ex → Env → Heap → Prop} {ks : List Kt}
variable {ops : Array Oper} {F : Ex → Env → Heap → Prop} {i : Nat} {Hs : List Heap} {L : List Heap → Prop} {nw : List (Nat × Nat × Blk)}
variable {d : Nat} {ty : TypeId} {pos : String} {af : Array Edge} {g : Option (Nat × Bool)}
def ready (fn : FuncId) (tm : Array Value) (params : Array Tmp) (asg body : Code) (df : Nat) : Loop := { state := .ready, pending := none, fn, tmps := tm, params, assign := asg, body, defers := df }
theorem RoundW.of_body {l df : Nat} {args : Array Value} {fn : FuncId} {tm : Array Value} {params : Array Tmp} {asg c : Code} {G : Heap → Prop} {E0 : Env}
    (hl : h.get? l = some (.obj (.loop (ready fn tm params asg c df)))) (hsz : args.size = params.size) (hE : EnvOK N E0 ((params.zip args).foldl (fun tm (t, a) => tm.setIfInBounds t a) tm))
    (H : K1 P K { fn, round := some l, dfr := false } N (fun e E1 h1 => e = .normal ∧ h1.get? l = some (.obj (.loop (ready fn tm params asg c df))) ∧
      K1 P K { fn, round := some l, dfr := false } N (fun e _ h2 => e = .normal ∧ h2.get? l = some (.obj (.loop { ready fn tm params asg c df with state := .busy })) ∧ G (h2.set l (.obj (.loop (ready fn tm params asg c df))))) c [] E1 (h1.set l (.obj (.loop { ready fn tm params asg c df with state := .busy })))) asg [] E0 h) : RoundW P K l args h (fun v h1 => v = .bool true ∧ G h1) := by
  obtain ⟨n0, e0, tm0, h0, E1, hr0, hE1, rfl, hl0, HB⟩ := H.out _ [] .run hE
  obtain ⟨n, e, tm1, h1, E2, hr, _, rfl, hl1, hG⟩ := HB.out _ [] .run hE1
  refine ⟨max n0 n + 1, .bool true, _, ?_, rfl, hG⟩
  show roundF P (run P K (max n0 n)) l args h = _
  have q0 : loopB h l = some (ready fn tm params asg c df) := by unfold loopB; rw [hl]
  have q1 : loopB h0 l = some (ready fn tm params asg c df) := by unfold loopB; rw [hl0]
  have q2 : loopB h1 l = some { ready fn tm params asg c df with state := .busy } := by unfold loopB; rw [hl1]
  have ea := (zas P K (Nat.le_max_left n0 n)).code _ _ _ _ hr0
  have er := (zas P K (Nat.le_max_right n0 n)).code _ _ _ _ hr
  unfold roundF
  rw [q0]
  simp only
  rw [if_neg (by simpa [ready] using hsz)]
  show (match (run P K (max n0 n)).code { fn, round := some l, dfr := false } asg ⟨(params.zip args).foldl (fun tm (t, a) => tm.setIfInBounds t a) tm, [], .run, h⟩ with
    | some (.normal, s) => _
    | _ => none) = _
  rw [ea]
  simp only [q1]
  rw [if_pos (by rfl)]
  show (match (run P K (max n0 n)).code { fn, round := some l, dfr := false } c ⟨tm0, [], .run, h0.set l (.obj (.loop { ready fn tm params asg c df with state := .busy }))⟩ with
    | some (.normal, s) => _
    | some (.ret, s) => _
    | some (.exit id, s) => _
    | some (.panic c, s) => _
    | none => none) = _
  rw [er]
  simp only [endRoundB, q2]
  rfl
def sq : Code → Code → Code
  | .seq a b, c => sq a (sq b c)
  | a, c => .seq a c
end
def After {α : Type} (I : α → (Nat → Prop) → Heap → Prop) (s : α) (C : Nat → Prop) (h h1 : Heap) : Prop :=
  ∃ C', I s C' h1 ∧ (∀ b, C' b → C b ∨ h.n ≤ b) ∧ (∀ b x, ¬ C b → h.get? b = some x → h1.get? b = some x) ∧ h.n ≤ h1.n
theorem After.join {α : Type} {I : α → (Nat → Prop) → Heap → Prop} {t : α} {C C1 : Nat → Prop} {h h1 h2 : Heap} (m1 : ∀ b, C1 b → C b ∨ h.n ≤ b) (k1 : ∀ b x, ¬ C b → h.get? b = some x → h1.get? b = some x) (n1 : h.n ≤ h1.n) (a : After I t C1 h1 h2) : After I t C h h2 := by
  obtain ⟨C2, i2, m2, k2, n2⟩ := a
  refine ⟨C2, i2, fun b q => ?_, fun b x q g => ?_, Nat.le_trans n1 n2⟩
  · rcases m2 b q with q | q
    · exact m1 b q
    · exact .inr (Nat.le_trans n1 q)
  · refine k2 b x (fun q' => ?_) (k1 b x q g)
    rcases m1 b q' with q' | q'
    · exact q q'
    · have := Heap.get_lt g; omega
structure Consumer (P : Program) (K : Known) (l : Nat) {α : Type} (Val : α → Value → Heap → Prop) (all : List α) (X : Nat → Prop) (h0 : Heap) (I : List α → (Nat → Prop) → Heap → Prop) : Prop where
  stable : ∀ seen C h h', I seen C h → (∀ b x, C b → h.get? b = some x → h'.get? b = some x) → h.n ≤ h'.n → I seen C h'
  below : ∀ seen C h, I seen C h → ∀ b, C b → b < h.n
  round : ∀ seen a C h v, (∃ rest, seen ++ a :: rest = all) → Val a v h → I seen C h → h0.n ≤ h.n → (∀ b x, X b → h0.get? b = some x → h.get? b = some x) → RoundW P K l #[v] h (fun r h1 => r = .bool true ∧ After I (seen ++ [a]) C h h1)
def Iter (P : Program) (K : Known) (g : FuncId) (fi ca : Array Value) (h0 : Heap) {α : Type} (Val : α → Value → Heap → Prop) (all : List α) (X : Nat → Prop) : Prop :=
  (∀ b, X b → b < h0.n) ∧ ∀ (h : Heap) (l : Nat) (I : List α → (Nat → Prop) → Heap → Prop) (C : Nat → Prop), h0.n ≤ h.n → l < h.n → (∀ b x, X b → h0.get? b = some x → h.get? b = some x) → Consumer P K l Val all X h I → I [] C h → (∀ b, X b → ¬ C b) → CallW P K g (fi ++ #[.func (.yield l) #[] #[]] ++ ca) h (fun _ h1 => After I all C h h1)
theorem Iter.ext {P : Program} {K : Known} {g : FuncId} {fi ca : Array Value} {h0 h1 : Heap} {α : Type} {Val : α → Value → Heap → Prop} {all : List α} {X : Nat → Prop} (hi : Iter P K g fi ca h0 Val all X) (hx : ∀ b x, X b → h0.get? b = some x → h1.get? b = some x) (hn : h0.n ≤ h1.n) : Iter P K g fi ca h1 Val all X :=
  ⟨fun b q => Nat.lt_of_lt_of_le (hi.1 b q) hn, fun h l I C hn' hl hk hc h' hX => hi.2 h l I C (Nat.le_trans hn hn') hl (fun b x q g => hk b x q (hx b x q g)) hc h' hX⟩
theorem Iter.loop {P : Program} {K : Known} {g : FuncId} {fi ca : Array Value} {h0 hb : Heap} {α : Type} {Val : α → Value → Heap → Prop} {all : List α} {X : Nat → Prop} (hi : Iter P K g fi ca h0 Val all X) (hx : ∀ b x, X b → h0.get? b = some x → hb.get? b = some x) (hn : h0.n ≤ hb.n) {l : Nat} (hlb : l < hb.n)
    (J : List α → (Nat → Prop) → Heap → Prop) (C : Nat → Prop)
    (stable : ∀ seen C h h', J seen C h → (∀ b x, C b → h.get? b = some x → h'.get? b = some x) → h.n ≤ h'.n → J seen C h')
    (below : ∀ seen C h, J seen C h → ∀ b, C b → b < h.n)
    (hJ : J [] C hb) (hX : ∀ b, X b → ¬ C b)
    (round : ∀ seen a C1 h v, (∃ rest, seen ++ a :: rest = all) → Val a v h → J seen C1 h → (∀ b, C1 b → C b ∨ hb.n ≤ b) → (∀ b x, ¬ C b → hb.get? b = some x → h.get? b = some x) → hb.n ≤ h.n → RoundW P K l #[v] h (fun r h1 => r = .bool true ∧ After J (seen ++ [a]) C1 h h1)) :
    CallW P K g (fi ++ #[.func (.yield l) #[] #[]] ++ ca) hb (fun _ h1 => After J all C hb h1) := by
  let I : List α → (Nat → Prop) → Heap → Prop := fun seen D h => ∃ C1, J seen C1 h ∧ (∀ b, C1 b → D b) ∧ (∀ b, C1 b → C b ∨ hb.n ≤ b) ∧ (∀ b x, ¬ C b → ¬ X b → hb.get? b = some x → h.get? b = some x) ∧ (∀ b, b < hb.n → ¬ X b → D b) ∧ (∀ b, D b → b < h.n) ∧ (∀ b, X b → ¬ D b)
  have hXn : ∀ b, X b → b < hb.n := fun b q => Nat.lt_of_lt_of_le (hi.1 b q) hn
  have hcons : Consumer P K l Val all X hb I := by
    refine ⟨?_, ?_, ?_⟩
    · rintro seen D h h' ⟨C1, j, s1, s2, s3, s4, s5, s6⟩ hk hnn
      exact ⟨C1, stable _ _ _ _ j (fun b x q => hk b x (s1 b q)) hnn, s1, s2, fun b x q r e => hk b x (s4 b (Heap.get_lt e) r) (s3 b x q r e), s4, fun b q => Nat.lt_of_lt_of_le (s5 b q) hnn, s6⟩
    · rintro seen D h ⟨C1, j, s1, s2, s3, s4, s5, s6⟩
      exact s5
    · rintro seen a D h v hp hv ⟨C1, j, s1, s2, s3, s4, s5, s6⟩ hbn hkX
      refine (round seen a C1 h v hp hv j s2 (fun b x q e => ?_) hbn).mono ?_
      · by_cases hXb : X b
        · exact hkX b x hXb e
        · exact s3 b x q hXb e
      · rintro r h1 ⟨rfl, C2, j2, m2, k2, n2⟩
        refine ⟨rfl, fun b => D b ∨ (h.n ≤ b ∧ b < h1.n), ⟨C2, j2, fun b q => ?_, fun b q => ?_, fun b x q r e => ?_, fun b q r => Or.inl (s4 b q r), fun b q => ?_, fun b q r => ?_⟩, fun b q => ?_, fun b x q e => ?_, n2⟩
        · rcases m2 b q with q' | q'
          · exact Or.inl (s1 b q')
          · exact Or.inr ⟨q', below _ _ _ j2 b q⟩
        · rcases m2 b q with q' | q'
          · exact s2 b q'
          · exact .inr (Nat.le_trans hbn q')
        · refine k2 b x (fun q' => ?_) (s3 b x q r e)
          rcases s2 b q' with q' | q'
          · exact q q'
          · have := Heap.get_lt e; omega
        · rcases q with q | q
          · exact Nat.lt_of_lt_of_le (s5 b q) n2
          · exact q.2
        · rcases r with r | r
          · exact s6 b q r
          · have := hXn b q; omega
        · rcases q with q | q
          · exact Or.inl q
          · exact Or.inr q.1
        · exact k2 b x (fun q' => q (s1 b q')) e
  refine (hi.2 hb l I (fun b => b < hb.n ∧ ¬ X b) hn hlb hx hcons ⟨C, hJ, fun b q => ⟨below _ _ _ hJ b q, fun r => hX b r q⟩, fun b q => .inl q, fun b x _ _ e => e, fun b q r => ⟨q, r⟩, fun b q => q.1, fun b q r => r.2 q⟩ (fun b q r => r.2 q)).mono ?_
  rintro r h1 ⟨D, ⟨C1, j, s1, s2, s3, s4, s5, s6⟩, m, k, n1⟩
  refine ⟨C1, j, s2, fun b x q e => ?_, n1⟩
  by_cases hXb : X b
  · exact k b x (fun r => r.2 hXb) e
  · exact s3 b x q hXb e
end Go.AX

namespace Go.AX
section
variable {P : Program} {K : Known} {x : Ctx} {N : Nat} {E : Env} {h : Heap} {ops : Array Oper} {F : Ex → Env → Heap → Prop} {i : Nat}
variable {d : Nat} {ty : TypeId} {pos : String} {af : Array Edge} {g : Option (Nat × Bool)}
end
section
variable {P : Program} {K : Known} {x : Ctx} {N : Nat} {E : Env} {h : Heap} {ops : Array Oper} {F F' : Ex → Env → Heap → Prop} {i : Nat} {Hs : List Heap} {L : List Heap → Prop} {nw : List (Nat × Nat × Blk)}
variable {d : Nat} {ty : TypeId} {pos : String} {af : Array Edge} {g : Option (Nat × Bool)}
theorem M_max {args : Array Operand} {ts : Array TypeId} {a b : Operand} {m n : Int} (hN : Nat.blt d N = true) (hg : gval ops E g = some true) (hk : opsOK P ⟨some d, .call ⟨.builtin .max, args, ts⟩, ty, pos, af, g⟩ = true)
    (hargs : args.toList = [a, b]) (ha : E.ev a = some (.int .i64 m)) (hb : E.ev b = some (.int .i64 n)) (k : S1 P K x N ops F (i + 1) ((d, .int .i64 (max m n)) :: E) h Hs L nw) : S2 P K x N ops F i ⟨some d, .call ⟨.builtin .max, args, ts⟩, ty, pos, af, g⟩ E h Hs L nw :=
  ⟨fun ho => zbT ho rfl hN hg hk rfl rfl (fun tm hE => by
    show (plainOp P tm ⟨some d, .call ⟨.builtin .max, args, ts⟩, ty, pos, af, g⟩).map (fun v => (v, h)) = _
    rw [mm_op (mx := true) rfl hargs (hE.ev ha) (hE.ev hb)]
    simp only [mmV, cond_true, Option.map_some]
    congr 3
    rw [Int.max_def]; split <;> split <;> omega) k.out⟩
theorem zgI {t e : TypeId} {ps : Array (Nat × Operand)} {a : Operand} {p q : Int} (hN : Nat.blt d N = true) (hg : gval ops E g = some true) (hk : opsOK P ⟨some d, .buildSlice t 1 ps, ty, pos, af, g⟩ = true) (hps : ps.toList = [(0, a)])
    (ha : E.ev a = some (.agg #[.int .i64 p, .int .i64 q])) (hc : cell2 P t = some e) (k : R1 P K x N ops F' (i + 1) ((d, .slice (some ⟨h.n, 0, none⟩) 1 1) :: E) (h.push (.cells (spanCells [(p, q)]) e true))) : R2 P K x N ops F' i ⟨some d, .buildSlice t 1 ps, ty, pos, af, g⟩ E h :=
  ⟨fun ho => zaC ho rfl hN hg hk (fun tm hE => by
    show buildSliceB P h t 1 (ps.toList.map fun (i, x) => (i, ev tm x)) = _
    rw [hps]; simp only [List.map_cons, List.map_nil, hE.ev ha]; exact build1S (p := (p, q)) hc) k.out⟩
theorem P_appS {args : Array Operand} {ts : Array TypeId} {t t' e e' : TypeId} {a b : Operand} {by_ cap : Nat} {e0 : TypeId} {own : Bool} {p : Int × Int} {v : Value} {l : List (Int × Int)} {h0 : Heap} (hN : Nat.blt d N = true) (hg : gval ops E g = some true) (hk : opsOK P ⟨some d, .call ⟨.builtin .append, args, ts⟩, ty, pos, af, g⟩ = true) (hargs : args.toList = [a, b])
    (ha : E.ev a = some v) (hb : E.ev b = some (.slice (some ⟨by_, 0, none⟩) 1 cap)) (h0' : ts[0]? = some t) (h1' : ts[1]? = some t') (hc : cell2 P t = some e) (hc' : P.underlying t' = some (.slice e'))
    (hy : h.get? by_ = some (.cells (spanCells [p]) e0 own)) (ho : OutS e h0 h v l) (hx : Ext h0 h) (hle : l.length ≤ 10000)
    (k : ∀ v' h1, OutS e h0 h1 v' (l ++ [p]) → Ext h0 h1 → R1 P K x N ops F' (i + 1) ((d, v') :: E) h1) : R2 P K x N ops F' i ⟨some d, .call ⟨.builtin .append, args, ts⟩, ty, pos, af, g⟩ E h := by
  rcases ho with ⟨rfl, rfl⟩ | ⟨hl, b', rfl, h2, h3⟩
  · exact zdb hN hg hk hargs ha hb (app_nilS h0' h1' hc hc' hy) (k _ _ (.inr ⟨by simp, h.n, rfl, zaa, hx.n⟩) (hx.push _))
  · refine zdb hN hg hk hargs ha hb (app_unkS h0' h1' hc hc' hy (by omega) h2) (k _ _ (.inr ⟨by simp, h.n, ?_, ?_, hx.n⟩) ((hx.set h3 h2 .dead).push _))
    · simp
    · have : (h.set b' .dead).n = h.n := rfl
      rw [← this]
      exact zaa
end
end Go.AX

namespace Go.AX
def jumpOf : Ex → Option (Option Code)
  | .normal => some none
  | .ret => some (some .ret)
  | .exit i => some (some (.exit i))
  | .panic _ => none
def left (r : Loop) (pd : Option Code) : Loop := { r with state := if pd.isNone then .ready else .done, pending := pd }
section
variable {P : Program} {K : Known} {x : Ctx} {N : Nat} {E : Env} {h : Heap}
end
theorem OutI.low {e : TypeId} {h0 h0' h : Heap} {v : Value} {l : List Int} (o : OutI e h0 h v l) (hn : h0'.n ≤ h0.n) : OutI e h0' h v l := by
  rcases o with o | ⟨hl, b, h1, h2, h3⟩
  · exact .inl o
  · exact .inr ⟨hl, b, h1, h2, Nat.le_trans hn h3⟩
theorem OutI.cells {e : TypeId} {h0 h : Heap} {v : Value} {l : List Int} (o : OutI e h0 h v l) : v.cells = #[v] ∧ oneB v = true := by
  rcases o with ⟨rfl, rfl⟩ | ⟨hl, b, rfl, h2, h3⟩ <;> exact ⟨rfl, rfl⟩
section
variable {P : Program} {K : Known} {x : Ctx} {N : Nat} {E : Env} {h : Heap} {ops : Array Oper} {F : Ex → Env → Heap → Prop} {i : Nat}
variable {d : Nat} {ty : TypeId} {pos : String} {af : Array Edge} {g : Option (Nat × Bool)}
end
section
variable {P : Program} {K : Known} {x : Ctx} {N : Nat} {E : Env} {h : Heap} {ops : Array Oper} {F : Ex → Env → Heap → Prop} {i : Nat} {Hs : List Heap} {L : List Heap → Prop} {nw : List (Nat × Nat × Blk)}
variable {d : Nat} {ty : TypeId} {pos : String} {af : Array Edge} {g : Option (Nat × Bool)}
end
end Go.AX
