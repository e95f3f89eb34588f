/- Rules for arrays, spans, lists of lists, regions of many operations, and loops over functions. -/
import Derived.Test.YtjdopbcoaocllaaGreatDoorAxW
import Derived.KernelRfl
import Derived.Test.YtjdopbcoaocllaaGreatDoorAxE
namespace Go.AX
theorem zau {α β : Type} {P : Program} {s : Sem α} {k : α -> Sem β} {a : α} (h : pe P s = some a) : pe P (Sem.bind s k) = pe P (k a) := by
 induction s with
 | pure b => cases h; rfl
 | program f ih => exact ih P h
 | mark m f ih => exact ih h
 | _ => cases h
def zgU (P : Program) (t : TypeId) : Bool :=
 match P.underlying t with
 | some (.struct fs) => match fs.toList with
  | [f, g] => f.name != "_" && g.name != "_" && Nat.beq f.offset 0 && Nat.beq g.offset 1 && !P.stoodInHeld t &&
   (match P.underlying f.type with | some (.int _) => true | _ => false) && (match P.underlying g.type with | some (.int _) => true | _ => false)
  | _ => false
 | _ => false
theorem zbi {P : Program} {t : TypeId} {u : TypeDesc} (h : P.underlying t = some u) : pe P (underlying t) = some u := by
 unfold underlying
 show pe P (match P.underlying t with | some d => Sem.pure d | none => stuck "no such type") = _
 rw [h]; rfl
theorem zdX {P : Program} {d : Nat} {t : TypeId} {k : IntKind} {a b : Int} (h : P.underlying t = some (.int k)) : pe P (Op.equalIn (d + 1) t (.int .i64 a) (.int .i64 b)) = some (a == b) := by
 unfold Op.equalIn
 refine (zau (zbi h)).trans ?_
 rfl
theorem zdF {P : Program} {t : TypeId} {k : IntKind} {cs : Array Value} {o : Nat} {v : Value} (h : P.underlying t = some (.int k)) (hv : cs[o]? = some v) : pe P (part t cs o) = some v := by
 unfold part isAgg
 refine (zau ((zau (zbi h)).trans rfl)).trans ?_
 simp only [Bool.false_eq_true, if_false, hv]; rfl
theorem zoP {P : Program} {d : Nat} {t : TypeId} {a b c e : Int} (h : zgU P t = true) : pe P (Op.equalIn (d + 2) t (.agg #[.int .i64 a, .int .i64 b]) (.agg #[.int .i64 c, .int .i64 e])) = some (a == c && b == e) := by
 unfold zgU at h
 split at h
 ·rename_i fs hu
  obtain ⟨l⟩ := fs
  simp only at h
  split at h
  ·rename_i f g
   simp only [Bool.and_eq_true, bne_iff_ne, Bool.not_eq_true'] at h
   obtain ⟨⟨⟨⟨⟨⟨hf, hg⟩, ho⟩, ho'⟩, hs⟩, ht⟩, ht'⟩ := h
   have ho := Nat.eq_of_beq_eq_true ho
   have ho' := Nat.eq_of_beq_eq_true ho'
   split at ht
   ·rename_i k hk
    split at ht'
    ·rename_i k' hk'
     unfold Op.equalIn
     refine (zau (zbi hu)).trans ?_
     dsimp only
     refine (zau (a := P) rfl).trans ?_
     rw [hs]
     simp only [Bool.false_eq_true, if_false]
     rw [List.forIn_toArray, List.forIn_cons]
     have p0 : pe P (part f.type #[Value.int .i64 a, Value.int .i64 b] f.offset) = some (.int .i64 a) := zdF hk (by rw [ho]; rfl)
     have p1 : pe P (part f.type #[Value.int .i64 c, Value.int .i64 e] f.offset) = some (.int .i64 c) := zdF hk (by rw [ho]; rfl)
     have q0 : pe P (part g.type #[Value.int .i64 a, Value.int .i64 b] g.offset) = some (.int .i64 b) := zdF hk' (by rw [ho']; rfl)
     have q1 : pe P (part g.type #[Value.int .i64 c, Value.int .i64 e] g.offset) = some (.int .i64 e) := zdF hk' (by rw [ho']; rfl)
     rw [if_pos hf]
     cases hac : (a == c) with
     | false =>
      refine (zau (a := (some false, ())) ?_).trans rfl
      refine (zau (a := .done (some false, ())) ?_).trans rfl
      exact (zau p0).trans ((zau p1).trans ((zau (zdX hk)).trans (by rw [hac]; rfl)))
     | true =>
      cases hbe : (b == e) with
      | false =>
       refine (zau (a := (some false, ())) ?_).trans rfl
       refine (zau (a := .yield (none, ())) ?_).trans ?_
       ·exact (zau p0).trans ((zau p1).trans ((zau (zdX hk)).trans (by rw [hac]; rfl)))
       ·dsimp only
        rw [List.forIn_cons, if_pos hg]
        refine (zau (a := .done (some false, ())) ?_).trans rfl
        exact (zau q0).trans ((zau q1).trans ((zau (zdX hk')).trans (by rw [hbe]; rfl)))
      | true =>
       refine (zau (a := (none, ())) ?_).trans rfl
       refine (zau (a := .yield (none, ())) ?_).trans ?_
       ·exact (zau p0).trans ((zau p1).trans ((zau (zdX hk)).trans (by rw [hac]; rfl)))
       ·dsimp only
        rw [List.forIn_cons, if_pos hg]
        refine (zau (a := .yield (none, ())) ?_).trans rfl
        exact (zau q0).trans ((zau q1).trans ((zau (zdX hk')).trans (by rw [hbe]; rfl)))
    ·cases ht'
   ·cases ht
  ·cases h
 ·cases h
section
variable {P : Program} {K : Known} {x : Ctx} {N : Nat} {E : Env} {h : Heap} {ops : Array Oper} {F : Ex -> Env -> Heap -> Prop} {i : Nat} {Hs : List Heap} {L : List Heap -> Prop} {nw : List (Nat × Nat × Blk)}
variable {d : Nat} {ty : TypeId} {pos : String} {af : Array Edge} {g : Option (Nat × Bool)}
theorem zgp {tm : Array Value} {t e : TypeId} {a j : Operand} {ik : IntKind} {b k len : Nat} (hE : EnvOK N E tm)
  (ha : E.ev a = some (.pointer (some ⟨b, 0, none⟩))) (hj : E.ev j = some (.int ik (k : Nat))) (hu : P.underlying t = some (.array len e)) (hs : zax P e = some 1) (hl : k < len) :
  zae P tm h ⟨some d, .indexAddr t a j, ty, pos, af, g⟩ = some (.pointer (some ⟨b, k, none⟩), h) := by
 show (zbQ P t (ev tm a) (ev tm j)).map (fun v => (v, h)) = _
 rw [hE.ev ha, hE.ev hj]
 simp only [zbQ, hu, hs]
 rw [if_pos ⟨by omega, by omega⟩]
 simp
theorem P_idxP {t e : TypeId} {a j : Operand} {ik : IntKind} {b k len : Nat} (hN : Nat.blt d N = true) (hg : gval ops E g = some true) (hk : zah P ⟨some d, .indexAddr t a j, ty, pos, af, g⟩ = true)
  (ha : E.ev a = some (.pointer (some ⟨b, 0, none⟩))) (hj : E.ev j = some (.int ik (k : Nat))) (hu : P.underlying t = some (.array len e)) (hs : zax P e = some 1) (hl : k < len)
  (kk : R1 P K x N ops F (i + 1) ((d, .pointer (some ⟨b, k, none⟩)) :: E) h) : R2 P K x N ops F i ⟨some d, .indexAddr t a j, ty, pos, af, g⟩ E h :=
 ⟨fun ho => zaO ho rfl hN hg hk (fun _ hE => zgp hE ha hj hu hs hl) kk.out⟩
theorem zj5 {t e : TypeId} {a j : Operand} {ik : IntKind} {b k len : Nat} {q : Int} (hN : Nat.blt d N = true) (hg : gval ops E g = some true) (hk : zah P ⟨some d, .indexAddr t a j, ty, pos, af, g⟩ = true)
  (ha : E.ev a = some (.pointer (some ⟨b, 0, none⟩))) (hj : E.ev j = some (.int ik q)) (hu : P.underlying t = some (.array len e)) (hs : zax P e = some 1) (hq : q = (k : Nat)) (hl : k < len)
  (kk : S1 P K x N ops F (i + 1) ((d, .pointer (some ⟨b, k, none⟩)) :: E) h Hs L nw) : S2 P K x N ops F i ⟨some d, .indexAddr t a j, ty, pos, af, g⟩ E h Hs L nw := by
 subst hq
 exact ⟨fun ho => zcF ho rfl hN hg hk rfl rfl (fun _ hE => zgp hE ha hj hu hs hl) kk.out⟩
end
section
variable {P : Program} {K : Known} {x : Ctx} {N : Nat} {E : Env} {h : Heap} {ops : Array Oper} {F : Ex -> Env -> Heap -> Prop} {i : Nat} {Hs : List Heap} {L : List Heap -> Prop} {nw : List (Nat × Nat × Blk)}
variable {d : Nat} {ty : TypeId} {pos : String} {af : Array Edge} {g : Option (Nat × Bool)}
def early (hs : List Heap) : List Heap := hs.drop (hs.length - 2)
theorem N_lookH {o : Oper} {d : Nat} {v : Value} {A : Heap -> Prop} (ho : ops[i]? = some o) (hd : o.dst = some d) (hN : Nat.blt d N = true) (hg : gval ops E o.guard = some true) (hk : zah P o = true) (hi : zaf o = true) (hl : looks o = true) (hz : Nat.ble (zaW ops (preds ops.toList) i) 1 = true)
  (hs' : ∀ tm, EnvOK N E tm -> ∀ hk, A hk -> zae P tm hk o = some (v, hk)) (ha : A h) (hsm : same 20 v v = true) (hw : within 20 h.n v = true) (k : OO P K x N ops F (i + 1) ((d, v) :: E) h Hs (fun hs => L hs /\ ∀ hk ∈ early hs, A hk) nw) : OO P K x N ops F i E h Hs L nw :=
 zgS ho (fun tm D U hE lk hlk => ⟨0, _, { o, tm, v, n := h.n, lo := zci ops ((preds ops.toList).getD i []), hi := zaW ops (preds ops.toList) i } :: lk, by
  unfold zaC zbo
  simp only [ho, hi, if_true, za9 hE hg, hk, hs' tm hE h ha, beq_self_eq_true, hl, hd], hE.put (zbE hN) v, fun hs2 hL => by
  rw [List.all_cons, hlk hs2 hL.1, Bool.and_true]
  unfold zbY
  rw [List.all_eq_true]
  intro q hq
  have hz := Nat.le_of_ble_eq_true hz
  simp only [Bool.or_eq_true, decide_eq_true_eq]
  by_cases hq1 : q <= 1
  ·right
   have hq' : q < hs2.length := List.mem_range.1 hq
   have hlt : hs2.length - 1 - q < hs2.length := by omega
   have hm : hs2[hs2.length - 1 - q] ∈ early hs2 := by
    unfold early
    refine List.mem_of_getElem? (i := hs2.length - 1 - q - (hs2.length - 2)) ?_
    rw [List.getElem?_drop, show hs2.length - 2 + (hs2.length - 1 - q - (hs2.length - 2)) = hs2.length - 1 - q from by omega, List.getElem?_eq_getElem hlt]
   rw [List.getElem?_eq_getElem hlt]
   simp only [hs' tm hE _ (hL.2 _ hm), hsm, hw, beq_self_eq_true, Bool.and_self]
  ·left; right; omega⟩) k
theorem zmO {t : TypeId} {a : Operand} {b o : Nat} {c : List Value} {e : TypeId} {own : Bool} {v : Value} (hN : Nat.blt d N = true) (hg : gval ops E g = some true) (hk : zah P ⟨some d, .load t a, ty, pos, af, g⟩ = true)
  (ha : E.ev a = some (.pointer (some ⟨b, o, none⟩))) (ht : one P t = true) (hz : Nat.ble (zaW ops (preds ops.toList) i) 1 = true) (hb : h.get? b = some (.cells c e own)) (hv : c[o]? = some v) (hsm : same 20 v v = true) (hw : within 20 h.n v = true) (k : S1 P K x N ops F (i + 1) ((d, v) :: E) h Hs (fun hs => L hs /\ Keeps (early hs) b h) nw) : S2 P K x N ops F i ⟨some d, .load t a, ty, pos, af, g⟩ E h Hs L nw :=
 ⟨fun ho => N_lookH (A := fun hk => hk.get? b = h.get? b) ho rfl hN hg hk rfl rfl hz (fun tm hE hk hA => by
  show (zb1 P hk t (ev tm a)).map (fun v => (v, hk)) = _
  rw [hE.ev ha]; simp only [zb1, hA, hb, zdy, ze5 ht, zd0 ht, hv, Option.map_some]) rfl hsm hw (ziz (fun _ q => ⟨q.1, q.2.out⟩) k.out)⟩
end
end Go.AX

namespace Go.AX
def cell2 (P : Program) (t : TypeId) : Option TypeId :=
 match P.underlying t with
 | some (.slice e) => match zax P e, zcT P e, zbe P e with
  | some 2, some by_, some (.agg ⟨[.int .i64 0, .int .i64 0]⟩) => bif Nat.ble by_ 64 then some e else none
  | _, _, _ => none
 | _ => none
theorem zfc {t e : TypeId} {P : Program} (hc : cell2 P t = some e) : P.underlying t = some (.slice e) /\ zax P e = some 2 /\ zbe P e = some (.agg #[.int .i64 0, .int .i64 0]) /\ ∃ by_, zcT P e = some by_ /\ by_ <= 64 := by
 unfold cell2 at hc
 split at hc
 ·rename_i e' hu
  split at hc
  ·rename_i by_ hs hb hz
   cases hle : Nat.ble by_ 64 with
   | true =>
    rw [hle] at hc
    cases hc
    exact ⟨hu, hs, hz, by_, hb, Nat.le_of_ble_eq_true hle⟩
   | false => rw [hle] at hc; cases hc
  ·cases hc
 ·cases hc
section
variable {P : Program} {h : Heap}
theorem row2 {b m cap : Nat} {c : List Value} {e : TypeId} {own : Bool} (hb : h.get? b = some (.cells c e own)) (hm : c.length = 2 * m) : rowB h 2 m (.slice (some ⟨b, 0, none⟩) m cap) = some c := by
 unfold rowB
 simp only [Nat.lt_irrefl, if_false, hb]
 split
 ·rename_i h0; rw [List.length_eq_zero_iff.1 (show c.length = 0 by omega)]
 ·rw [if_pos (by omega), List.drop_zero, List.take_of_length_le (by omega)]
theorem zn7 (a b : List (Int × Int)) : zas a ++ zas b = zas (a ++ b) := by
 induction a with
 | nil => rfl
 | cons p a ih => simp only [zas, List.cons_append, ih]
theorem app_nilS {ts : Array TypeId} {t t' e e' : TypeId} {b cap : Nat} {p : Int × Int} {e0 : TypeId} {own : Bool} (h0 : ts[0]? = some t) (h1 : ts[1]? = some t') (hc : cell2 P t = some e) (hc' : P.underlying t' = some (.slice e')) (hb : h.get? b = some (.cells (zas [p]) e0 own)) :
  zbq P h ts (.slice none 0 0) (.slice (some ⟨b, 0, none⟩) 1 cap) = some (.slice (some ⟨h.n, 0, none⟩) 1 unk, h.push (.cells (zas [p]) e true)) := by
 obtain ⟨hu, hs, hz, by_, hby, h64⟩ := zfc hc
 unfold zbq
 simp only [h0, h1, hu, hc']
 unfold zb2
 simp only [hs, hby, hz, lenB, row2 hb (m := 1) rfl]
 rw [if_pos ⟨rfl, rfl, by omega⟩, if_neg (by omega)]
 simp
theorem app_unkS {ts : Array TypeId} {t t' e e' : TypeId} {b b' cap : Nat} {l : List (Int × Int)} {p : Int × Int} {e0 : TypeId} {own : Bool} (h0 : ts[0]? = some t) (h1 : ts[1]? = some t') (hc : cell2 P t = some e) (hc' : P.underlying t' = some (.slice e')) (hb : h.get? b = some (.cells (zas [p]) e0 own)) (hle : l.length <= 100000)
  (hx : h.get? b' = some (.cells (zas l) e true)) :
  zbq P h ts (.slice (some ⟨b', 0, none⟩) l.length unk) (.slice (some ⟨b, 0, none⟩) 1 cap) = some (.slice (some ⟨h.n, 0, none⟩) (l.length + 1) unk, (h.set b' .dead).push (.cells (zas (l ++ [p])) e true)) := by
 obtain ⟨hu, hs, hz, by_, hby, h64⟩ := zfc hc
 unfold zbq
 simp only [h0, h1, hu, hc']
 unfold zb2
 simp only [hs, hby, hz, lenB, row2 hb (m := 1) rfl]
 have hbd : (l.length + 1) * (by_ + 1) <= 70368744177664 := Nat.le_trans (Nat.mul_le_mul (by omega : l.length + 1 <= 1000000) (by omega : by_ + 1 <= 65)) (by decide)
 rw [if_pos ⟨rfl, rfl, hbd⟩, if_neg (by omega), if_neg (by rintro ⟨q, _⟩; exact absurd q (by decide))]
 simp only [hx, if_true]
 rw [if_pos ⟨trivial, trivial, by rw [zaj]; omega⟩, zn7]
theorem fillS (m n : Int) : Instr.fill (fun i => some (i * 2, 2)) (zbu (Value.agg #[.int .i64 0, .int .i64 0]).cells (1 * 2)) [(0, .agg #[.int .i64 m, .int .i64 n])] = some #[.int .i64 m, .int .i64 n] := by kernel_rfl
theorem build1S {t e : TypeId} {p : Int × Int} (hc : cell2 P t = some e) : zaK P h t 1 [(0, .agg #[.int .i64 p.1, .int .i64 p.2])] = some (.slice (some ⟨h.n, 0, none⟩) 1 1, h.push (.cells (zas [p]) e true)) := by
 obtain ⟨hu, hs, hz, by_, hby, h64⟩ := zfc hc
 unfold zaK
 simp only [hu, hs, hz, fillS]
 rw [if_pos ⟨by decide, rfl, by decide⟩]
 rfl
end
def OutS (e : TypeId) (h0 h : Heap) (v : Value) (l : List (Int × Int)) : Prop :=
 (l = [] /\ v = .slice none 0 0) \/ (l ≠ [] /\ ∃ b, v = .slice (some ⟨b, 0, none⟩) l.length unk /\ h.get? b = some (.cells (zas l) e true) /\ h0.n <= b)
def IsS (l : List (Int × Int)) (h : Heap) (v : Value) (h1 : Heap) : Prop := ∃ p cap, v = .slice p l.length cap /\ (l = [] \/ ∃ b, p = some ⟨b, 0, none⟩ /\ h1.get? b = some (.cells (zas l) 72 true) /\ h.n <= b) /\ Ext h h1
theorem OutS.nil (e : TypeId) (h0 h : Heap) : OutS e h0 h (.slice none 0 0) [] := .inl ⟨rfl, rfl⟩
theorem OutS.ext {e : TypeId} {h0 h h1 : Heap} {v : Value} {l : List (Int × Int)} (o : OutS e h0 h v l) (x : Ext h h1) : OutS e h0 h1 v l := by
 rcases o with o | ⟨hl, b, h1, h2, h3⟩
 ·exact .inl o
 ·exact .inr ⟨hl, b, h1, x.get h2, h3⟩
theorem OutS.isS {h h0 h1 : Heap} {v : Value} {l : List (Int × Int)} (o : OutS 72 h0 h1 v l) (x : Ext h0 h1) (y : Ext h h0) : IsS l h v h1 := by
 rcases o with ⟨rfl, rfl⟩ | ⟨hl, b, q1, q2, q3⟩
 ·exact ⟨none, 0, rfl, .inl rfl, y.trans x⟩
 ·exact ⟨some ⟨b, 0, none⟩, unk, q1, .inr ⟨b, rfl, q2, Nat.le_trans y.n q3⟩, y.trans x⟩
theorem IsS.at {h h1 : Heap} {v : Value} {l : List (Int × Int)} (r : IsS l h v h1) (hp : 0 < l.length) : ∃ b cap, v = .slice (some ⟨b, 0, none⟩) l.length cap /\ h1.get? b = some (.cells (zas l) 72 true) /\ h.n <= b /\ Ext h h1 := by
 obtain ⟨p, cap, rfl, r | ⟨b, rfl, hg, hb⟩, x⟩ := r
 ·subst r; simp at hp
 ·exact ⟨b, cap, rfl, hg, hb, x⟩
section
variable {P : Program} {K : Known} {x : Ctx} {N : Nat} {E : Env} {h : Heap} {ops : Array Oper} {F : Ex -> Env -> Heap -> Prop} {i : Nat} {Hs : List Heap} {L : List Heap -> Prop} {nw : List (Nat × Nat × Blk)}
variable {d : Nat} {ty : TypeId} {pos : String} {af : Array Edge} {g : Option (Nat × Bool)}
end
theorem zdD (a b : Int) : same 20 (.agg [Value.int .i64 a, .int .i64 b].toArray) (.agg [Value.int .i64 a, .int .i64 b].toArray) = true := by simp [same, same.all2]
def tgetP : List (Nat × Nat × Nat) -> Nat -> Option (Nat × Nat)
 | [], _ => none
 | (a, p) :: l, t => bif Nat.beq a t then some p else tgetP l t
theorem tabP_ok {f : Nat -> Option (Nat × Nat)} {T : List (Nat × Nat × Nat)} (h : T.all (fun p => f p.1 == some p.2) = true) {t : Nat} {n : Nat × Nat} (e : tgetP T t = some n) : f t = some n := by
 induction T with
 | nil => cases e
 | cons p T ih =>
  obtain ⟨a, m⟩ := p
  simp only [List.all_cons, Bool.and_eq_true, beq_iff_eq] at h
  simp only [tgetP] at e
  cases hc : Nat.beq a t with
  | true =>
   rw [hc] at e
   have := Nat.eq_of_beq_eq_true hc
   subst this
   cases e
   exact h.1
  | false => rw [hc] at e; exact ih h.2 e
def arrOf (P : Program) (t : TypeId) : Option (Nat × Nat) :=
 match P.underlying t with
 | some (.array n e) => some (n, e)
 | _ => none
theorem znS {P : Program} {t : TypeId} {n : Nat × Nat} (h : arrOf P t = some n) : P.underlying t = some (.array n.1 n.2) := by
 unfold arrOf at h
 split at h
 ·rename_i a b hu; cases h; exact hu
 ·cases h
section
variable {P : Program} {K : Known} {x : Ctx} {N : Nat} {E : Env} {h : Heap} {ops : Array Oper} {F : Ex -> Env -> Heap -> Prop} {i : Nat}
variable {ty : TypeId} {pos : String} {af : Array Edge} {g : Option (Nat × Bool)}
theorem ziw {t : TypeId} {a y : Operand} {b o n : Nat} {c c' : List Value} {e : TypeId} {v : Value} (hg : gval ops E g = some true) (hk : zah P ⟨none, .store t a y, ty, pos, af, g⟩ = true)
  (ha : E.ev a = some (.pointer (some ⟨b, o, none⟩))) (hy : E.ev y = some v) (hb : h.get? b = some (.cells c e true)) (hs : zax P t = some n) (hc : v.cells.size = n) (hl : o + n <= c.length) (hone : v.cells.toList.all oneB = true) (hc' : splice c o v.cells.toList = c')
  (k : ∀ h1, h1.get? b = some (.cells c' e true) -> ExtBut b h h1 -> R1 P K x N ops F (i + 1) E h1) : R2 P K x N ops F i ⟨none, .store t a y, ty, pos, af, g⟩ E h := by
 subst hc'
 exact zix hg hk ha hy hb hs hc hl hone (k _ (zbJ hb) ((ExtBut.refl b h).set hb _))
end
end Go.AX

namespace Go.AX
section
variable {P : Program} {K : Known} {x : Ctx} {N : Nat} {E : Env} {h : Heap} {ops : Array Oper} {F : Ex -> Env -> Heap -> Prop} {i : Nat} {Hs : List Heap} {L : List Heap -> Prop} {nw : List (Nat × Nat × Blk)}
variable {d : Nat} {ty : TypeId} {pos : String} {af : Array Edge} {g : Option (Nat × Bool)}
theorem za1 {t yt : TypeId} {a b : Operand} {m n : Int} (hN : Nat.blt d N = true) (hg : gval ops E g = some true) (hk : zah P ⟨some d, .binOp .lss t a b yt, ty, pos, af, g⟩ = true) (ha : E.ev a = some (.int .i64 m)) (hb : E.ev b = some (.int .i64 n)) (hc : m < n) (k : R1 P K x N ops F (i + 1) ((d, .bool true) :: E) h) : R2 P K x N ops F i ⟨some d, .binOp .lss t a b yt, ty, pos, af, g⟩ E h := zj0 hN hg hk ha hb (fun _ => k) (fun q => absurd hc (by omega))
theorem zbG {t yt : TypeId} {a b : Operand} {m n : Int} (hN : Nat.blt d N = true) (hg : gval ops E g = some true) (hk : zah P ⟨some d, .binOp .lss t a b yt, ty, pos, af, g⟩ = true) (ha : E.ev a = some (.int .i64 m)) (hb : E.ev b = some (.int .i64 n)) (hc : ¬ (m < n)) (k : R1 P K x N ops F (i + 1) ((d, .bool false) :: E) h) : R2 P K x N ops F i ⟨some d, .binOp .lss t a b yt, ty, pos, af, g⟩ E h := zj0 hN hg hk ha hb (fun q => absurd hc (by omega)) (fun _ => k)
theorem zj1 {t yt : TypeId} {a b : Operand} {m n : Int} (hN : Nat.blt d N = true) (hg : gval ops E g = some true) (hk : zah P ⟨some d, .binOp .leq t a b yt, ty, pos, af, g⟩ = true) (ha : E.ev a = some (.int .i64 m)) (hb : E.ev b = some (.int .i64 n)) (hc : m <= n) (k : R1 P K x N ops F (i + 1) ((d, .bool true) :: E) h) : R2 P K x N ops F i ⟨some d, .binOp .leq t a b yt, ty, pos, af, g⟩ E h := zj2 hN hg hk ha hb (fun _ => k) (fun q => absurd hc (by omega))
theorem zpV {t yt : TypeId} {a b : Operand} {m n : Int} (hN : Nat.blt d N = true) (hg : gval ops E g = some true) (hk : zah P ⟨some d, .binOp .leq t a b yt, ty, pos, af, g⟩ = true) (ha : E.ev a = some (.int .i64 m)) (hb : E.ev b = some (.int .i64 n)) (hc : ¬ (m <= n)) (k : R1 P K x N ops F (i + 1) ((d, .bool false) :: E) h) : R2 P K x N ops F i ⟨some d, .binOp .leq t a b yt, ty, pos, af, g⟩ E h := zj2 hN hg hk ha hb (fun q => absurd hc (by omega)) (fun _ => k)
theorem zhx {t yt : TypeId} {a b : Operand} {m n : Int} (hN : Nat.blt d N = true) (hg : gval ops E g = some true) (hk : zah P ⟨some d, .binOp .gtr t a b yt, ty, pos, af, g⟩ = true) (ha : E.ev a = some (.int .i64 m)) (hb : E.ev b = some (.int .i64 n)) (hc : m > n) (k : R1 P K x N ops F (i + 1) ((d, .bool true) :: E) h) : R2 P K x N ops F i ⟨some d, .binOp .gtr t a b yt, ty, pos, af, g⟩ E h := P_gtr hN hg hk ha hb (fun _ => k) (fun q => absurd hc (by omega))
theorem zdx {t yt : TypeId} {a b : Operand} {m n : Int} (hN : Nat.blt d N = true) (hg : gval ops E g = some true) (hk : zah P ⟨some d, .binOp .gtr t a b yt, ty, pos, af, g⟩ = true) (ha : E.ev a = some (.int .i64 m)) (hb : E.ev b = some (.int .i64 n)) (hc : ¬ (m > n)) (k : R1 P K x N ops F (i + 1) ((d, .bool false) :: E) h) : R2 P K x N ops F i ⟨some d, .binOp .gtr t a b yt, ty, pos, af, g⟩ E h := P_gtr hN hg hk ha hb (fun q => absurd hc (by omega)) (fun _ => k)
theorem P_geqT {t yt : TypeId} {a b : Operand} {m n : Int} (hN : Nat.blt d N = true) (hg : gval ops E g = some true) (hk : zah P ⟨some d, .binOp .geq t a b yt, ty, pos, af, g⟩ = true) (ha : E.ev a = some (.int .i64 m)) (hb : E.ev b = some (.int .i64 n)) (hc : m ≥ n) (k : R1 P K x N ops F (i + 1) ((d, .bool true) :: E) h) : R2 P K x N ops F i ⟨some d, .binOp .geq t a b yt, ty, pos, af, g⟩ E h := zpX hN hg hk ha hb (fun _ => k) (fun q => absurd hc (by omega))
theorem P_geqF {t yt : TypeId} {a b : Operand} {m n : Int} (hN : Nat.blt d N = true) (hg : gval ops E g = some true) (hk : zah P ⟨some d, .binOp .geq t a b yt, ty, pos, af, g⟩ = true) (ha : E.ev a = some (.int .i64 m)) (hb : E.ev b = some (.int .i64 n)) (hc : ¬ (m ≥ n)) (k : R1 P K x N ops F (i + 1) ((d, .bool false) :: E) h) : R2 P K x N ops F i ⟨some d, .binOp .geq t a b yt, ty, pos, af, g⟩ E h := zpX hN hg hk ha hb (fun q => absurd hc (by omega)) (fun _ => k)
theorem zhy {t yt : TypeId} {a b : Operand} {m n : Int} (hN : Nat.blt d N = true) (hg : gval ops E g = some true) (hk : zah P ⟨some d, .binOp .eql t a b yt, ty, pos, af, g⟩ = true) (ha : E.ev a = some (.int .i64 m)) (hb : E.ev b = some (.int .i64 n)) (hc : m = n) (k : R1 P K x N ops F (i + 1) ((d, .bool true) :: E) h) : R2 P K x N ops F i ⟨some d, .binOp .eql t a b yt, ty, pos, af, g⟩ E h := P_eql hN hg hk ha hb (fun _ => k) (fun q => absurd hc (by omega))
theorem zj3 {t yt : TypeId} {a b : Operand} {m n : Int} (hN : Nat.blt d N = true) (hg : gval ops E g = some true) (hk : zah P ⟨some d, .binOp .eql t a b yt, ty, pos, af, g⟩ = true) (ha : E.ev a = some (.int .i64 m)) (hb : E.ev b = some (.int .i64 n)) (hc : ¬ (m = n)) (k : R1 P K x N ops F (i + 1) ((d, .bool false) :: E) h) : R2 P K x N ops F i ⟨some d, .binOp .eql t a b yt, ty, pos, af, g⟩ E h := P_eql hN hg hk ha hb (fun q => absurd hc (by omega)) (fun _ => k)
theorem P_neqT {t yt : TypeId} {a b : Operand} {m n : Int} (hN : Nat.blt d N = true) (hg : gval ops E g = some true) (hk : zah P ⟨some d, .binOp .neq t a b yt, ty, pos, af, g⟩ = true) (ha : E.ev a = some (.int .i64 m)) (hb : E.ev b = some (.int .i64 n)) (hc : ¬ m = n) (k : R1 P K x N ops F (i + 1) ((d, .bool true) :: E) h) : R2 P K x N ops F i ⟨some d, .binOp .neq t a b yt, ty, pos, af, g⟩ E h := P_neq hN hg hk ha hb (fun _ => k) (fun q => absurd hc (by omega))
theorem zpU {t yt : TypeId} {a b : Operand} {m n : Int} (hN : Nat.blt d N = true) (hg : gval ops E g = some true) (hk : zah P ⟨some d, .binOp .neq t a b yt, ty, pos, af, g⟩ = true) (ha : E.ev a = some (.int .i64 m)) (hb : E.ev b = some (.int .i64 n)) (hc : m = n) (k : R1 P K x N ops F (i + 1) ((d, .bool false) :: E) h) : R2 P K x N ops F i ⟨some d, .binOp .neq t a b yt, ty, pos, af, g⟩ E h := P_neq hN hg hk ha hb (fun q => absurd hc (by omega)) (fun _ => k)
theorem M_lssT {t yt : TypeId} {a b : Operand} {m n : Int} (hN : Nat.blt d N = true) (hg : gval ops E g = some true) (hk : zah P ⟨some d, .binOp .lss t a b yt, ty, pos, af, g⟩ = true) (ha : E.ev a = some (.int .i64 m)) (hb : E.ev b = some (.int .i64 n)) (hc : m < n) (k : S1 P K x N ops F (i + 1) ((d, .bool true) :: E) h Hs L nw) : S2 P K x N ops F i ⟨some d, .binOp .lss t a b yt, ty, pos, af, g⟩ E h Hs L nw := M_lss hN hg hk ha hb (fun _ => k) (fun q => absurd hc (by omega))
theorem zp4 {t yt : TypeId} {a b : Operand} {m n : Int} (hN : Nat.blt d N = true) (hg : gval ops E g = some true) (hk : zah P ⟨some d, .binOp .lss t a b yt, ty, pos, af, g⟩ = true) (ha : E.ev a = some (.int .i64 m)) (hb : E.ev b = some (.int .i64 n)) (hc : ¬ (m < n)) (k : S1 P K x N ops F (i + 1) ((d, .bool false) :: E) h Hs L nw) : S2 P K x N ops F i ⟨some d, .binOp .lss t a b yt, ty, pos, af, g⟩ E h Hs L nw := M_lss hN hg hk ha hb (fun q => absurd hc (by omega)) (fun _ => k)
theorem M_leqT {t yt : TypeId} {a b : Operand} {m n : Int} (hN : Nat.blt d N = true) (hg : gval ops E g = some true) (hk : zah P ⟨some d, .binOp .leq t a b yt, ty, pos, af, g⟩ = true) (ha : E.ev a = some (.int .i64 m)) (hb : E.ev b = some (.int .i64 n)) (hc : m <= n) (k : S1 P K x N ops F (i + 1) ((d, .bool true) :: E) h Hs L nw) : S2 P K x N ops F i ⟨some d, .binOp .leq t a b yt, ty, pos, af, g⟩ E h Hs L nw := M_leq hN hg hk ha hb (fun _ => k) (fun q => absurd hc (by omega))
theorem M_leqF {t yt : TypeId} {a b : Operand} {m n : Int} (hN : Nat.blt d N = true) (hg : gval ops E g = some true) (hk : zah P ⟨some d, .binOp .leq t a b yt, ty, pos, af, g⟩ = true) (ha : E.ev a = some (.int .i64 m)) (hb : E.ev b = some (.int .i64 n)) (hc : ¬ (m <= n)) (k : S1 P K x N ops F (i + 1) ((d, .bool false) :: E) h Hs L nw) : S2 P K x N ops F i ⟨some d, .binOp .leq t a b yt, ty, pos, af, g⟩ E h Hs L nw := M_leq hN hg hk ha hb (fun q => absurd hc (by omega)) (fun _ => k)
theorem zp5 {t yt : TypeId} {a b : Operand} {m n : Int} (hN : Nat.blt d N = true) (hg : gval ops E g = some true) (hk : zah P ⟨some d, .binOp .gtr t a b yt, ty, pos, af, g⟩ = true) (ha : E.ev a = some (.int .i64 m)) (hb : E.ev b = some (.int .i64 n)) (hc : m > n) (k : S1 P K x N ops F (i + 1) ((d, .bool true) :: E) h Hs L nw) : S2 P K x N ops F i ⟨some d, .binOp .gtr t a b yt, ty, pos, af, g⟩ E h Hs L nw := M_gtr hN hg hk ha hb (fun _ => k) (fun q => absurd hc (by omega))
theorem zmP {t yt : TypeId} {a b : Operand} {m n : Int} (hN : Nat.blt d N = true) (hg : gval ops E g = some true) (hk : zah P ⟨some d, .binOp .gtr t a b yt, ty, pos, af, g⟩ = true) (ha : E.ev a = some (.int .i64 m)) (hb : E.ev b = some (.int .i64 n)) (hc : ¬ (m > n)) (k : S1 P K x N ops F (i + 1) ((d, .bool false) :: E) h Hs L nw) : S2 P K x N ops F i ⟨some d, .binOp .gtr t a b yt, ty, pos, af, g⟩ E h Hs L nw := M_gtr hN hg hk ha hb (fun q => absurd hc (by omega)) (fun _ => k)
theorem M_eqlT {t yt : TypeId} {a b : Operand} {m n : Int} (hN : Nat.blt d N = true) (hg : gval ops E g = some true) (hk : zah P ⟨some d, .binOp .eql t a b yt, ty, pos, af, g⟩ = true) (ha : E.ev a = some (.int .i64 m)) (hb : E.ev b = some (.int .i64 n)) (hc : m = n) (k : S1 P K x N ops F (i + 1) ((d, .bool true) :: E) h Hs L nw) : S2 P K x N ops F i ⟨some d, .binOp .eql t a b yt, ty, pos, af, g⟩ E h Hs L nw := M_eql hN hg hk ha hb (fun _ => k) (fun q => absurd hc (by omega))
theorem M_eqlF {t yt : TypeId} {a b : Operand} {m n : Int} (hN : Nat.blt d N = true) (hg : gval ops E g = some true) (hk : zah P ⟨some d, .binOp .eql t a b yt, ty, pos, af, g⟩ = true) (ha : E.ev a = some (.int .i64 m)) (hb : E.ev b = some (.int .i64 n)) (hc : ¬ (m = n)) (k : S1 P K x N ops F (i + 1) ((d, .bool false) :: E) h Hs L nw) : S2 P K x N ops F i ⟨some d, .binOp .eql t a b yt, ty, pos, af, g⟩ E h Hs L nw := M_eql hN hg hk ha hb (fun q => absurd hc (by omega)) (fun _ => k)
theorem M_neqT {t yt : TypeId} {a b : Operand} {m n : Int} (hN : Nat.blt d N = true) (hg : gval ops E g = some true) (hk : zah P ⟨some d, .binOp .neq t a b yt, ty, pos, af, g⟩ = true) (ha : E.ev a = some (.int .i64 m)) (hb : E.ev b = some (.int .i64 n)) (hc : ¬ m = n) (k : S1 P K x N ops F (i + 1) ((d, .bool true) :: E) h Hs L nw) : S2 P K x N ops F i ⟨some d, .binOp .neq t a b yt, ty, pos, af, g⟩ E h Hs L nw := M_neq hN hg hk ha hb (fun _ => k) (fun q => absurd hc (by omega))
theorem M_neqF {t yt : TypeId} {a b : Operand} {m n : Int} (hN : Nat.blt d N = true) (hg : gval ops E g = some true) (hk : zah P ⟨some d, .binOp .neq t a b yt, ty, pos, af, g⟩ = true) (ha : E.ev a = some (.int .i64 m)) (hb : E.ev b = some (.int .i64 n)) (hc : m = n) (k : S1 P K x N ops F (i + 1) ((d, .bool false) :: E) h Hs L nw) : S2 P K x N ops F i ⟨some d, .binOp .neq t a b yt, ty, pos, af, g⟩ E h Hs L nw := M_neq hN hg hk ha hb (fun q => absurd hc (by omega)) (fun _ => k)
end
end Go.AX

namespace Go.AX
end Go.AX

namespace Go.AX
section
variable {P : Program} {K : Known} {x : Ctx} {N : Nat} {E : Env} {h : Heap} {ops : Array Oper} {F : Ex -> Env -> Heap -> Prop} {i : Nat}
variable {d : Nat} {ty : TypeId} {pos : String} {af : Array Edge} {g : Option (Nat × Bool)}
theorem zm2 {c : List Value} {k : Nat} {v : Value} (h : k < c.length) : splice c k [v] = c.set k v := by
 simp only [splice, List.length_cons, List.length_nil]
 rw [List.set_eq_take_append_cons_drop, if_pos h]
 simp
theorem zmH {t : TypeId} {a y : Operand} {b j : Nat} {c : List Value} {e : TypeId} {q : Option Addr} {n m : Nat} (hg : gval ops E g = some true) (hk : zah P ⟨none, .store t a y, ty, pos, af, g⟩ = true)
  (ha : E.ev a = some (.pointer (some ⟨b, j, none⟩))) (hy : E.ev y = some (.slice q n m)) (hb : h.get? b = some (.cells c e true)) (hs : zax P t = some 1) (hl : j < c.length)
  (k : ∀ h1, h1.get? b = some (.cells (c.set j (.slice q n m)) e true) -> ExtBut b h h1 -> R1 P K x N ops F (i + 1) E h1) : R2 P K x N ops F i ⟨none, .store t a y, ty, pos, af, g⟩ E h := by
 refine zix hg hk ha hy hb hs rfl (by omega) rfl ?_
 rw [show (Value.slice q n m).cells.toList = [.slice q n m] from rfl, zm2 hl]
 exact k _ (zbJ hb) ((ExtBut.refl b h).set hb _)
end
end Go.AX

namespace Go.AX
def OutV (e : TypeId) (h0 h : Heap) (v : Value) (c : List Value) : Prop :=
 (c = [] /\ v = .slice none 0 0) \/ (c ≠ [] /\ ∃ b, v = .slice (some ⟨b, 0, none⟩) c.length unk /\ h.get? b = some (.cells c e true) /\ h0.n <= b)
theorem OutV.nil (e : TypeId) (h0 h : Heap) : OutV e h0 h (.slice none 0 0) [] := .inl ⟨rfl, rfl⟩
theorem OutV.ext {e : TypeId} {h0 h h1 : Heap} {v : Value} {c : List Value} (o : OutV e h0 h v c) (x : Ext h h1) : OutV e h0 h1 v c := by
 rcases o with o | ⟨hl, b, h1, h2, h3⟩
 ·exact .inl o
 ·exact .inr ⟨hl, b, h1, x.get h2, h3⟩
section
variable {P : Program} {K : Known} {x : Ctx} {N : Nat} {E : Env} {h : Heap} {ops : Array Oper} {F : Ex -> Env -> Heap -> Prop} {i : Nat}
variable {d : Nat} {ty : TypeId} {pos : String} {af : Array Edge} {g : Option (Nat × Bool)}
end
end Go.AX

namespace Go.AX
structure KeepB (m : Nat) (z : Blk) (h h1 : Heap) : Prop where
 n : h.n <= h1.n
 get' : ∀ b y, h.get? b = some y -> (b < m \/ y ≠ z) -> h1.get? b = some y
theorem KeepB.lo {m : Nat} {z : Blk} {h h1 : Heap} (k : KeepB m z h h1) {b : Nat} {y : Blk} (hb : b < m) (g : h.get? b = some y) : h1.get? b = some y := k.get' b y g (.inl hb)
theorem KeepB.ne {m : Nat} {z : Blk} {h h1 : Heap} (k : KeepB m z h h1) {b : Nat} {y : Blk} (hb : y ≠ z) (g : h.get? b = some y) : h1.get? b = some y := k.get' b y g (.inr hb)
theorem OutI.but {e : TypeId} {h0 h h1 : Heap} {v : Value} {l : List Int} {b0 : Nat} (o : OutI e h0 h v l) (x : ExtBut b0 h h1) (hb : b0 < h0.n) : OutI e h0 h1 v l := by
 rcases o with o | ⟨hl, b, h1, h2, h3⟩
 ·exact .inl o
 ·exact .inr ⟨hl, b, h1, x.get (by omega) h2, h3⟩
theorem OutS.but {e : TypeId} {h0 h h1 : Heap} {v : Value} {l : List (Int × Int)} {b0 : Nat} (o : OutS e h0 h v l) (x : ExtBut b0 h h1) (hb : b0 < h0.n) : OutS e h0 h1 v l := by
 rcases o with o | ⟨hl, b, h1, h2, h3⟩
 ·exact .inl o
 ·exact .inr ⟨hl, b, h1, x.get (by omega) h2, h3⟩
section
variable {P : Program} {K : Known} {x : Ctx} {N : Nat} {E : Env} {h : Heap} {ops : Array Oper} {F : Ex -> Env -> Heap -> Prop} {i : Nat} {Hs : List Heap} {L : List Heap -> Prop} {nw : List (Nat × Nat × Blk)}
variable {d : Nat} {ty : TypeId} {pos : String} {af : Array Edge} {g : Option (Nat × Bool)}
theorem zp6 {args : Array Operand} {ts : Array TypeId} {t t' e e' : TypeId} {a b : Operand} {by_ cap : Nat} {e0 : TypeId} {own : Bool} {n : Int} {v : Value} {l : List Int} {h0 : Heap} (hN : Nat.blt d N = true) (hg : gval ops E g = some true) (hk : zah P ⟨some d, .call ⟨.builtin .append, args, ts⟩, ty, pos, af, g⟩ = true) (hargs : args.toList = [a, b])
  (ha : E.ev a = some v) (hb : E.ev b = some (.slice (some ⟨by_, 0, none⟩) 1 cap)) (h0' : ts[0]? = some t) (h1' : ts[1]? = some t') (hc : cell1 P t = some e) (hc' : P.underlying t' = some (.slice e'))
  (hy : h.get? by_ = some (.cells [.int .i64 n] e0 own)) (ho : OutI e h0 h v l) (hx : h0.n <= h.n) (hle : l.length <= 10000) (hnw : unseen (preds ops.toList) nw i = [])
  (k : ∀ v' h1, OutI e h0 h1 v' (l ++ [n]) -> KeepB h0.n (.cells (ints l) e true) h h1 -> S1 P K x N ops F (i + 1) ((d, v') :: E) h1 (h1 :: Hs) L nw) : S2 P K x N ops F i ⟨some d, .call ⟨.builtin .append, args, ts⟩, ty, pos, af, g⟩ E h Hs L nw := by
 rcases ho with ⟨rfl, rfl⟩ | ⟨hl, b', rfl, h2, h3⟩
 ·refine zmR hN hg hk hargs ha hb (zlv h0' h1' hc hc' hy rfl (by omega) (by omega) rfl) hnw (k _ _ (.inr ⟨by simp, h.n, rfl, zaa, hx⟩) ⟨Nat.le_succ _, fun _ _ g _ => zab g⟩)
 ·refine zmR hN hg hk hargs ha hb (zlu h0' h1' hc hc' hy rfl (by omega) (by omega) rfl h2 (zar _)) hnw (k _ _ (.inr ⟨by simp, h.n, ?_, ?_, hx⟩) ⟨Nat.le_succ _, fun c y q r => zab (zaV h2 (fun u => ?_) q)⟩)
  ·simp
  ·have : (h.set b' .dead).n = h.n := rfl
   rw [<- this, show ints (l ++ [n]) = ints l ++ [Value.int .i64 n] from (ints_app l [n]).symm]
   exact zaa
  ·subst u
   rw [h2] at q
   cases q
   rcases r with r | r
   ·omega
   ·exact r rfl
theorem zmL {t : TypeId} {a y : Operand} {b o n : Nat} {c c' : List Value} {e : TypeId} {v : Value} (hg : gval ops E g = some true) (hk : zah P ⟨none, .store t a y, ty, pos, af, g⟩ = true)
  (ha : E.ev a = some (.pointer (some ⟨b, o, none⟩))) (hy : E.ev y = some v) (hb : h.get? b = some (.cells c e true)) (hs : zax P t = some n) (hc : v.cells.size = n) (hl : o + n <= c.length) (hone : v.cells.toList.all oneB = true) (hc' : splice c o v.cells.toList = c') (hnw : unseen (preds ops.toList) nw i = [])
  (k : ∀ h1, h1.get? b = some (.cells c' e true) -> ExtBut b h h1 -> S1 P K x N ops F (i + 1) E h1 (h1 :: Hs) L nw) : S2 P K x N ops F i ⟨none, .store t a y, ty, pos, af, g⟩ E h Hs L nw := by
 subst hc'
 exact zp3 hg hk ha hy hb hs hc hl hone hnw (k _ (zbJ hb) ((ExtBut.refl b h).set hb _))
theorem readA {t : TypeId} {b o n : Nat} {c : List Value} {e : TypeId} {own : Bool} {vs : List Value} (ht : aggN P t = some n) (hb : h.get? b = some (.cells c e own)) (hl : o + n <= c.length) (hv : (c.drop o).take n = vs) : zb1 P h t (.pointer (some ⟨b, o, none⟩)) = some (.agg vs.toArray) := by
 simp only [zb1, hb, zdy, zfR ht, zeX ht, if_pos hl, hv]
theorem read1 {t : TypeId} {b o : Nat} {c : List Value} {e : TypeId} {own : Bool} {v : Value} (ht : one P t = true) (hb : h.get? b = some (.cells c e own)) (hv : c[o]? = some v) : zb1 P h t (.pointer (some ⟨b, o, none⟩)) = some v := by
 simp only [zb1, hb, zdy, ze5 ht, zd0 ht, hv]
theorem zoB {a : Tmp} {t : TypeId} {l : List ResultVar} {p v : Value} {vs : List Value} (hp : E.get a = some p) (hv : zb1 P h t p = some v) (hl : resE P E h l = some vs) : resE P E h (.cell a t :: l) = some (v :: vs) := by
 simp only [resE, hp, hv, hl]
end
theorem OutS.same {e : TypeId} {h0 h : Heap} {v : Value} {l : List (Int × Int)} (o : OutS e h0 h v l) : same 20 v v = true := by
 rcases o with ⟨_, rfl⟩ | ⟨_, b, rfl, _, _⟩ <;> exact zbW _ _ _
theorem OutS.within {e : TypeId} {h0 h : Heap} {v : Value} {l : List (Int × Int)} (o : OutS e h0 h v l) : within 20 h.n v = true := by
 rcases o with ⟨_, rfl⟩ | ⟨_, b, rfl, g, _⟩
 ·rfl
 ·exact zdV g
theorem OutS.keep {e e' : TypeId} {h0 h h1 : Heap} {v : Value} {l : List (Int × Int)} {m : Nat} {c : List Value} (o : OutS e h0 h v l) (k : KeepB m (.cells c e' true) h h1) (hne : e ≠ e') : OutS e h0 h1 v l := by
 rcases o with o | ⟨hl, b, h1, h2, h3⟩
 ·exact .inl o
 ·exact .inr ⟨hl, b, h1, k.ne (by intro q; injection q with _ q _; exact hne q) h2, h3⟩
theorem OutI.keep {e e' : TypeId} {h0 h h1 : Heap} {v : Value} {l : List Int} {m : Nat} {c : List Value} (o : OutI e h0 h v l) (k : KeepB m (.cells c e' true) h h1) (hne : e ≠ e') : OutI e h0 h1 v l := by
 rcases o with o | ⟨hl, b, h1, h2, h3⟩
 ·exact .inl o
 ·exact .inr ⟨hl, b, h1, k.ne (by intro q; injection q with _ q _; exact hne q) h2, h3⟩
theorem OutS.cells {e : TypeId} {h0 h : Heap} {v : Value} {l : List (Int × Int)} (o : OutS e h0 h v l) : v.cells = #[v] /\ oneB v = true := by
 rcases o with ⟨_, rfl⟩ | ⟨_, b, rfl, _, _⟩ <;> exact ⟨rfl, rfl⟩
end Go.AX

namespace Go.AX
def CallP (P : Program) (K : Known) (f : FuncId) (args : Array Value) (h : Heap) (ch : List PanicEntry) (G : Heap -> Prop) : Prop :=
 ∃ n h1, (run P K n).call f args false .run h = some (.panic ch, .run, h1) /\ G h1
def zqb (P : Program) (K : Known) (f : FuncId) (args : Array Value) (u : FrameMode) (h : Heap) (u' : FrameMode) (h1 : Heap) : Prop :=
 ∃ n v, (run P K n).call f args true u h = some (.ret v, u', h1)
section
variable {P : Program} {K : Known} {x : Ctx} {N : Nat} {E : Env} {h : Heap} {Q : Ex -> Env -> Heap -> Prop} {ks : List Kt}
theorem zeR {args : Array Value} (ha : args.size <= N) : EnvOK N (zcB 0 args.toList) (args ++ Array.replicate (N - args.size) undef) := by
 refine ⟨by simp; omega, fun t v e => ?_⟩
 obtain ⟨_, h2⟩ := zgz _ _ _ _ e
 simp only [Nat.sub_zero, Array.getElem?_toList] at h2
 rw [Array.getElem?_append_left (Array.getElem?_eq_some_iff.1 h2).1]
 exact h2
theorem bodyP {f : FuncId} {args : Array Value} {fn : Func} {c : Code} {ch : List PanicEntry} {G : Heap -> Prop} (hf : P.funcs[f]? = some fn) (hb : fn.body = some c) (hk : K f args h = none) (hN : fn.ntmps = N) (ha : Nat.ble args.size N = true)
  (H : K1 P K { fn := f, round := none, dfr := false } N (fun e _ h1 => e = .panic ch /\ G h1) c [] (zcB 0 args.toList) h) : CallP P K f args h ch G := by
 obtain ⟨n, e, tm1, h1, E1, hr, hE1, he, hg⟩ := H.out _ [] .run (zeR (Nat.le_of_ble_eq_true ha))
 subst he
 refine ⟨n + 1, h1, ?_, hg⟩
 show zb8 P K (run P K n) f args false .run h = _
 unfold zb8
 simp only [Bool.false_eq_true, if_false, hk, hf, hb, hN]
 rw [hr]
 simp only [zaA, Option.map_some]
theorem C_panS {b : Code} {c : List PanicEntry} (H : C1 P K x N Q ks (.panic c) E h) : C1 P K x N Q (.seq b :: ks) (.panic c) E h := ⟨H.out⟩
theorem C_panL {b : Code} {c : List PanicEntry} (H : C1 P K x N Q ks (.panic c) E h) : C1 P K x N Q (.loop b :: ks) (.panic c) E h := ⟨H.out⟩
theorem C_panB {id : Nat} {c : List PanicEntry} (H : C1 P K x N Q ks (.panic c) E h) : C1 P K x N Q (.block id :: ks) (.panic c) E h := ⟨H.out⟩
variable {ops : Array Oper} {F : Ex -> Env -> Heap -> Prop} {i : Nat}
variable {d : Nat} {ty : TypeId} {pos : String} {af : Array Edge} {g : Option (Nat × Bool)}
theorem O_pan {o : Oper} {ch : List PanicEntry} {G : Heap -> Prop} (ho : ops[i]? = some o) (hg : gval ops E o.guard = some true)
  (hop : ∀ tm D U, EnvOK N E tm -> ∃ n h1, doOp P (run P K n) x ⟨tm, D, U, h⟩ o = some (.panic ch, ⟨tm, D, U, h1⟩) /\ G h1)
  (k : ∀ h1, G h1 -> F (.panic ch) E h1) : WO P K x N ops F i E h := by
 intro tm D U hE
 obtain ⟨n, h1, hr, hv⟩ := hop tm D U hE
 refine ⟨n, _, tm, h1, E, ?_, hE, k h1 hv⟩
 rw [zeB (Array.getElem?_eq_some_iff.1 ho).1]
 simp only [zbm, ho]
 rw [za9 hE hg, if_pos rfl, hr]
theorem P_panic {dd : Option Tmp} {a : Operand} {t : TypeId} {v : Value} (hg : gval ops E g = some true) (hk : zah P ⟨dd, .panic a, ty, pos, af, g⟩ = true) (ha : E.ev a = some (.iface t v))
  (k : F (.panic [⟨.iface t v, false, false⟩]) E h) : R2 P K x N ops F i ⟨dd, .panic a, ty, pos, af, g⟩ E h :=
 ⟨fun ho => O_pan (G := fun h1 => h1 = h) ho hg (fun tm D U hE => ⟨0, h, by
  unfold doOp
  rw [hk]
  have e2 : zae P tm h ⟨dd, .panic a, ty, pos, af, g⟩ = none := rfl
  have e3 : zaZ P tm h ⟨dd, .panic a, ty, pos, af, g⟩ = some (.panic (.iface t v), h) := by
   show (match AX.ev tm a with | .iface t v => some (Out.panic (.iface t v), h) | _ => none) = _
   rw [hE.ev ha]
  simp only [Bool.not_true, Bool.false_eq_true, if_false, e2, e3]
  rfl, rfl⟩) (fun _ q => by subst q; exact k)⟩
theorem P_callP {dd : Option Tmp} {fo : Operand} {args : Array Operand} {ts : Array TypeId} {f : FuncId} {fi ca : Array Value} {vs : List Value} {ch : List PanicEntry} {G : Heap -> Prop} (hg : gval ops E g = some true) (hk : zah P ⟨dd, .call ⟨.value fo, args, ts⟩, ty, pos, af, g⟩ = true)
  (hf : E.ev fo = some (.func (.func f) fi ca)) (hargs : E.evs args.toList = some vs) (hen : enters P f = true) (hc : CallP P K f (fi ++ vs.toArray ++ ca) h ch G) (k : ∀ h1, G h1 -> F (.panic ch) E h1) : R2 P K x N ops F i ⟨dd, .call ⟨.value fo, args, ts⟩, ty, pos, af, g⟩ E h :=
 ⟨fun ho => O_pan ho hg (fun tm D U hE => by
  obtain ⟨n, h1, hr, hv⟩ := hc
  refine ⟨n, h1, ?_, hv⟩
  have e1 : args.map (AX.ev tm) = vs.toArray := by
   apply Array.ext'
   rw [Array.toList_map, hE.evs hargs]
  unfold doOp
  rw [hk]
  have e2 : zae P tm h ⟨dd, .call ⟨.value fo, args, ts⟩, ty, pos, af, g⟩ = none := rfl
  have e3 : zaZ P tm h ⟨dd, .call ⟨.value fo, args, ts⟩, ty, pos, af, g⟩ = some (.enter f (fi ++ vs.toArray ++ ca), h) := by
   show (zaN P (AX.ev tm fo) (args.map (AX.ev tm))).map (fun r => (r, h)) = _
   rw [hE.ev hf, e1]
   simp only [zaN]
   rw [zdL hen]; rfl
  simp only [Bool.not_true, Bool.false_eq_true, if_false, e2, e3, hr]
  rfl) k⟩
theorem P_iface {t : TypeId} {a : Operand} {v : Value} (hN : Nat.blt d N = true) (hg : gval ops E g = some true) (hk : zah P ⟨some d, .makeInterface t a, ty, pos, af, g⟩ = true) (ha : E.ev a = some v) (hu : (match P.underlying t with | some (.interface _) | none => false | some _ => true) = true)
  (k : R1 P K x N ops F (i + 1) ((d, .iface t v) :: E) h) : R2 P K x N ops F i ⟨some d, .makeInterface t a, ty, pos, af, g⟩ E h :=
 ⟨fun ho => zaO ho rfl hN hg hk (fun tm hE => by
  show (match P.underlying t with | some (.interface _) | none => none | some _ => some (Value.iface t (AX.ev tm a), h)) = _
  rw [hE.ev ha]
  split at hu
  ·cases hu
  ·cases hu
  ·rfl) k.out⟩
theorem zmJ {t t' : TypeId} {a : Operand} {v r : Value} {ok : Bool} (hN : Nat.blt d N = true) (hg : gval ops E g = some true) (hk : zah P ⟨some d, .typeAssert a t t' ok, ty, pos, af, g⟩ = true) (ha : E.ev a = some v) (hr : zdt P v t' ok = some r)
  (k : R1 P K x N ops F (i + 1) ((d, r) :: E) h) : R2 P K x N ops F i ⟨some d, .typeAssert a t t' ok, ty, pos, af, g⟩ E h :=
 ⟨fun ho => zaO ho rfl hN hg hk (fun tm hE => by
  show (zdt P (AX.ev tm a) t' ok).map (fun v => (v, h)) = _
  rw [hE.ev ha, hr]; rfl) k.out⟩
def znm : Nat -> Code -> Code
 | n + 1, .seq a b => .seq a (znm n b)
 | _, _ => .skip
def ziZ : Nat -> Code -> Code
 | n + 1, .seq _ b => ziZ n b
 | _, c => c
theorem zon : ∀ (k : Nat) (c : Code) (s s1 : St) (e : Ex) (n : Nat), (run P K n).code x (znm k c) s = some (e, s1) ->
  (e ≠ .normal -> ∃ m, (run P K m).code x c s = some (e, s1)) /\ (e = .normal -> ∀ e2 s2 m, (run P K m).code x (ziZ k c) s1 = some (e2, s2) -> ∃ j, (run P K j).code x c s = some (e2, s2)) := by
 intro k
 have skip : ∀ (c : Code) (s s1 : St) (e : Ex) (n : Nat), (run P K n).code x .skip s = some (e, s1) -> e = .normal /\ s1 = s := by
  intro c s s1 e n hr
  cases n with
  | zero => cases hr
  | succ n => rw [zaE] at hr; simp only [za3] at hr; cases hr; exact ⟨rfl, rfl⟩
 induction k with
 | zero =>
  intro c s s1 e n hr
  obtain ⟨rfl, rfl⟩ := skip c s s1 e n (by cases c <;> exact hr)
  exact ⟨fun q => absurd rfl q, fun _ e2 s2 m hm => ⟨m, by cases c <;> exact hm⟩⟩
 | succ k ih =>
  intro c s s1 e n hr
  cases c with
  | seq a b =>
   cases n with
   | zero => cases hr
   | succ n =>
    rw [show znm (k + 1) (.seq a b) = .seq a (znm k b) from rfl, zaE] at hr
    simp only [za3] at hr
    split at hr
    ·rename_i s0 ha
     obtain ⟨h1, h2⟩ := ih b s0 s1 e n hr
     have join : ∀ e2 s2 m, (run P K m).code x b s0 = some (e2, s2) -> ∃ j, (run P K j).code x (.seq a b) s = some (e2, s2) := fun e2 s2 m hm => by
      refine ⟨max n m + 1, ?_⟩
      rw [zaE]
      simp only [za3]
      rw [(zap P K (Nat.le_max_left n m)).code _ _ _ _ ha]
      exact (zap P K (Nat.le_max_right n m)).code _ _ _ _ hm
     exact ⟨fun q => by obtain ⟨m, hm⟩ := h1 q; exact join _ _ m hm, fun q e2 s2 m hm => by obtain ⟨j, hj⟩ := h2 q e2 s2 m hm; exact join _ _ j hj⟩
    ·rename_i r hne
     have hee : e ≠ .normal := fun q => by subst q; exact hne _ hr
     refine ⟨fun _ => ⟨n + 1, ?_⟩, fun q => absurd q hee⟩
     rw [zaE]
     simp only [za3]
     rw [hr]
  | _ =>
   obtain ⟨rfl, rfl⟩ := skip .skip s s1 e n hr
   exact ⟨fun q => absurd rfl q, fun _ e2 s2 m hm => ⟨m, hm⟩⟩
theorem bodyD {f : FuncId} {args : Array Value} {fn : Func} {id : Nat} {rest : Code} {u : FrameMode} {ops : Array Oper} {d : Nat} {as : Array Operand} {ts : Array TypeId} {ty : TypeId} {pos : String} {af : Array Edge} {G : Heap -> Prop}
  (hf : P.funcs[f]? = some fn) (hb : fn.body = some (.seq (.region id ops false) rest)) (hN : fn.ntmps = N) (ha : Nat.ble args.size N = true) (ho : ops[0]? = some ⟨some d, .call ⟨.builtin .recover, as, ts⟩, ty, pos, af, none⟩) (hd : Nat.blt d N = true) (hk : zah P ⟨some d, .call ⟨.builtin .recover, as, ts⟩, ty, pos, af, none⟩ = true) (hres : fn.results.toList = [])
  (H : R1 P K { fn := f, round := none, dfr := true } N ops (C1 P K { fn := f, round := none, dfr := true } N (fun e _ h1 => (e = .normal \/ e = .ret) /\ G h1) [.seq rest]) 1 ((d, (zaU u).1) :: zcB 0 args.toList) h) :
  ∃ h1, zqb P K f args u h (zaU u).2 h1 /\ G h1 := by
 have h0 := zeR (N := N) (Nat.le_of_ble_eq_true ha)
 obtain ⟨n, e, tm1, h1, E1, hr, hE1, hc⟩ := H.out _ [] (zaU u).2 (h0.put (zbE hd) _)
 have hsz := (Array.getElem?_eq_some_iff.1 ho).1
 have hreg : (run P K (n + 1)).code { fn := f, round := none, dfr := true } (.region id ops false) ⟨args ++ Array.replicate (N - args.size) undef, [], u, h⟩ = some (e, ⟨tm1, [], (zaU u).2, h1⟩) := by
  rw [zaE]
  simp only [za3, Bool.false_eq_true, if_false]
  rw [List.range_eq_range', show ops.size = ops.size - 0 from rfl, zeB hsz]
  simp only [zbm, ho]
  have hw : zaX ops (args ++ Array.replicate (N - args.size) undef) ⟨some d, .call ⟨.builtin .recover, as, ts⟩, ty, pos, af, none⟩ = true := rfl
  have hdo : doOp P (run P K n) { fn := f, round := none, dfr := true } ⟨args ++ Array.replicate (N - args.size) undef, [], u, h⟩ ⟨some d, .call ⟨.builtin .recover, as, ts⟩, ty, pos, af, none⟩ = some (.val (zaU u).1, ⟨args ++ Array.replicate (N - args.size) undef, [], (zaU u).2, h⟩) := by
   unfold doOp
   rw [hk]
   have e2 : zae P (args ++ Array.replicate (N - args.size) undef) h ⟨some d, .call ⟨.builtin .recover, as, ts⟩, ty, pos, af, none⟩ = none := rfl
   have e3 : zaZ P (args ++ Array.replicate (N - args.size) undef) h ⟨some d, .call ⟨.builtin .recover, as, ts⟩, ty, pos, af, none⟩ = some (.recover, h) := rfl
   simp only [Bool.not_true, Bool.false_eq_true, if_false, e2, e3, Option.isSome_none, if_true]
   rfl
  rw [hw, if_pos rfl, hdo]
  exact hr
 have hc1 := hc.out
 have fin : ∀ (m : Nat) (e2 : Ex) (tm2 : Array Value) (h2 : Heap), (run P K m).code { fn := f, round := none, dfr := true } (.seq (.region id ops false) rest) ⟨args ++ Array.replicate (N - args.size) undef, [], u, h⟩ = some (e2, ⟨tm2, [], (zaU u).2, h2⟩) -> (e2 = .normal \/ e2 = .ret) -> zqb P K f args u h (zaU u).2 h2 := by
  intro m e2 tm2 h2 hm he
  refine ⟨m + 1, .tuple #[], ?_⟩
  show zb8 P K (run P K m) f args true u h = _
  unfold zb8
  simp only [if_true, hf, hb, hN]
  rw [hm]
  have hl : zaA P (run P K m) fn tm2 [] .returning h2 = some (.ret (.tuple #[]), h2) := by
   simp only [zaA, zby, hres, List.mapM_nil, Option.pure_def, Option.map_some]
  rcases he with rfl | rfl <;> simp only [hl, Option.map_some]
 cases e with
 | normal =>
  obtain ⟨m, e2, tm2, h2, E2, hr2, _, hq, hG⟩ := (show W P K _ N rest E1 h1 (Cont P K _ N _ []) from hc1) tm1 [] (zaU u).2 hE1
  refine ⟨h2, fin (max (n + 1) m + 1) e2 tm2 h2 ?_ hq, hG⟩
  rw [zaE]
  simp only [za3]
  rw [(zap P K (Nat.le_max_left (n + 1) m)).code _ _ _ _ hreg]
  exact (zap P K (Nat.le_max_right (n + 1) m)).code _ _ _ _ hr2
 | ret =>
  obtain ⟨hq, hG⟩ := (show ((Ex.ret : Ex) = .normal \/ (Ex.ret : Ex) = .ret) /\ G h1 from hc1)
  refine ⟨h1, fin (n + 2) .ret tm1 h1 ?_ (.inr rfl), hG⟩
  rw [zaE]
  simp only [za3]
  rw [hreg]
 | exit j => obtain ⟨hq, _⟩ := (show ((Ex.exit j : Ex) = .normal \/ (Ex.exit j : Ex) = .ret) /\ G h1 from hc1); rcases hq with q | q <;> cases q
 | panic c => obtain ⟨hq, _⟩ := (show ((Ex.panic c : Ex) = .normal \/ (Ex.panic c : Ex) = .ret) /\ G h1 from hc1); rcases hq with q | q <;> cases q
def modeOf : Ex -> Option FrameMode
 | .normal | .ret => some .returning
 | .panic c => some (.panicking c)
 | .exit _ => none
theorem znP {f : FuncId} {args : Array Value} {fn : Func} {c : Code} (k : Nat) {G : Value -> Heap -> Prop} {id : Nat} {rest : Code} {a : Nat} {g0 : FuncId} {ca : Array Operand} {vs : List Value} {ty ty' : TypeId} {pos pos' : String} {af af' : Array Edge} {ts : Array TypeId} {dd : Option Tmp}
  (hf : P.funcs[f]? = some fn) (hb : fn.body = some c) (hk : K f args h = none) (hN : fn.ntmps = N) (ha : Nat.ble args.size N = true)
  (hc : ziZ k c = .seq (.region id #[⟨some a, .makeFunc (.func g0) #[] ca, ty, pos, af, none⟩, ⟨dd, .defer ⟨.value (.tmp a), #[], ts⟩, ty', pos', af', none⟩] false) rest) (hdd : dd = none) (hd : Nat.blt a N = true) (hen : enters P g0 = true)
  (hk1 : zah P ⟨some a, .makeFunc (.func g0) #[] ca, ty, pos, af, none⟩ = true) (hk2 : zah P ⟨dd, .defer ⟨.value (.tmp a), #[], ts⟩, ty', pos', af', none⟩ = true)
  (H : K1 P K { fn := f, round := none, dfr := false } N (fun e E1 h1 => (e = .ret /\ ∃ vs, resE P E1 h1 fn.results.toList = some vs /\ G (resV vs) h1) \/
   (e = .normal /\ E1.evs ca.toList = some vs /\ K1 P K { fn := f, round := none, dfr := false } N (fun e E2 h2 => ∃ u u' h3, modeOf e = some u /\ zqb P K g0 vs.toArray u h2 u' h3 /\ zhI u' = .returning /\ ∃ ws, resE P E2 h3 fn.results.toList = some ws /\ G (resV ws) h3) rest [] ((a, .func (.func g0) #[] vs.toArray) :: E1) h1)) (znm k c) [] (zcB 0 args.toList) h) : CallW P K f args h G := by
 subst hdd
 have h0 := zeR (N := N) (Nat.le_of_ble_eq_true ha)
 obtain ⟨n, e, tm1, h1, E1, hr, hE1, hq⟩ := H.out _ [] .run h0
 obtain ⟨c1, c2⟩ := zon k c _ _ e n hr
 rcases hq with ⟨rfl, ws, hres, hg⟩ | ⟨rfl, hvs, HK⟩
 ·obtain ⟨m, hm⟩ := c1 (by intro q; cases q)
  refine ⟨m + 1, resV ws, h1, ?_, hg⟩
  show zb8 P K (run P K m) f args false .run h = _
  unfold zb8
  simp only [Bool.false_eq_true, if_false, hk, hf, hb, hN]
  rw [hm]
  have hl : zaA P (run P K m) fn tm1 [] .returning h1 = some (.ret (resV ws), h1) := by
   simp only [zaA, zby, ze2 hE1 hres, Option.map_some]
   rfl
  simp only [hl, Option.map_some]
 ·have hca : ca.map (AX.ev tm1) = vs.toArray := by
   apply Array.ext'
   rw [Array.toList_map, hE1.evs hvs]
  have hE2 := hE1.put (zbE hd) (.func (.func g0) #[] vs.toArray)
  let D : List Deferred := [{ target := .fn (.func g0) vs.toArray, args := #[] }]
  obtain ⟨m, e2, tm2, h2, E2, hr2, hE3, u, u', h3, hmo, ⟨j, v, hj⟩, hset, ws, hres, hg⟩ := HK.out _ D .run hE2
  have hreg : (run P K 1).code { fn := f, round := none, dfr := false } (.region id #[⟨some a, .makeFunc (.func g0) #[] ca, ty, pos, af, none⟩, ⟨none, .defer ⟨.value (.tmp a), #[], ts⟩, ty', pos', af', none⟩] false) ⟨tm1, [], .run, h1⟩ = some (.normal, ⟨put tm1 (some a) (.func (.func g0) #[] vs.toArray), D, .run, h1⟩) := by
   rw [zaE]
   simp only [za3, Bool.false_eq_true, if_false]
   have hs1 : doOp P (run P K 0) { fn := f, round := none, dfr := false } ⟨tm1, [], .run, h1⟩ ⟨some a, .makeFunc (.func g0) #[] ca, ty, pos, af, none⟩ = some (.val (.func (.func g0) #[] vs.toArray), ⟨tm1, [], .run, h1⟩) := by
    refine zjK hk1 ?_
    show some (Value.func (.func g0) ((#[] : Array Operand).map (AX.ev tm1)) (ca.map (AX.ev tm1)), h1) = _
    rw [hca]; simp
   have hev : AX.ev (put tm1 (some a) (.func (.func g0) #[] vs.toArray)) (.tmp a) = .func (.func g0) #[] vs.toArray := hE2.ev (o := .tmp a) (by simp [Env.ev, Env.get])
   have hs2 : doOp P (run P K 0) { fn := f, round := none, dfr := false } ⟨put tm1 (some a) (.func (.func g0) #[] vs.toArray), [], .run, h1⟩ ⟨none, .defer ⟨.value (.tmp a), #[], ts⟩, ty', pos', af', none⟩ = some (.val undef, ⟨put tm1 (some a) (.func (.func g0) #[] vs.toArray), D, .run, h1⟩) := by
    unfold doOp
    rw [hk2]
    have e2 : zae P (put tm1 (some a) (.func (.func g0) #[] vs.toArray)) h1 ⟨none, .defer ⟨.value (.tmp a), #[], ts⟩, ty', pos', af', none⟩ = none := rfl
    have e3 : zaZ P (put tm1 (some a) (.func (.func g0) #[] vs.toArray)) h1 ⟨none, .defer ⟨.value (.tmp a), #[], ts⟩, ty', pos', af', none⟩ = some (.defer { target := .fn (.func g0) vs.toArray, args := #[] }, h1) := by
     show (match AX.ev (put tm1 (some a) (.func (.func g0) #[] vs.toArray)) (.tmp a) with | .func (.func g) first captured => some (Out.defer { target := .fn (.func g) captured, args := first ++ (#[] : Array Operand).map (AX.ev _) }, h1) | _ => none) = _
     rw [hev]; simp
    simp only [Bool.not_true, Bool.false_eq_true, if_false, e2, e3, Option.isSome_none]
    rfl
   show zbm P (run P K 0) _ _ [0, 1] _ = _
   simp only [zbm, List.getElem?_toArray, List.getElem?_cons_zero, List.getElem?_cons_succ]
   have w1 : zaX #[⟨some a, .makeFunc (.func g0) #[] ca, ty, pos, af, none⟩, ⟨none, .defer ⟨.value (.tmp a), #[], ts⟩, ty', pos', af', none⟩] tm1 ⟨some a, .makeFunc (.func g0) #[] ca, ty, pos, af, none⟩ = true := rfl
   have w2 : ∀ tm, zaX #[⟨some a, .makeFunc (.func g0) #[] ca, ty, pos, af, none⟩, ⟨none, .defer ⟨.value (.tmp a), #[], ts⟩, ty', pos', af', none⟩] tm ⟨none, .defer ⟨.value (.tmp a), #[], ts⟩, ty', pos', af', none⟩ = true := fun _ => rfl
   simp only [w1, w2, if_true, hs1, hs2]
   rfl
  obtain ⟨j2, hj2⟩ := c2 rfl e2 ⟨tm2, D, .run, h2⟩ (max 1 m + 1) (by
   rw [hc, zaE]
   simp only [za3]
   rw [(zap P K (Nat.le_max_left 1 m)).code _ _ _ _ hreg]
   exact (zap P K (Nat.le_max_right 1 m)).code _ _ _ _ hr2)
  refine ⟨max j j2 + 1, resV ws, h3, ?_, hg⟩
  show zb8 P K (run P K (max j j2)) f args false .run h = _
  unfold zb8
  simp only [Bool.false_eq_true, if_false, hk, hf, hb, hN]
  rw [(zap P K (Nat.le_max_right j j2)).code _ _ _ _ hj2]
  have hl : zaA P (run P K (max j j2)) fn tm2 D u h2 = some (.ret (resV ws), h3) := by
   have hir : zju u = false := by cases e2 <;> cases hmo <;> rfl
   show zaA P (run P K (max j j2)) fn tm2 [{ target := .fn (.func g0) vs.toArray, args := #[] }] u h2 = _
   simp only [zaA, hir, Bool.false_eq_true, if_false]
   rw [show (#[] : Array Value) ++ vs.toArray = vs.toArray from by simp, zdL hen]
   have hl0 : zaA P (run P K (max j j2)) fn tm2 [] .returning h3 = some (.ret (resV ws), h3) := by
    simp only [zaA, zby, ze2 hE3 hres, Option.map_some]
    rfl
   simp only [(zap P K (Nat.le_max_left j j2)).call _ _ _ _ _ _ hj, hset]
   exact hl0
  cases e2 with
  | normal => cases hmo; simp only [hl, Option.map_some]
  | ret => cases hmo; simp only [hl, Option.map_some]
  | panic ch => cases hmo; simp only [hl, Option.map_some]
  | exit j => cases hmo
theorem neqB_op {P : Program} {tm : Array Value} {o : Oper} {t yt : TypeId} {x y : Operand} {p q : Bool} (ho : o.op = .binOp .neq t x y yt) (hx : AX.ev tm x = .bool p) (hy : AX.ev tm y = .bool q)
  (hpe : pe P (do eqGuard .neq t x y (.bool p) (.bool q); binOp .neq t (.bool p) (.bool q)) = some (.bool (p != q))) : zav P tm o = some (.bool (p != q)) := by
 have hp : (zaR o && o.op.operands.toList.all fun x => plain deep (AX.ev tm x)) = true := by
  simp [zaR, ho, Op.operands, hx, hy, plain, deep]
 unfold zav
 rw [if_pos hp]
 have he : execOp (AX.ev tm) o = Sem.bind (do eqGuard .neq t x y (AX.ev tm x) (AX.ev tm y); binOp .neq t (AX.ev tm x) (AX.ev tm y)) fun v => .pure (Next.value v) := by
  unfold execOp; rw [ho]; rfl
 rw [he, hx, hy]
 rw [(zau hpe).trans rfl]
 rfl
theorem P_neqB {t yt : TypeId} {a b : Operand} {p q : Bool} (hN : Nat.blt d N = true) (hg : gval ops E g = some true) (hk : zah P ⟨some d, .binOp .neq t a b yt, ty, pos, af, g⟩ = true) (ha : E.ev a = some (.bool p)) (hb : E.ev b = some (.bool q))
  (hpe : pe P (do eqGuard .neq t a b (.bool p) (.bool q); binOp .neq t (.bool p) (.bool q)) = some (.bool (p != q)))
  (k : R1 P K x N ops F (i + 1) ((d, .bool (p != q)) :: E) h) : R2 P K x N ops F i ⟨some d, .binOp .neq t a b yt, ty, pos, af, g⟩ E h :=
 ⟨fun ho => zaO ho rfl hN hg hk (fun tm hE => by
  have := neqB_op (P := P) (tm := tm) (o := ⟨some d, .binOp .neq t a b yt, ty, pos, af, g⟩) rfl (hE.ev ha) (hE.ev hb) hpe
  show (match zav P tm ⟨some d, .binOp .neq t a b yt, ty, pos, af, g⟩ with | some v => some (v, h) | none => _) = _
  rw [this]) k.out⟩
variable {Hs : List Heap} {L : List Heap -> Prop} {nw : List (Nat × Nat × Blk)}
section
variable {P : Program} {K : Known} {x : Ctx} {N : Nat} {E : Env} {h : Heap} {ops : Array Oper} {F : Ex -> Env -> Heap -> Prop} {i : Nat}
variable {d : Nat} {ty : TypeId} {pos : String} {af : Array Edge} {g : Option (Nat × Bool)}
theorem neg_op {P : Program} {tm : Array Value} {o : Oper} {t : TypeId} {a : Operand} {n : Int} (ho : o.op = .unOp .neg t a) (ha : ev tm a = .int .i64 n) : zav P tm o = some (.int .i64 (w64 (0 - n))) := by
 have hp : (zaR o && o.op.operands.toList.all fun x => plain deep (ev tm x)) = true := by
  simp [zaR, ho, Op.operands, ha, plain, deep]
 unfold zav
 rw [if_pos hp]
 have he : pe P (execOp (ev tm) o) = some (.value (.int .i64 (w64 (0 - n)))) := by
  unfold execOp; rw [ho]; simp only [ha]; rfl
 rw [he]; rfl
theorem P_neg {t : TypeId} {a : Operand} {n : Int} (hN : Nat.blt d N = true) (hg : gval ops E g = some true) (hk : zah P ⟨some d, .unOp .neg t a, ty, pos, af, g⟩ = true)
  (ha : E.ev a = some (.int .i64 n)) (hf : fit (0 - n)) (k : R1 P K x N ops F (i + 1) ((d, .int .i64 (0 - n)) :: E) h) : R2 P K x N ops F i ⟨some d, .unOp .neg t a, ty, pos, af, g⟩ E h :=
 ⟨fun ho => zaO ho rfl hN hg hk (fun tm hE => by
  show (zav P tm ⟨some d, .unOp .neg t a, ty, pos, af, g⟩).map (fun v => (v, h)) = _
  rw [neg_op rfl (hE.ev ha), show w64 (0 - n) = 0 - n from zc4 hf]; rfl) k.out⟩
end
end
end Go.AX

namespace Go.AX
def RoundW (P : Program) (K : Known) (l : Nat) (args : Array Value) (h : Heap) (G : Value -> Heap -> Prop) : Prop :=
 ∃ n v h1, (run P K n).round l args h = some (.ret v, h1) /\ G v h1
theorem RoundW.mono {P : Program} {K : Known} {l : Nat} {args : Array Value} {h : Heap} {G G' : Value -> Heap -> Prop} (c : RoundW P K l args h G) (k : ∀ v h1, G v h1 -> G' v h1) : RoundW P K l args h G' := by
 obtain ⟨n, v, h1, a, b⟩ := c
 exact ⟨n, v, h1, a, k _ _ b⟩
section
variable {P : Program} {K : Known} {x : Ctx} {N : Nat} {E : Env} {h : Heap} {Q : Ex -> Env -> Heap -> Prop} {ks : List Kt}
variable {ops : Array Oper} {F : Ex -> Env -> Heap -> Prop} {i : Nat} {Hs : List Heap} {L : List Heap -> Prop} {nw : List (Nat × Nat × Blk)}
variable {d : Nat} {ty : TypeId} {pos : String} {af : Array Edge} {g : Option (Nat × Bool)}
theorem do_yield {fo : Operand} {args : Array Operand} {ts : Array TypeId} {l : Nat} {vs : List Value} {dd : Option Tmp} {G : Value -> Heap -> Prop} (hk : zah P ⟨dd, .call ⟨.value fo, args, ts⟩, ty, pos, af, g⟩ = true)
  (hf : E.ev fo = some (.func (.yield l) #[] #[])) (hargs : E.evs args.toList = some vs) (hc : RoundW P K l vs.toArray h G) (tm : Array Value) (D : List Deferred) (U : FrameMode) (hE : EnvOK N E tm) :
  ∃ n v h1, doOp P (run P K n) x ⟨tm, D, U, h⟩ ⟨dd, .call ⟨.value fo, args, ts⟩, ty, pos, af, g⟩ = some (.val v, ⟨tm, D, U, h1⟩) /\ G v h1 := by
 obtain ⟨n, v, h1, hr, hv⟩ := hc
 refine ⟨n, v, h1, ?_, hv⟩
 have e1 : args.map (ev tm) = vs.toArray := by
  apply Array.ext'
  rw [Array.toList_map, hE.evs hargs]
 unfold doOp
 rw [hk]
 have e2 : zae P tm h ⟨dd, .call ⟨.value fo, args, ts⟩, ty, pos, af, g⟩ = none := rfl
 have e3 : zaZ P tm h ⟨dd, .call ⟨.value fo, args, ts⟩, ty, pos, af, g⟩ = some (.round l vs.toArray, h) := by
  show (zaN P (ev tm fo) (args.map (ev tm))).map (fun r => (r, h)) = _
  rw [hE.ev hf, e1]
  simp only [zaN, Option.map_some]
  congr 3
  simp
 simp only [Bool.not_true, Bool.false_eq_true, if_false, e2, e3, hr]
 rfl
theorem P_yield {fo : Operand} {args : Array Operand} {ts : Array TypeId} {l : Nat} {vs : List Value} {G : Value -> Heap -> Prop} (hN : Nat.blt d N = true) (hg : gval ops E g = some true) (hk : zah P ⟨some d, .call ⟨.value fo, args, ts⟩, ty, pos, af, g⟩ = true)
  (hf : E.ev fo = some (.func (.yield l) #[] #[])) (hargs : E.evs args.toList = some vs) (hc : RoundW P K l vs.toArray h G) (k : ∀ v h1, G v h1 -> R1 P K x N ops F (i + 1) ((d, v) :: E) h1) : R2 P K x N ops F i ⟨some d, .call ⟨.value fo, args, ts⟩, ty, pos, af, g⟩ E h :=
 ⟨fun ho => O_op ho rfl hN hg (do_yield hk hf hargs hc) fun v h1 q => (k v h1 q).out⟩
theorem zfg {g0 : FuncId} {fs ca : Array Operand} {vs : List Value} (hN : Nat.blt d N = true) (hg : gval ops E g = some true) (hk : zah P ⟨some d, .makeFunc (.func g0) fs ca, ty, pos, af, g⟩ = true)
  (hfs : fs.toList = []) (hvs : E.evs ca.toList = some vs) (k : R1 P K x N ops F (i + 1) ((d, .func (.func g0) #[] vs.toArray) :: E) h) : R2 P K x N ops F i ⟨some d, .makeFunc (.func g0) fs ca, ty, pos, af, g⟩ E h :=
 ⟨fun ho => zaO ho rfl hN hg hk (fun tm hE => by
  have h1 : fs = #[] := Array.ext' hfs
  have h2 : ca.map (ev tm) = vs.toArray := by
   apply Array.ext'
   rw [Array.toList_map, hE.evs hvs]
  show some (Value.func (.func g0) (fs.map (ev tm)) (ca.map (ev tm)), h) = _
  rw [h1, h2]; simp) k.out⟩
theorem EnvOK.param {tm : Array Value} (hE : EnvOK N E tm) {t : Tmp} {v : Value} (ht : Nat.blt t N = true) : EnvOK N ((t, v) :: E) ((#[t].zip #[v]).foldl (fun tm (t, a) => tm.setIfInBounds t a) tm) := by
 have : (#[t].zip #[v]).foldl (fun tm (t, a) => tm.setIfInBounds t a) tm = AX.put tm (some t) v := by simp [AX.put]
 rw [this]
 exact hE.put (zbE ht) v
def ready (fn : FuncId) (tm : Array Value) (params : Array Tmp) (asg body : Code) (df : Nat) : Loop := { state := .ready, pending := none, fn, tmps := tm, params, assign := asg, body, defers := df }
theorem RoundW.of_body {l df : Nat} {args : Array Value} {fn : FuncId} {tm : Array Value} {params : Array Tmp} {asg c : Code} {G : Heap -> Prop} {E0 : Env}
  (hl : h.get? l = some (.obj (.loop (ready fn tm params asg c df)))) (hsz : args.size = params.size) (hE : EnvOK N E0 ((params.zip args).foldl (fun tm (t, a) => tm.setIfInBounds t a) tm))
  (H : K1 P K { fn, round := some l, dfr := false } N (fun e E1 h1 => e = .normal /\ h1.get? l = some (.obj (.loop (ready fn tm params asg c df))) /\
   K1 P K { fn, round := some l, dfr := false } N (fun e _ h2 => e = .normal /\ h2.get? l = some (.obj (.loop { ready fn tm params asg c df with state := .busy })) /\ G (h2.set l (.obj (.loop (ready fn tm params asg c df))))) c [] E1 (h1.set l (.obj (.loop { ready fn tm params asg c df with state := .busy })))) asg [] E0 h) : RoundW P K l args h (fun v h1 => v = .bool true /\ G h1) := by
 obtain ⟨n0, e0, tm0, h0, E1, hr0, hE1, rfl, hl0, HB⟩ := H.out _ [] .run hE
 obtain ⟨n, e, tm1, h1, E2, hr, _, rfl, hl1, hG⟩ := HB.out _ [] .run hE1
 refine ⟨max n0 n + 1, .bool true, _, ?_, rfl, hG⟩
 show zcg P (run P K (max n0 n)) l args h = _
 have q0 : zbI h l = some (ready fn tm params asg c df) := by unfold zbI; rw [hl]
 have q1 : zbI h0 l = some (ready fn tm params asg c df) := by unfold zbI; rw [hl0]
 have q2 : zbI h1 l = some { ready fn tm params asg c df with state := .busy } := by unfold zbI; rw [hl1]
 have ea := (zap P K (Nat.le_max_left n0 n)).code _ _ _ _ hr0
 have er := (zap P K (Nat.le_max_right n0 n)).code _ _ _ _ hr
 unfold zcg
 rw [q0]
 simp only
 rw [if_neg (by simpa [ready] using hsz)]
 show (match (run P K (max n0 n)).code { fn, round := some l, dfr := false } asg ⟨(params.zip args).foldl (fun tm (t, a) => tm.setIfInBounds t a) tm, [], .run, h⟩ with
  | some (.normal, s) => _
  | _ => none) = _
 rw [ea]
 simp only [q1]
 rw [if_pos (by rfl)]
 show (match (run P K (max n0 n)).code { fn, round := some l, dfr := false } c ⟨tm0, [], .run, h0.set l (.obj (.loop { ready fn tm params asg c df with state := .busy }))⟩ with
  | some (.normal, s) => _
  | some (.ret, s) => _
  | some (.exit id, s) => _
  | some (.panic c, s) => _
  | none => none) = _
 rw [er]
 simp only [zbb, q2]
 rfl
def sq : Code -> Code -> Code
 | .seq a b, c => sq a (sq b c)
 | a, c => .seq a c
theorem zfE {a b : Code} {s : St} {r : Ex × St} {n : Nat} (h : (run P K n).code x (.seq a b) s = some r) :
  (∃ m s1, (run P K m).code x a s = some (.normal, s1) /\ (run P K m).code x b s1 = some r) \/ (r.1 ≠ .normal /\ ∃ m, (run P K m).code x a s = some r) := by
 cases n with
 | zero => cases h
 | succ n =>
  rw [zaE] at h
  simp only [za3] at h
  split at h
  ·rename_i s1 h1
   exact .inl ⟨n, s1, h1, h⟩
  ·rename_i hne
   refine .inr ⟨fun q => ?_, n, h⟩
   obtain ⟨e, s1⟩ := r
   simp only at q
   subst q
   exact hne s1 h
theorem zeT {a b : Code} {s s1 : St} {r : Ex × St} {n m : Nat} (h1 : (run P K n).code x a s = some (.normal, s1)) (h2 : (run P K m).code x b s1 = some r) : ∃ q, (run P K q).code x (.seq a b) s = some r := by
 refine ⟨max n m + 1, ?_⟩
 rw [zaE]
 simp only [za3]
 rw [(zap P K (Nat.le_max_left n m)).code _ _ _ _ h1]
 exact (zap P K (Nat.le_max_right n m)).code _ _ _ _ h2
theorem zdP {a b : Code} {s : St} {r : Ex × St} {n : Nat} (hr : r.1 ≠ .normal) (h1 : (run P K n).code x a s = some r) : ∃ q, (run P K q).code x (.seq a b) s = some r := by
 refine ⟨n + 1, ?_⟩
 rw [zaE]
 simp only [za3]
 rw [h1]
 obtain ⟨e, s1⟩ := r
 cases e <;> first | rfl | exact absurd rfl hr
theorem run_sq : ∀ (a c : Code) (s : St) (r : Ex × St) (n : Nat), (run P K n).code x (sq a c) s = some r -> ∃ m, (run P K m).code x (.seq a c) s = some r := by
 intro a
 induction a with
 | seq a b iha ihb =>
  intro c s r n h
  obtain ⟨m, hm⟩ := iha _ _ _ _ h
  rcases zfE hm with ⟨k, s1, h1, h2⟩ | ⟨hne, k, h1⟩
  ·obtain ⟨k2, h3⟩ := ihb _ _ _ _ h2
   rcases zfE h3 with ⟨k3, s2, h4, h5⟩ | ⟨hne, k3, h4⟩
   ·obtain ⟨q, hq⟩ := zeT h1 h4
    exact zeT hq h5
   ·obtain ⟨q, hq⟩ := zeT h1 h4
    exact zdP hne hq
  ·obtain ⟨q, hq⟩ := zdP (b := b) hne h1
   exact zdP hne hq
 | _ => intro c s r n h; exact ⟨n, h⟩
theorem zlS {c : Code} {s : St} {r : Ex × St} {n : Nat} (h : (run P K n).code x (sq c .skip) s = some r) : ∃ m, (run P K m).code x c s = some r := by
 obtain ⟨m, hm⟩ := run_sq _ _ _ _ _ h
 rcases zfE hm with ⟨k, s1, h1, h2⟩ | ⟨hne, k, h1⟩
 ·cases k with
  | zero => cases h2
  | succ k =>
   rw [zaE] at h2
   simp only [za3] at h2
   cases h2
   exact ⟨_, h1⟩
 ·exact ⟨k, h1⟩
end
def After {α : Type} (I : α -> (Nat -> Prop) -> Heap -> Prop) (s : α) (C : Nat -> Prop) (h h1 : Heap) : Prop :=
 ∃ C', I s C' h1 /\ (∀ b, C' b -> C b \/ h.n <= b) /\ (∀ b x, ¬ C b -> h.get? b = some x -> h1.get? b = some x) /\ h.n <= h1.n
theorem After.join {α : Type} {I : α -> (Nat -> Prop) -> Heap -> Prop} {t : α} {C C1 : Nat -> Prop} {h h1 h2 : Heap} (m1 : ∀ b, C1 b -> C b \/ h.n <= b) (k1 : ∀ b x, ¬ C b -> h.get? b = some x -> h1.get? b = some x) (n1 : h.n <= h1.n) (a : After I t C1 h1 h2) : After I t C h h2 := by
 obtain ⟨C2, i2, m2, k2, n2⟩ := a
 refine ⟨C2, i2, fun b q => ?_, fun b x q g => ?_, Nat.le_trans n1 n2⟩
 ·rcases m2 b q with q | q
  ·exact m1 b q
  ·exact .inr (Nat.le_trans n1 q)
 ·refine k2 b x (fun q' => ?_) (k1 b x q g)
  rcases m1 b q' with q' | q'
  ·exact q q'
  ·have := Heap.get_lt g; omega
structure Consumer (P : Program) (K : Known) (l : Nat) {α : Type} (Val : α -> Value -> Heap -> Prop) (all : List α) (X : Nat -> Prop) (h0 : Heap) (I : List α -> (Nat -> Prop) -> Heap -> Prop) : Prop where
 stable : ∀ seen C h h', I seen C h -> (∀ b x, C b -> h.get? b = some x -> h'.get? b = some x) -> h.n <= h'.n -> I seen C h'
 below : ∀ seen C h, I seen C h -> ∀ b, C b -> b < h.n
 round : ∀ seen a C h v, (∃ rest, seen ++ a :: rest = all) -> Val a v h -> I seen C h -> h0.n <= h.n -> (∀ b x, X b -> h0.get? b = some x -> h.get? b = some x) -> RoundW P K l #[v] h (fun r h1 => r = .bool true /\ After I (seen ++ [a]) C h h1)
def Iter (P : Program) (K : Known) (g : FuncId) (fi ca : Array Value) (h0 : Heap) {α : Type} (Val : α -> Value -> Heap -> Prop) (all : List α) (X : Nat -> Prop) : Prop :=
 (∀ b, X b -> b < h0.n) /\ ∀ (h : Heap) (l : Nat) (I : List α -> (Nat -> Prop) -> Heap -> Prop) (C : Nat -> Prop), h0.n <= h.n -> l < h.n -> (∀ b x, X b -> h0.get? b = some x -> h.get? b = some x) -> Consumer P K l Val all X h I -> I [] C h -> (∀ b, X b -> ¬ C b) -> CallW P K g (fi ++ #[.func (.yield l) #[] #[]] ++ ca) h (fun _ h1 => After I all C h h1)
theorem Iter.ext {P : Program} {K : Known} {g : FuncId} {fi ca : Array Value} {h0 h1 : Heap} {α : Type} {Val : α -> Value -> Heap -> Prop} {all : List α} {X : Nat -> Prop} (hi : Iter P K g fi ca h0 Val all X) (hx : ∀ b x, X b -> h0.get? b = some x -> h1.get? b = some x) (hn : h0.n <= h1.n) : Iter P K g fi ca h1 Val all X :=
 ⟨fun b q => Nat.lt_of_lt_of_le (hi.1 b q) hn, fun h l I C hn' hl hk hc h' hX => hi.2 h l I C (Nat.le_trans hn hn') hl (fun b x q g => hk b x q (hx b x q g)) hc h' hX⟩
theorem Iter.loop {P : Program} {K : Known} {g : FuncId} {fi ca : Array Value} {h0 hb : Heap} {α : Type} {Val : α -> Value -> Heap -> Prop} {all : List α} {X : Nat -> Prop} (hi : Iter P K g fi ca h0 Val all X) (hx : ∀ b x, X b -> h0.get? b = some x -> hb.get? b = some x) (hn : h0.n <= hb.n) {l : Nat} (hlb : l < hb.n)
  (J : List α -> (Nat -> Prop) -> Heap -> Prop) (C : Nat -> Prop)
  (stable : ∀ seen C h h', J seen C h -> (∀ b x, C b -> h.get? b = some x -> h'.get? b = some x) -> h.n <= h'.n -> J seen C h')
  (below : ∀ seen C h, J seen C h -> ∀ b, C b -> b < h.n)
  (hJ : J [] C hb) (hX : ∀ b, X b -> ¬ C b)
  (round : ∀ seen a C1 h v, (∃ rest, seen ++ a :: rest = all) -> Val a v h -> J seen C1 h -> (∀ b, C1 b -> C b \/ hb.n <= b) -> (∀ b x, ¬ C b -> hb.get? b = some x -> h.get? b = some x) -> hb.n <= h.n -> RoundW P K l #[v] h (fun r h1 => r = .bool true /\ After J (seen ++ [a]) C1 h h1)) :
  CallW P K g (fi ++ #[.func (.yield l) #[] #[]] ++ ca) hb (fun _ h1 => After J all C hb h1) := by
 let I : List α -> (Nat -> Prop) -> Heap -> Prop := fun seen D h => ∃ C1, J seen C1 h /\ (∀ b, C1 b -> D b) /\ (∀ b, C1 b -> C b \/ hb.n <= b) /\ (∀ b x, ¬ C b -> ¬ X b -> hb.get? b = some x -> h.get? b = some x) /\ (∀ b, b < hb.n -> ¬ X b -> D b) /\ (∀ b, D b -> b < h.n) /\ (∀ b, X b -> ¬ D b)
 have hXn : ∀ b, X b -> b < hb.n := fun b q => Nat.lt_of_lt_of_le (hi.1 b q) hn
 have hcons : Consumer P K l Val all X hb I := by
  refine ⟨?_, ?_, ?_⟩
  ·rintro seen D h h' ⟨C1, j, s1, s2, s3, s4, s5, s6⟩ hk hnn
   exact ⟨C1, stable _ _ _ _ j (fun b x q => hk b x (s1 b q)) hnn, s1, s2, fun b x q r e => hk b x (s4 b (Heap.get_lt e) r) (s3 b x q r e), s4, fun b q => Nat.lt_of_lt_of_le (s5 b q) hnn, s6⟩
  ·rintro seen D h ⟨C1, j, s1, s2, s3, s4, s5, s6⟩
   exact s5
  ·rintro seen a D h v hp hv ⟨C1, j, s1, s2, s3, s4, s5, s6⟩ hbn hkX
   refine (round seen a C1 h v hp hv j s2 (fun b x q e => ?_) hbn).mono ?_
   ·by_cases hXb : X b
    ·exact hkX b x hXb e
    ·exact s3 b x q hXb e
   ·rintro r h1 ⟨rfl, C2, j2, m2, k2, n2⟩
    refine ⟨rfl, fun b => D b \/ (h.n <= b /\ b < h1.n), ⟨C2, j2, fun b q => ?_, fun b q => ?_, fun b x q r e => ?_, fun b q r => Or.inl (s4 b q r), fun b q => ?_, fun b q r => ?_⟩, fun b q => ?_, fun b x q e => ?_, n2⟩
    ·rcases m2 b q with q' | q'
     ·exact Or.inl (s1 b q')
     ·exact Or.inr ⟨q', below _ _ _ j2 b q⟩
    ·rcases m2 b q with q' | q'
     ·exact s2 b q'
     ·exact .inr (Nat.le_trans hbn q')
    ·refine k2 b x (fun q' => ?_) (s3 b x q r e)
     rcases s2 b q' with q' | q'
     ·exact q q'
     ·have := Heap.get_lt e; omega
    ·rcases q with q | q
     ·exact Nat.lt_of_lt_of_le (s5 b q) n2
     ·exact q.2
    ·rcases r with r | r
     ·exact s6 b q r
     ·have := hXn b q; omega
    ·rcases q with q | q
     ·exact Or.inl q
     ·exact Or.inr q.1
    ·exact k2 b x (fun q' => q (s1 b q')) e
 refine (hi.2 hb l I (fun b => b < hb.n /\ ¬ X b) hn hlb hx hcons ⟨C, hJ, fun b q => ⟨below _ _ _ hJ b q, fun r => hX b r q⟩, fun b q => .inl q, fun b x _ _ e => e, fun b q r => ⟨q, r⟩, fun b q => q.1, fun b q r => r.2 q⟩ (fun b q r => r.2 q)).mono ?_
 rintro r h1 ⟨D, ⟨C1, j, s1, s2, s3, s4, s5, s6⟩, m, k, n1⟩
 refine ⟨C1, j, s2, fun b x q e => ?_, n1⟩
 by_cases hXb : X b
 ·exact k b x (fun r => r.2 hXb) e
 ·exact s3 b x q hXb e
end Go.AX

namespace Go.AX
section
variable {P : Program} {K : Known} {x : Ctx} {N : Nat} {E : Env} {h : Heap} {ops : Array Oper} {F : Ex -> Env -> Heap -> Prop} {i : Nat}
variable {d : Nat} {ty : TypeId} {pos : String} {af : Array Edge} {g : Option (Nat × Bool)}
end
section
variable {P : Program} {K : Known} {x : Ctx} {N : Nat} {E : Env} {h : Heap} {ops : Array Oper} {F F' : Ex -> Env -> Heap -> Prop} {i : Nat} {Hs : List Heap} {L : List Heap -> Prop} {nw : List (Nat × Nat × Blk)}
variable {d : Nat} {ty : TypeId} {pos : String} {af : Array Edge} {g : Option (Nat × Bool)}
theorem M_max {args : Array Operand} {ts : Array TypeId} {a b : Operand} {m n : Int} (hN : Nat.blt d N = true) (hg : gval ops E g = some true) (hk : zah P ⟨some d, .call ⟨.builtin .max, args, ts⟩, ty, pos, af, g⟩ = true)
  (hargs : args.toList = [a, b]) (ha : E.ev a = some (.int .i64 m)) (hb : E.ev b = some (.int .i64 n)) (k : S1 P K x N ops F (i + 1) ((d, .int .i64 (max m n)) :: E) h Hs L nw) : S2 P K x N ops F i ⟨some d, .call ⟨.builtin .max, args, ts⟩, ty, pos, af, g⟩ E h Hs L nw :=
 ⟨fun ho => zcF ho rfl hN hg hk rfl rfl (fun tm hE => by
  show (zav P tm ⟨some d, .call ⟨.builtin .max, args, ts⟩, ty, pos, af, g⟩).map (fun v => (v, h)) = _
  rw [mm_op (mx := true) rfl hargs (hE.ev ha) (hE.ev hb)]
  simp only [mmV, cond_true, Option.map_some]
  congr 3
  rw [Int.max_def]; split <;> split <;> omega) k.out⟩
theorem zpY {t e : TypeId} {ps : Array (Nat × Operand)} {a : Operand} {p q : Int} (hN : Nat.blt d N = true) (hg : gval ops E g = some true) (hk : zah P ⟨some d, .buildSlice t 1 ps, ty, pos, af, g⟩ = true) (hps : ps.toList = [(0, a)])
  (ha : E.ev a = some (.agg #[.int .i64 p, .int .i64 q])) (hc : cell2 P t = some e) (k : R1 P K x N ops F' (i + 1) ((d, .slice (some ⟨h.n, 0, none⟩) 1 1) :: E) (h.push (.cells (zas [(p, q)]) e true))) : R2 P K x N ops F' i ⟨some d, .buildSlice t 1 ps, ty, pos, af, g⟩ E h :=
 ⟨fun ho => zaO ho rfl hN hg hk (fun tm hE => by
  show zaK P h t 1 (ps.toList.map fun (i, x) => (i, ev tm x)) = _
  rw [hps]; simp only [List.map_cons, List.map_nil, hE.ev ha]; exact build1S (p := (p, q)) hc) k.out⟩
theorem P_appS {args : Array Operand} {ts : Array TypeId} {t t' e e' : TypeId} {a b : Operand} {by_ cap : Nat} {e0 : TypeId} {own : Bool} {p : Int × Int} {v : Value} {l : List (Int × Int)} {h0 : Heap} (hN : Nat.blt d N = true) (hg : gval ops E g = some true) (hk : zah P ⟨some d, .call ⟨.builtin .append, args, ts⟩, ty, pos, af, g⟩ = true) (hargs : args.toList = [a, b])
  (ha : E.ev a = some v) (hb : E.ev b = some (.slice (some ⟨by_, 0, none⟩) 1 cap)) (h0' : ts[0]? = some t) (h1' : ts[1]? = some t') (hc : cell2 P t = some e) (hc' : P.underlying t' = some (.slice e'))
  (hy : h.get? by_ = some (.cells (zas [p]) e0 own)) (ho : OutS e h0 h v l) (hx : Ext h0 h) (hle : l.length <= 10000)
  (k : ∀ v' h1, OutS e h0 h1 v' (l ++ [p]) -> Ext h0 h1 -> R1 P K x N ops F' (i + 1) ((d, v') :: E) h1) : R2 P K x N ops F' i ⟨some d, .call ⟨.builtin .append, args, ts⟩, ty, pos, af, g⟩ E h := by
 rcases ho with ⟨rfl, rfl⟩ | ⟨hl, b', rfl, h2, h3⟩
 ·exact zdu hN hg hk hargs ha hb (app_nilS h0' h1' hc hc' hy) (k _ _ (.inr ⟨by simp, h.n, rfl, zaa, hx.n⟩) (hx.push _))
 ·refine zdu hN hg hk hargs ha hb (app_unkS h0' h1' hc hc' hy (by omega) h2) (k _ _ (.inr ⟨by simp, h.n, ?_, ?_, hx.n⟩) ((hx.set h3 h2 .dead).push _))
  ·simp
  ·have : (h.set b' .dead).n = h.n := rfl
   rw [<- this]
   exact zaa
end
end Go.AX

namespace Go.AX
def jumpOf : Ex -> Option (Option Code)
 | .normal => some none
 | .ret => some (some .ret)
 | .exit i => some (some (.exit i))
 | .panic _ => none
def left (r : Loop) (pd : Option Code) : Loop := { r with state := if pd.isNone then .ready else .done, pending := pd }
theorem zdI {r : Loop} {fn : FuncId} {tm : Array Value} {params : Array Tmp} {asg body : Code} {df : Nat} (h : r = ready fn tm params asg body df) : left r none = r := by subst h; rfl
theorem Ext.keep1 {h h1 h2 : Heap} {l : Nat} (x : Ext h h1) (k : ∀ b' y, b' ≠ l -> h1.get? b' = some y -> h2.get? b' = some y) (hl : h.n <= l) (hn : h1.n <= h2.n) : Ext h h2 :=
 ⟨Nat.le_trans x.n hn, fun c y g => k c y (by have := Heap.get_lt g; omega) (x.get g)⟩
section
variable {P : Program} {K : Known} {x : Ctx} {N : Nat} {E : Env} {h : Heap}
theorem ziU {r : Loop} {l df : Nat} {args : Array Value} {fn : FuncId} {tm : Array Value} {params : Array Tmp} {asg c : Code} {G : Value -> Heap -> Prop} {E0 : Env}
  (hl : h.get? l = some (.obj (.loop r))) (hrd : r = ready fn tm params asg c df) (hsz : args.size = params.size) (hE : EnvOK N E0 ((params.zip args).foldl (fun tm (t, a) => tm.setIfInBounds t a) tm))
  (H : K1 P K { fn, round := some l, dfr := false } N (fun e E1 h1 => e = .normal /\ h1.get? l = some (.obj (.loop r)) /\
   ∀ B hs, hs.get? l = some B -> (∀ b x, b ≠ l -> h1.get? b = some x -> hs.get? b = some x) -> hs.n = h1.n ->
   K1 P K { fn, round := some l, dfr := false } N (fun e _ h2 => h2.get? l = some B /\ ∃ pd, jumpOf e = some pd /\
    ∀ hf, hf.get? l = some (.obj (.loop (left r pd))) -> (∀ b x, b ≠ l -> h2.get? b = some x -> hf.get? b = some x) -> hf.n = h2.n -> G (.bool pd.isNone) hf) c [] E1 hs) asg [] E0 h) : RoundW P K l args h G := by
 subst hrd
 obtain ⟨n0, e0, tm0, h0, E1, hr0, hE1, rfl, hl0, HB⟩ := H.out _ [] .run hE
 obtain ⟨n, e, tm1, h1, E2, hr, _, hl1, pd, hp, hG⟩ := (HB (.obj (.loop { ready fn tm params asg c df with state := .busy })) _ (zbJ hl0) (fun b x q g => zaV hl0 q g) rfl).out _ [] .run hE1
 refine ⟨max n0 n + 1, .bool pd.isNone, h1.set l (.obj (.loop (left (ready fn tm params asg c df) pd))), ?_, hG _ (zbJ hl1) (fun b x q g => zaV hl1 q g) rfl⟩
 show zcg P (run P K (max n0 n)) l args h = _
 have q0 : zbI h l = some (ready fn tm params asg c df) := by unfold zbI; rw [hl]
 have q1 : zbI h0 l = some (ready fn tm params asg c df) := by unfold zbI; rw [hl0]
 have q2 : zbI h1 l = some { ready fn tm params asg c df with state := .busy } := by unfold zbI; rw [hl1]
 have ea := (zap P K (Nat.le_max_left n0 n)).code _ _ _ _ hr0
 have er := (zap P K (Nat.le_max_right n0 n)).code _ _ _ _ hr
 unfold zcg
 rw [q0]
 simp only
 rw [if_neg (by simpa [ready] using hsz)]
 show (match (run P K (max n0 n)).code { fn, round := some l, dfr := false } asg ⟨(params.zip args).foldl (fun tm (t, a) => tm.setIfInBounds t a) tm, [], .run, h⟩ with
  | some (.normal, s) => _
  | _ => none) = _
 rw [ea]
 simp only [q1]
 rw [if_pos (by rfl)]
 show (match (run P K (max n0 n)).code { fn, round := some l, dfr := false } c ⟨tm0, [], .run, h0.set l (.obj (.loop { ready fn tm params asg c df with state := .busy }))⟩ with
  | some (.normal, s) => _
  | some (.ret, s) => _
  | some (.exit id, s) => _
  | some (.panic c, s) => _
  | none => none) = _
 rw [er]
 cases e with
 | normal => cases hp; simp only [zbb, q2]; rfl
 | ret => cases hp; simp only [zbb, q2]; rfl
 | exit i => cases hp; simp only [zbb, q2]; rfl
 | panic c => cases hp
theorem zlo {f : FuncId} {args : Array Value} {fn : Func} {c : Code} (k : Nat) {G : Value -> Heap -> Prop} {rest asg bd : Code} {fo : Operand} {params : Array Tmp} {id : Nat}
  (hf : P.funcs[f]? = some fn) (hb : fn.body = some c) (hk : K f args h = none) (hN : fn.ntmps = N) (ha : Nat.ble args.size N = true)
  (hc : ziZ k (sq c .skip) = .seq (.block id (.rangeFunc fo params asg bd)) rest) (hok : opOK P fo = true)
  (H : K1 P K { fn := f, round := none, dfr := false } N (fun e E1 h1 => (e = .ret /\ ∃ vs, resE P E1 h1 fn.results.toList = some vs /\ G (resV vs) h1) \/
   (e = .normal /\ ∃ g0 fi ca, E1.ev fo = some (.func (.func g0) fi ca) /\ enters P g0 = true /\ ∀ tm l hb r, EnvOK N E1 tm -> r = ready f tm params asg bd h1.n -> l = h1.n + 1 -> Ext h1 hb -> hb.n = h1.n + 2 -> hb.get? l = some (.obj (.loop r)) -> hb.get? h1.n = some (.obj (.deferred (some []))) ->
    CallW P K g0 (fi ++ #[.func (.yield l) #[] #[]] ++ ca) hb (fun _ h2 => ∃ pd,
     h2.get? l = some (.obj (.loop (left r pd))) /\ ∀ h2', (∀ b x, b ≠ l -> h2.get? b = some x -> h2'.get? b = some x) -> h2'.n = h2.n ->
     K1 P K { fn := f, round := none, dfr := false } N (fun e E3 h3 => (e = .normal \/ e = .ret) /\ h3.get? h1.n = some (.obj (.deferred (some []))) /\ ∀ h4, (∀ b x, b ≠ h1.n -> h3.get? b = some x -> h4.get? b = some x) -> h4.n = h3.n -> ∃ ws, resE P E3 h4 fn.results.toList = some ws /\ G (resV ws) h4)
      (.seq (.block id (pd.getD .skip)) rest) [] E1 h2'))) (znm k (sq c .skip)) [] (zcB 0 args.toList) h) : CallW P K f args h G := by
 have h0 := zeR (N := N) (Nat.le_of_ble_eq_true ha)
 obtain ⟨n, e, tm1, h1, E1, hr, hE1, hq⟩ := H.out _ [] .run h0
 obtain ⟨c1, c2⟩ := zon k (sq c .skip) _ _ e n hr
 have fin : ∀ (m : Nat) (e : Ex) (tm : Array Value) (D : List Deferred) (h1 h2 : Heap) (v : Value), (run P K m).code { fn := f, round := none, dfr := false } (sq c .skip) ⟨args ++ Array.replicate (N - args.size) undef, [], .run, h⟩ = some (e, ⟨tm, D, .run, h1⟩) -> (e = .normal \/ e = .ret) -> (∀ R, zaA P R fn tm D .returning h1 = some (.ret v, h2)) -> G v h2 -> CallW P K f args h G := by
  intro m' e tm D h1 h2 v hm' he hl' hg
  obtain ⟨m, hm⟩ := zlS hm'
  have hl := hl' (run P K m)
  refine ⟨m + 1, v, h2, ?_, hg⟩
  show zb8 P K (run P K m) f args false .run h = _
  unfold zb8
  simp only [Bool.false_eq_true, if_false, hk, hf, hb, hN]
  rw [hm]
  rcases he with rfl | rfl <;> simp only [hl, Option.map_some]
 rcases hq with ⟨rfl, ws, hres, hg⟩ | ⟨rfl, g0, fi, ca, hfo, hen, HK⟩
 ·obtain ⟨m, hm⟩ := c1 (by intro q; cases q)
  refine fin m _ _ _ _ _ _ hm (.inr rfl) (fun R => ?_) hg
  simp only [zaA, zby, ze2 hE1 hres, Option.map_some]
  rfl
 ·obtain ⟨m, v, h2, hcall, pd, hl2, HR⟩ := HK tm1 (h1.n + 1) _ _ hE1 rfl rfl (((Ext.refl h1).push (.obj (.deferred (some [])))).push (.obj (.loop (ready f tm1 params asg bd h1.n)))) rfl zaa (zab zaa)
  obtain ⟨j, e3, tm3, h3, E3, hr3, hE3, he3, hd3, hG⟩ := (HR (h2.set (h1.n + 1) (.obj (.loop { left (ready f tm1 params asg bd h1.n) pd with state := .exhausted }))) (fun b x q g => zaV hl2 q g) rfl).out tm1 [{ target := .collected h1.n, args := #[] }] .run hE1
  obtain ⟨ws, hres, hg⟩ := hG (h3.set h1.n (.obj (.deferred none))) (fun b x q g => zaV hd3 q g) rfl
  have hblk : ∀ m' r, (run P K m').code { fn := f, round := none, dfr := false } (.block id (pd.getD .skip)) ⟨tm1, [{ target := .collected h1.n, args := #[] }], .run, h2.set (h1.n + 1) (.obj (.loop { left (ready f tm1 params asg bd h1.n) pd with state := .exhausted }))⟩ = some r ->
    ∃ q, (run P K q).code { fn := f, round := none, dfr := false } (.block id (.rangeFunc fo params asg bd)) ⟨tm1, [], .run, h1⟩ = some r := by
   intro m' r hm'
   cases m' with
   | zero => cases hm'
   | succ m' =>
    rw [zaE] at hm'
    simp only [za3] at hm'
    cases hi : (run P K m').code { fn := f, round := none, dfr := false } (pd.getD .skip) ⟨tm1, [{ target := .collected h1.n, args := #[] }], .run, h2.set (h1.n + 1) (.obj (.loop { left (ready f tm1 params asg bd h1.n) pd with state := .exhausted }))⟩ with
    | none => rw [hi] at hm'; cases hm'
    | some r1 =>
     have hrange : (run P K (max m m' + 1)).code { fn := f, round := none, dfr := false } (.rangeFunc fo params asg bd) ⟨tm1, [], .run, h1⟩ = some r1 := by
      rw [zaE]
      simp only [za3]
      unfold za6
      simp only [zbF]
      have hn1 : (h1.push (.obj (.deferred (some [])))).n = h1.n + 1 := rfl
      simp only [hn1, hok, Bool.not_true, Bool.false_eq_true, if_false, hE1.ev hfo, zaN, zdL hen]
      have hcall' : (run P K (max m m')).call g0 (fi ++ #[.func (.yield (h1.n + 1)) #[] #[]] ++ ca) false .run ((h1.push (.obj (.deferred (some [])))).push (.obj (.loop { state := .ready, pending := none, fn := f, tmps := tm1, params, assign := asg, body := bd, defers := h1.n }))) = some (.ret v, .run, h2) := (zap P K (Nat.le_max_left m m')).call _ _ _ _ _ _ hcall
      rw [hcall']
      have e1 : zbI h2 (h1.n + 1) = some (left (ready f tm1 params asg bd h1.n) pd) := by unfold zbI; rw [hl2]
      simp only [e1]
      have e2 : ((left (ready f tm1 params asg bd h1.n) pd).state == .busy) = false := by cases pd <;> rfl
      simp only [e2, Bool.false_eq_true, if_false]
      cases pd with
      | none =>
       cases m' with
       | zero => cases hi
       | succ m' =>
        rw [zaE] at hi
        simp only [Option.getD_none, za3] at hi
        exact hi
      | some cc => exact (zap P K (Nat.le_max_right m m')).code _ _ _ _ hi
     refine ⟨max m m' + 2, ?_⟩
     rw [zaE]
     simp only [za3]
     rw [hrange]
     rw [hi] at hm'
     exact hm'
  have hall : ∃ q, (run P K q).code { fn := f, round := none, dfr := false } (ziZ k (sq c .skip)) ⟨tm1, [], .run, h1⟩ = some (e3, ⟨tm3, [{ target := .collected h1.n, args := #[] }], .run, h3⟩) := by
   rw [hc]
   rcases zfE hr3 with ⟨m', s1, ha1, ha2⟩ | ⟨hne, m', ha1⟩
   ·obtain ⟨q, hq⟩ := hblk _ _ ha1
    exact zeT hq ha2
   ·obtain ⟨q, hq⟩ := hblk _ _ ha1
    exact zdP hne hq
  obtain ⟨q, hq'⟩ := hall
  obtain ⟨j2, hj2⟩ := c2 rfl e3 ⟨tm3, [{ target := .collected h1.n, args := #[] }], .run, h3⟩ q hq'
  refine fin j2 e3 tm3 _ h3 (h3.set h1.n (.obj (.deferred none))) (resV ws) hj2 he3 (fun R => ?_) hg
  simp only [zaA, zju, Bool.false_eq_true, if_false, hd3, zby, ze2 hE3 hres, Option.map_some]
  rfl
end
theorem OutI.keepl {e : TypeId} {h0 h h1 : Heap} {v : Value} {l : List Int} {b0 : Nat} (o : OutI e h0 h v l) (k : ∀ b x, b ≠ b0 -> h.get? b = some x -> h1.get? b = some x) (hb : b0 < h0.n) : OutI e h0 h1 v l := by
 rcases o with o | ⟨hl, b, h1, h2, h3⟩
 ·exact .inl o
 ·exact .inr ⟨hl, b, h1, k _ _ (by omega) h2, h3⟩
theorem OutI.low {e : TypeId} {h0 h0' h : Heap} {v : Value} {l : List Int} (o : OutI e h0 h v l) (hn : h0'.n <= h0.n) : OutI e h0' h v l := by
 rcases o with o | ⟨hl, b, h1, h2, h3⟩
 ·exact .inl o
 ·exact .inr ⟨hl, b, h1, h2, Nat.le_trans hn h3⟩
theorem OutI.cells {e : TypeId} {h0 h : Heap} {v : Value} {l : List Int} (o : OutI e h0 h v l) : v.cells = #[v] /\ oneB v = true := by
 rcases o with ⟨rfl, rfl⟩ | ⟨hl, b, rfl, h2, h3⟩ <;> exact ⟨rfl, rfl⟩
section
variable {P : Program} {K : Known} {x : Ctx} {N : Nat} {E : Env} {h : Heap} {ops : Array Oper} {F : Ex -> Env -> Heap -> Prop} {i : Nat}
variable {d : Nat} {ty : TypeId} {pos : String} {af : Array Edge} {g : Option (Nat × Bool)}
theorem zpZ {args : Array Operand} {ts : Array TypeId} {t t' e e' : TypeId} {a b : Operand} {by_ cap : Nat} {e0 : TypeId} {own : Bool} {n : Int} {v : Value} {l : List Int} {h0 : Heap} (hN : Nat.blt d N = true) (hg : gval ops E g = some true) (hk : zah P ⟨some d, .call ⟨.builtin .append, args, ts⟩, ty, pos, af, g⟩ = true) (hargs : args.toList = [a, b])
  (ha : E.ev a = some v) (hb : E.ev b = some (.slice (some ⟨by_, 0, none⟩) 1 cap)) (h0' : ts[0]? = some t) (h1' : ts[1]? = some t') (hc : cell1 P t = some e) (hc' : P.underlying t' = some (.slice e'))
  (hy : h.get? by_ = some (.cells [.int .i64 n] e0 own)) (ho : OutI e h0 h v l) (hx : h0.n <= h.n) (hle : l.length <= 10000)
  (k : ∀ v' h1, OutI e h0 h1 v' (l ++ [n]) -> KeepB h0.n (.cells (ints l) e true) h h1 -> R1 P K x N ops F (i + 1) ((d, v') :: E) h1) : R2 P K x N ops F i ⟨some d, .call ⟨.builtin .append, args, ts⟩, ty, pos, af, g⟩ E h := by
 rcases ho with ⟨rfl, rfl⟩ | ⟨hl, b', rfl, h2, h3⟩
 ·refine zdu hN hg hk hargs ha hb (zlv h0' h1' hc hc' hy rfl (by omega) (by omega) rfl) (k _ _ (.inr ⟨by simp, h.n, rfl, zaa, hx⟩) ⟨Nat.le_succ _, fun _ _ g _ => zab g⟩)
 ·refine zdu hN hg hk hargs ha hb (zlu h0' h1' hc hc' hy rfl (by omega) (by omega) rfl h2 (zar _)) (k _ _ (.inr ⟨by simp, h.n, ?_, ?_, hx⟩) ⟨Nat.le_succ _, fun c y q r => zab (zaV h2 (fun u => ?_) q)⟩)
  ·simp
  ·have : (h.set b' .dead).n = h.n := rfl
   rw [<- this, show ints (l ++ [n]) = ints l ++ [Value.int .i64 n] from (ints_app l [n]).symm]
   exact zaa
  ·subst u
   rw [h2] at q
   cases q
   rcases r with r | r
   ·omega
   ·exact r rfl
end
section
variable {P : Program} {K : Known} {x : Ctx} {N : Nat} {E : Env} {h : Heap} {ops : Array Oper} {F : Ex -> Env -> Heap -> Prop} {i : Nat} {Hs : List Heap} {L : List Heap -> Prop} {nw : List (Nat × Nat × Blk)}
variable {d : Nat} {ty : TypeId} {pos : String} {af : Array Edge} {g : Option (Nat × Bool)}
end
end Go.AX
