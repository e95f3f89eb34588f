/- Rules for arrays, spans, lists of lists, regions of many operations, and loops over functions. -/
import Derived.Test.YtliligceejfakaaGreatDoorAxW
import Derived.KernelRfl
import Derived.Test.YtliligceejfakaaGreatDoorAxE
namespace Go.AX
theorem zan {α β : Type} {P : Program} {s : Sem α} {k : α → Sem β} {a : α} (h : pe P s = some a) : pe P (Sem.bind s k) = pe P (k a) := by
  induction s with
  | pure b => cases h; rfl
  | program f ih => exact ih P h
  | mark m f ih => exact ih h
  | _ => cases h
def spanT (P : Program) (t : TypeId) : Bool :=
  match P.underlying t with
  | some (.struct fs) => match fs.toList with
    | [f, g] => f.name != "_" && g.name != "_" && Nat.beq f.offset 0 && Nat.beq g.offset 1 && !P.stoodInHeld t &&
      (match P.underlying f.type with | some (.int _) => true | _ => false) && (match P.underlying g.type with | some (.int _) => true | _ => false)
    | _ => false
  | _ => false
theorem zba {P : Program} {t : TypeId} {u : TypeDesc} (h : P.underlying t = some u) : pe P (underlying t) = some u := by
  unfold underlying
  show pe P (match P.underlying t with | some d => Sem.pure d | none => stuck "no such type") = _
  rw [h]; rfl
theorem zcq {P : Program} {d : Nat} {t : TypeId} {k : IntKind} {a b : Int} (h : P.underlying t = some (.int k)) : pe P (Op.equalIn (d + 1) t (.int .i64 a) (.int .i64 b)) = some (a == b) := by
  unfold Op.equalIn
  refine (zan (zba h)).trans ?_
  rfl
theorem zcg {P : Program} {t : TypeId} {k : IntKind} {cs : Array Value} {o : Nat} {v : Value} (h : P.underlying t = some (.int k)) (hv : cs[o]? = some v) : pe P (part t cs o) = some v := by
  unfold part isAgg
  refine (zan ((zan (zba h)).trans rfl)).trans ?_
  simp only [Bool.false_eq_true, if_false, hv]; rfl
theorem zkj {P : Program} {d : Nat} {t : TypeId} {a b c e : Int} (h : spanT P t = true) : pe P (Op.equalIn (d + 2) t (.agg #[.int .i64 a, .int .i64 b]) (.agg #[.int .i64 c, .int .i64 e])) = some (a == c && b == e) := by
  unfold spanT at h
  split at h
  · rename_i fs hu
    obtain ⟨l⟩ := fs
    simp only at h
    split at h
    · rename_i f g
      simp only [Bool.and_eq_true, bne_iff_ne, Bool.not_eq_true'] at h
      obtain ⟨⟨⟨⟨⟨⟨hf, hg⟩, ho⟩, ho'⟩, hs⟩, ht⟩, ht'⟩ := h
      have ho := Nat.eq_of_beq_eq_true ho
      have ho' := Nat.eq_of_beq_eq_true ho'
      split at ht
      · rename_i k hk
        split at ht'
        · rename_i k' hk'
          unfold Op.equalIn
          refine (zan (zba hu)).trans ?_
          dsimp only
          refine (zan (a := P) rfl).trans ?_
          rw [hs]
          simp only [Bool.false_eq_true, if_false]
          rw [List.forIn_toArray, List.forIn_cons]
          have p0 : pe P (part f.type #[Value.int .i64 a, Value.int .i64 b] f.offset) = some (.int .i64 a) := zcg hk (by rw [ho]; rfl)
          have p1 : pe P (part f.type #[Value.int .i64 c, Value.int .i64 e] f.offset) = some (.int .i64 c) := zcg hk (by rw [ho]; rfl)
          have q0 : pe P (part g.type #[Value.int .i64 a, Value.int .i64 b] g.offset) = some (.int .i64 b) := zcg hk' (by rw [ho']; rfl)
          have q1 : pe P (part g.type #[Value.int .i64 c, Value.int .i64 e] g.offset) = some (.int .i64 e) := zcg hk' (by rw [ho']; rfl)
          rw [if_pos hf]
          cases hac : (a == c) with
          | false =>
            refine (zan (a := (some false, ())) ?_).trans rfl
            refine (zan (a := .done (some false, ())) ?_).trans rfl
            exact (zan p0).trans ((zan p1).trans ((zan (zcq hk)).trans (by rw [hac]; rfl)))
          | true =>
            cases hbe : (b == e) with
            | false =>
              refine (zan (a := (some false, ())) ?_).trans rfl
              refine (zan (a := .yield (none, ())) ?_).trans ?_
              · exact (zan p0).trans ((zan p1).trans ((zan (zcq hk)).trans (by rw [hac]; rfl)))
              · dsimp only
                rw [List.forIn_cons, if_pos hg]
                refine (zan (a := .done (some false, ())) ?_).trans rfl
                exact (zan q0).trans ((zan q1).trans ((zan (zcq hk')).trans (by rw [hbe]; rfl)))
            | true =>
              refine (zan (a := (none, ())) ?_).trans rfl
              refine (zan (a := .yield (none, ())) ?_).trans ?_
              · exact (zan p0).trans ((zan p1).trans ((zan (zcq hk)).trans (by rw [hac]; rfl)))
              · dsimp only
                rw [List.forIn_cons, if_pos hg]
                refine (zan (a := .yield (none, ())) ?_).trans rfl
                exact (zan q0).trans ((zan q1).trans ((zan (zcq hk')).trans (by rw [hbe]; rfl)))
        · cases ht'
      · cases ht
    · cases h
  · cases h
section
variable {P : Program} {K : Known} {x : Ctx} {N : Nat} {E : Env} {h : Heap} {ops : Array Oper} {F : Ex → Env → Heap → Prop} {i : Nat} {Hs : List Heap} {L : List Heap → Prop} {nw : List (Nat × Nat × Blk)}
variable {d : Nat} {ty : TypeId} {pos : String} {af : Array Edge} {g : Option (Nat × Bool)}
theorem zhu {tm : Array Value} {t e : TypeId} {a j : Operand} {ik : IntKind} {b k len : Nat} (hE : EnvOK N E tm)
    (ha : E.ev a = some (.pointer (some ⟨b, 0, none⟩))) (hj : E.ev j = some (.int ik (k : Nat))) (hu : P.underlying t = some (.array len e)) (hs : sizeB P e = some 1) (hl : k < len) :
    simpleB P tm h ⟨some d, .indexAddr t a j, ty, pos, af, g⟩ = some (.pointer (some ⟨b, k, none⟩), h) := by
  show (indexAtB P t (ev tm a) (ev tm j)).map (fun v => (v, h)) = _
  rw [hE.ev ha, hE.ev hj]
  simp only [indexAtB, hu, hs]
  rw [if_pos ⟨by omega, by omega⟩]
  simp
theorem zlq {t e : TypeId} {a j : Operand} {ik : IntKind} {b k len : Nat} {q : Int} (hN : Nat.blt d N = true) (hg : gval ops E g = some true) (hk : opsOK P ⟨some d, .indexAddr t a j, ty, pos, af, g⟩ = true)
    (ha : E.ev a = some (.pointer (some ⟨b, 0, none⟩))) (hj : E.ev j = some (.int ik q)) (hu : P.underlying t = some (.array len e)) (hs : sizeB P e = some 1) (hq : q = (k : Nat)) (hl : k < len)
    (kk : S1 P K x N ops F (i + 1) ((d, .pointer (some ⟨b, k, none⟩)) :: E) h Hs L nw) : S2 P K x N ops F i ⟨some d, .indexAddr t a j, ty, pos, af, g⟩ E h Hs L nw := by
  subst hq
  exact ⟨fun ho => zbC ho rfl hN hg hk rfl rfl (fun _ hE => zhu hE ha hj hu hs hl) kk.out⟩
theorem M_build {t : TypeId} {ps : Array (Nat × Operand)} {vs : List (Nat × Value)} {v : Value} (hN : Nat.blt d N = true) (hg : gval ops E g = some true) (hk : opsOK P ⟨some d, .build t ps, ty, pos, af, g⟩ = true)
    (hps : E.parts ps.toList = some vs) (hb : fillB P t vs = some v) (k : S1 P K x N ops F (i + 1) ((d, v) :: E) h Hs L nw) : S2 P K x N ops F i ⟨some d, .build t ps, ty, pos, af, g⟩ E h Hs L nw :=
  ⟨fun ho => zbC ho rfl hN hg hk rfl rfl (fun tm hE => by
    show (fillB P t (ps.toList.map fun (i, x) => (i, ev tm x))).map (fun v => (v, h)) = _
    rw [hE.parts hps, hb]; rfl) k.out⟩
end
section
variable {P : Program} {K : Known} {x : Ctx} {N : Nat} {E : Env} {h : Heap} {ops : Array Oper} {F : Ex → Env → Heap → Prop} {i : Nat} {Hs : List Heap} {L : List Heap → Prop} {nw : List (Nat × Nat × Blk)}
variable {d : Nat} {ty : TypeId} {pos : String} {af : Array Edge} {g : Option (Nat × Bool)}
def early (hs : List Heap) : List Heap := hs.drop (hs.length - 2)
end
end Go.AX

namespace Go.AX
def cell2 (P : Program) (t : TypeId) : Option TypeId :=
  match P.underlying t with
  | some (.slice e) => match sizeB P e, bytesB P e, zeroB P e with
    | some 2, some by_, some (.agg ⟨[.int .i64 0, .int .i64 0]⟩) => bif Nat.ble by_ 64 then some e else none
    | _, _, _ => none
  | _ => none
section
variable {P : Program} {h : Heap}
end
def OutS (e : TypeId) (h0 h : Heap) (v : Value) (l : List (Int × Int)) : Prop :=
  (l = [] ∧ v = .slice none 0 0) ∨ (l ≠ [] ∧ ∃ b, v = .slice (some ⟨b, 0, none⟩) l.length unk ∧ h.get? b = some (.cells (spanCells l) e true) ∧ h0.n ≤ b)
def IsS (l : List (Int × Int)) (h : Heap) (v : Value) (h1 : Heap) : Prop := ∃ p cap, v = .slice p l.length cap ∧ (l = [] ∨ ∃ b, p = some ⟨b, 0, none⟩ ∧ h1.get? b = some (.cells (spanCells l) 140 true) ∧ h.n ≤ b) ∧ Ext h h1
theorem OutS.nil (e : TypeId) (h0 h : Heap) : OutS e h0 h (.slice none 0 0) [] := .inl ⟨rfl, rfl⟩
theorem OutS.ext {e : TypeId} {h0 h h1 : Heap} {v : Value} {l : List (Int × Int)} (o : OutS e h0 h v l) (x : Ext h h1) : OutS e h0 h1 v l := by
  rcases o with o | ⟨hl, b, h1, h2, h3⟩
  · exact .inl o
  · exact .inr ⟨hl, b, h1, x.get h2, h3⟩
theorem OutS.isS {h h0 h1 : Heap} {v : Value} {l : List (Int × Int)} (o : OutS 140 h0 h1 v l) (x : Ext h0 h1) (y : Ext h h0) : IsS l h v h1 := by
  rcases o with ⟨rfl, rfl⟩ | ⟨hl, b, q1, q2, q3⟩
  · exact ⟨none, 0, rfl, .inl rfl, y.trans x⟩
  · exact ⟨some ⟨b, 0, none⟩, unk, q1, .inr ⟨b, rfl, q2, Nat.le_trans y.n q3⟩, y.trans x⟩
theorem IsS.at {h h1 : Heap} {v : Value} {l : List (Int × Int)} (r : IsS l h v h1) (hp : 0 < l.length) : ∃ b cap, v = .slice (some ⟨b, 0, none⟩) l.length cap ∧ h1.get? b = some (.cells (spanCells l) 140 true) ∧ h.n ≤ b ∧ Ext h h1 := by
  obtain ⟨p, cap, rfl, r | ⟨b, rfl, hg, hb⟩, x⟩ := r
  · subst r; simp at hp
  · exact ⟨b, cap, rfl, hg, hb, x⟩
section
variable {P : Program} {K : Known} {x : Ctx} {N : Nat} {E : Env} {h : Heap} {ops : Array Oper} {F : Ex → Env → Heap → Prop} {i : Nat} {Hs : List Heap} {L : List Heap → Prop} {nw : List (Nat × Nat × Blk)}
variable {d : Nat} {ty : TypeId} {pos : String} {af : Array Edge} {g : Option (Nat × Bool)}
end
def tgetP : List (Nat × Nat × Nat) → Nat → Option (Nat × Nat)
  | [], _ => none
  | (a, p) :: l, t => bif Nat.beq a t then some p else tgetP l t
theorem tabP_ok {f : Nat → Option (Nat × Nat)} {T : List (Nat × Nat × Nat)} (h : T.all (fun p => f p.1 == some p.2) = true) {t : Nat} {n : Nat × Nat} (e : tgetP T t = some n) : f t = some n := by
  induction T with
  | nil => cases e
  | cons p T ih =>
    obtain ⟨a, m⟩ := p
    simp only [List.all_cons, Bool.and_eq_true, beq_iff_eq] at h
    simp only [tgetP] at e
    cases hc : Nat.beq a t with
    | true =>
      rw [hc] at e
      have := Nat.eq_of_beq_eq_true hc
      subst this
      cases e
      exact h.1
    | false => rw [hc] at e; exact ih h.2 e
def arrOf (P : Program) (t : TypeId) : Option (Nat × Nat) :=
  match P.underlying t with
  | some (.array n e) => some (n, e)
  | _ => none
theorem zjq {P : Program} {t : TypeId} {n : Nat × Nat} (h : arrOf P t = some n) : P.underlying t = some (.array n.1 n.2) := by
  unfold arrOf at h
  split at h
  · rename_i a b hu; cases h; exact hu
  · cases h
section
variable {P : Program} {K : Known} {x : Ctx} {N : Nat} {E : Env} {h : Heap} {ops : Array Oper} {F : Ex → Env → Heap → Prop} {i : Nat}
variable {ty : TypeId} {pos : String} {af : Array Edge} {g : Option (Nat × Bool)}
end
end Go.AX

namespace Go.AX
section
variable {P : Program} {K : Known} {x : Ctx} {N : Nat} {E : Env} {h : Heap} {ops : Array Oper} {F : Ex → Env → Heap → Prop} {i : Nat} {Hs : List Heap} {L : List Heap → Prop} {nw : List (Nat × Nat × Blk)}
variable {d : Nat} {ty : TypeId} {pos : String} {af : Array Edge} {g : Option (Nat × Bool)}
theorem zbo {t yt : TypeId} {a b : Operand} {m n : Int} (hN : Nat.blt d N = true) (hg : gval ops E g = some true) (hk : opsOK P ⟨some d, .binOp .lss t a b yt, ty, pos, af, g⟩ = true) (ha : E.ev a = some (.int .i64 m)) (hb : E.ev b = some (.int .i64 n)) (hc : m < n) (k : R1 P K x N ops F (i + 1) ((d, .bool true) :: E) h) : R2 P K x N ops F i ⟨some d, .binOp .lss t a b yt, ty, pos, af, g⟩ E h := zll hN hg hk ha hb (fun _ => k) (fun q => absurd hc (by omega))
theorem zbr {t yt : TypeId} {a b : Operand} {m n : Int} (hN : Nat.blt d N = true) (hg : gval ops E g = some true) (hk : opsOK P ⟨some d, .binOp .lss t a b yt, ty, pos, af, g⟩ = true) (ha : E.ev a = some (.int .i64 m)) (hb : E.ev b = some (.int .i64 n)) (hc : ¬ (m < n)) (k : R1 P K x N ops F (i + 1) ((d, .bool false) :: E) h) : R2 P K x N ops F i ⟨some d, .binOp .lss t a b yt, ty, pos, af, g⟩ E h := zll hN hg hk ha hb (fun q => absurd hc (by omega)) (fun _ => k)
theorem P_leqT {t yt : TypeId} {a b : Operand} {m n : Int} (hN : Nat.blt d N = true) (hg : gval ops E g = some true) (hk : opsOK P ⟨some d, .binOp .leq t a b yt, ty, pos, af, g⟩ = true) (ha : E.ev a = some (.int .i64 m)) (hb : E.ev b = some (.int .i64 n)) (hc : m ≤ n) (k : R1 P K x N ops F (i + 1) ((d, .bool true) :: E) h) : R2 P K x N ops F i ⟨some d, .binOp .leq t a b yt, ty, pos, af, g⟩ E h := zfF hN hg hk ha hb (fun _ => k) (fun q => absurd hc (by omega))
theorem P_leqF {t yt : TypeId} {a b : Operand} {m n : Int} (hN : Nat.blt d N = true) (hg : gval ops E g = some true) (hk : opsOK P ⟨some d, .binOp .leq t a b yt, ty, pos, af, g⟩ = true) (ha : E.ev a = some (.int .i64 m)) (hb : E.ev b = some (.int .i64 n)) (hc : ¬ (m ≤ n)) (k : R1 P K x N ops F (i + 1) ((d, .bool false) :: E) h) : R2 P K x N ops F i ⟨some d, .binOp .leq t a b yt, ty, pos, af, g⟩ E h := zfF hN hg hk ha hb (fun q => absurd hc (by omega)) (fun _ => k)
theorem P_gtrF {t yt : TypeId} {a b : Operand} {m n : Int} (hN : Nat.blt d N = true) (hg : gval ops E g = some true) (hk : opsOK P ⟨some d, .binOp .gtr t a b yt, ty, pos, af, g⟩ = true) (ha : E.ev a = some (.int .i64 m)) (hb : E.ev b = some (.int .i64 n)) (hc : ¬ (m > n)) (k : R1 P K x N ops F (i + 1) ((d, .bool false) :: E) h) : R2 P K x N ops F i ⟨some d, .binOp .gtr t a b yt, ty, pos, af, g⟩ E h := P_gtr hN hg hk ha hb (fun q => absurd hc (by omega)) (fun _ => k)
theorem zbM {t yt : TypeId} {a b : Operand} {m n : Int} (hN : Nat.blt d N = true) (hg : gval ops E g = some true) (hk : opsOK P ⟨some d, .binOp .eql t a b yt, ty, pos, af, g⟩ = true) (ha : E.ev a = some (.int .i64 m)) (hb : E.ev b = some (.int .i64 n)) (hc : m = n) (k : R1 P K x N ops F (i + 1) ((d, .bool true) :: E) h) : R2 P K x N ops F i ⟨some d, .binOp .eql t a b yt, ty, pos, af, g⟩ E h := zhN hN hg hk ha hb (fun _ => k) (fun q => absurd hc (by omega))
theorem zb4 {t yt : TypeId} {a b : Operand} {m n : Int} (hN : Nat.blt d N = true) (hg : gval ops E g = some true) (hk : opsOK P ⟨some d, .binOp .eql t a b yt, ty, pos, af, g⟩ = true) (ha : E.ev a = some (.int .i64 m)) (hb : E.ev b = some (.int .i64 n)) (hc : ¬ (m = n)) (k : R1 P K x N ops F (i + 1) ((d, .bool false) :: E) h) : R2 P K x N ops F i ⟨some d, .binOp .eql t a b yt, ty, pos, af, g⟩ E h := zhN hN hg hk ha hb (fun q => absurd hc (by omega)) (fun _ => k)
theorem P_neqT {t yt : TypeId} {a b : Operand} {m n : Int} (hN : Nat.blt d N = true) (hg : gval ops E g = some true) (hk : opsOK P ⟨some d, .binOp .neq t a b yt, ty, pos, af, g⟩ = true) (ha : E.ev a = some (.int .i64 m)) (hb : E.ev b = some (.int .i64 n)) (hc : ¬ m = n) (k : R1 P K x N ops F (i + 1) ((d, .bool true) :: E) h) : R2 P K x N ops F i ⟨some d, .binOp .neq t a b yt, ty, pos, af, g⟩ E h := zlk hN hg hk ha hb (fun _ => k) (fun q => absurd hc (by omega))
theorem ziw {t yt : TypeId} {a b : Operand} {m n : Int} (hN : Nat.blt d N = true) (hg : gval ops E g = some true) (hk : opsOK P ⟨some d, .binOp .neq t a b yt, ty, pos, af, g⟩ = true) (ha : E.ev a = some (.int .i64 m)) (hb : E.ev b = some (.int .i64 n)) (hc : m = n) (k : R1 P K x N ops F (i + 1) ((d, .bool false) :: E) h) : R2 P K x N ops F i ⟨some d, .binOp .neq t a b yt, ty, pos, af, g⟩ E h := zlk hN hg hk ha hb (fun q => absurd hc (by omega)) (fun _ => k)
theorem zgH {t yt : TypeId} {a b : Operand} {m n : Int} (hN : Nat.blt d N = true) (hg : gval ops E g = some true) (hk : opsOK P ⟨some d, .binOp .eql t a b yt, ty, pos, af, g⟩ = true) (ha : E.ev a = some (.int .i64 m)) (hb : E.ev b = some (.int .i64 n)) (hc : m = n) (k : S1 P K x N ops F (i + 1) ((d, .bool true) :: E) h Hs L nw) : S2 P K x N ops F i ⟨some d, .binOp .eql t a b yt, ty, pos, af, g⟩ E h Hs L nw := M_eql hN hg hk ha hb (fun _ => k) (fun q => absurd hc (by omega))
theorem zgI {t yt : TypeId} {a b : Operand} {m n : Int} (hN : Nat.blt d N = true) (hg : gval ops E g = some true) (hk : opsOK P ⟨some d, .binOp .eql t a b yt, ty, pos, af, g⟩ = true) (ha : E.ev a = some (.int .i64 m)) (hb : E.ev b = some (.int .i64 n)) (hc : ¬ (m = n)) (k : S1 P K x N ops F (i + 1) ((d, .bool false) :: E) h Hs L nw) : S2 P K x N ops F i ⟨some d, .binOp .eql t a b yt, ty, pos, af, g⟩ E h Hs L nw := M_eql hN hg hk ha hb (fun q => absurd hc (by omega)) (fun _ => k)
end
end Go.AX

namespace Go.AX
end Go.AX

namespace Go.AX
section
variable {P : Program} {K : Known} {x : Ctx} {N : Nat} {E : Env} {h : Heap} {ops : Array Oper} {F : Ex → Env → Heap → Prop} {i : Nat}
variable {d : Nat} {ty : TypeId} {pos : String} {af : Array Edge} {g : Option (Nat × Bool)}
end
end Go.AX

namespace Go.AX
def OutV (e : TypeId) (h0 h : Heap) (v : Value) (c : List Value) : Prop :=
  (c = [] ∧ v = .slice none 0 0) ∨ (c ≠ [] ∧ ∃ b, v = .slice (some ⟨b, 0, none⟩) c.length unk ∧ h.get? b = some (.cells c e true) ∧ h0.n ≤ b)
theorem OutV.nil (e : TypeId) (h0 h : Heap) : OutV e h0 h (.slice none 0 0) [] := .inl ⟨rfl, rfl⟩
theorem OutV.ext {e : TypeId} {h0 h h1 : Heap} {v : Value} {c : List Value} (o : OutV e h0 h v c) (x : Ext h h1) : OutV e h0 h1 v c := by
  rcases o with o | ⟨hl, b, h1, h2, h3⟩
  · exact .inl o
  · exact .inr ⟨hl, b, h1, x.get h2, h3⟩
section
variable {P : Program} {K : Known} {x : Ctx} {N : Nat} {E : Env} {h : Heap} {ops : Array Oper} {F : Ex → Env → Heap → Prop} {i : Nat}
variable {d : Nat} {ty : TypeId} {pos : String} {af : Array Edge} {g : Option (Nat × Bool)}
end
end Go.AX

namespace Go.AX
structure KeepB (m : Nat) (z : Blk) (h h1 : Heap) : Prop where
  n : h.n ≤ h1.n
  get' : ∀ b y, h.get? b = some y → (b < m ∨ y ≠ z) → h1.get? b = some y
theorem KeepB.lo {m : Nat} {z : Blk} {h h1 : Heap} (k : KeepB m z h h1) {b : Nat} {y : Blk} (hb : b < m) (g : h.get? b = some y) : h1.get? b = some y := k.get' b y g (.inl hb)
theorem KeepB.ne {m : Nat} {z : Blk} {h h1 : Heap} (k : KeepB m z h h1) {b : Nat} {y : Blk} (hb : y ≠ z) (g : h.get? b = some y) : h1.get? b = some y := k.get' b y g (.inr hb)
theorem OutI.but {e : TypeId} {h0 h h1 : Heap} {v : Value} {l : List Int} {b0 : Nat} (o : OutI e h0 h v l) (x : ExtBut b0 h h1) (hb : b0 < h0.n) : OutI e h0 h1 v l := by
  rcases o with o | ⟨hl, b, h1, h2, h3⟩
  · exact .inl o
  · exact .inr ⟨hl, b, h1, x.get (by omega) h2, h3⟩
theorem OutS.but {e : TypeId} {h0 h h1 : Heap} {v : Value} {l : List (Int × Int)} {b0 : Nat} (o : OutS e h0 h v l) (x : ExtBut b0 h h1) (hb : b0 < h0.n) : OutS e h0 h1 v l := by
  rcases o with o | ⟨hl, b, h1, h2, h3⟩
  · exact .inl o
  · exact .inr ⟨hl, b, h1, x.get (by omega) h2, h3⟩
section
variable {P : Program} {K : Known} {x : Ctx} {N : Nat} {E : Env} {h : Heap} {ops : Array Oper} {F : Ex → Env → Heap → Prop} {i : Nat} {Hs : List Heap} {L : List Heap → Prop} {nw : List (Nat × Nat × Blk)}
variable {d : Nat} {ty : TypeId} {pos : String} {af : Array Edge} {g : Option (Nat × Bool)}
theorem ziA {t : TypeId} {a y : Operand} {b o n : Nat} {c c' : List Value} {e : TypeId} {v : Value} (hg : gval ops E g = some true) (hk : opsOK P ⟨none, .store t a y, ty, pos, af, g⟩ = true)
    (ha : E.ev a = some (.pointer (some ⟨b, o, none⟩))) (hy : E.ev y = some v) (hb : h.get? b = some (.cells c e true)) (hs : sizeB P t = some n) (hc : v.cells.size = n) (hl : o + n ≤ c.length) (hone : v.cells.toList.all oneB = true) (hc' : splice c o v.cells.toList = c') (hnw : unseen (preds ops.toList) nw i = [])
    (k : ∀ h1, h1.get? b = some (.cells c' e true) → ExtBut b h h1 → S1 P K x N ops F (i + 1) E h1 (h1 :: Hs) L nw) : S2 P K x N ops F i ⟨none, .store t a y, ty, pos, af, g⟩ E h Hs L nw := by
  subst hc'
  exact M_store hg hk ha hy hb hs hc hl hone hnw (k _ (zaW hb) ((ExtBut.refl b h).set hb _))
theorem readA {t : TypeId} {b o n : Nat} {c : List Value} {e : TypeId} {own : Bool} {vs : List Value} (ht : aggN P t = some n) (hb : h.get? b = some (.cells c e own)) (hl : o + n ≤ c.length) (hv : (c.drop o).take n = vs) : readB P h t (.pointer (some ⟨b, o, none⟩)) = some (.agg vs.toArray) := by
  simp only [readB, hb, partB, zdL ht, zc5 ht, if_pos hl, hv]
theorem zkd {a : Tmp} {t : TypeId} {l : List ResultVar} {p v : Value} {vs : List Value} (hp : E.get a = some p) (hv : readB P h t p = some v) (hl : resE P E h l = some vs) : resE P E h (.cell a t :: l) = some (v :: vs) := by
  simp only [resE, hp, hv, hl]
end
theorem OutS.same {e : TypeId} {h0 h : Heap} {v : Value} {l : List (Int × Int)} (o : OutS e h0 h v l) : same 20 v v = true := by
  rcases o with ⟨_, rfl⟩ | ⟨_, b, rfl, _, _⟩ <;> exact zbu _ _ _
theorem OutS.within {e : TypeId} {h0 h : Heap} {v : Value} {l : List (Int × Int)} (o : OutS e h0 h v l) : within 20 h.n v = true := by
  rcases o with ⟨_, rfl⟩ | ⟨_, b, rfl, g, _⟩
  · rfl
  · exact zbt g
theorem OutS.keep {e e' : TypeId} {h0 h h1 : Heap} {v : Value} {l : List (Int × Int)} {m : Nat} {c : List Value} (o : OutS e h0 h v l) (k : KeepB m (.cells c e' true) h h1) (hne : e ≠ e') : OutS e h0 h1 v l := by
  rcases o with o | ⟨hl, b, h1, h2, h3⟩
  · exact .inl o
  · exact .inr ⟨hl, b, h1, k.ne (by intro q; injection q with _ q _; exact hne q) h2, h3⟩
theorem OutI.keep {e e' : TypeId} {h0 h h1 : Heap} {v : Value} {l : List Int} {m : Nat} {c : List Value} (o : OutI e h0 h v l) (k : KeepB m (.cells c e' true) h h1) (hne : e ≠ e') : OutI e h0 h1 v l := by
  rcases o with o | ⟨hl, b, h1, h2, h3⟩
  · exact .inl o
  · exact .inr ⟨hl, b, h1, k.ne (by intro q; injection q with _ q _; exact hne q) h2, h3⟩
theorem OutS.cells {e : TypeId} {h0 h : Heap} {v : Value} {l : List (Int × Int)} (o : OutS e h0 h v l) : v.cells = #[v] ∧ oneB v = true := by
  rcases o with ⟨_, rfl⟩ | ⟨_, b, rfl, _, _⟩ <;> exact ⟨rfl, rfl⟩
end Go.AX

namespace Go.AX
def CallP (P : Program) (K : Known) (f : FuncId) (args : Array Value) (h : Heap) (ch : List PanicEntry) (G : Heap → Prop) : Prop :=
  ∃ n h1, (run P K n).call f args false .run h = some (.panic ch, .run, h1) ∧ G h1
def CallD (P : Program) (K : Known) (f : FuncId) (args : Array Value) (u : FrameMode) (h : Heap) (u' : FrameMode) (h1 : Heap) : Prop :=
  ∃ n v, (run P K n).call f args true u h = some (.ret v, u', h1)
section
variable {P : Program} {K : Known} {x : Ctx} {N : Nat} {E : Env} {h : Heap} {Q : Ex → Env → Heap → Prop} {ks : List Kt}
theorem env_args {args : Array Value} (ha : args.size ≤ N) : EnvOK N (envFrom 0 args.toList) (args ++ Array.replicate (N - args.size) undef) := by
  refine ⟨by simp; omega, fun t v e => ?_⟩
  obtain ⟨_, h2⟩ := zel _ _ _ _ e
  simp only [Nat.sub_zero, Array.getElem?_toList] at h2
  rw [Array.getElem?_append_left (Array.getElem?_eq_some_iff.1 h2).1]
  exact h2
variable {ops : Array Oper} {F : Ex → Env → Heap → Prop} {i : Nat}
variable {d : Nat} {ty : TypeId} {pos : String} {af : Array Edge} {g : Option (Nat × Bool)}
def preOf : Nat → Code → Code
  | n + 1, .seq a b => .seq a (preOf n b)
  | _, _ => .skip
def restOf : Nat → Code → Code
  | n + 1, .seq _ b => restOf n b
  | _, c => c
theorem run_cut : ∀ (k : Nat) (c : Code) (s s1 : St) (e : Ex) (n : Nat), (run P K n).code x (preOf k c) s = some (e, s1) →
    (e ≠ .normal → ∃ m, (run P K m).code x c s = some (e, s1)) ∧ (e = .normal → ∀ e2 s2 m, (run P K m).code x (restOf k c) s1 = some (e2, s2) → ∃ j, (run P K j).code x c s = some (e2, s2)) := by
  intro k
  have skip : ∀ (c : Code) (s s1 : St) (e : Ex) (n : Nat), (run P K n).code x .skip s = some (e, s1) → e = .normal ∧ s1 = s := by
    intro c s s1 e n hr
    cases n with
    | zero => cases hr
    | succ n => rw [zaC] at hr; simp only [codeF] at hr; cases hr; exact ⟨rfl, rfl⟩
  induction k with
  | zero =>
    intro c s s1 e n hr
    obtain ⟨rfl, rfl⟩ := skip c s s1 e n (by cases c <;> exact hr)
    exact ⟨fun q => absurd rfl q, fun _ e2 s2 m hm => ⟨m, by cases c <;> exact hm⟩⟩
  | succ k ih =>
    intro c s s1 e n hr
    cases c with
    | seq a b =>
      cases n with
      | zero => cases hr
      | succ n =>
        rw [show preOf (k + 1) (.seq a b) = .seq a (preOf k b) from rfl, zaC] at hr
        simp only [codeF] at hr
        split at hr
        · rename_i s0 ha
          obtain ⟨h1, h2⟩ := ih b s0 s1 e n hr
          have join : ∀ e2 s2 m, (run P K m).code x b s0 = some (e2, s2) → ∃ j, (run P K j).code x (.seq a b) s = some (e2, s2) := fun e2 s2 m hm => by
            refine ⟨max n m + 1, ?_⟩
            rw [zaC]
            simp only [codeF]
            rw [(zao P K (Nat.le_max_left n m)).code _ _ _ _ ha]
            exact (zao P K (Nat.le_max_right n m)).code _ _ _ _ hm
          exact ⟨fun q => by obtain ⟨m, hm⟩ := h1 q; exact join _ _ m hm, fun q e2 s2 m hm => by obtain ⟨j, hj⟩ := h2 q e2 s2 m hm; exact join _ _ j hj⟩
        · rename_i r hne
          have hee : e ≠ .normal := fun q => by subst q; exact hne _ hr
          refine ⟨fun _ => ⟨n + 1, ?_⟩, fun q => absurd q hee⟩
          rw [zaC]
          simp only [codeF]
          rw [hr]
    | _ =>
      obtain ⟨rfl, rfl⟩ := skip .skip s s1 e n hr
      exact ⟨fun q => absurd rfl q, fun _ e2 s2 m hm => ⟨m, hm⟩⟩
def modeOf : Ex → Option FrameMode
  | .normal | .ret => some .returning
  | .panic c => some (.panicking c)
  | .exit _ => none
variable {Hs : List Heap} {L : List Heap → Prop} {nw : List (Nat × Nat × Blk)}
section
variable {P : Program} {K : Known} {x : Ctx} {N : Nat} {E : Env} {h : Heap} {ops : Array Oper} {F : Ex → Env → Heap → Prop} {i : Nat}
variable {d : Nat} {ty : TypeId} {pos : String} {af : Array Edge} {g : Option (Nat × Bool)}
end
end
end Go.AX

namespace Go.AX
def RoundW (P : Program) (K : Known) (l : Nat) (args : Array Value) (h : Heap) (G : Value → Heap → Prop) : Prop :=
  ∃ n v h1, (run P K n).round l args h = some (.ret v, h1) ∧ G v h1
theorem RoundW.mono {P : Program} {K : Known} {l : Nat} {args : Array Value} {h : Heap} {G G' : Value → Heap → Prop} (c : RoundW P K l args h G) (k : ∀ v h1, G v h1 → G' v h1) : RoundW P K l args h G' := by
  obtain ⟨n, v, h1, a, b⟩ := c
  exact ⟨n, v, h1, a, k _ _ b⟩
section
variable {P : Program} {K : Known} {x : Ctx} {N : Nat} {E : Env} {h : Heap} {Q : Ex → Env → Heap → Prop} {ks : List Kt}
variable {ops : Array Oper} {F : Ex → Env → Heap → Prop} {i : Nat} {Hs : List Heap} {L : List Heap → Prop} {nw : List (Nat × Nat × Blk)}
variable {d : Nat} {ty : TypeId} {pos : String} {af : Array Edge} {g : Option (Nat × Bool)}
theorem do_yield {fo : Operand} {args : Array Operand} {ts : Array TypeId} {l : Nat} {vs : List Value} {dd : Option Tmp} {G : Value → Heap → Prop} (hk : opsOK P ⟨dd, .call ⟨.value fo, args, ts⟩, ty, pos, af, g⟩ = true)
    (hf : E.ev fo = some (.func (.yield l) #[] #[])) (hargs : E.evs args.toList = some vs) (hc : RoundW P K l vs.toArray h G) (tm : Array Value) (D : List Deferred) (U : FrameMode) (hE : EnvOK N E tm) :
    ∃ n v h1, doOp P (run P K n) x ⟨tm, D, U, h⟩ ⟨dd, .call ⟨.value fo, args, ts⟩, ty, pos, af, g⟩ = some (.val v, ⟨tm, D, U, h1⟩) ∧ G v h1 := by
  obtain ⟨n, v, h1, hr, hv⟩ := hc
  refine ⟨n, v, h1, ?_, hv⟩
  have e1 : args.map (ev tm) = vs.toArray := by
    apply Array.ext'
    rw [Array.toList_map, hE.evs hargs]
  unfold doOp
  rw [hk]
  have e2 : simpleB P tm h ⟨dd, .call ⟨.value fo, args, ts⟩, ty, pos, af, g⟩ = none := rfl
  have e3 : effectB P tm h ⟨dd, .call ⟨.value fo, args, ts⟩, ty, pos, af, g⟩ = some (.round l vs.toArray, h) := by
    show (callValueB P (ev tm fo) (args.map (ev tm))).map (fun r => (r, h)) = _
    rw [hE.ev hf, e1]
    simp only [callValueB, Option.map_some]
    congr 3
    simp
  simp only [Bool.not_true, Bool.false_eq_true, if_false, e2, e3, hr]
  rfl
theorem P_yield {fo : Operand} {args : Array Operand} {ts : Array TypeId} {l : Nat} {vs : List Value} {G : Value → Heap → Prop} (hN : Nat.blt d N = true) (hg : gval ops E g = some true) (hk : opsOK P ⟨some d, .call ⟨.value fo, args, ts⟩, ty, pos, af, g⟩ = true)
    (hf : E.ev fo = some (.func (.yield l) #[] #[])) (hargs : E.evs args.toList = some vs) (hc : RoundW P K l vs.toArray h G) (k : ∀ v h1, G v h1 → R1 P K x N ops F (i + 1) ((d, v) :: E) h1) : R2 P K x N ops F i ⟨some d, .call ⟨.value fo, args, ts⟩, ty, pos, af, g⟩ E h :=
  ⟨fun ho => O_op ho rfl hN hg (do_yield hk hf hargs hc) fun v h1 q => (k v h1 q).out⟩
theorem zjs {g0 : FuncId} {fs ca : Array Operand} {vs : List Value} (hN : Nat.blt d N = true) (hg : gval ops E g = some true) (hk : opsOK P ⟨some d, .makeFunc (.func g0) fs ca, ty, pos, af, g⟩ = true)
    (hfs : fs.toList = []) (hvs : E.evs ca.toList = some vs) (k : R1 P K x N ops F (i + 1) ((d, .func (.func g0) #[] vs.toArray) :: E) h) : R2 P K x N ops F i ⟨some d, .makeFunc (.func g0) fs ca, ty, pos, af, g⟩ E h :=
  ⟨fun ho => zaG ho rfl hN hg hk (fun tm hE => by
    have h1 : fs = #[] := Array.ext' hfs
    have h2 : ca.map (ev tm) = vs.toArray := by
      apply Array.ext'
      rw [Array.toList_map, hE.evs hvs]
    show some (Value.func (.func g0) (fs.map (ev tm)) (ca.map (ev tm)), h) = _
    rw [h1, h2]; simp) k.out⟩
theorem EnvOK.param {tm : Array Value} (hE : EnvOK N E tm) {t : Tmp} {v : Value} (ht : Nat.blt t N = true) : EnvOK N ((t, v) :: E) ((#[t].zip #[v]).foldl (fun tm (t, a) => tm.setIfInBounds t a) tm) := by
  have : (#[t].zip #[v]).foldl (fun tm (t, a) => tm.setIfInBounds t a) tm = AX.put tm (some t) v := by simp [AX.put]
  rw [this]
  exact hE.put (zbh ht) v
def ready (fn : FuncId) (tm : Array Value) (params : Array Tmp) (asg body : Code) (df : Nat) : Loop := { state := .ready, pending := none, fn, tmps := tm, params, assign := asg, body, defers := df }
theorem RoundW.of_body {l df : Nat} {args : Array Value} {fn : FuncId} {tm : Array Value} {params : Array Tmp} {asg c : Code} {G : Heap → Prop} {E0 : Env}
    (hl : h.get? l = some (.obj (.loop (ready fn tm params asg c df)))) (hsz : args.size = params.size) (hE : EnvOK N E0 ((params.zip args).foldl (fun tm (t, a) => tm.setIfInBounds t a) tm))
    (H : K1 P K { fn, round := some l, dfr := false } N (fun e E1 h1 => e = .normal ∧ h1.get? l = some (.obj (.loop (ready fn tm params asg c df))) ∧
      K1 P K { fn, round := some l, dfr := false } N (fun e _ h2 => e = .normal ∧ h2.get? l = some (.obj (.loop { ready fn tm params asg c df with state := .busy })) ∧ G (h2.set l (.obj (.loop (ready fn tm params asg c df))))) c [] E1 (h1.set l (.obj (.loop { ready fn tm params asg c df with state := .busy })))) asg [] E0 h) : RoundW P K l args h (fun v h1 => v = .bool true ∧ G h1) := by
  obtain ⟨n0, e0, tm0, h0, E1, hr0, hE1, rfl, hl0, HB⟩ := H.out _ [] .run hE
  obtain ⟨n, e, tm1, h1, E2, hr, _, rfl, hl1, hG⟩ := HB.out _ [] .run hE1
  refine ⟨max n0 n + 1, .bool true, _, ?_, rfl, hG⟩
  show roundF P (run P K (max n0 n)) l args h = _
  have q0 : loopB h l = some (ready fn tm params asg c df) := by unfold loopB; rw [hl]
  have q1 : loopB h0 l = some (ready fn tm params asg c df) := by unfold loopB; rw [hl0]
  have q2 : loopB h1 l = some { ready fn tm params asg c df with state := .busy } := by unfold loopB; rw [hl1]
  have ea := (zao P K (Nat.le_max_left n0 n)).code _ _ _ _ hr0
  have er := (zao P K (Nat.le_max_right n0 n)).code _ _ _ _ hr
  unfold roundF
  rw [q0]
  simp only
  rw [if_neg (by simpa [ready] using hsz)]
  show (match (run P K (max n0 n)).code { fn, round := some l, dfr := false } asg ⟨(params.zip args).foldl (fun tm (t, a) => tm.setIfInBounds t a) tm, [], .run, h⟩ with
    | some (.normal, s) => _
    | _ => none) = _
  rw [ea]
  simp only [q1]
  rw [if_pos (by rfl)]
  show (match (run P K (max n0 n)).code { fn, round := some l, dfr := false } c ⟨tm0, [], .run, h0.set l (.obj (.loop { ready fn tm params asg c df with state := .busy }))⟩ with
    | some (.normal, s) => _
    | some (.ret, s) => _
    | some (.exit id, s) => _
    | some (.panic c, s) => _
    | none => none) = _
  rw [er]
  simp only [endRoundB, q2]
  rfl
def sq : Code → Code → Code
  | .seq a b, c => sq a (sq b c)
  | a, c => .seq a c
theorem zfe {a b : Code} {s : St} {r : Ex × St} {n : Nat} (h : (run P K n).code x (.seq a b) s = some r) :
    (∃ m s1, (run P K m).code x a s = some (.normal, s1) ∧ (run P K m).code x b s1 = some r) ∨ (r.1 ≠ .normal ∧ ∃ m, (run P K m).code x a s = some r) := by
  cases n with
  | zero => cases h
  | succ n =>
    rw [zaC] at h
    simp only [codeF] at h
    split at h
    · rename_i s1 h1
      exact .inl ⟨n, s1, h1, h⟩
    · rename_i hne
      refine .inr ⟨fun q => ?_, n, h⟩
      obtain ⟨e, s1⟩ := r
      simp only at q
      subst q
      exact hne s1 h
theorem zdJ {a b : Code} {s s1 : St} {r : Ex × St} {n m : Nat} (h1 : (run P K n).code x a s = some (.normal, s1)) (h2 : (run P K m).code x b s1 = some r) : ∃ q, (run P K q).code x (.seq a b) s = some r := by
  refine ⟨max n m + 1, ?_⟩
  rw [zaC]
  simp only [codeF]
  rw [(zao P K (Nat.le_max_left n m)).code _ _ _ _ h1]
  exact (zao P K (Nat.le_max_right n m)).code _ _ _ _ h2
theorem zeo {a b : Code} {s : St} {r : Ex × St} {n : Nat} (hr : r.1 ≠ .normal) (h1 : (run P K n).code x a s = some r) : ∃ q, (run P K q).code x (.seq a b) s = some r := by
  refine ⟨n + 1, ?_⟩
  rw [zaC]
  simp only [codeF]
  rw [h1]
  obtain ⟨e, s1⟩ := r
  cases e <;> first | rfl | exact absurd rfl hr
theorem run_sq : ∀ (a c : Code) (s : St) (r : Ex × St) (n : Nat), (run P K n).code x (sq a c) s = some r → ∃ m, (run P K m).code x (.seq a c) s = some r := by
  intro a
  induction a with
  | seq a b iha ihb =>
    intro c s r n h
    obtain ⟨m, hm⟩ := iha _ _ _ _ h
    rcases zfe hm with ⟨k, s1, h1, h2⟩ | ⟨hne, k, h1⟩
    · obtain ⟨k2, h3⟩ := ihb _ _ _ _ h2
      rcases zfe h3 with ⟨k3, s2, h4, h5⟩ | ⟨hne, k3, h4⟩
      · obtain ⟨q, hq⟩ := zdJ h1 h4
        exact zdJ hq h5
      · obtain ⟨q, hq⟩ := zdJ h1 h4
        exact zeo hne hq
    · obtain ⟨q, hq⟩ := zeo (b := b) hne h1
      exact zeo hne hq
  | _ => intro c s r n h; exact ⟨n, h⟩
theorem run_flat {c : Code} {s : St} {r : Ex × St} {n : Nat} (h : (run P K n).code x (sq c .skip) s = some r) : ∃ m, (run P K m).code x c s = some r := by
  obtain ⟨m, hm⟩ := run_sq _ _ _ _ _ h
  rcases zfe hm with ⟨k, s1, h1, h2⟩ | ⟨hne, k, h1⟩
  · cases k with
    | zero => cases h2
    | succ k =>
      rw [zaC] at h2
      simp only [codeF] at h2
      cases h2
      exact ⟨_, h1⟩
  · exact ⟨k, h1⟩
theorem zjn {f : FuncId} {args : Array Value} {fn : Func} {c : Code} (k : Nat) {G : Value → Heap → Prop} {rest asg bd : Code} {fo : Operand} {params : Array Tmp} {id : Nat}
    (hf : P.funcs[f]? = some fn) (hb : fn.body = some c) (hk : K f args h = none) (hN : fn.ntmps = N) (ha : Nat.ble args.size N = true)
    (hc : restOf k (sq c .skip) = .seq (.block id (.rangeFunc fo params asg bd)) rest) (hok : opOK P fo = true)
    (H : K1 P K { fn := f, round := none, dfr := false } N (fun e E1 h1 => (e = .ret ∧ ∃ vs, resE P E1 h1 fn.results.toList = some vs ∧ G (resV vs) h1) ∨
      (e = .normal ∧ ∃ g0 fi ca, E1.ev fo = some (.func (.func g0) fi ca) ∧ enters P g0 = true ∧ ∀ tm, EnvOK N E1 tm →
        CallW P K g0 (fi ++ #[.func (.yield (h1.n + 1)) #[] #[]] ++ ca) ((h1.push (.obj (.deferred (some [])))).push (.obj (.loop (ready f tm params asg bd h1.n)))) (fun _ h2 =>
          h2.get? (h1.n + 1) = some (.obj (.loop (ready f tm params asg bd h1.n))) ∧
          K1 P K { fn := f, round := none, dfr := false } N (fun e E3 h3 => (e = .normal ∨ e = .ret) ∧ h3.get? h1.n = some (.obj (.deferred (some []))) ∧ ∃ ws, resE P E3 (h3.set h1.n (.obj (.deferred none))) fn.results.toList = some ws ∧ G (resV ws) (h3.set h1.n (.obj (.deferred none))))
            rest [] E1 (h2.set (h1.n + 1) (.obj (.loop { ready f tm params asg bd h1.n with state := .exhausted })))))) (preOf k (sq c .skip)) [] (envFrom 0 args.toList) h) : CallW P K f args h G := by
  have h0 := env_args (N := N) (Nat.le_of_ble_eq_true ha)
  obtain ⟨n, e, tm1, h1, E1, hr, hE1, hq⟩ := H.out _ [] .run h0
  obtain ⟨c1, c2⟩ := run_cut k (sq c .skip) _ _ e n hr
  have fin : ∀ (m : Nat) (e : Ex) (tm : Array Value) (D : List Deferred) (h1 h2 : Heap) (v : Value), (run P K m).code { fn := f, round := none, dfr := false } (sq c .skip) ⟨args ++ Array.replicate (N - args.size) undef, [], .run, h⟩ = some (e, ⟨tm, D, .run, h1⟩) → (e = .normal ∨ e = .ret) → (∀ R, leaveB P R fn tm D .returning h1 = some (.ret v, h2)) → G v h2 → CallW P K f args h G := by
    intro m' e tm D h1 h2 v hm' he hl' hg
    obtain ⟨m, hm⟩ := run_flat hm'
    have hl := hl' (run P K m)
    refine ⟨m + 1, v, h2, ?_, hg⟩
    show callF P K (run P K m) f args false .run h = _
    unfold callF
    simp only [Bool.false_eq_true, if_false, hk, hf, hb, hN]
    rw [hm]
    rcases he with rfl | rfl <;> simp only [hl, Option.map_some]
  rcases hq with ⟨rfl, ws, hres, hg⟩ | ⟨rfl, g0, fi, ca, hfo, hen, HK⟩
  · obtain ⟨m, hm⟩ := c1 (by intro q; cases q)
    refine fin m _ _ _ _ _ _ hm (.inr rfl) (fun R => ?_) hg
    simp only [leaveB, resultsB, zg6 hE1 hres, Option.map_some]
    rfl
  · obtain ⟨m, v, h2, hcall, hl2, HR⟩ := HK tm1 hE1
    obtain ⟨j, e3, tm3, h3, E3, hr3, hE3, he3, hd3, ws, hres, hg⟩ := HR.out tm1 [{ target := .collected h1.n, args := #[] }] .run hE1
    have hrange : (run P K (m + 1)).code { fn := f, round := none, dfr := false } (.rangeFunc fo params asg bd) ⟨tm1, [], .run, h1⟩ = some (.normal, ⟨tm1, [{ target := .collected h1.n, args := #[] }], .run, h2.set (h1.n + 1) (.obj (.loop { ready f tm1 params asg bd h1.n with state := .exhausted }))⟩) := by
      rw [zaC]
      simp only [codeF]
      unfold rangeFuncB
      simp only [enterLoopB]
      have hn1 : (h1.push (.obj (.deferred (some [])))).n = h1.n + 1 := rfl
      simp only [hn1, hok, Bool.not_true, Bool.false_eq_true, if_false, hE1.ev hfo, callValueB, zgv hen]
      have hcall' : (run P K m).call g0 (fi ++ #[.func (.yield (h1.n + 1)) #[] #[]] ++ ca) false .run ((h1.push (.obj (.deferred (some [])))).push (.obj (.loop { state := .ready, pending := none, fn := f, tmps := tm1, params, assign := asg, body := bd, defers := h1.n }))) = some (.ret v, .run, h2) := hcall
      rw [hcall']
      have e1 : loopB h2 (h1.n + 1) = some (ready f tm1 params asg bd h1.n) := by unfold loopB; rw [hl2]
      simp only [e1]
      rfl
    have hblock : (run P K (m + 2)).code { fn := f, round := none, dfr := false } (.block id (.rangeFunc fo params asg bd)) ⟨tm1, [], .run, h1⟩ = some (.normal, ⟨tm1, [{ target := .collected h1.n, args := #[] }], .run, h2.set (h1.n + 1) (.obj (.loop { ready f tm1 params asg bd h1.n with state := .exhausted }))⟩) := by
      rw [zaC]
      simp only [codeF]
      rw [hrange]
    have hall : ∃ q, (run P K q).code { fn := f, round := none, dfr := false } (restOf k (sq c .skip)) ⟨tm1, [], .run, h1⟩ = some (e3, ⟨tm3, [{ target := .collected h1.n, args := #[] }], .run, h3⟩) := by
      rw [hc]
      exact zdJ hblock hr3
    obtain ⟨q, hq'⟩ := hall
    obtain ⟨j2, hj2⟩ := c2 rfl e3 ⟨tm3, [{ target := .collected h1.n, args := #[] }], .run, h3⟩ q hq'
    refine fin j2 e3 tm3 _ h3 (h3.set h1.n (.obj (.deferred none))) (resV ws) hj2 he3 (fun R => ?_) hg
    simp only [leaveB, isRun, Bool.false_eq_true, if_false, hd3, resultsB, zg6 hE3 hres, Option.map_some]
    rfl
theorem round_of {l df : Nat} {args : Array Value} {fn : FuncId} {tm : Array Value} {params : Array Tmp} {asg c : Code} {G : Heap → Prop} {E0 : Env}
    (hl : h.get? l = some (.obj (.loop (ready fn tm params asg c df)))) (hsz : args.size = params.size) (hE : EnvOK N E0 ((params.zip args).foldl (fun tm (t, a) => tm.setIfInBounds t a) tm))
    (H : K1 P K { fn, round := some l, dfr := false } N (fun e E1 h1 => e = .normal ∧ h1.get? l = some (.obj (.loop (ready fn tm params asg c df))) ∧
      ∀ B hs, hs.get? l = some B → (∀ b x, b ≠ l → h1.get? b = some x → hs.get? b = some x) → hs.n = h1.n →
      K1 P K { fn, round := some l, dfr := false } N (fun e _ h2 => e = .normal ∧ h2.get? l = some B ∧
        ∀ hf, hf.get? l = some (.obj (.loop (ready fn tm params asg c df))) → (∀ b x, b ≠ l → h2.get? b = some x → hf.get? b = some x) → hf.n = h2.n → G hf) c [] E1 hs) asg [] E0 h) : RoundW P K l args h (fun v h1 => v = .bool true ∧ G h1) := by
  refine RoundW.of_body hl hsz hE ⟨fun tm' D U hE' => ?_⟩
  obtain ⟨n, e, tm1, h1, E1, hr, hE1, he, hl1, HB⟩ := H.out tm' D U hE'
  refine ⟨n, e, tm1, h1, E1, hr, hE1, he, hl1, ⟨fun tm2 D U hE2 => ?_⟩⟩
  obtain ⟨m, e2, tm3, h3, E3, hr3, hE3, he3, hl3, hG⟩ := (HB _ _ (zaW hl1) (fun b x q g => zaU hl1 q g) rfl).out tm2 D U hE2
  exact ⟨m, e2, tm3, h3, E3, hr3, hE3, he3, hl3, hG _ (zaW hl3) (fun b x q g => zaU hl3 q g) rfl⟩
theorem zhI {f : FuncId} {args : Array Value} {fn : Func} {c : Code} (k : Nat) {G : Value → Heap → Prop} {rest asg bd : Code} {fo : Operand} {params : Array Tmp} {id : Nat}
    (hf : P.funcs[f]? = some fn) (hb : fn.body = some c) (hk : K f args h = none) (hN : fn.ntmps = N) (ha : Nat.ble args.size N = true)
    (hc : restOf k (sq c .skip) = .seq (.block id (.rangeFunc fo params asg bd)) rest) (hok : opOK P fo = true)
    (H : K1 P K { fn := f, round := none, dfr := false } N (fun e E1 h1 => (e = .ret ∧ ∃ vs, resE P E1 h1 fn.results.toList = some vs ∧ G (resV vs) h1) ∨
      (e = .normal ∧ ∃ g0 fi ca, E1.ev fo = some (.func (.func g0) fi ca) ∧ enters P g0 = true ∧ ∀ tm l hb, EnvOK N E1 tm → l = h1.n + 1 → Ext h1 hb → hb.n = h1.n + 2 → hb.get? l = some (.obj (.loop (ready f tm params asg bd h1.n))) → hb.get? h1.n = some (.obj (.deferred (some []))) →
        CallW P K g0 (fi ++ #[.func (.yield l) #[] #[]] ++ ca) hb (fun _ h2 =>
          h2.get? l = some (.obj (.loop (ready f tm params asg bd h1.n))) ∧ ∀ h2', (∀ b x, b ≠ l → h2.get? b = some x → h2'.get? b = some x) → h2'.n = h2.n →
          K1 P K { fn := f, round := none, dfr := false } N (fun e E3 h3 => (e = .normal ∨ e = .ret) ∧ h3.get? h1.n = some (.obj (.deferred (some []))) ∧ ∀ h4, (∀ b x, b ≠ h1.n → h3.get? b = some x → h4.get? b = some x) → h4.n = h3.n → ∃ ws, resE P E3 h4 fn.results.toList = some ws ∧ G (resV ws) h4)
            rest [] E1 h2'))) (preOf k (sq c .skip)) [] (envFrom 0 args.toList) h) : CallW P K f args h G := by
  refine zjn k hf hb hk hN ha hc hok ⟨fun tm D U hE => ?_⟩
  obtain ⟨n, e, tm1, h1, E1, hr, hE1, hq⟩ := H.out tm D U hE
  refine ⟨n, e, tm1, h1, E1, hr, hE1, ?_⟩
  rcases hq with hq | ⟨rfl, g0, fi, ca, hfo, hen, HK⟩
  · exact .inl hq
  · refine .inr ⟨rfl, g0, fi, ca, hfo, hen, fun tm2 hE2 => ?_⟩
    refine (HK tm2 (h1.n + 1) _ hE2 rfl (((Ext.refl h1).push _).push _) rfl zaa (zab zaa)).mono ?_
    rintro v h2 ⟨hl2, HR⟩
    refine ⟨hl2, ⟨fun tm3 D U hE3 => ?_⟩⟩
    obtain ⟨j, e3, tm4, h3, E3, hr3, hE4, he3, hd3, hG⟩ := (HR _ (fun b x q g => zaU hl2 q g) rfl).out tm3 D U hE3
    exact ⟨j, e3, tm4, h3, E3, hr3, hE4, he3, hd3, hG _ (fun b x q g => zaU hd3 q g) rfl⟩
end
def After {α : Type} (I : α → (Nat → Prop) → Heap → Prop) (s : α) (C : Nat → Prop) (h h1 : Heap) : Prop :=
  ∃ C', I s C' h1 ∧ (∀ b, C' b → C b ∨ h.n ≤ b) ∧ (∀ b x, ¬ C b → h.get? b = some x → h1.get? b = some x) ∧ h.n ≤ h1.n
theorem After.join {α : Type} {I : α → (Nat → Prop) → Heap → Prop} {t : α} {C C1 : Nat → Prop} {h h1 h2 : Heap} (m1 : ∀ b, C1 b → C b ∨ h.n ≤ b) (k1 : ∀ b x, ¬ C b → h.get? b = some x → h1.get? b = some x) (n1 : h.n ≤ h1.n) (a : After I t C1 h1 h2) : After I t C h h2 := by
  obtain ⟨C2, i2, m2, k2, n2⟩ := a
  refine ⟨C2, i2, fun b q => ?_, fun b x q g => ?_, Nat.le_trans n1 n2⟩
  · rcases m2 b q with q | q
    · exact m1 b q
    · exact .inr (Nat.le_trans n1 q)
  · refine k2 b x (fun q' => ?_) (k1 b x q g)
    rcases m1 b q' with q' | q'
    · exact q q'
    · have := Heap.get_lt g; omega
structure Consumer (P : Program) (K : Known) (l : Nat) {α : Type} (Val : α → Value → Heap → Prop) (all : List α) (X : Nat → Prop) (h0 : Heap) (I : List α → (Nat → Prop) → Heap → Prop) : Prop where
  stable : ∀ seen C h h', I seen C h → (∀ b x, C b → h.get? b = some x → h'.get? b = some x) → h.n ≤ h'.n → I seen C h'
  below : ∀ seen C h, I seen C h → ∀ b, C b → b < h.n
  round : ∀ seen a C h v, (∃ rest, seen ++ a :: rest = all) → Val a v h → I seen C h → h0.n ≤ h.n → (∀ b x, X b → h0.get? b = some x → h.get? b = some x) → RoundW P K l #[v] h (fun r h1 => r = .bool true ∧ After I (seen ++ [a]) C h h1)
def Iter (P : Program) (K : Known) (g : FuncId) (fi ca : Array Value) (h0 : Heap) {α : Type} (Val : α → Value → Heap → Prop) (all : List α) (X : Nat → Prop) : Prop :=
  (∀ b, X b → b < h0.n) ∧ ∀ (h : Heap) (l : Nat) (I : List α → (Nat → Prop) → Heap → Prop) (C : Nat → Prop), h0.n ≤ h.n → l < h.n → (∀ b x, X b → h0.get? b = some x → h.get? b = some x) → Consumer P K l Val all X h I → I [] C h → (∀ b, X b → ¬ C b) → CallW P K g (fi ++ #[.func (.yield l) #[] #[]] ++ ca) h (fun _ h1 => After I all C h h1)
theorem Iter.ext {P : Program} {K : Known} {g : FuncId} {fi ca : Array Value} {h0 h1 : Heap} {α : Type} {Val : α → Value → Heap → Prop} {all : List α} {X : Nat → Prop} (hi : Iter P K g fi ca h0 Val all X) (hx : ∀ b x, X b → h0.get? b = some x → h1.get? b = some x) (hn : h0.n ≤ h1.n) : Iter P K g fi ca h1 Val all X :=
  ⟨fun b q => Nat.lt_of_lt_of_le (hi.1 b q) hn, fun h l I C hn' hl hk hc h' hX => hi.2 h l I C (Nat.le_trans hn hn') hl (fun b x q g => hk b x q (hx b x q g)) hc h' hX⟩
theorem Iter.loop {P : Program} {K : Known} {g : FuncId} {fi ca : Array Value} {h0 hb : Heap} {α : Type} {Val : α → Value → Heap → Prop} {all : List α} {X : Nat → Prop} (hi : Iter P K g fi ca h0 Val all X) (hx : ∀ b x, X b → h0.get? b = some x → hb.get? b = some x) (hn : h0.n ≤ hb.n) {l : Nat} (hlb : l < hb.n)
    (J : List α → (Nat → Prop) → Heap → Prop) (C : Nat → Prop)
    (stable : ∀ seen C h h', J seen C h → (∀ b x, C b → h.get? b = some x → h'.get? b = some x) → h.n ≤ h'.n → J seen C h')
    (below : ∀ seen C h, J seen C h → ∀ b, C b → b < h.n)
    (hJ : J [] C hb) (hX : ∀ b, X b → ¬ C b)
    (round : ∀ seen a C1 h v, (∃ rest, seen ++ a :: rest = all) → Val a v h → J seen C1 h → (∀ b, C1 b → C b ∨ hb.n ≤ b) → (∀ b x, ¬ C b → hb.get? b = some x → h.get? b = some x) → hb.n ≤ h.n → RoundW P K l #[v] h (fun r h1 => r = .bool true ∧ After J (seen ++ [a]) C1 h h1)) :
    CallW P K g (fi ++ #[.func (.yield l) #[] #[]] ++ ca) hb (fun _ h1 => After J all C hb h1) := by
  let I : List α → (Nat → Prop) → Heap → Prop := fun seen D h => ∃ C1, J seen C1 h ∧ (∀ b, C1 b → D b) ∧ (∀ b, C1 b → C b ∨ hb.n ≤ b) ∧ (∀ b x, ¬ C b → ¬ X b → hb.get? b = some x → h.get? b = some x) ∧ (∀ b, b < hb.n → ¬ X b → D b) ∧ (∀ b, D b → b < h.n) ∧ (∀ b, X b → ¬ D b)
  have hXn : ∀ b, X b → b < hb.n := fun b q => Nat.lt_of_lt_of_le (hi.1 b q) hn
  have hcons : Consumer P K l Val all X hb I := by
    refine ⟨?_, ?_, ?_⟩
    · rintro seen D h h' ⟨C1, j, s1, s2, s3, s4, s5, s6⟩ hk hnn
      exact ⟨C1, stable _ _ _ _ j (fun b x q => hk b x (s1 b q)) hnn, s1, s2, fun b x q r e => hk b x (s4 b (Heap.get_lt e) r) (s3 b x q r e), s4, fun b q => Nat.lt_of_lt_of_le (s5 b q) hnn, s6⟩
    · rintro seen D h ⟨C1, j, s1, s2, s3, s4, s5, s6⟩
      exact s5
    · rintro seen a D h v hp hv ⟨C1, j, s1, s2, s3, s4, s5, s6⟩ hbn hkX
      refine (round seen a C1 h v hp hv j s2 (fun b x q e => ?_) hbn).mono ?_
      · by_cases hXb : X b
        · exact hkX b x hXb e
        · exact s3 b x q hXb e
      · rintro r h1 ⟨rfl, C2, j2, m2, k2, n2⟩
        refine ⟨rfl, fun b => D b ∨ (h.n ≤ b ∧ b < h1.n), ⟨C2, j2, fun b q => ?_, fun b q => ?_, fun b x q r e => ?_, fun b q r => Or.inl (s4 b q r), fun b q => ?_, fun b q r => ?_⟩, fun b q => ?_, fun b x q e => ?_, n2⟩
        · rcases m2 b q with q' | q'
          · exact Or.inl (s1 b q')
          · exact Or.inr ⟨q', below _ _ _ j2 b q⟩
        · rcases m2 b q with q' | q'
          · exact s2 b q'
          · exact .inr (Nat.le_trans hbn q')
        · refine k2 b x (fun q' => ?_) (s3 b x q r e)
          rcases s2 b q' with q' | q'
          · exact q q'
          · have := Heap.get_lt e; omega
        · rcases q with q | q
          · exact Nat.lt_of_lt_of_le (s5 b q) n2
          · exact q.2
        · rcases r with r | r
          · exact s6 b q r
          · have := hXn b q; omega
        · rcases q with q | q
          · exact Or.inl q
          · exact Or.inr q.1
        · exact k2 b x (fun q' => q (s1 b q')) e
  refine (hi.2 hb l I (fun b => b < hb.n ∧ ¬ X b) hn hlb hx hcons ⟨C, hJ, fun b q => ⟨below _ _ _ hJ b q, fun r => hX b r q⟩, fun b q => .inl q, fun b x _ _ e => e, fun b q r => ⟨q, r⟩, fun b q => q.1, fun b q r => r.2 q⟩ (fun b q r => r.2 q)).mono ?_
  rintro r h1 ⟨D, ⟨C1, j, s1, s2, s3, s4, s5, s6⟩, m, k, n1⟩
  refine ⟨C1, j, s2, fun b x q e => ?_, n1⟩
  by_cases hXb : X b
  · exact k b x (fun r => r.2 hXb) e
  · exact s3 b x q hXb e
end Go.AX

namespace Go.AX
section
variable {P : Program} {K : Known} {x : Ctx} {N : Nat} {E : Env} {h : Heap} {ops : Array Oper} {F : Ex → Env → Heap → Prop} {i : Nat}
variable {d : Nat} {ty : TypeId} {pos : String} {af : Array Edge} {g : Option (Nat × Bool)}
end
section
variable {P : Program} {K : Known} {x : Ctx} {N : Nat} {E : Env} {h : Heap} {ops : Array Oper} {F F' : Ex → Env → Heap → Prop} {i : Nat} {Hs : List Heap} {L : List Heap → Prop} {nw : List (Nat × Nat × Blk)}
variable {d : Nat} {ty : TypeId} {pos : String} {af : Array Edge} {g : Option (Nat × Bool)}
end
end Go.AX

namespace Go.AX
def jumpOf : Ex → Option (Option Code)
  | .normal => some none
  | .ret => some (some .ret)
  | .exit i => some (some (.exit i))
  | .panic _ => none
def left (r : Loop) (pd : Option Code) : Loop := { r with state := if pd.isNone then .ready else .done, pending := pd }
section
variable {P : Program} {K : Known} {x : Ctx} {N : Nat} {E : Env} {h : Heap}
end
theorem OutI.low {e : TypeId} {h0 h0' h : Heap} {v : Value} {l : List Int} (o : OutI e h0 h v l) (hn : h0'.n ≤ h0.n) : OutI e h0' h v l := by
  rcases o with o | ⟨hl, b, h1, h2, h3⟩
  · exact .inl o
  · exact .inr ⟨hl, b, h1, h2, Nat.le_trans hn h3⟩
theorem OutI.cells {e : TypeId} {h0 h : Heap} {v : Value} {l : List Int} (o : OutI e h0 h v l) : v.cells = #[v] ∧ oneB v = true := by
  rcases o with ⟨rfl, rfl⟩ | ⟨hl, b, rfl, h2, h3⟩ <;> exact ⟨rfl, rfl⟩
section
variable {P : Program} {K : Known} {x : Ctx} {N : Nat} {E : Env} {h : Heap} {ops : Array Oper} {F : Ex → Env → Heap → Prop} {i : Nat}
variable {d : Nat} {ty : TypeId} {pos : String} {af : Array Edge} {g : Option (Nat × Bool)}
end
section
variable {P : Program} {K : Known} {x : Ctx} {N : Nat} {E : Env} {h : Heap} {ops : Array Oper} {F : Ex → Env → Heap → Prop} {i : Nat} {Hs : List Heap} {L : List Heap → Prop} {nw : List (Nat × Nat × Blk)}
variable {d : Nat} {ty : TypeId} {pos : String} {af : Array Edge} {g : Option (Nat × Bool)}
theorem zlr {fo : Operand} {args : Array Operand} {ts : Array TypeId} {f : FuncId} {fi ca : Array Value} {vs : List Value} {G : Value → Heap → Prop} {j bn : Nat} {blk : Blk} (hN : Nat.blt d N = true) (hg : gval ops E g = some true) (hk : opsOK P ⟨some d, .call ⟨.value fo, args, ts⟩, ty, pos, af, g⟩ = true)
    (hf : E.ev fo = some (.func (.func f) fi ca)) (hargs : E.evs args.toList = some vs) (hen : enters P f = true) (hnw : unseen (preds ops.toList) nw i = [(j, bn, blk)]) (hbn : h.get? bn = some blk) (hc : CallW P K f (fi ++ vs.toArray ++ ca) (h.set bn .dead) G) (hG : ∀ v h1, G v h1 → Ext (h.set bn .dead) h1)
    (k : ∀ v h1 h2, G v h1 → Ext h h2 → (∀ b y, b ≠ bn → h1.get? b = some y → h2.get? b = some y) → S1 P K x N ops F (i + 1) ((d, v) :: E) h2 (h2 :: Hs) L nw) : S2 P K x N ops F i ⟨some d, .call ⟨.value fo, args, ts⟩, ty, pos, af, g⟩ E h Hs L nw := by
  refine ⟨fun ho => ?_⟩
  intro tm D U hE lk hlk
  obtain ⟨n, v, h1, hr, hv⟩ := zhA (x := x) hk hf hargs hen hc tm D U hE
  have e1 := hG v h1 hv
  have hd1 : h1.get? bn = some .dead := e1.get (zaW hbn)
  have keep : ∀ b y, b ≠ bn → h1.get? b = some y → (h1.set bn blk).get? b = some y := fun b y q g => zaU hd1 q g
  have e2 : Ext h (h1.set bn blk) := ⟨e1.n, fun b y g => by
    by_cases hb : b = bn
    · subst hb; rw [hbn] at g; cases g; exact zaW hd1
    · exact keep b y hb (e1.get (zaU hbn hb g))⟩
  obtain ⟨m, tm2, h2, E2, hs2, lk2, nw2, hr2, hl2, hE2, hF⟩ := (k v h1 _ hv e2 keep).out _ D U (hE.put (zbh hN) v) lk hlk
  refine ⟨max n m, tm2, h2, E2, hs2, lk2, nw2, ?_, hl2, hE2, hF⟩
  have e : openStep P (run P K n) x ops (preds ops.toList) ⟨⟨tm, D, U, h⟩, Hs, lk, nw⟩ i = some ⟨⟨put tm (some d) v, D, U, h1.set bn blk⟩, h1.set bn blk :: Hs, lk, nw⟩ := by
    unfold openStep openAct
    have hr' : doOp P (run P K n) x { (⟨tm, D, U, h⟩ : St) with h := hide [(j, bn, blk)] h } ⟨some d, .call ⟨.value fo, args, ts⟩, ty, pos, af, g⟩ = some (.val v, ⟨tm, D, U, h1⟩) := hr
    have hsi : isSimple ⟨some d, .call ⟨.value fo, args, ts⟩, ty, pos, af, g⟩ = false := rfl
    have hw : wantedB ops tm ⟨some d, .call ⟨.value fo, args, ts⟩, ty, pos, af, g⟩ = true := zaS (o := ⟨some d, .call ⟨.value fo, args, ts⟩, ty, pos, af, g⟩) hE hg
    simp only [hnw, ho, hsi, Bool.false_eq_true, if_false, hw, if_true, hr']
    simp only [List.all_cons, List.all_nil, hd1, Option.isSome_some, Bool.and_self, if_true]
    rfl
  rw [zcZ (Array.getElem?_eq_some_iff.1 ho).1, zbA (Nat.le_max_left n m) e]
  exact zcs (Nat.le_max_right n m) hr2
end
end Go.AX
