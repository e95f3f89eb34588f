/- Rules for maps of numbers, structs of numbers, bound methods, quotients; maps to truth values, lists of records, loops over functions within loops. -/
import Derived.Test.YtjdopbcoaocllaaGreatDoorAxX
import Derived.Test.YtjdopbcoaocllaaGreatDoorAxG
namespace Go.AX
open Instr
def mapT (P : Program) (t : TypeId) : Bool :=
  match P.underlying t with
  | some (.map kt e) => (match P.underlying kt with | some (.int _) => true | _ => false) && (match zeroB P e with | some (.int .i64 0) => true | _ => false)
  | _ => false
def Ents : List MapEntry → List (Int × Int) → Prop
  | [], [] => True
  | e :: es, p :: l => e.key = .int .i64 p.1 ∧ e.val = .int .i64 p.2 ∧ Ents es l
  | _, _ => False
def lk : List (Int × Int) → Int → Nat → Option (Nat × Int)
  | [], _, _ => none
  | p :: l, k, i => if k = p.1 then some (i, p.2) else lk l k (i + 1)
def updI : List (Int × Int) → Int → Int → List (Int × Int)
  | [], k, v => [(k, v)]
  | p :: l, k, v => if k = p.1 then (k, v) :: l else p :: updI l k v
def MapI (h : Heap) (r : Nat) (f : Int → Int) : Prop := ∃ es c l, h.get? r = some (.obj (.map es c)) ∧ Ents es.toList l ∧ ∀ k, ((lk l k 0).map (·.2)).getD 0 = f k
theorem MapI.ext {h h1 : Heap} {r : Nat} {f : Int → Int} (m : MapI h r f) (x : Ext h h1) : MapI h1 r f := by
  obtain ⟨es, c, l, a, b, d⟩ := m
  exact ⟨es, c, l, x.get a, b, d⟩
theorem MapI.but {h h1 : Heap} {r b : Nat} {f : Int → Int} (m : MapI h r f) (x : ExtBut b h h1) (hb : r ≠ b) : MapI h1 r f := by
  obtain ⟨es, c, l, a, e, d⟩ := m
  exact ⟨es, c, l, x.get hb a, e, d⟩
theorem MapI.lt {h : Heap} {r : Nat} {f : Int → Int} (m : MapI h r f) : r < h.n := by
  obtain ⟨es, c, l, a, e, d⟩ := m
  exact Heap.get_lt a
section
variable {P : Program} {K : Known} {x : Ctx} {N : Nat} {E : Env} {h : Heap} {ops : Array Oper} {F : Ex → Env → Heap → Prop} {i : Nat} {Hs : List Heap} {L : List Heap → Prop} {nw : List (Nat × Nat × Blk)}
variable {d : Nat} {ty : TypeId} {pos : String} {af : Array Edge} {g : Option (Nat × Bool)}
end
end Go.AX

namespace Go.AX
section
variable {P : Program} {K : Known} {x : Ctx} {N : Nat} {E : Env} {h : Heap} {ops : Array Oper} {F : Ex → Env → Heap → Prop} {i : Nat} {Hs : List Heap} {L : List Heap → Prop} {nw : List (Nat × Nat × Blk)}
variable {d : Nat} {ty : TypeId} {pos : String} {af : Array Edge} {g : Option (Nat × Bool)}
theorem P_bound {g0 : FuncId} {fs ca : Array Operand} {us vs : List Value} (hN : Nat.blt d N = true) (hg : gval ops E g = some true) (hk : opsOK P ⟨some d, .makeFunc (.func g0) fs ca, ty, pos, af, g⟩ = true)
    (hus : E.evs fs.toList = some us) (hvs : E.evs ca.toList = some vs) (k : R1 P K x N ops F (i + 1) ((d, .func (.func g0) us.toArray vs.toArray) :: E) h) : R2 P K x N ops F i ⟨some d, .makeFunc (.func g0) fs ca, ty, pos, af, g⟩ E h :=
  ⟨fun ho => zaC ho rfl hN hg hk (fun tm hE => by
    have h1 : fs.map (ev tm) = us.toArray := by
      apply Array.ext'
      rw [Array.toList_map, hE.evs hus]
    have h2 : ca.map (ev tm) = vs.toArray := by
      apply Array.ext'
      rw [Array.toList_map, hE.evs hvs]
    show some (Value.func (.func g0) (fs.map (ev tm)) (ca.map (ev tm)), h) = _
    rw [h1, h2]) k.out⟩
theorem zkT {tm : Array Value} {o : Oper} {t e : TypeId} {a j : Operand} {ik : IntKind} {k len : Nat} {cs : Array Value} {v : Value} (ho : o.op = .index t a j) (ha : AX.ev tm a = .agg cs) (hj : AX.ev tm j = .int ik (k : Nat))
    (hu : P.underlying t = some (.array len e)) (hs : one P e = true) (hv : cs[k]? = some v) (hl : k < len) : indexV P tm o t (.agg cs) (.int ik (k : Nat)) = some v := by
  have hag := zd4 hs
  have hsz := zcX hs
  have he : execOp (AX.ev tm) o = Sem.bind (Instr.index t (AX.ev tm a) (AX.ev tm j)) fun v => .pure (Next.value v) := by
    unfold execOp; rw [ho]; rfl
  have e1 : pe P (Instr.index t (.agg cs) (.int ik (k : Nat))) = some v := by
    unfold Instr.index
    refine (zam (a := (ik, (k : Int))) rfl).trans ?_
    refine (zam (zaL hu)).trans ?_
    dsimp only
    rw [if_pos ⟨by omega, by omega⟩]
    have es : pe P (sizeOf e) = some 1 := by
      unfold sizeB at hsz
      unfold sizeOf typeInfo
      show pe P (Sem.bind (match P.info? e with | some t => Sem.pure t | none => stuck "no such type") _) = _
      cases hi : P.info? e with
      | none => rw [hi] at hsz; cases hsz
      | some ti => rw [hi] at hsz; simp only [Option.map_some] at hsz; show some ti.size = some 1; exact hsz
    refine (zam es).trans ?_
    rw [Nat.mul_one, show (k : Int).toNat = k from rfl]
    unfold part isAgg
    unfold aggB at hag
    cases hue : P.underlying e with
    | none => rw [hue] at hag; cases hag
    | some u =>
      refine (zam (a := false) ((zam (zaL hue)).trans ?_)).trans ?_
      · rw [hue] at hag
        cases u <;> simp only [Option.some.injEq, Bool.true_eq_false] at hag <;> rfl
      · simp only [Bool.false_eq_true, if_false, hv]; rfl
  have e2 : indexB P t (.agg cs) (.int ik (k : Nat)) = some v := by
    unfold indexB
    rw [hu]
    simp only [hsz]
    rw [if_pos ⟨by omega, by omega⟩, Nat.mul_one, show (k : Int).toNat = k from rfl]
    unfold partB
    rw [hag, hsz]
    simpa using hv
  have e3 : plainOp P tm o = some v ∨ plainOp P tm o = none := by
    unfold plainOp
    split
    · rw [he, ha, hj, (zam e1).trans rfl]
      show (if plain deep v = true then some v else none) = some v ∨ (if plain deep v = true then some v else none) = none
      split <;> simp
    · exact .inr rfl
  unfold indexV
  rcases e3 with e | e <;> rw [e]
  exact e2
theorem zdM {t e : TypeId} {a j : Operand} {ik : IntKind} {k len : Nat} {q : Int} {cs : Array Value} {v : Value} (hN : Nat.blt d N = true) (hg : gval ops E g = some true) (hk : opsOK P ⟨some d, .index t a j, ty, pos, af, g⟩ = true)
    (ha : E.ev a = some (.agg cs)) (hj : E.ev j = some (.int ik q)) (hq : q = (k : Nat)) (hu : P.underlying t = some (.array len e)) (hs : one P e = true) (hl : k < len) (hv : cs[k]? = some v)
    (kk : R1 P K x N ops F (i + 1) ((d, v) :: E) h) : R2 P K x N ops F i ⟨some d, .index t a j, ty, pos, af, g⟩ E h :=
  ⟨fun ho => zaC ho rfl hN hg hk (fun tm hE => by
    subst hq
    show (indexV P tm ⟨some d, .index t a j, ty, pos, af, g⟩ t (AX.ev tm a) (AX.ev tm j)).map (fun v => (v, h)) = _
    have ea := hE.ev ha
    have ej := hE.ev hj
    rw [ea, ej, zkT rfl ea ej hu hs hv hl]; rfl) kk.out⟩
theorem zlq {t e : TypeId} {a j : Operand} {ik : IntKind} {b k len : Nat} {q : Int} (hN : Nat.blt d N = true) (hg : gval ops E g = some true) (hk : opsOK P ⟨some d, .indexAddr t a j, ty, pos, af, g⟩ = true)
    (ha : E.ev a = some (.pointer (some ⟨b, 0, none⟩))) (hj : E.ev j = some (.int ik q)) (hu : P.underlying t = some (.array len e)) (hs : sizeB P e = some 1) (hq : q = (k : Nat)) (hl : k < len)
    (kk : R1 P K x N ops F (i + 1) ((d, .pointer (some ⟨b, k, none⟩)) :: E) h) : R2 P K x N ops F i ⟨some d, .indexAddr t a j, ty, pos, af, g⟩ E h := by
  subst hq
  exact P_idxP hN hg hk ha hj hu hs hl kk
theorem zc9 {t : TypeId} {a y : Operand} {b n : Nat} {c : List Value} {e : TypeId} {v : Value} (hg : gval ops E g = some true) (hk : opsOK P ⟨none, .store t a y, ty, pos, af, g⟩ = true)
    (ha : E.ev a = some (.pointer (some ⟨b, 0, none⟩))) (hy : E.ev y = some v) (hb : h.get? b = some (.cells c e true)) (hs : sizeB P t = some n) (hc : v.cells.size = n) (hl : c.length = n) (hone : v.cells.toList.all oneB = true)
    (k : ∀ h1, h1.get? b = some (.cells v.cells.toList e true) → ExtBut b h h1 → R1 P K x N ops F (i + 1) E h1) : R2 P K x N ops F i ⟨none, .store t a y, ty, pos, af, g⟩ E h := by
  refine zfA hg hk ha hy hb hs hc (by omega) hone ?_
  have e1 : splice c 0 v.cells.toList = v.cells.toList := by
    have : v.cells.toList.length = c.length := by simp [hc, hl]
    simp [splice, this]
  rw [e1]
  exact k _ (zbz hb) ((ExtBut.refl b h).set hb _)
end
end Go.AX

namespace Go.AX
open Instr
def mapBT (P : Program) (t : TypeId) : Bool :=
  match P.underlying t with
  | some (.map kt e) => spanT P kt && (match zeroB P e with | some (.bool false) => true | _ => false)
  | _ => false
def keyV (p : Int × Int) : Value := .agg #[.int .i64 p.1, .int .i64 p.2]
def EntB : List MapEntry → List ((Int × Int) × Bool) → Prop
  | [], [] => True
  | e :: es, p :: l => e.key = keyV p.1 ∧ e.val = .bool p.2 ∧ EntB es l
  | _, _ => False
def lkB : List ((Int × Int) × Bool) → Int × Int → Nat → Option (Nat × Bool)
  | [], _, _ => none
  | p :: l, k, i => if k = p.1 then some (i, p.2) else lkB l k (i + 1)
def updB : List ((Int × Int) × Bool) → Int × Int → Bool → List ((Int × Int) × Bool)
  | [], k, v => [(k, v)]
  | p :: l, k, v => if k = p.1 then (k, v) :: l else p :: updB l k v
def delB : List ((Int × Int) × Bool) → Int × Int → List ((Int × Int) × Bool)
  | [], _ => []
  | p :: l, k => if k = p.1 then l else p :: delB l k
def MapB (h : Heap) (r : Nat) (f : Int × Int → Bool) : Prop := ∃ es c l, h.get? r = some (.obj (.map es c)) ∧ EntB es.toList l ∧ (l.map (·.1)).Nodup ∧ ∀ k, ((lkB l k 0).map (·.2)).getD false = f k
theorem MapB.ext {h h1 : Heap} {r : Nat} {f : Int × Int → Bool} (m : MapB h r f) (x : Ext h h1) : MapB h1 r f := by
  obtain ⟨es, c, l, a, b⟩ := m
  exact ⟨es, c, l, x.get a, b⟩
theorem MapB.but {h h1 : Heap} {r b : Nat} {f : Int × Int → Bool} (m : MapB h r f) (x : ExtBut b h h1) (hb : r ≠ b) : MapB h1 r f := by
  obtain ⟨es, c, l, a, e⟩ := m
  exact ⟨es, c, l, x.get hb a, e⟩
theorem MapB.keep {h h1 : Heap} {r : Nat} {f : Int × Int → Bool} (m : MapB h r f) (x : ∀ q, h.get? r = some q → h1.get? r = some q) : MapB h1 r f := by
  obtain ⟨es, c, l, a, e⟩ := m
  exact ⟨es, c, l, x _ a, e⟩
theorem MapB.lt {h : Heap} {r : Nat} {f : Int × Int → Bool} (m : MapB h r f) : r < h.n := by
  obtain ⟨es, c, l, a, e⟩ := m
  exact Heap.get_lt a
theorem MapB.to {h : Heap} {r : Nat} {f g : Int × Int → Bool} (m : MapB h r f) (q : ∀ k, f k = g k) : MapB h r g := by
  obtain ⟨es, c, l, a, b, d, e⟩ := m
  exact ⟨es, c, l, a, b, d, fun k => (e k).trans (q k)⟩
section
variable {P : Program} {K : Known} {x : Ctx} {N : Nat} {E : Env} {h : Heap} {ops : Array Oper} {F : Ex → Env → Heap → Prop} {i : Nat} {Hs : List Heap} {L : List Heap → Prop} {nw : List (Nat × Nat × Blk)}
variable {d : Nat} {ty : TypeId} {pos : String} {af : Array Edge} {g : Option (Nat × Bool)}
end
end Go.AX

namespace Go.AX
def cellK (P : Program) (s : Nat) (t : TypeId) : Option TypeId :=
  match P.underlying t with
  | some (.slice e) => match sizeB P e, bytesB P e, zeroB P e with
    | some (k + 1), some by_, some z => bif Nat.beq (k + 1) s && Nat.ble by_ 64 && Nat.beq z.cells.size s then some e else none
    | _, _, _ => none
  | _ => none
section
variable {P : Program} {h : Heap}
def RdK (h : Heap) (s : Nat) (p : Option Addr) (c : List Value) (n : Nat) : Prop := c.length = n * s ∧ (n = 0 ∨ ∃ b e own, p = some ⟨b, 0, none⟩ ∧ h.get? b = some (.cells c e own)) ∧ ∀ a, p = some a → a.spot = none
end
def OutC (e s : Nat) (h0 h : Heap) (v : Value) (c : List Value) (n : Nat) : Prop :=
  (n = 0 ∧ c = [] ∧ v = .slice none 0 0) ∨ (0 < n ∧ c.length = n * s ∧ ∃ b, v = .slice (some ⟨b, 0, none⟩) n unk ∧ h.get? b = some (.cells c e true) ∧ h0.n ≤ b)
theorem OutC.ext {e s n : Nat} {h0 h h1 : Heap} {v : Value} {c : List Value} (o : OutC e s h0 h v c n) (x : Ext h h1) : OutC e s h0 h1 v c n := by
  rcases o with o | ⟨a, b, q, r1, r2, r3⟩
  · exact .inl o
  · exact .inr ⟨a, b, q, r1, x.get r2, r3⟩
theorem OutC.but {e s n b : Nat} {h0 h h1 : Heap} {v : Value} {c : List Value} (o : OutC e s h0 h v c n) (x : ExtBut b h h1) (hb : b < h0.n) : OutC e s h0 h1 v c n := by
  rcases o with o | ⟨a, d, q, r1, r2, r3⟩
  · exact .inl o
  · exact .inr ⟨a, d, q, r1, x.get (by omega) r2, r3⟩
theorem OutC.rd {e s n : Nat} {h0 h : Heap} {v : Value} {c : List Value} (o : OutC e s h0 h v c n) : ∃ p k, v = .slice p n k ∧ RdK h s p c n := by
  rcases o with ⟨rfl, rfl, rfl⟩ | ⟨a, d, q, r1, r2, r3⟩
  · exact ⟨none, 0, rfl, by simp, .inl rfl, fun a q => by cases q⟩
  · exact ⟨_, _, r1, d, .inr ⟨q, e, true, rfl, r2⟩, fun a q => by cases q; rfl⟩
section
variable {P : Program} {K : Known} {x : Ctx} {N : Nat} {E : Env} {h : Heap} {ops : Array Oper} {F : Ex → Env → Heap → Prop} {i : Nat} {Hs : List Heap} {L : List Heap → Prop} {nw : List (Nat × Nat × Blk)}
variable {d : Nat} {ty : TypeId} {pos : String} {af : Array Edge} {g : Option (Nat × Bool)}
end
end Go.AX

namespace Go.AX
def marks (M : List Nat) : List Deferred := M.map fun r => { target := .collected r, args := #[] }
structure KM (P : Program) (K : Known) (x : Ctx) (N : Nat) (M : List Nat) (c : Code) (E : Env) (h : Heap) (Q : Ex → Env → Heap → List Nat → Prop) : Prop where
  out : ∀ tm D U, EnvOK N E tm → ∃ n e tm1 h1 E1 M1, (run P K n).code x c ⟨tm, marks M ++ D, U, h⟩ = some (e, ⟨tm1, marks M1 ++ D, U, h1⟩) ∧ EnvOK N E1 tm1 ∧ Q e E1 h1 M1
def GoOn (P : Program) (K : Known) (x : Ctx) (N : Nat) (b : Code) (Q : Ex → Env → Heap → List Nat → Prop) (e : Ex) (E1 : Env) (h1 : Heap) (M1 : List Nat) : Prop :=
  (e = .normal ∧ KM P K x N M1 b E1 h1 Q) ∨ (e ≠ .normal ∧ Q e E1 h1 M1)
section
variable {P : Program} {K : Known} {x : Ctx} {N : Nat} {E : Env} {h : Heap} {Q : Ex → Env → Heap → List Nat → Prop} {M : List Nat}
def unmark (M : List Nat) (h : Heap) : Heap := M.foldl (fun h r => h.set r (.obj (.deferred none))) h
end
end Go.AX

namespace Go.AX
section
variable {P : Program} {K : Known} {x : Ctx} {N : Nat} {E : Env} {h : Heap} {ops : Array Oper} {F : Ex → Env → Heap → Prop} {i : Nat} {Hs : List Heap} {L : List Heap → Prop} {nw : List (Nat × Nat × Blk)}
variable {d : Nat} {ty : TypeId} {pos : String} {af : Array Edge} {g : Option (Nat × Bool)}
theorem M_bs {t : TypeId} {len : Nat} {ps : Array (Nat × Operand)} {vs : List (Nat × Value)} {c : List Value} {e : TypeId} (hN : Nat.blt d N = true) (hg : gval ops E g = some true) (hk : opsOK P ⟨some d, .buildSlice t len ps, ty, pos, af, g⟩ = true)
    (hps : E.parts ps.toList = some vs) (hb : buildSliceB P h t len vs = some (.slice (some ⟨h.n, 0, none⟩) len len, h.push (.cells c e true))) (k : S1 P K x N ops F (i + 1) ((d, .slice (some ⟨h.n, 0, none⟩) len len) :: E) (h.push (.cells c e true)) Hs L ((i, h.n, .cells c e true) :: nw)) : S2 P K x N ops F i ⟨some d, .buildSlice t len ps, ty, pos, af, g⟩ E h Hs L nw :=
  ⟨fun ho => N_new ho rfl hN hg hk rfl (fun tm hE => by
    show buildSliceB P h t len (ps.toList.map fun (i, x) => (i, ev tm x)) = _
    rw [hE.parts hps, hb]) k.out⟩
end
end Go.AX

namespace Go.AX
section
variable {P : Program} {K : Known} {x : Ctx} {N : Nat} {E : Env} {h : Heap} {ops : Array Oper} {F : Ex → Env → Heap → Prop} {i : Nat}
variable {d : Nat} {ty : TypeId} {pos : String} {af : Array Edge} {g : Option (Nat × Bool)}
theorem zhM {t e : TypeId} {a c : Operand} {b len cap n q : Nat} {ik : IntKind} {z : Int} (hN : Nat.blt d N = true) (hg : gval ops E g = some true) (hk : opsOK P ⟨some d, .slice t a (some c) none none, ty, pos, af, g⟩ = true)
    (ha : E.ev a = some (.slice (some ⟨b, 0, none⟩) len cap)) (hc : E.ev c = some (.int ik z)) (hu : P.underlying t = some (.slice e)) (hs : sizeB P e = some n) (hz : z = (q : Nat)) (hlc : len ≤ cap) (hle : len ≤ 1000000) (h1 : q ≤ len)
    (k : ∀ o cap', (q < len → o = q * n) → R1 P K x N ops F (i + 1) ((d, .slice (some ⟨b, o, none⟩) (len - q) cap') :: E) h) : R2 P K x N ops F i ⟨some d, .slice t a (some c) none none, ty, pos, af, g⟩ E h := by
  subst hz
  have e1 : ∀ tm, simpleB P tm h ⟨some d, .slice t a (some c) none none, ty, pos, af, g⟩ = match ev tm a with | .string s => simpleB P tm h ⟨some d, .slice t a (some c) none none, ty, pos, af, g⟩ | _ => (sliceB P t (ev tm a) (some (ev tm c)) none none).map fun v => (v, h) := by
    intro tm
    split
    · rfl
    · rename_i v hv
      show (match ev tm a with | .string _ => _ | x => _) = _
      split
      · rename_i s hs; exact absurd hs (hv s)
      · rfl
  by_cases hk1 : Nat.blt cap unk = true
  · refine ⟨fun ho => zaC ho rfl hN hg hk (fun tm hE => ?_) (k (if cap = q then 0 else 0 + q * n) (cap - q) (fun w => by rw [if_neg (by omega)]; omega)).out⟩
    rw [e1, hE.ev ha, hE.ev hc]
    dsimp only
    unfold sliceB
    simp only [hu, Option.isSome_none, Bool.false_and, Bool.false_eq_true, if_false]
    unfold sliceRowB
    simp only [hk1, if_true, maxB, boundB]
    rw [if_pos ⟨by omega, by omega⟩]
    simp only [hs]
    rw [if_pos ⟨by have := Nat.lt_of_succ_le (Nat.le_of_ble_eq_true hk1); exact this, hlc⟩]
    simp
  · have hk2 : Nat.blt cap unk = false := Bool.eq_false_iff.2 hk1
    refine ⟨fun ho => zaC ho rfl hN hg hk (fun tm hE => ?_) (k (0 + q * n) (if roomOf len cap - q = 0 then anyCap else anyCap + (roomOf len cap - q)) (fun _ => by omega)).out⟩
    rw [e1, hE.ev ha, hE.ev hc]
    dsimp only
    unfold sliceB
    simp only [hu, Option.isSome_none, Bool.false_and, Bool.false_eq_true, if_false]
    unfold sliceRowB
    simp only [hk2, Bool.false_eq_true, if_false, maxB, boundB]
    rw [if_pos ⟨by omega, by omega⟩]
    simp only [hs]
    rw [if_pos ⟨by unfold unk; omega, Nat.le_refl _⟩]
    simp
theorem P_idxO {t e : TypeId} {a j : Operand} {b o len cap k n : Nat} {ik : IntKind} {q : Int} (hN : Nat.blt d N = true) (hg : gval ops E g = some true) (hk : opsOK P ⟨some d, .indexAddr t a j, ty, pos, af, g⟩ = true)
    (ha : E.ev a = some (.slice (some ⟨b, o * n, none⟩) len cap)) (hj : E.ev j = some (.int ik q)) (hu : P.underlying t = some (.slice e)) (hs : sizeB P e = some n) (hq : q = (k : Nat)) (hl : k < len) (kk : R1 P K x N ops F (i + 1) ((d, .pointer (some ⟨b, (o + k) * n, none⟩)) :: E) h) : R2 P K x N ops F i ⟨some d, .indexAddr t a j, ty, pos, af, g⟩ E h :=
  P_idx hN hg hk ha hj hu hs (by omega) (by omega) (by rw [show q.toNat = k from by omega, ← Nat.add_mul]; exact kk)
end
end Go.AX
