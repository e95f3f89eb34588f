/- Rules for maps of numbers, structs of numbers, bound methods, quotients; maps to truth values, lists of records, loops over functions within loops. -/
import Derived.Test.YtliligceejfakaaGreatDoorAxX
import Derived.Test.YtliligceejfakaaGreatDoorAxG
namespace Go.AX
open Instr
def mapT (P : Program) (t : TypeId) : Bool :=
  match P.underlying t with
  | some (.map kt e) => (match P.underlying kt with | some (.int _) => true | _ => false) && (match zeroB P e with | some (.int .i64 0) => true | _ => false)
  | _ => false
def Ents : List MapEntry → List (Int × Int) → Prop
  | [], [] => True
  | e :: es, p :: l => e.key = .int .i64 p.1 ∧ e.val = .int .i64 p.2 ∧ Ents es l
  | _, _ => False
def lk : List (Int × Int) → Int → Nat → Option (Nat × Int)
  | [], _, _ => none
  | p :: l, k, i => if k = p.1 then some (i, p.2) else lk l k (i + 1)
def updI : List (Int × Int) → Int → Int → List (Int × Int)
  | [], k, v => [(k, v)]
  | p :: l, k, v => if k = p.1 then (k, v) :: l else p :: updI l k v
def MapI (h : Heap) (r : Nat) (f : Int → Int) : Prop := ∃ es c l, h.get? r = some (.obj (.map es c)) ∧ Ents es.toList l ∧ ∀ k, ((lk l k 0).map (·.2)).getD 0 = f k
theorem MapI.ext {h h1 : Heap} {r : Nat} {f : Int → Int} (m : MapI h r f) (x : Ext h h1) : MapI h1 r f := by
  obtain ⟨es, c, l, a, b, d⟩ := m
  exact ⟨es, c, l, x.get a, b, d⟩
theorem MapI.but {h h1 : Heap} {r b : Nat} {f : Int → Int} (m : MapI h r f) (x : ExtBut b h h1) (hb : r ≠ b) : MapI h1 r f := by
  obtain ⟨es, c, l, a, e, d⟩ := m
  exact ⟨es, c, l, x.get hb a, e, d⟩
theorem MapI.lt {h : Heap} {r : Nat} {f : Int → Int} (m : MapI h r f) : r < h.n := by
  obtain ⟨es, c, l, a, e, d⟩ := m
  exact Heap.get_lt a
section
variable {P : Program} {K : Known} {x : Ctx} {N : Nat} {E : Env} {h : Heap} {ops : Array Oper} {F : Ex → Env → Heap → Prop} {i : Nat} {Hs : List Heap} {L : List Heap → Prop} {nw : List (Nat × Nat × Blk)}
variable {d : Nat} {ty : TypeId} {pos : String} {af : Array Edge} {g : Option (Nat × Bool)}
end
end Go.AX

namespace Go.AX
section
variable {P : Program} {K : Known} {x : Ctx} {N : Nat} {E : Env} {h : Heap} {ops : Array Oper} {F : Ex → Env → Heap → Prop} {i : Nat} {Hs : List Heap} {L : List Heap → Prop} {nw : List (Nat × Nat × Blk)}
variable {d : Nat} {ty : TypeId} {pos : String} {af : Array Edge} {g : Option (Nat × Bool)}
theorem zfT {t : TypeId} {a y : Operand} {b n : Nat} {c : List Value} {e : TypeId} {v : Value} (hg : gval ops E g = some true) (hk : opsOK P ⟨none, .store t a y, ty, pos, af, g⟩ = true)
    (ha : E.ev a = some (.pointer (some ⟨b, 0, none⟩))) (hy : E.ev y = some v) (hb : h.get? b = some (.cells c e true)) (hs : sizeB P t = some n) (hc : v.cells.size = n) (hl : c.length = n) (hone : v.cells.toList.all oneB = true)
    (k : ∀ h1, h1.get? b = some (.cells v.cells.toList e true) → ExtBut b h h1 → R1 P K x N ops F (i + 1) E h1) : R2 P K x N ops F i ⟨none, .store t a y, ty, pos, af, g⟩ E h := by
  refine zh0 hg hk ha hy hb hs hc (by omega) hone ?_
  have e1 : splice c 0 v.cells.toList = v.cells.toList := by
    have : v.cells.toList.length = c.length := by simp [hc, hl]
    simp [splice, this]
  rw [e1]
  exact k _ (zaE hb) ((ExtBut.refl b h).set hb _)
end
end Go.AX

namespace Go.AX
open Instr
def mapBT (P : Program) (t : TypeId) : Bool :=
  match P.underlying t with
  | some (.map kt e) => spanT P kt && (match zeroB P e with | some (.bool false) => true | _ => false)
  | _ => false
theorem zde {P : Program} {t : TypeId} (h : mapBT P t = true) : ∃ kt e, P.underlying t = some (.map kt e) ∧ spanT P kt = true ∧ zeroB P e = some (.bool false) := by
  unfold mapBT at h
  split at h
  · rename_i kt e hu
    rw [Bool.and_eq_true] at h
    obtain ⟨h1, h2⟩ := h
    split at h2
    · rename_i hz; exact ⟨kt, e, hu, h1, hz⟩
    · cases h2
  · cases h
def keyV (p : Int × Int) : Value := .agg #[.int .i64 p.1, .int .i64 p.2]
def EntB : List MapEntry → List ((Int × Int) × Bool) → Prop
  | [], [] => True
  | e :: es, p :: l => e.key = keyV p.1 ∧ e.val = .bool p.2 ∧ EntB es l
  | _, _ => False
def lkB : List ((Int × Int) × Bool) → Int × Int → Nat → Option (Nat × Bool)
  | [], _, _ => none
  | p :: l, k, i => if k = p.1 then some (i, p.2) else lkB l k (i + 1)
def updB : List ((Int × Int) × Bool) → Int × Int → Bool → List ((Int × Int) × Bool)
  | [], k, v => [(k, v)]
  | p :: l, k, v => if k = p.1 then (k, v) :: l else p :: updB l k v
def delB : List ((Int × Int) × Bool) → Int × Int → List ((Int × Int) × Bool)
  | [], _ => []
  | p :: l, k => if k = p.1 then l else p :: delB l k
theorem zlg {k : Int × Int} : ∀ {es : List MapEntry} {l : List ((Int × Int) × Bool)} (i : Nat), EntB es l → findP k.1 k.2 es i = some ((lkB l k i).map fun q => (q.1, Value.bool q.2)) := by
  intro es
  induction es with
  | nil => intro l i h; cases l with
    | nil => rfl
    | cons _ _ => cases h
  | cons e es ih =>
    intro l i h
    cases l with
    | nil => cases h
    | cons p l =>
      obtain ⟨h1, h2, h3⟩ := h
      have he : findP k.1 k.2 (e :: es) i = (match keyOf e.key with | some p => bif eqF k.1 p.1 && eqF k.2 p.2 then some (some (i, e.val)) else findP k.1 k.2 es (i + 1) | none => none) := rfl
      have hk : keyOf e.key = some p.1 := by rw [h1]; rfl
      rw [he, hk]
      simp only [zcB, lkB]
      by_cases hq : k = p.1
      · rw [if_pos hq, hq, h2]; simp
      · rw [if_neg hq, ih (i + 1) h3]
        have : (k.1 == p.1.1 && k.2 == p.1.2) = false := by
          cases hb : (k.1 == p.1.1 && k.2 == p.1.2) with
          | false => rfl
          | true =>
            rw [Bool.and_eq_true, beq_iff_eq, beq_iff_eq] at hb
            exact absurd (Prod.ext hb.1 hb.2) hq
        rw [this]; rfl
theorem ziq {k : Int × Int} : ∀ {es : List MapEntry} {l : List ((Int × Int) × Bool)} {i j : Nat} {w : Bool}, EntB es l → lkB l k i = some (j, w) → ∃ q e, j = i + q ∧ es[q]? = some e ∧ e.key = keyV k ∧ e.val = .bool w := by
  intro es
  induction es with
  | nil => intro l i j w h e; cases l with
    | nil => cases e
    | cons _ _ => cases h
  | cons x es ih =>
    intro l i j w h e
    cases l with
    | nil => cases h
    | cons p l =>
      obtain ⟨h1, h2, h3⟩ := h
      simp only [lkB] at e
      by_cases hk : k = p.1
      · rw [if_pos hk] at e; cases e
        exact ⟨0, x, rfl, rfl, by rw [h1, hk], h2⟩
      · rw [if_neg hk] at e
        obtain ⟨q, y, a, b, c, d⟩ := ih h3 e
        exact ⟨q + 1, y, by omega, by simpa using b, c, d⟩
theorem zdg {P : Program} {em : Bool} {kt : TypeId} {k : Int × Int} {es : List MapEntry} {l : List ((Int × Int) × Bool)} (hs : spanT P kt = true) (h : EntB es l) : findB P em kt (keyV k) es = some ((lkB l k 0).map fun q => (q.1, .bool q.2)) :=
  zfc hs (zlg 0 h)
theorem zck {k : Int × Int} : ∀ (l : List ((Int × Int) × Bool)) (i : Nat), (lkB l k i).map (·.2) = (lkB l k 0).map (·.2) := by
  intro l
  induction l with
  | nil => intro i; rfl
  | cons p l ih =>
    intro i
    simp only [lkB]
    by_cases hk : k = p.1
    · rw [if_pos hk, if_pos hk]; rfl
    · rw [if_neg hk, if_neg hk, ih (i + 1), ih (0 + 1)]
theorem lkB_upd {k : Int × Int} {v : Bool} : ∀ (l : List ((Int × Int) × Bool)) (q : Int × Int), (lkB (updB l k v) q 0).map (·.2) = if q = k then some v else (lkB l q 0).map (·.2) := by
  intro l
  induction l with
  | nil => intro q; simp only [updB, lkB]; by_cases hq : q = k <;> simp [hq]
  | cons p l ih =>
    intro q
    simp only [updB]
    by_cases hk : k = p.1
    · rw [if_pos hk]
      simp only [lkB]
      by_cases hq : q = k
      · simp [hq]
      · rw [if_neg hq, if_neg hq, if_neg (fun e => hq (e.trans hk.symm))]
    · rw [if_neg hk]
      simp only [lkB]
      by_cases hp : q = p.1
      · rw [if_pos hp, if_pos hp, if_neg (by rw [hp]; exact fun e => hk e.symm)]
      · rw [if_neg hp, if_neg hp, zck (updB l k v) (0 + 1), ih q, zck l (0 + 1)]
theorem lkB_not {k : Int × Int} : ∀ {l : List ((Int × Int) × Bool)} {i : Nat}, (∀ p ∈ l, p.1 ≠ k) → lkB l k i = none := by
  intro l
  induction l with
  | nil => intro i _; rfl
  | cons p l ih =>
    intro i h
    simp only [lkB]
    rw [if_neg (fun e => h p (List.mem_cons_self ..) e.symm)]
    exact ih fun p q => h p (List.mem_cons_of_mem _ q)
theorem lkB_del {k : Int × Int} : ∀ (l : List ((Int × Int) × Bool)) (q : Int × Int), (l.map (·.1)).Nodup → (lkB (delB l k) q 0).map (·.2) = if q = k then none else (lkB l q 0).map (·.2) := by
  intro l
  induction l with
  | nil => intro q _; simp only [delB, lkB]; by_cases hq : q = k <;> simp [hq]
  | cons p l ih =>
    intro q hn
    rw [List.map_cons, List.nodup_cons] at hn
    obtain ⟨hp0, hn⟩ := hn
    simp only [delB]
    by_cases hk : k = p.1
    · rw [if_pos hk]
      simp only [lkB]
      by_cases hq : q = k
      · rw [if_pos hq, lkB_not (fun r hr e => hp0 (by rw [← hk, ← hq, ← e]; exact List.mem_map_of_mem hr))]; rfl
      · rw [if_neg hq, if_neg (fun e => hq (e.trans hk.symm)), zck l (0 + 1)]
    · rw [if_neg hk]
      simp only [lkB]
      by_cases hp : q = p.1
      · rw [if_pos hp, if_pos hp, if_neg (by rw [hp]; exact fun e => hk e.symm)]
      · rw [if_neg hp, if_neg hp, zck (delB l k) (0 + 1), ih q hn, zck l (0 + 1)]
theorem mem_updB {k : Int × Int} {v : Bool} {q : Int × Int} : ∀ {l : List ((Int × Int) × Bool)}, q ∈ (updB l k v).map (·.1) → q = k ∨ q ∈ l.map (·.1) := by
  intro l
  induction l with
  | nil => intro h; simp only [updB, List.map_cons, List.map_nil, List.mem_singleton] at h; exact .inl h
  | cons p l ih =>
    intro h
    simp only [updB] at h
    by_cases hk : k = p.1
    · rw [if_pos hk, List.map_cons, List.mem_cons] at h
      rcases h with h | h
      · exact .inl h
      · exact .inr (by rw [List.map_cons]; exact List.mem_cons_of_mem _ h)
    · rw [if_neg hk, List.map_cons, List.mem_cons] at h
      rcases h with h | h
      · exact .inr (by rw [List.map_cons, h]; exact List.mem_cons_self ..)
      · rcases ih h with h | h
        · exact .inl h
        · exact .inr (by rw [List.map_cons]; exact List.mem_cons_of_mem _ h)
theorem ze8 {k : Int × Int} {v : Bool} : ∀ {l : List ((Int × Int) × Bool)}, (l.map (·.1)).Nodup → ((updB l k v).map (·.1)).Nodup := by
  intro l
  induction l with
  | nil => intro _; simp [updB]
  | cons p l ih =>
    intro h
    rw [List.map_cons, List.nodup_cons] at h
    simp only [updB]
    by_cases hk : k = p.1
    · rw [if_pos hk, List.map_cons, List.nodup_cons]
      exact ⟨by dsimp only; rw [hk]; exact h.1, h.2⟩
    · rw [if_neg hk, List.map_cons, List.nodup_cons]
      refine ⟨fun q => ?_, ih h.2⟩
      rcases mem_updB q with q | q
      · exact hk q.symm
      · exact h.1 q
theorem mem_delB {k q : Int × Int} : ∀ {l : List ((Int × Int) × Bool)}, q ∈ (delB l k).map (·.1) → q ∈ l.map (·.1) := by
  intro l
  induction l with
  | nil => intro h; exact h
  | cons p l ih =>
    intro h
    simp only [delB] at h
    by_cases hk : k = p.1
    · rw [if_pos hk] at h; rw [List.map_cons]; exact List.mem_cons_of_mem _ h
    · rw [if_neg hk, List.map_cons, List.mem_cons] at h
      rw [List.map_cons, List.mem_cons]
      exact h.imp id ih
theorem ze9 {k : Int × Int} : ∀ {l : List ((Int × Int) × Bool)}, (l.map (·.1)).Nodup → ((delB l k).map (·.1)).Nodup := by
  intro l
  induction l with
  | nil => intro h; exact h
  | cons p l ih =>
    intro h
    rw [List.map_cons, List.nodup_cons] at h
    simp only [delB]
    by_cases hk : k = p.1
    · rw [if_pos hk]; exact h.2
    · rw [if_neg hk, List.map_cons, List.nodup_cons]
      exact ⟨fun q => h.1 (mem_delB q), ih h.2⟩
theorem entB_upd {k : Int × Int} {v w : Bool} : ∀ {es : List MapEntry} {l : List ((Int × Int) × Bool)} {i j : Nat}, EntB es l → lkB l k i = some (i + j, w) → EntB (es.modify j fun e => { e with key := keyV k, val := .bool v }) (updB l k v) := by
  intro es
  induction es with
  | nil => intro l i j h e; cases l with
    | nil => cases e
    | cons _ _ => cases h
  | cons x es ih =>
    intro l i j h e
    cases l with
    | nil => cases h
    | cons p l =>
      obtain ⟨h1, h2, h3⟩ := h
      simp only [lkB] at e
      simp only [updB]
      by_cases hk : k = p.1
      · rw [if_pos hk] at e ⊢
        simp only [Option.some.injEq, Prod.mk.injEq] at e
        have : j = 0 := by omega
        subst this
        exact ⟨rfl, rfl, h3⟩
      · rw [if_neg hk] at e ⊢
        obtain ⟨q, _, a, _, _, _⟩ := ziq h3 e
        obtain ⟨j, rfl⟩ : ∃ j', j = j' + 1 := ⟨j - 1, by omega⟩
        exact ⟨h1, h2, ih (i := i + 1) (j := j) h3 (by rw [e]; congr 2; omega)⟩
theorem entB_del {k : Int × Int} {w : Bool} : ∀ {es : List MapEntry} {l : List ((Int × Int) × Bool)} {i j : Nat}, EntB es l → lkB l k i = some (i + j, w) → EntB (es.eraseIdx j) (delB l k) := by
  intro es
  induction es with
  | nil => intro l i j h e; cases l with
    | nil => cases e
    | cons _ _ => cases h
  | cons x es ih =>
    intro l i j h e
    cases l with
    | nil => cases h
    | cons p l =>
      obtain ⟨h1, h2, h3⟩ := h
      simp only [lkB] at e
      simp only [delB]
      by_cases hk : k = p.1
      · rw [if_pos hk] at e ⊢
        simp only [Option.some.injEq, Prod.mk.injEq] at e
        have : j = 0 := by omega
        subst this
        exact h3
      · rw [if_neg hk] at e ⊢
        obtain ⟨q, _, a, _, _, _⟩ := ziq h3 e
        obtain ⟨j, rfl⟩ : ∃ j', j = j' + 1 := ⟨j - 1, by omega⟩
        exact ⟨h1, h2, ih (i := i + 1) (j := j) h3 (by rw [e]; congr 2; omega)⟩
theorem zlo {k : Int × Int} : ∀ {l : List ((Int × Int) × Bool)} {i : Nat}, lkB l k i = none → delB l k = l := by
  intro l
  induction l with
  | nil => intro i _; rfl
  | cons p l ih =>
    intro i h
    simp only [lkB] at h
    simp only [delB]
    by_cases hk : k = p.1
    · rw [if_pos hk] at h; cases h
    · rw [if_neg hk] at h ⊢; rw [ih h]
theorem entB_new {k : Int × Int} {v : Bool} {c : Nat} : ∀ {es : List MapEntry} {l : List ((Int × Int) × Bool)} {i : Nat}, EntB es l → lkB l k i = none → EntB (es ++ [{ key := keyV k, val := .bool v, born := c }]) (updB l k v) := by
  intro es
  induction es with
  | nil => intro l i h e; cases l with
    | nil => exact ⟨rfl, rfl, trivial⟩
    | cons _ _ => cases h
  | cons x es ih =>
    intro l i h e
    cases l with
    | nil => cases h
    | cons p l =>
      obtain ⟨h1, h2, h3⟩ := h
      simp only [lkB] at e
      by_cases hk : k = p.1
      · rw [if_pos hk] at e; cases e
      · rw [if_neg hk] at e
        simp only [updB, if_neg hk]
        exact ⟨h1, h2, ih h3 e⟩
def MapB (h : Heap) (r : Nat) (f : Int × Int → Bool) : Prop := ∃ es c l, h.get? r = some (.obj (.map es c)) ∧ EntB es.toList l ∧ (l.map (·.1)).Nodup ∧ ∀ k, ((lkB l k 0).map (·.2)).getD false = f k
theorem MapB.ext {h h1 : Heap} {r : Nat} {f : Int × Int → Bool} (m : MapB h r f) (x : Ext h h1) : MapB h1 r f := by
  obtain ⟨es, c, l, a, b⟩ := m
  exact ⟨es, c, l, x.get a, b⟩
theorem MapB.but {h h1 : Heap} {r b : Nat} {f : Int × Int → Bool} (m : MapB h r f) (x : ExtBut b h h1) (hb : r ≠ b) : MapB h1 r f := by
  obtain ⟨es, c, l, a, e⟩ := m
  exact ⟨es, c, l, x.get hb a, e⟩
theorem MapB.keep {h h1 : Heap} {r : Nat} {f : Int × Int → Bool} (m : MapB h r f) (x : ∀ q, h.get? r = some q → h1.get? r = some q) : MapB h1 r f := by
  obtain ⟨es, c, l, a, e⟩ := m
  exact ⟨es, c, l, x _ a, e⟩
theorem MapB.lt {h : Heap} {r : Nat} {f : Int × Int → Bool} (m : MapB h r f) : r < h.n := by
  obtain ⟨es, c, l, a, e⟩ := m
  exact Heap.get_lt a
theorem MapB.to {h : Heap} {r : Nat} {f g : Int × Int → Bool} (m : MapB h r f) (q : ∀ k, f k = g k) : MapB h r g := by
  obtain ⟨es, c, l, a, b, d, e⟩ := m
  exact ⟨es, c, l, a, b, d, fun k => (e k).trans (q k)⟩
theorem mapB_new {h : Heap} : MapB (h.push (.obj (.map #[] 0))) h.n fun _ => false := ⟨#[], 0, [], zaa, trivial, List.nodup_nil, fun _ => rfl⟩
theorem lookupS {P : Program} {h : Heap} {t : TypeId} {r : Nat} {f : Int × Int → Bool} {a b : Int} (ht : mapBT P t = true) (m : MapB h r f) : lookupB P h t (.map (some r)) (.agg #[.int .i64 a, .int .i64 b]) false = some (.bool (f (a, b))) := by
  obtain ⟨kt, e, hu, hk, hz⟩ := zde ht
  obtain ⟨es, c, l, hg, hE, _, hf⟩ := m
  unfold lookupB
  have hr : mapRows h (.map (some r)) = some es := by simp only [mapRows, mapOf, hg]
  have hfb := zdg (P := P) (em := es.isEmpty) (k := (a, b)) hk hE
  unfold keyV at hfb
  simp only [hu, hr, hz, hfb]
  rw [← hf (a, b)]
  cases lkB l (a, b) 0 with
  | none => rfl
  | some q => rfl
theorem zf9 (k : Int × Int) : sameBits 10000 (keyV k) (keyV k) = true := by simp [sameBits, keyV]
theorem updateS {P : Program} {h : Heap} {t : TypeId} {r : Nat} {f : Int × Int → Bool} {k : Int × Int} {v : Bool} (ht : mapBT P t = true) (m : MapB h r f) : ∃ h1, mapUpdateB P h t (.map (some r)) (keyV k) (.bool v) = some h1 ∧ MapB h1 r (fun q => if q = k then v else f q) ∧ ExtBut r h h1 := by
  obtain ⟨kt, e, hu, hk, hz⟩ := zde ht
  obtain ⟨es, c, l, hg, hE, hn, hf⟩ := m
  have hm : mapOf h (.map (some r)) = some (r, es, c) := by simp only [mapOf, hg]
  have hfun : ∀ q, ((lkB (updB l k v) q 0).map (·.2)).getD false = if q = k then v else f q := by
    intro q
    rw [lkB_upd]
    by_cases hq : q = k
    · rw [if_pos hq, if_pos hq]; rfl
    · rw [if_neg hq, if_neg hq]; exact hf q
  unfold mapUpdateB
  simp only [hu, hm, zdg (k := k) hk hE]
  cases hl : lkB l k 0 with
  | none =>
    simp only [Option.map_none]
    refine ⟨_, rfl, ⟨_, _, updB l k v, zaE hg, ?_, ze8 hn, hfun⟩, (ExtBut.refl r h).set hg _⟩
    rw [Array.toList_push]
    exact entB_new hE hl
  | some q =>
    obtain ⟨j, w⟩ := q
    obtain ⟨q, x, h1, h2, h3, h4⟩ := ziq hE hl
    have hj : j = q := by omega
    subst hj
    have h2' : es[j]? = some x := by rw [← Array.getElem?_toList]; exact h2
    simp only [Option.map_some, h2']
    have hsb : sameBits 10000 x.key (keyV k) = true := by rw [h3]; exact zf9 k
    rw [if_pos hsb]
    refine ⟨_, rfl, ⟨_, _, updB l k v, zaE hg, ?_, ze8 hn, hfun⟩, (ExtBut.refl r h).set hg _⟩
    rw [Array.toList_modify]
    exact entB_upd hE (i := 0) (by rw [Nat.zero_add]; exact hl)
theorem deleteS {P : Program} {h : Heap} {ts : Array TypeId} {t : TypeId} {r : Nat} {f : Int × Int → Bool} {k : Int × Int} (h0 : ts[0]? = some t) (ht : mapBT P t = true) (m : MapB h r f) : ∃ h1, deleteB P h ts (.map (some r)) (keyV k) = some (.tuple #[], h1) ∧ MapB h1 r (fun q => if q = k then false else f q) ∧ ExtBut r h h1 := by
  obtain ⟨kt, e, hu, hk, hz⟩ := zde ht
  obtain ⟨es, c, l, hg, hE, hn, hf⟩ := m
  have hm : mapOf h (.map (some r)) = some (r, es, c) := by simp only [mapOf, hg]
  have hfun : ∀ q, ((lkB (delB l k) q 0).map (·.2)).getD false = if q = k then false else f q := by
    intro q
    rw [lkB_del l q hn]
    by_cases hq : q = k
    · rw [if_pos hq, if_pos hq]; rfl
    · rw [if_neg hq, if_neg hq]; exact hf q
  unfold deleteB
  simp only [h0, hu, hm, zdg (em := es.isEmpty) (k := k) hk hE]
  cases hl : lkB l k 0 with
  | none =>
    simp only [Option.map_none]
    exact ⟨_, rfl, ⟨_, _, delB l k, zaE hg, by rw [zlo hl]; exact hE, ze9 hn, hfun⟩, (ExtBut.refl r h).set hg _⟩
  | some q =>
    obtain ⟨j, w⟩ := q
    obtain ⟨q, x, h1, h2, h3, h4⟩ := ziq hE hl
    have hj : j = q := by omega
    subst hj
    simp only [Option.map_some]
    refine ⟨_, rfl, ⟨_, _, delB l k, zaE hg, ?_, ze9 hn, hfun⟩, (ExtBut.refl r h).set hg _⟩
    have hlt : j < es.size := by
      have := (List.getElem?_eq_some_iff.1 h2).1
      simpa using this
    unfold Array.eraseIdxIfInBounds
    rw [dif_pos hlt, Array.toList_eraseIdx]
    exact entB_del hE (i := 0) (by rw [Nat.zero_add]; exact hl)
section
variable {P : Program} {K : Known} {x : Ctx} {N : Nat} {E : Env} {h : Heap} {ops : Array Oper} {F : Ex → Env → Heap → Prop} {i : Nat} {Hs : List Heap} {L : List Heap → Prop} {nw : List (Nat × Nat × Blk)}
variable {d : Nat} {ty : TypeId} {pos : String} {af : Array Edge} {g : Option (Nat × Bool)}
theorem zjQ {t : TypeId} (hN : Nat.blt d N = true) (hg : gval ops E g = some true) (hk : opsOK P ⟨some d, .makeMap t none, ty, pos, af, g⟩ = true)
    (k : ∀ h1, MapB h1 h.n (fun _ => false) → Ext h h1 → h1.n = h.n + 1 → R1 P K x N ops F (i + 1) ((d, .map (some h.n)) :: E) h1) : R2 P K x N ops F i ⟨some d, .makeMap t none, ty, pos, af, g⟩ E h :=
  ⟨fun ho => zax ho rfl hN hg hk (fun _ _ => rfl) (k _ mapB_new ((Ext.refl h).push _) rfl).out⟩
theorem zlK {t : TypeId} {a b : Operand} {r : Nat} {m n : Int} {f : Int × Int → Bool} (hN : Nat.blt d N = true) (hg : gval ops E g = some true) (hk : opsOK P ⟨some d, .lookup t a b false, ty, pos, af, g⟩ = true)
    (ha : E.ev a = some (.map (some r))) (hb : E.ev b = some (.agg #[.int .i64 m, .int .i64 n])) (ht : mapBT P t = true) (hm : MapB h r f)
    (kt : f (m, n) = true → R1 P K x N ops F (i + 1) ((d, .bool true) :: E) h) (kf : f (m, n) = false → R1 P K x N ops F (i + 1) ((d, .bool false) :: E) h) : R2 P K x N ops F i ⟨some d, .lookup t a b false, ty, pos, af, g⟩ E h := by
  have e : ∀ tm, EnvOK N E tm → simpleB P tm h ⟨some d, .lookup t a b false, ty, pos, af, g⟩ = some (.bool (f (m, n)), h) := fun tm hE => by
    show (lookupB P h t (ev tm a) (ev tm b) false).map (fun v => (v, h)) = _
    rw [hE.ev ha, hE.ev hb, lookupS ht hm]; rfl
  cases hf : f (m, n) with
  | true => exact ⟨fun ho => zax ho rfl hN hg hk (fun tm hE => by rw [e tm hE, hf]) (kt hf).out⟩
  | false => exact ⟨fun ho => zax ho rfl hN hg hk (fun tm hE => by rw [e tm hE, hf]) (kf hf).out⟩
theorem zfO {t : TypeId} {a b c : Operand} {r : Nat} {m n : Int} {v : Bool} {f : Int × Int → Bool} (hk : opsOK P ⟨none, .mapUpdate t a b c, ty, pos, af, g⟩ = true)
    (ha : E.ev a = some (.map (some r))) (hb : E.ev b = some (.agg #[.int .i64 m, .int .i64 n])) (hc : E.ev c = some (.bool v)) (ht : mapBT P t = true) (hm : MapB h r f) (tm : Array Value) (D : List Deferred) (U : FrameMode) (hE : EnvOK N E tm) :
    ∃ m' v' h1, doOp P (run P K m') x ⟨tm, D, U, h⟩ ⟨none, .mapUpdate t a b c, ty, pos, af, g⟩ = some (.val v', ⟨tm, D, U, h1⟩) ∧ MapB h1 r (fun q => if q = (m, n) then v else f q) ∧ ExtBut r h h1 := by
  obtain ⟨h1, e, q1, q2⟩ := updateS (P := P) (k := (m, n)) (v := v) ht hm
  refine ⟨0, undef, h1, zcn hk rfl rfl ?_, q1, q2⟩
  show (mapUpdateB P h t (ev tm a) (ev tm b) (ev tm c)).map (fun h => (Out.val undef, h)) = _
  rw [hE.ev ha, hE.ev hb, hE.ev hc]
  show (mapUpdateB P h t (.map (some r)) (keyV (m, n)) (.bool v)).map (fun h => (Out.val undef, h)) = _
  rw [e]; rfl
theorem zgV {t : TypeId} {a b c : Operand} {r : Nat} {m n : Int} {v : Bool} {f : Int × Int → Bool} (hg : gval ops E g = some true) (hk : opsOK P ⟨none, .mapUpdate t a b c, ty, pos, af, g⟩ = true)
    (ha : E.ev a = some (.map (some r))) (hb : E.ev b = some (.agg #[.int .i64 m, .int .i64 n])) (hc : E.ev c = some (.bool v)) (ht : mapBT P t = true) (hm : MapB h r f)
    (k : ∀ h1, MapB h1 r (fun q => if q = (m, n) then v else f q) → ExtBut r h h1 → R1 P K x N ops F (i + 1) E h1) : R2 P K x N ops F i ⟨none, .mapUpdate t a b c, ty, pos, af, g⟩ E h :=
  ⟨fun ho => O_act (G := fun h1 => MapB h1 r (fun q => if q = (m, n) then v else f q) ∧ ExtBut r h h1) ho rfl hg (fun tm D U hE => zfO hk ha hb hc ht hm tm D U hE) (fun h1 q => (k h1 q.1 q.2).out)⟩
theorem zjD {dd : Option Tmp} {args : Array Operand} {ts : Array TypeId} {t : TypeId} {a b : Operand} {r : Nat} {m n : Int} {f : Int × Int → Bool} (hk : opsOK P ⟨dd, .call ⟨.builtin .delete, args, ts⟩, ty, pos, af, g⟩ = true)
    (hargs : args.toList = [a, b]) (ha : E.ev a = some (.map (some r))) (hb : E.ev b = some (.agg #[.int .i64 m, .int .i64 n])) (h0 : ts[0]? = some t) (ht : mapBT P t = true) (hm : MapB h r f) (tm : Array Value) (D : List Deferred) (U : FrameMode) (hE : EnvOK N E tm) :
    ∃ m' h1, doOp P (run P K m') x ⟨tm, D, U, h⟩ ⟨dd, .call ⟨.builtin .delete, args, ts⟩, ty, pos, af, g⟩ = some (.val (.tuple #[]), ⟨tm, D, U, h1⟩) ∧ MapB h1 r (fun q => if q = (m, n) then false else f q) ∧ ExtBut r h h1 := by
  obtain ⟨h1, e, q1, q2⟩ := deleteS (P := P) (k := (m, n)) h0 ht hm
  refine ⟨0, h1, zcn hk rfl rfl ?_, q1, q2⟩
  obtain ⟨args⟩ := args
  simp only at hargs
  subst hargs
  show (deleteB P h ts (ev tm a) (ev tm b)).map (fun p => (Out.val p.1, p.2)) = _
  rw [hE.ev ha, hE.ev hb]
  show (deleteB P h ts (.map (some r)) (keyV (m, n))).map (fun p => (Out.val p.1, p.2)) = _
  rw [e]; rfl
theorem zjS {args : Array Operand} {ts : Array TypeId} {t : TypeId} {a b : Operand} {r : Nat} {m n : Int} {f : Int × Int → Bool} (hg : gval ops E g = some true) (hk : opsOK P ⟨none, .call ⟨.builtin .delete, args, ts⟩, ty, pos, af, g⟩ = true)
    (hargs : args.toList = [a, b]) (ha : E.ev a = some (.map (some r))) (hb : E.ev b = some (.agg #[.int .i64 m, .int .i64 n])) (h0 : ts[0]? = some t) (ht : mapBT P t = true) (hm : MapB h r f)
    (k : ∀ h1, MapB h1 r (fun q => if q = (m, n) then false else f q) → ExtBut r h h1 → R1 P K x N ops F (i + 1) E h1) : R2 P K x N ops F i ⟨none, .call ⟨.builtin .delete, args, ts⟩, ty, pos, af, g⟩ E h :=
  ⟨fun ho => O_act (G := fun h1 => MapB h1 r (fun q => if q = (m, n) then false else f q) ∧ ExtBut r h h1) ho rfl hg (fun tm D U hE => by
    obtain ⟨m', h1, e, q⟩ := zjD hk hargs ha hb h0 ht hm tm D U hE
    exact ⟨m', _, h1, e, q⟩) (fun h1 q => (k h1 q.1 q.2).out)⟩
end
end Go.AX

namespace Go.AX
def cellK (P : Program) (s : Nat) (t : TypeId) : Option TypeId :=
  match P.underlying t with
  | some (.slice e) => match sizeB P e, bytesB P e, zeroB P e with
    | some (k + 1), some by_, some z => bif Nat.beq (k + 1) s && Nat.ble by_ 64 && Nat.beq z.cells.size s then some e else none
    | _, _, _ => none
  | _ => none
theorem zdj {s : Nat} {t e : TypeId} {P : Program} (hc : cellK P s t = some e) : ∃ k by_ z, s = k + 1 ∧ P.underlying t = some (.slice e) ∧ sizeB P e = some (k + 1) ∧ bytesB P e = some by_ ∧ zeroB P e = some z ∧ by_ ≤ 64 ∧ z.cells.size = k + 1 := by
  unfold cellK at hc
  split at hc
  · rename_i e' hu
    split at hc
    · rename_i k by_ z hs hb hz
      cases hle : (Nat.beq (k + 1) s && Nat.ble by_ 64 && Nat.beq z.cells.size s) with
      | true =>
        rw [hle] at hc
        cases hc
        simp only [Bool.and_eq_true] at hle
        obtain ⟨⟨h1, h2⟩, h3⟩ := hle
        have h1 := Nat.eq_of_beq_eq_true h1
        subst h1
        exact ⟨k, by_, z, rfl, hu, hs, hb, hz, Nat.le_of_ble_eq_true h2, Nat.eq_of_beq_eq_true h3⟩
      | false => rw [hle] at hc; cases hc
    · cases hc
  · cases hc
section
variable {P : Program} {h : Heap}
def RdK (h : Heap) (s : Nat) (p : Option Addr) (c : List Value) (n : Nat) : Prop := c.length = n * s ∧ (n = 0 ∨ ∃ b e own, p = some ⟨b, 0, none⟩ ∧ h.get? b = some (.cells c e own)) ∧ ∀ a, p = some a → a.spot = none
theorem rowK {s n m cap : Nat} {p : Option Addr} {c : List Value} (hr : RdK h s p c n) (_ : 0 < s) (hm : m = n) : rowB h s m (.slice p n cap) = some c := by
  subst hm
  obtain ⟨hl, h0 | ⟨b, e, own, rfl, hb⟩, hp⟩ := hr
  · subst h0
    have : c = [] := List.length_eq_zero_iff.1 (by omega)
    subst this
    unfold rowB
    cases p with
    | none => rfl
    | some a =>
      have := hp a rfl
      obtain ⟨b, o, sp⟩ := a
      simp only at this
      subst this
      simp
  · unfold rowB
    simp only [Nat.lt_irrefl, if_false, hb]
    split
    · rename_i h0; rw [List.length_eq_zero_iff.1 (show c.length = 0 by omega)]
    · rw [if_pos (by omega), List.drop_zero, List.take_of_length_le (by omega)]
theorem zlE {ts : Array TypeId} {t t' e e' : TypeId} {s cap l0 c0 : Nat} {a0 p : Option Addr} (h0 : ts[0]? = some t) (h1 : ts[1]? = some t') (hc : cellK P s t = some e) (hc' : P.underlying t' = some (.slice e')) (hp : ∀ a, p = some a → a.spot = none) (hle : l0 ≤ c0) (hl : l0 ≤ 1000000) :
    appendB P h ts (.slice a0 l0 c0) (.slice p 0 cap) = some (.slice a0 l0 c0, h) := by
  obtain ⟨k, by_, z, rfl, hu, hs, hby, hz, h64, hz1⟩ := zdj hc
  unfold appendB
  simp only [h0, h1, hu, hc']
  unfold appendRow
  have hr := rowK (h := h) (s := k + 1) (n := 0) (m := 0) (cap := cap) (c := []) ⟨by simp, .inl rfl, hp⟩ (by omega) rfl
  simp only [hs, hby, hz, lenB, hr]
  have hbd : (l0 + 0) * (by_ + 1) ≤ 70368744177664 := Nat.le_trans (Nat.mul_le_mul (by omega : l0 + 0 ≤ 1000000) (by omega : by_ + 1 ≤ 65)) (by decide)
  rw [if_pos ⟨hz1, rfl, hbd⟩]
  simp [hle]
theorem appK_nil {ts : Array TypeId} {t t' e e' : TypeId} {s m cap : Nat} {p : Option Addr} {c : List Value} (h0 : ts[0]? = some t) (h1 : ts[1]? = some t') (hc : cellK P s t = some e) (hc' : P.underlying t' = some (.slice e')) (hr : RdK h s p c m) (hpos : 0 < m) (hle : m ≤ 1000000) (hone : c.all oneB = true) :
    appendB P h ts (.slice none 0 0) (.slice p m cap) = some (.slice (some ⟨h.n, 0, none⟩) m unk, h.push (.cells c e true)) := by
  obtain ⟨k, by_, z, rfl, hu, hs, hby, hz, h64, hz1⟩ := zdj hc
  unfold appendB
  simp only [h0, h1, hu, hc']
  unfold appendRow
  simp only [hs, hby, hz, lenB, rowK hr (by omega) rfl]
  have hbd : (0 + m) * (by_ + 1) ≤ 70368744177664 := Nat.le_trans (Nat.mul_le_mul (by omega : 0 + m ≤ 1000000) (by omega : by_ + 1 ≤ 65)) (by decide)
  rw [if_pos ⟨hz1, hone, hbd⟩, if_neg (by omega)]
  simp
theorem appK_unk {ts : Array TypeId} {t t' e e' : TypeId} {s m n b' cap : Nat} {p : Option Addr} {c c' : List Value} (h0 : ts[0]? = some t) (h1 : ts[1]? = some t') (hc : cellK P s t = some e) (hc' : P.underlying t' = some (.slice e')) (hr : RdK h s p c m) (hpos : 0 < m) (hle : n + m ≤ 1000000) (hone : c.all oneB = true)
    (hx : h.get? b' = some (.cells c' e true)) (hn : c'.length = n * s) :
    appendB P h ts (.slice (some ⟨b', 0, none⟩) n unk) (.slice p m cap) = some (.slice (some ⟨h.n, 0, none⟩) (n + m) unk, (h.set b' .dead).push (.cells (c' ++ c) e true)) := by
  obtain ⟨k, by_, z, rfl, hu, hs, hby, hz, h64, hz1⟩ := zdj hc
  unfold appendB
  simp only [h0, h1, hu, hc']
  unfold appendRow
  simp only [hs, hby, hz, lenB, rowK hr (by omega) rfl]
  have hbd : (n + m) * (by_ + 1) ≤ 70368744177664 := Nat.le_trans (Nat.mul_le_mul hle (by omega : by_ + 1 ≤ 65)) (by decide)
  rw [if_pos ⟨hz1, hone, hbd⟩, if_neg (by omega), if_neg (by rintro ⟨q, _⟩; exact absurd q (by decide))]
  simp only [hx, if_true]
  rw [if_pos ⟨trivial, trivial, by omega⟩]
end
def OutC (e s : Nat) (h0 h : Heap) (v : Value) (c : List Value) (n : Nat) : Prop :=
  (n = 0 ∧ c = [] ∧ v = .slice none 0 0) ∨ (0 < n ∧ c.length = n * s ∧ ∃ b, v = .slice (some ⟨b, 0, none⟩) n unk ∧ h.get? b = some (.cells c e true) ∧ h0.n ≤ b)
theorem OutC.ext {e s n : Nat} {h0 h h1 : Heap} {v : Value} {c : List Value} (o : OutC e s h0 h v c n) (x : Ext h h1) : OutC e s h0 h1 v c n := by
  rcases o with o | ⟨a, b, q, r1, r2, r3⟩
  · exact .inl o
  · exact .inr ⟨a, b, q, r1, x.get r2, r3⟩
theorem OutC.but {e s n b : Nat} {h0 h h1 : Heap} {v : Value} {c : List Value} (o : OutC e s h0 h v c n) (x : ExtBut b h h1) (hb : b < h0.n) : OutC e s h0 h1 v c n := by
  rcases o with o | ⟨a, d, q, r1, r2, r3⟩
  · exact .inl o
  · exact .inr ⟨a, d, q, r1, x.get (by omega) r2, r3⟩
theorem OutC.rd {e s n : Nat} {h0 h : Heap} {v : Value} {c : List Value} (o : OutC e s h0 h v c n) : ∃ p k, v = .slice p n k ∧ RdK h s p c n := by
  rcases o with ⟨rfl, rfl, rfl⟩ | ⟨a, d, q, r1, r2, r3⟩
  · exact ⟨none, 0, rfl, by simp, .inl rfl, fun a q => by cases q⟩
  · exact ⟨_, _, r1, d, .inr ⟨q, e, true, rfl, r2⟩, fun a q => by cases q; rfl⟩
section
variable {P : Program} {K : Known} {x : Ctx} {N : Nat} {E : Env} {h : Heap} {ops : Array Oper} {F : Ex → Env → Heap → Prop} {i : Nat} {Hs : List Heap} {L : List Heap → Prop} {nw : List (Nat × Nat × Blk)}
variable {d : Nat} {ty : TypeId} {pos : String} {af : Array Edge} {g : Option (Nat × Bool)}
theorem appC_ok {ts : Array TypeId} {t t' e e' : TypeId} {s n m cap : Nat} {p : Option Addr} {c c' : List Value} {v : Value} {h0 : Heap} (h0' : ts[0]? = some t) (h1' : ts[1]? = some t') (hc : cellK P s t = some e) (hc' : P.underlying t' = some (.slice e'))
    (hy : RdK h s p c m) (ho : OutC e s h0 h v c' n) (hx : h0.n ≤ h.n) (hle : n + m ≤ 1000000) (hone : c.all oneB = true) :
    ∃ v' h1, appendB P h ts v (.slice p m cap) = some (v', h1) ∧ OutC e s h0 h1 v' (c' ++ c) (n + m) ∧ KeepB h0.n (.cells c' e true) h h1 ∧ (Ext h0 h → Ext h0 h1) ∧ (n = 0 → Ext h h1) := by
  by_cases hm : m = 0
  · subst hm
    have hcn : c = [] := List.length_eq_zero_iff.1 (by have := hy.1; omega)
    subst hcn
    obtain ⟨p1, k1, rfl, hr⟩ := ho.rd
    have hck : n ≤ k1 := by
      rcases ho with ⟨rfl, _, _⟩ | ⟨_, _, b, q, _, _⟩
      · omega
      · cases q; unfold unk; omega
    refine ⟨_, _, zlE h0' h1' hc hc' hy.2.2 hck (by omega), by simpa using ho, ⟨Nat.le_refl _, fun _ _ g _ => g⟩, id, fun _ => Ext.refl _⟩
  · rcases ho with ⟨rfl, rfl, rfl⟩ | ⟨hn, hl, b', rfl, h2, h3⟩
    · refine ⟨_, _, appK_nil h0' h1' hc hc' hy (by omega) (by omega) hone, .inr ⟨by omega, by simpa using hy.1, h.n, by simp, by simpa using zaa, hx⟩, ⟨Nat.le_succ _, fun _ _ g _ => zab g⟩, fun q => q.push _, fun _ => (Ext.refl h).push _⟩
    · refine ⟨_, _, appK_unk h0' h1' hc hc' hy (by omega) hle hone h2 hl, .inr ⟨by omega, by rw [List.length_append, hl, hy.1, Nat.add_mul], h.n, rfl, ?_, hx⟩, ⟨Nat.le_succ _, fun q y g r => zab (zaA h2 (fun u => ?_) g)⟩, fun q => (q.set h3 h2 .dead).push _, fun q => by omega⟩
      · have : (h.set b' .dead).n = h.n := rfl
        rw [← this]; exact zaa
      · subst u
        rw [h2] at g
        cases g
        rcases r with r | r
        · omega
        · exact r rfl
theorem M_appC {args : Array Operand} {ts : Array TypeId} {t t' e e' : TypeId} {a b : Operand} {s n m cap : Nat} {p : Option Addr} {c c' : List Value} {v : Value} {h0 : Heap} (hN : Nat.blt d N = true) (hg : gval ops E g = some true) (hk : opsOK P ⟨some d, .call ⟨.builtin .append, args, ts⟩, ty, pos, af, g⟩ = true) (hargs : args.toList = [a, b])
    (ha : E.ev a = some v) (hb : E.ev b = some (.slice p m cap)) (h0' : ts[0]? = some t) (h1' : ts[1]? = some t') (hc : cellK P s t = some e) (hc' : P.underlying t' = some (.slice e'))
    (hy : RdK h s p c m) (ho : OutC e s h0 h v c' n) (hx : h0.n ≤ h.n) (hle : n + m ≤ 1000000) (hone : c.all oneB = true) (hnw : unseen (preds ops.toList) nw i = [])
    (k : ∀ v' h1, OutC e s h0 h1 v' (c' ++ c) (n + m) → KeepB h0.n (.cells c' e true) h h1 → (Ext h0 h → Ext h0 h1) → (n = 0 → Ext h h1) → S1 P K x N ops F (i + 1) ((d, v') :: E) h1 (h1 :: Hs) L nw) : S2 P K x N ops F i ⟨some d, .call ⟨.builtin .append, args, ts⟩, ty, pos, af, g⟩ E h Hs L nw := by
  obtain ⟨v', h1, q1, q2, q3, q4, q5⟩ := appC_ok (cap := cap) h0' h1' hc hc' hy ho hx hle hone
  exact ziV hN hg hk hargs ha hb q1 hnw (k v' h1 q2 q3 q4 q5)
end
end Go.AX

namespace Go.AX
def marks (M : List Nat) : List Deferred := M.map fun r => { target := .collected r, args := #[] }
structure KM (P : Program) (K : Known) (x : Ctx) (N : Nat) (M : List Nat) (c : Code) (E : Env) (h : Heap) (Q : Ex → Env → Heap → List Nat → Prop) : Prop where
  out : ∀ tm D U, EnvOK N E tm → ∃ n e tm1 h1 E1 M1, (run P K n).code x c ⟨tm, marks M ++ D, U, h⟩ = some (e, ⟨tm1, marks M1 ++ D, U, h1⟩) ∧ EnvOK N E1 tm1 ∧ Q e E1 h1 M1
def GoOn (P : Program) (K : Known) (x : Ctx) (N : Nat) (b : Code) (Q : Ex → Env → Heap → List Nat → Prop) (e : Ex) (E1 : Env) (h1 : Heap) (M1 : List Nat) : Prop :=
  (e = .normal ∧ KM P K x N M1 b E1 h1 Q) ∨ (e ≠ .normal ∧ Q e E1 h1 M1)
section
variable {P : Program} {K : Known} {x : Ctx} {N : Nat} {E : Env} {h : Heap} {Q : Ex → Env → Heap → List Nat → Prop} {M : List Nat}
def unmark (M : List Nat) (h : Heap) : Heap := M.foldl (fun h r => h.set r (.obj (.deferred none))) h
end
end Go.AX

namespace Go.AX
section
variable {P : Program} {K : Known} {x : Ctx} {N : Nat} {E : Env} {h : Heap} {ops : Array Oper} {F : Ex → Env → Heap → Prop} {i : Nat} {Hs : List Heap} {L : List Heap → Prop} {nw : List (Nat × Nat × Blk)}
variable {d : Nat} {ty : TypeId} {pos : String} {af : Array Edge} {g : Option (Nat × Bool)}
theorem zeC {a : Operand} {q : Addr} (hN : Nat.blt d N = true) (hg : gval ops E g = some true) (hk : opsOK P ⟨some d, .nilCheck a, ty, pos, af, g⟩ = true) (ha : E.ev a = some (.pointer (some q)))
    (k : R1 P K x N ops F (i + 1) ((d, .pointer (some q)) :: E) h) : R2 P K x N ops F i ⟨some d, .nilCheck a, ty, pos, af, g⟩ E h :=
  ⟨fun ho => zax ho rfl hN hg hk (fun tm hE => by
    show (match ev tm a with | .pointer (some a) => some (Value.pointer (some a), h) | .iface t v => some (.iface t v, h) | .func (.func f) a b => some (.func (.func f) a b, h) | _ => none) = _
    rw [hE.ev ha]) k.out⟩
theorem M_nil {a : Operand} {q : Addr} (hN : Nat.blt d N = true) (hg : gval ops E g = some true) (hk : opsOK P ⟨some d, .nilCheck a, ty, pos, af, g⟩ = true) (ha : E.ev a = some (.pointer (some q)))
    (k : S1 P K x N ops F (i + 1) ((d, .pointer (some q)) :: E) h Hs L nw) : S2 P K x N ops F i ⟨some d, .nilCheck a, ty, pos, af, g⟩ E h Hs L nw :=
  ⟨fun ho => zbz ho rfl hN hg hk rfl rfl (fun tm hE => by
    show (match ev tm a with | .pointer (some a) => some (Value.pointer (some a), h) | .iface t v => some (.iface t v, h) | .func (.func f) a b => some (.func (.func f) a b, h) | _ => none) = _
    rw [hE.ev ha]) k.out⟩
theorem P_bs {t : TypeId} {len : Nat} {ps : Array (Nat × Operand)} {vs : List (Nat × Value)} {c : List Value} {e : TypeId} (hN : Nat.blt d N = true) (hg : gval ops E g = some true) (hk : opsOK P ⟨some d, .buildSlice t len ps, ty, pos, af, g⟩ = true)
    (hps : E.parts ps.toList = some vs) (hb : buildSliceB P h t len vs = some (.slice (some ⟨h.n, 0, none⟩) len len, h.push (.cells c e true))) (k : R1 P K x N ops F (i + 1) ((d, .slice (some ⟨h.n, 0, none⟩) len len) :: E) (h.push (.cells c e true))) : R2 P K x N ops F i ⟨some d, .buildSlice t len ps, ty, pos, af, g⟩ E h :=
  ziN hN hg hk (fun _ hE => hE.parts hps) hb k
theorem M_bs {t : TypeId} {len : Nat} {ps : Array (Nat × Operand)} {vs : List (Nat × Value)} {c : List Value} {e : TypeId} (hN : Nat.blt d N = true) (hg : gval ops E g = some true) (hk : opsOK P ⟨some d, .buildSlice t len ps, ty, pos, af, g⟩ = true)
    (hps : E.parts ps.toList = some vs) (hb : buildSliceB P h t len vs = some (.slice (some ⟨h.n, 0, none⟩) len len, h.push (.cells c e true))) (k : S1 P K x N ops F (i + 1) ((d, .slice (some ⟨h.n, 0, none⟩) len len) :: E) (h.push (.cells c e true)) Hs L ((i, h.n, .cells c e true) :: nw)) : S2 P K x N ops F i ⟨some d, .buildSlice t len ps, ty, pos, af, g⟩ E h Hs L nw :=
  ⟨fun ho => N_new ho rfl hN hg hk rfl (fun tm hE => by
    show buildSliceB P h t len (ps.toList.map fun (i, x) => (i, ev tm x)) = _
    rw [hE.parts hps, hb]) k.out⟩
theorem zlI {t e : TypeId} {a c : Operand} {b len cap n q : Nat} {ik : IntKind} {z : Int} (hN : Nat.blt d N = true) (hg : gval ops E g = some true) (hk : opsOK P ⟨some d, .slice t a none (some c) none, ty, pos, af, g⟩ = true)
    (ha : E.ev a = some (.slice (some ⟨b, 0, none⟩) len cap)) (hc : E.ev c = some (.int ik z)) (hu : P.underlying t = some (.slice e)) (hs : sizeB P e = some n) (hz : z = (q : Nat)) (hlc : len ≤ cap) (hle : len ≤ 1000000) (h1 : q ≤ len)
    (k : ∀ cap', R1 P K x N ops F (i + 1) ((d, .slice (some ⟨b, 0, none⟩) q cap') :: E) h) : R2 P K x N ops F i ⟨some d, .slice t a none (some c) none, ty, pos, af, g⟩ E h := by
  subst hz
  have e1 : ∀ tm, simpleB P tm h ⟨some d, .slice t a none (some c) none, ty, pos, af, g⟩ = match ev tm a with | .string s => simpleB P tm h ⟨some d, .slice t a none (some c) none, ty, pos, af, g⟩ | _ => (sliceB P t (ev tm a) none (some (ev tm c)) none).map fun v => (v, h) := by
    intro tm
    split
    · rfl
    · rename_i v hv
      show (match ev tm a with | .string _ => _ | x => _) = _
      split
      · rename_i s hs; exact absurd hs (hv s)
      · rfl
  by_cases hk1 : Nat.blt cap unk = true
  · refine ⟨fun ho => zax ho rfl hN hg hk (fun tm hE => ?_) (k cap).out⟩
    rw [e1, hE.ev ha, hE.ev hc]
    dsimp only
    unfold sliceB
    simp only [hu, Option.isSome_none, Bool.false_and, Bool.false_eq_true, if_false]
    unfold sliceRowB
    simp only [hk1, if_true, maxB, boundB]
    rw [if_pos ⟨by omega, by omega⟩]
    simp only [hs]
    rw [if_pos ⟨by have := Nat.lt_of_succ_le (Nat.le_of_ble_eq_true hk1); exact this, hlc⟩]
    simp
  · have hk2 : Nat.blt cap unk = false := Bool.eq_false_iff.2 hk1
    refine ⟨fun ho => zax ho rfl hN hg hk (fun tm hE => ?_) (k (if roomOf len cap - 0 = 0 then anyCap else anyCap + (roomOf len cap - 0))).out⟩
    rw [e1, hE.ev ha, hE.ev hc]
    dsimp only
    unfold sliceB
    simp only [hu, Option.isSome_none, Bool.false_and, Bool.false_eq_true, if_false]
    unfold sliceRowB
    simp only [hk2, Bool.false_eq_true, if_false, maxB, boundB]
    rw [if_pos ⟨by omega, by omega⟩]
    simp only [hs]
    rw [if_pos ⟨by unfold unk; omega, Nat.le_refl _⟩]
    simp
end
end Go.AX

namespace Go.AX
section
variable {P : Program} {K : Known} {x : Ctx} {N : Nat} {E : Env} {h : Heap} {ops : Array Oper} {F : Ex → Env → Heap → Prop} {i : Nat}
variable {d : Nat} {ty : TypeId} {pos : String} {af : Array Edge} {g : Option (Nat × Bool)}
end
end Go.AX
