/- Rules for maps of numbers, structs of numbers, bound methods, quotients; maps to truth values, lists of records, loops over functions within loops. -/
import Derived.Test.YtliligceejfakaaGreatDoorAxX
import Derived.Test.YtliligceejfakaaGreatDoorAxG
namespace Go.AX
open Instr
def mapT (P : Program) (t : TypeId) : Bool :=
  match P.underlying t with
  | some (.map kt e) => (match P.underlying kt with | some (.int _) => true | _ => false) && (match zeroB P e with | some (.int .i64 0) => true | _ => false)
  | _ => false
def Ents : List MapEntry → List (Int × Int) → Prop
  | [], [] => True
  | e :: es, p :: l => e.key = .int .i64 p.1 ∧ e.val = .int .i64 p.2 ∧ Ents es l
  | _, _ => False
def lk : List (Int × Int) → Int → Nat → Option (Nat × Int)
  | [], _, _ => none
  | p :: l, k, i => if k = p.1 then some (i, p.2) else lk l k (i + 1)
def updI : List (Int × Int) → Int → Int → List (Int × Int)
  | [], k, v => [(k, v)]
  | p :: l, k, v => if k = p.1 then (k, v) :: l else p :: updI l k v
def MapI (h : Heap) (r : Nat) (f : Int → Int) : Prop := ∃ es c l, h.get? r = some (.obj (.map es c)) ∧ Ents es.toList l ∧ ∀ k, ((lk l k 0).map (·.2)).getD 0 = f k
theorem MapI.ext {h h1 : Heap} {r : Nat} {f : Int → Int} (m : MapI h r f) (x : Ext h h1) : MapI h1 r f := by
  obtain ⟨es, c, l, a, b, d⟩ := m
  exact ⟨es, c, l, x.get a, b, d⟩
theorem MapI.but {h h1 : Heap} {r b : Nat} {f : Int → Int} (m : MapI h r f) (x : ExtBut b h h1) (hb : r ≠ b) : MapI h1 r f := by
  obtain ⟨es, c, l, a, e, d⟩ := m
  exact ⟨es, c, l, x.get hb a, e, d⟩
theorem MapI.lt {h : Heap} {r : Nat} {f : Int → Int} (m : MapI h r f) : r < h.n := by
  obtain ⟨es, c, l, a, e, d⟩ := m
  exact Heap.get_lt a
section
variable {P : Program} {K : Known} {x : Ctx} {N : Nat} {E : Env} {h : Heap} {ops : Array Oper} {F : Ex → Env → Heap → Prop} {i : Nat} {Hs : List Heap} {L : List Heap → Prop} {nw : List (Nat × Nat × Blk)}
variable {d : Nat} {ty : TypeId} {pos : String} {af : Array Edge} {g : Option (Nat × Bool)}
end
end Go.AX

namespace Go.AX
section
variable {P : Program} {K : Known} {x : Ctx} {N : Nat} {E : Env} {h : Heap} {ops : Array Oper} {F : Ex → Env → Heap → Prop} {i : Nat} {Hs : List Heap} {L : List Heap → Prop} {nw : List (Nat × Nat × Blk)}
variable {d : Nat} {ty : TypeId} {pos : String} {af : Array Edge} {g : Option (Nat × Bool)}
end
end Go.AX

namespace Go.AX
open Instr
def mapBT (P : Program) (t : TypeId) : Bool :=
  match P.underlying t with
  | some (.map kt e) => spanT P kt && (match zeroB P e with | some (.bool false) => true | _ => false)
  | _ => false
theorem zdc {P : Program} {t : TypeId} (h : mapBT P t = true) : ∃ kt e, P.underlying t = some (.map kt e) ∧ spanT P kt = true ∧ zeroB P e = some (.bool false) := by
  unfold mapBT at h
  split at h
  · rename_i kt e hu
    rw [Bool.and_eq_true] at h
    obtain ⟨h1, h2⟩ := h
    split at h2
    · rename_i hz; exact ⟨kt, e, hu, h1, hz⟩
    · cases h2
  · cases h
def keyV (p : Int × Int) : Value := .agg #[.int .i64 p.1, .int .i64 p.2]
def EntB : List MapEntry → List ((Int × Int) × Bool) → Prop
  | [], [] => True
  | e :: es, p :: l => e.key = keyV p.1 ∧ e.val = .bool p.2 ∧ EntB es l
  | _, _ => False
def lkB : List ((Int × Int) × Bool) → Int × Int → Nat → Option (Nat × Bool)
  | [], _, _ => none
  | p :: l, k, i => if k = p.1 then some (i, p.2) else lkB l k (i + 1)
def updB : List ((Int × Int) × Bool) → Int × Int → Bool → List ((Int × Int) × Bool)
  | [], k, v => [(k, v)]
  | p :: l, k, v => if k = p.1 then (k, v) :: l else p :: updB l k v
def delB : List ((Int × Int) × Bool) → Int × Int → List ((Int × Int) × Bool)
  | [], _ => []
  | p :: l, k => if k = p.1 then l else p :: delB l k
theorem zkQ {k : Int × Int} : ∀ {es : List MapEntry} {l : List ((Int × Int) × Bool)} (i : Nat), EntB es l → findP k.1 k.2 es i = some ((lkB l k i).map fun q => (q.1, Value.bool q.2)) := by
  intro es
  induction es with
  | nil => intro l i h; cases l with
    | nil => rfl
    | cons _ _ => cases h
  | cons e es ih =>
    intro l i h
    cases l with
    | nil => cases h
    | cons p l =>
      obtain ⟨h1, h2, h3⟩ := h
      have he : findP k.1 k.2 (e :: es) i = (match keyOf e.key with | some p => bif eqF k.1 p.1 && eqF k.2 p.2 then some (some (i, e.val)) else findP k.1 k.2 es (i + 1) | none => none) := rfl
      have hk : keyOf e.key = some p.1 := by rw [h1]; rfl
      rw [he, hk]
      simp only [zcy, lkB]
      by_cases hq : k = p.1
      · rw [if_pos hq, hq, h2]; simp
      · rw [if_neg hq, ih (i + 1) h3]
        have : (k.1 == p.1.1 && k.2 == p.1.2) = false := by
          cases hb : (k.1 == p.1.1 && k.2 == p.1.2) with
          | false => rfl
          | true =>
            rw [Bool.and_eq_true, beq_iff_eq, beq_iff_eq] at hb
            exact absurd (Prod.ext hb.1 hb.2) hq
        rw [this]; rfl
theorem zia {k : Int × Int} : ∀ {es : List MapEntry} {l : List ((Int × Int) × Bool)} {i j : Nat} {w : Bool}, EntB es l → lkB l k i = some (j, w) → ∃ q e, j = i + q ∧ es[q]? = some e ∧ e.key = keyV k ∧ e.val = .bool w := by
  intro es
  induction es with
  | nil => intro l i j w h e; cases l with
    | nil => cases e
    | cons _ _ => cases h
  | cons x es ih =>
    intro l i j w h e
    cases l with
    | nil => cases h
    | cons p l =>
      obtain ⟨h1, h2, h3⟩ := h
      simp only [lkB] at e
      by_cases hk : k = p.1
      · rw [if_pos hk] at e; cases e
        exact ⟨0, x, rfl, rfl, by rw [h1, hk], h2⟩
      · rw [if_neg hk] at e
        obtain ⟨q, y, a, b, c, d⟩ := ih h3 e
        exact ⟨q + 1, y, by omega, by simpa using b, c, d⟩
theorem zde {P : Program} {em : Bool} {kt : TypeId} {k : Int × Int} {es : List MapEntry} {l : List ((Int × Int) × Bool)} (hs : spanT P kt = true) (h : EntB es l) : findB P em kt (keyV k) es = some ((lkB l k 0).map fun q => (q.1, .bool q.2)) :=
  ze0 hs (zkQ 0 h)
theorem zcj {k : Int × Int} : ∀ (l : List ((Int × Int) × Bool)) (i : Nat), (lkB l k i).map (·.2) = (lkB l k 0).map (·.2) := by
  intro l
  induction l with
  | nil => intro i; rfl
  | cons p l ih =>
    intro i
    simp only [lkB]
    by_cases hk : k = p.1
    · rw [if_pos hk, if_pos hk]; rfl
    · rw [if_neg hk, if_neg hk, ih (i + 1), ih (0 + 1)]
theorem lkB_upd {k : Int × Int} {v : Bool} : ∀ (l : List ((Int × Int) × Bool)) (q : Int × Int), (lkB (updB l k v) q 0).map (·.2) = if q = k then some v else (lkB l q 0).map (·.2) := by
  intro l
  induction l with
  | nil => intro q; simp only [updB, lkB]; by_cases hq : q = k <;> simp [hq]
  | cons p l ih =>
    intro q
    simp only [updB]
    by_cases hk : k = p.1
    · rw [if_pos hk]
      simp only [lkB]
      by_cases hq : q = k
      · simp [hq]
      · rw [if_neg hq, if_neg hq, if_neg (fun e => hq (e.trans hk.symm))]
    · rw [if_neg hk]
      simp only [lkB]
      by_cases hp : q = p.1
      · rw [if_pos hp, if_pos hp, if_neg (by rw [hp]; exact fun e => hk e.symm)]
      · rw [if_neg hp, if_neg hp, zcj (updB l k v) (0 + 1), ih q, zcj l (0 + 1)]
theorem lkB_not {k : Int × Int} : ∀ {l : List ((Int × Int) × Bool)} {i : Nat}, (∀ p ∈ l, p.1 ≠ k) → lkB l k i = none := by
  intro l
  induction l with
  | nil => intro i _; rfl
  | cons p l ih =>
    intro i h
    simp only [lkB]
    rw [if_neg (fun e => h p (List.mem_cons_self ..) e.symm)]
    exact ih fun p q => h p (List.mem_cons_of_mem _ q)
theorem lkB_del {k : Int × Int} : ∀ (l : List ((Int × Int) × Bool)) (q : Int × Int), (l.map (·.1)).Nodup → (lkB (delB l k) q 0).map (·.2) = if q = k then none else (lkB l q 0).map (·.2) := by
  intro l
  induction l with
  | nil => intro q _; simp only [delB, lkB]; by_cases hq : q = k <;> simp [hq]
  | cons p l ih =>
    intro q hn
    rw [List.map_cons, List.nodup_cons] at hn
    obtain ⟨hp0, hn⟩ := hn
    simp only [delB]
    by_cases hk : k = p.1
    · rw [if_pos hk]
      simp only [lkB]
      by_cases hq : q = k
      · rw [if_pos hq, lkB_not (fun r hr e => hp0 (by rw [← hk, ← hq, ← e]; exact List.mem_map_of_mem hr))]; rfl
      · rw [if_neg hq, if_neg (fun e => hq (e.trans hk.symm)), zcj l (0 + 1)]
    · rw [if_neg hk]
      simp only [lkB]
      by_cases hp : q = p.1
      · rw [if_pos hp, if_pos hp, if_neg (by rw [hp]; exact fun e => hk e.symm)]
      · rw [if_neg hp, if_neg hp, zcj (delB l k) (0 + 1), ih q hn, zcj l (0 + 1)]
theorem mem_updB {k : Int × Int} {v : Bool} {q : Int × Int} : ∀ {l : List ((Int × Int) × Bool)}, q ∈ (updB l k v).map (·.1) → q = k ∨ q ∈ l.map (·.1) := by
  intro l
  induction l with
  | nil => intro h; simp only [updB, List.map_cons, List.map_nil, List.mem_singleton] at h; exact .inl h
  | cons p l ih =>
    intro h
    simp only [updB] at h
    by_cases hk : k = p.1
    · rw [if_pos hk, List.map_cons, List.mem_cons] at h
      rcases h with h | h
      · exact .inl h
      · exact .inr (by rw [List.map_cons]; exact List.mem_cons_of_mem _ h)
    · rw [if_neg hk, List.map_cons, List.mem_cons] at h
      rcases h with h | h
      · exact .inr (by rw [List.map_cons, h]; exact List.mem_cons_self ..)
      · rcases ih h with h | h
        · exact .inl h
        · exact .inr (by rw [List.map_cons]; exact List.mem_cons_of_mem _ h)
theorem zeW {k : Int × Int} {v : Bool} : ∀ {l : List ((Int × Int) × Bool)}, (l.map (·.1)).Nodup → ((updB l k v).map (·.1)).Nodup := by
  intro l
  induction l with
  | nil => intro _; simp [updB]
  | cons p l ih =>
    intro h
    rw [List.map_cons, List.nodup_cons] at h
    simp only [updB]
    by_cases hk : k = p.1
    · rw [if_pos hk, List.map_cons, List.nodup_cons]
      exact ⟨by dsimp only; rw [hk]; exact h.1, h.2⟩
    · rw [if_neg hk, List.map_cons, List.nodup_cons]
      refine ⟨fun q => ?_, ih h.2⟩
      rcases mem_updB q with q | q
      · exact hk q.symm
      · exact h.1 q
theorem mem_delB {k q : Int × Int} : ∀ {l : List ((Int × Int) × Bool)}, q ∈ (delB l k).map (·.1) → q ∈ l.map (·.1) := by
  intro l
  induction l with
  | nil => intro h; exact h
  | cons p l ih =>
    intro h
    simp only [delB] at h
    by_cases hk : k = p.1
    · rw [if_pos hk] at h; rw [List.map_cons]; exact List.mem_cons_of_mem _ h
    · rw [if_neg hk, List.map_cons, List.mem_cons] at h
      rw [List.map_cons, List.mem_cons]
      exact h.imp id ih
theorem zeX {k : Int × Int} : ∀ {l : List ((Int × Int) × Bool)}, (l.map (·.1)).Nodup → ((delB l k).map (·.1)).Nodup := by
  intro l
  induction l with
  | nil => intro h; exact h
  | cons p l ih =>
    intro h
    rw [List.map_cons, List.nodup_cons] at h
    simp only [delB]
    by_cases hk : k = p.1
    · rw [if_pos hk]; exact h.2
    · rw [if_neg hk, List.map_cons, List.nodup_cons]
      exact ⟨fun q => h.1 (mem_delB q), ih h.2⟩
theorem entB_upd {k : Int × Int} {v w : Bool} : ∀ {es : List MapEntry} {l : List ((Int × Int) × Bool)} {i j : Nat}, EntB es l → lkB l k i = some (i + j, w) → EntB (es.modify j fun e => { e with key := keyV k, val := .bool v }) (updB l k v) := by
  intro es
  induction es with
  | nil => intro l i j h e; cases l with
    | nil => cases e
    | cons _ _ => cases h
  | cons x es ih =>
    intro l i j h e
    cases l with
    | nil => cases h
    | cons p l =>
      obtain ⟨h1, h2, h3⟩ := h
      simp only [lkB] at e
      simp only [updB]
      by_cases hk : k = p.1
      · rw [if_pos hk] at e ⊢
        simp only [Option.some.injEq, Prod.mk.injEq] at e
        have : j = 0 := by omega
        subst this
        exact ⟨rfl, rfl, h3⟩
      · rw [if_neg hk] at e ⊢
        obtain ⟨q, _, a, _, _, _⟩ := zia h3 e
        obtain ⟨j, rfl⟩ : ∃ j', j = j' + 1 := ⟨j - 1, by omega⟩
        exact ⟨h1, h2, ih (i := i + 1) (j := j) h3 (by rw [e]; congr 2; omega)⟩
theorem entB_del {k : Int × Int} {w : Bool} : ∀ {es : List MapEntry} {l : List ((Int × Int) × Bool)} {i j : Nat}, EntB es l → lkB l k i = some (i + j, w) → EntB (es.eraseIdx j) (delB l k) := by
  intro es
  induction es with
  | nil => intro l i j h e; cases l with
    | nil => cases e
    | cons _ _ => cases h
  | cons x es ih =>
    intro l i j h e
    cases l with
    | nil => cases h
    | cons p l =>
      obtain ⟨h1, h2, h3⟩ := h
      simp only [lkB] at e
      simp only [delB]
      by_cases hk : k = p.1
      · rw [if_pos hk] at e ⊢
        simp only [Option.some.injEq, Prod.mk.injEq] at e
        have : j = 0 := by omega
        subst this
        exact h3
      · rw [if_neg hk] at e ⊢
        obtain ⟨q, _, a, _, _, _⟩ := zia h3 e
        obtain ⟨j, rfl⟩ : ∃ j', j = j' + 1 := ⟨j - 1, by omega⟩
        exact ⟨h1, h2, ih (i := i + 1) (j := j) h3 (by rw [e]; congr 2; omega)⟩
theorem zkZ {k : Int × Int} : ∀ {l : List ((Int × Int) × Bool)} {i : Nat}, lkB l k i = none → delB l k = l := by
  intro l
  induction l with
  | nil => intro i _; rfl
  | cons p l ih =>
    intro i h
    simp only [lkB] at h
    simp only [delB]
    by_cases hk : k = p.1
    · rw [if_pos hk] at h; cases h
    · rw [if_neg hk] at h ⊢; rw [ih h]
theorem entB_new {k : Int × Int} {v : Bool} {c : Nat} : ∀ {es : List MapEntry} {l : List ((Int × Int) × Bool)} {i : Nat}, EntB es l → lkB l k i = none → EntB (es ++ [{ key := keyV k, val := .bool v, born := c }]) (updB l k v) := by
  intro es
  induction es with
  | nil => intro l i h e; cases l with
    | nil => exact ⟨rfl, rfl, trivial⟩
    | cons _ _ => cases h
  | cons x es ih =>
    intro l i h e
    cases l with
    | nil => cases h
    | cons p l =>
      obtain ⟨h1, h2, h3⟩ := h
      simp only [lkB] at e
      by_cases hk : k = p.1
      · rw [if_pos hk] at e; cases e
      · rw [if_neg hk] at e
        simp only [updB, if_neg hk]
        exact ⟨h1, h2, ih h3 e⟩
def MapB (h : Heap) (r : Nat) (f : Int × Int → Bool) : Prop := ∃ es c l, h.get? r = some (.obj (.map es c)) ∧ EntB es.toList l ∧ (l.map (·.1)).Nodup ∧ ∀ k, ((lkB l k 0).map (·.2)).getD false = f k
theorem MapB.ext {h h1 : Heap} {r : Nat} {f : Int × Int → Bool} (m : MapB h r f) (x : Ext h h1) : MapB h1 r f := by
  obtain ⟨es, c, l, a, b⟩ := m
  exact ⟨es, c, l, x.get a, b⟩
theorem MapB.but {h h1 : Heap} {r b : Nat} {f : Int × Int → Bool} (m : MapB h r f) (x : ExtBut b h h1) (hb : r ≠ b) : MapB h1 r f := by
  obtain ⟨es, c, l, a, e⟩ := m
  exact ⟨es, c, l, x.get hb a, e⟩
theorem MapB.keep {h h1 : Heap} {r : Nat} {f : Int × Int → Bool} (m : MapB h r f) (x : ∀ q, h.get? r = some q → h1.get? r = some q) : MapB h1 r f := by
  obtain ⟨es, c, l, a, e⟩ := m
  exact ⟨es, c, l, x _ a, e⟩
theorem MapB.lt {h : Heap} {r : Nat} {f : Int × Int → Bool} (m : MapB h r f) : r < h.n := by
  obtain ⟨es, c, l, a, e⟩ := m
  exact Heap.get_lt a
theorem MapB.to {h : Heap} {r : Nat} {f g : Int × Int → Bool} (m : MapB h r f) (q : ∀ k, f k = g k) : MapB h r g := by
  obtain ⟨es, c, l, a, b, d, e⟩ := m
  exact ⟨es, c, l, a, b, d, fun k => (e k).trans (q k)⟩
theorem mapB_new {h : Heap} : MapB (h.push (.obj (.map #[] 0))) h.n fun _ => false := ⟨#[], 0, [], zaa, trivial, List.nodup_nil, fun _ => rfl⟩
theorem lookupS {P : Program} {h : Heap} {t : TypeId} {r : Nat} {f : Int × Int → Bool} {a b : Int} (ht : mapBT P t = true) (m : MapB h r f) : lookupB P h t (.map (some r)) (.agg #[.int .i64 a, .int .i64 b]) false = some (.bool (f (a, b))) := by
  obtain ⟨kt, e, hu, hk, hz⟩ := zdc ht
  obtain ⟨es, c, l, hg, hE, _, hf⟩ := m
  unfold lookupB
  have hr : mapRows h (.map (some r)) = some es := by simp only [mapRows, mapOf, hg]
  have hfb := zde (P := P) (em := es.isEmpty) (k := (a, b)) hk hE
  unfold keyV at hfb
  simp only [hu, hr, hz, hfb]
  rw [← hf (a, b)]
  cases lkB l (a, b) 0 with
  | none => rfl
  | some q => rfl
theorem zfT (k : Int × Int) : sameBits 10000 (keyV k) (keyV k) = true := by simp [sameBits, keyV]
theorem updateS {P : Program} {h : Heap} {t : TypeId} {r : Nat} {f : Int × Int → Bool} {k : Int × Int} {v : Bool} (ht : mapBT P t = true) (m : MapB h r f) : ∃ h1, mapUpdateB P h t (.map (some r)) (keyV k) (.bool v) = some h1 ∧ MapB h1 r (fun q => if q = k then v else f q) ∧ ExtBut r h h1 := by
  obtain ⟨kt, e, hu, hk, hz⟩ := zdc ht
  obtain ⟨es, c, l, hg, hE, hn, hf⟩ := m
  have hm : mapOf h (.map (some r)) = some (r, es, c) := by simp only [mapOf, hg]
  have hfun : ∀ q, ((lkB (updB l k v) q 0).map (·.2)).getD false = if q = k then v else f q := by
    intro q
    rw [lkB_upd]
    by_cases hq : q = k
    · rw [if_pos hq, if_pos hq]; rfl
    · rw [if_neg hq, if_neg hq]; exact hf q
  unfold mapUpdateB
  simp only [hu, hm, zde (k := k) hk hE]
  cases hl : lkB l k 0 with
  | none =>
    simp only [Option.map_none]
    refine ⟨_, rfl, ⟨_, _, updB l k v, zaW hg, ?_, zeW hn, hfun⟩, (ExtBut.refl r h).set hg _⟩
    rw [Array.toList_push]
    exact entB_new hE hl
  | some q =>
    obtain ⟨j, w⟩ := q
    obtain ⟨q, x, h1, h2, h3, h4⟩ := zia hE hl
    have hj : j = q := by omega
    subst hj
    have h2' : es[j]? = some x := by rw [← Array.getElem?_toList]; exact h2
    simp only [Option.map_some, h2']
    have hsb : sameBits 10000 x.key (keyV k) = true := by rw [h3]; exact zfT k
    rw [if_pos hsb]
    refine ⟨_, rfl, ⟨_, _, updB l k v, zaW hg, ?_, zeW hn, hfun⟩, (ExtBut.refl r h).set hg _⟩
    rw [Array.toList_modify]
    exact entB_upd hE (i := 0) (by rw [Nat.zero_add]; exact hl)
theorem deleteS {P : Program} {h : Heap} {ts : Array TypeId} {t : TypeId} {r : Nat} {f : Int × Int → Bool} {k : Int × Int} (h0 : ts[0]? = some t) (ht : mapBT P t = true) (m : MapB h r f) : ∃ h1, deleteB P h ts (.map (some r)) (keyV k) = some (.tuple #[], h1) ∧ MapB h1 r (fun q => if q = k then false else f q) ∧ ExtBut r h h1 := by
  obtain ⟨kt, e, hu, hk, hz⟩ := zdc ht
  obtain ⟨es, c, l, hg, hE, hn, hf⟩ := m
  have hm : mapOf h (.map (some r)) = some (r, es, c) := by simp only [mapOf, hg]
  have hfun : ∀ q, ((lkB (delB l k) q 0).map (·.2)).getD false = if q = k then false else f q := by
    intro q
    rw [lkB_del l q hn]
    by_cases hq : q = k
    · rw [if_pos hq, if_pos hq]; rfl
    · rw [if_neg hq, if_neg hq]; exact hf q
  unfold deleteB
  simp only [h0, hu, hm, zde (em := es.isEmpty) (k := k) hk hE]
  cases hl : lkB l k 0 with
  | none =>
    simp only [Option.map_none]
    exact ⟨_, rfl, ⟨_, _, delB l k, zaW hg, by rw [zkZ hl]; exact hE, zeX hn, hfun⟩, (ExtBut.refl r h).set hg _⟩
  | some q =>
    obtain ⟨j, w⟩ := q
    obtain ⟨q, x, h1, h2, h3, h4⟩ := zia hE hl
    have hj : j = q := by omega
    subst hj
    simp only [Option.map_some]
    refine ⟨_, rfl, ⟨_, _, delB l k, zaW hg, ?_, zeX hn, hfun⟩, (ExtBut.refl r h).set hg _⟩
    have hlt : j < es.size := by
      have := (List.getElem?_eq_some_iff.1 h2).1
      simpa using this
    unfold Array.eraseIdxIfInBounds
    rw [dif_pos hlt, Array.toList_eraseIdx]
    exact entB_del hE (i := 0) (by rw [Nat.zero_add]; exact hl)
section
variable {P : Program} {K : Known} {x : Ctx} {N : Nat} {E : Env} {h : Heap} {ops : Array Oper} {F : Ex → Env → Heap → Prop} {i : Nat} {Hs : List Heap} {L : List Heap → Prop} {nw : List (Nat × Nat × Blk)}
variable {d : Nat} {ty : TypeId} {pos : String} {af : Array Edge} {g : Option (Nat × Bool)}
theorem zjr {t : TypeId} (hN : Nat.blt d N = true) (hg : gval ops E g = some true) (hk : opsOK P ⟨some d, .makeMap t none, ty, pos, af, g⟩ = true)
    (k : ∀ h1, MapB h1 h.n (fun _ => false) → Ext h h1 → h1.n = h.n + 1 → R1 P K x N ops F (i + 1) ((d, .map (some h.n)) :: E) h1) : R2 P K x N ops F i ⟨some d, .makeMap t none, ty, pos, af, g⟩ E h :=
  ⟨fun ho => zaG ho rfl hN hg hk (fun _ _ => rfl) (k _ mapB_new ((Ext.refl h).push _) rfl).out⟩
theorem zlm {t : TypeId} {a b : Operand} {r : Nat} {m n : Int} {f : Int × Int → Bool} (hN : Nat.blt d N = true) (hg : gval ops E g = some true) (hk : opsOK P ⟨some d, .lookup t a b false, ty, pos, af, g⟩ = true)
    (ha : E.ev a = some (.map (some r))) (hb : E.ev b = some (.agg #[.int .i64 m, .int .i64 n])) (ht : mapBT P t = true) (hm : MapB h r f)
    (kt : f (m, n) = true → R1 P K x N ops F (i + 1) ((d, .bool true) :: E) h) (kf : f (m, n) = false → R1 P K x N ops F (i + 1) ((d, .bool false) :: E) h) : R2 P K x N ops F i ⟨some d, .lookup t a b false, ty, pos, af, g⟩ E h := by
  have e : ∀ tm, EnvOK N E tm → simpleB P tm h ⟨some d, .lookup t a b false, ty, pos, af, g⟩ = some (.bool (f (m, n)), h) := fun tm hE => by
    show (lookupB P h t (ev tm a) (ev tm b) false).map (fun v => (v, h)) = _
    rw [hE.ev ha, hE.ev hb, lookupS ht hm]; rfl
  cases hf : f (m, n) with
  | true => exact ⟨fun ho => zaG ho rfl hN hg hk (fun tm hE => by rw [e tm hE, hf]) (kt hf).out⟩
  | false => exact ⟨fun ho => zaG ho rfl hN hg hk (fun tm hE => by rw [e tm hE, hf]) (kf hf).out⟩
theorem zfA {t : TypeId} {a b c : Operand} {r : Nat} {m n : Int} {v : Bool} {f : Int × Int → Bool} (hk : opsOK P ⟨none, .mapUpdate t a b c, ty, pos, af, g⟩ = true)
    (ha : E.ev a = some (.map (some r))) (hb : E.ev b = some (.agg #[.int .i64 m, .int .i64 n])) (hc : E.ev c = some (.bool v)) (ht : mapBT P t = true) (hm : MapB h r f) (tm : Array Value) (D : List Deferred) (U : FrameMode) (hE : EnvOK N E tm) :
    ∃ m' v' h1, doOp P (run P K m') x ⟨tm, D, U, h⟩ ⟨none, .mapUpdate t a b c, ty, pos, af, g⟩ = some (.val v', ⟨tm, D, U, h1⟩) ∧ MapB h1 r (fun q => if q = (m, n) then v else f q) ∧ ExtBut r h h1 := by
  obtain ⟨h1, e, q1, q2⟩ := updateS (P := P) (k := (m, n)) (v := v) ht hm
  refine ⟨0, undef, h1, zcn hk rfl rfl ?_, q1, q2⟩
  show (mapUpdateB P h t (ev tm a) (ev tm b) (ev tm c)).map (fun h => (Out.val undef, h)) = _
  rw [hE.ev ha, hE.ev hb, hE.ev hc]
  show (mapUpdateB P h t (.map (some r)) (keyV (m, n)) (.bool v)).map (fun h => (Out.val undef, h)) = _
  rw [e]; rfl
theorem zgG {t : TypeId} {a b c : Operand} {r : Nat} {m n : Int} {v : Bool} {f : Int × Int → Bool} (hg : gval ops E g = some true) (hk : opsOK P ⟨none, .mapUpdate t a b c, ty, pos, af, g⟩ = true)
    (ha : E.ev a = some (.map (some r))) (hb : E.ev b = some (.agg #[.int .i64 m, .int .i64 n])) (hc : E.ev c = some (.bool v)) (ht : mapBT P t = true) (hm : MapB h r f)
    (k : ∀ h1, MapB h1 r (fun q => if q = (m, n) then v else f q) → ExtBut r h h1 → R1 P K x N ops F (i + 1) E h1) : R2 P K x N ops F i ⟨none, .mapUpdate t a b c, ty, pos, af, g⟩ E h :=
  ⟨fun ho => O_act (G := fun h1 => MapB h1 r (fun q => if q = (m, n) then v else f q) ∧ ExtBut r h h1) ho rfl hg (fun tm D U hE => zfA hk ha hb hc ht hm tm D U hE) (fun h1 q => (k h1 q.1 q.2).out)⟩
theorem zjg {dd : Option Tmp} {args : Array Operand} {ts : Array TypeId} {t : TypeId} {a b : Operand} {r : Nat} {m n : Int} {f : Int × Int → Bool} (hk : opsOK P ⟨dd, .call ⟨.builtin .delete, args, ts⟩, ty, pos, af, g⟩ = true)
    (hargs : args.toList = [a, b]) (ha : E.ev a = some (.map (some r))) (hb : E.ev b = some (.agg #[.int .i64 m, .int .i64 n])) (h0 : ts[0]? = some t) (ht : mapBT P t = true) (hm : MapB h r f) (tm : Array Value) (D : List Deferred) (U : FrameMode) (hE : EnvOK N E tm) :
    ∃ m' h1, doOp P (run P K m') x ⟨tm, D, U, h⟩ ⟨dd, .call ⟨.builtin .delete, args, ts⟩, ty, pos, af, g⟩ = some (.val (.tuple #[]), ⟨tm, D, U, h1⟩) ∧ MapB h1 r (fun q => if q = (m, n) then false else f q) ∧ ExtBut r h h1 := by
  obtain ⟨h1, e, q1, q2⟩ := deleteS (P := P) (k := (m, n)) h0 ht hm
  refine ⟨0, h1, zcn hk rfl rfl ?_, q1, q2⟩
  obtain ⟨args⟩ := args
  simp only at hargs
  subst hargs
  show (deleteB P h ts (ev tm a) (ev tm b)).map (fun p => (Out.val p.1, p.2)) = _
  rw [hE.ev ha, hE.ev hb]
  show (deleteB P h ts (.map (some r)) (keyV (m, n))).map (fun p => (Out.val p.1, p.2)) = _
  rw [e]; rfl
theorem zjt {args : Array Operand} {ts : Array TypeId} {t : TypeId} {a b : Operand} {r : Nat} {m n : Int} {f : Int × Int → Bool} (hg : gval ops E g = some true) (hk : opsOK P ⟨none, .call ⟨.builtin .delete, args, ts⟩, ty, pos, af, g⟩ = true)
    (hargs : args.toList = [a, b]) (ha : E.ev a = some (.map (some r))) (hb : E.ev b = some (.agg #[.int .i64 m, .int .i64 n])) (h0 : ts[0]? = some t) (ht : mapBT P t = true) (hm : MapB h r f)
    (k : ∀ h1, MapB h1 r (fun q => if q = (m, n) then false else f q) → ExtBut r h h1 → R1 P K x N ops F (i + 1) E h1) : R2 P K x N ops F i ⟨none, .call ⟨.builtin .delete, args, ts⟩, ty, pos, af, g⟩ E h :=
  ⟨fun ho => O_act (G := fun h1 => MapB h1 r (fun q => if q = (m, n) then false else f q) ∧ ExtBut r h h1) ho rfl hg (fun tm D U hE => by
    obtain ⟨m', h1, e, q⟩ := zjg hk hargs ha hb h0 ht hm tm D U hE
    exact ⟨m', _, h1, e, q⟩) (fun h1 q => (k h1 q.1 q.2).out)⟩
end
end Go.AX

namespace Go.AX
def cellK (P : Program) (s : Nat) (t : TypeId) : Option TypeId :=
  match P.underlying t with
  | some (.slice e) => match sizeB P e, bytesB P e, zeroB P e with
    | some (k + 1), some by_, some z => bif Nat.beq (k + 1) s && Nat.ble by_ 64 && Nat.beq z.cells.size s then some e else none
    | _, _, _ => none
  | _ => none
section
variable {P : Program} {h : Heap}
def RdK (h : Heap) (s : Nat) (p : Option Addr) (c : List Value) (n : Nat) : Prop := c.length = n * s ∧ (n = 0 ∨ ∃ b e own, p = some ⟨b, 0, none⟩ ∧ h.get? b = some (.cells c e own)) ∧ ∀ a, p = some a → a.spot = none
end
def OutC (e s : Nat) (h0 h : Heap) (v : Value) (c : List Value) (n : Nat) : Prop :=
  (n = 0 ∧ c = [] ∧ v = .slice none 0 0) ∨ (0 < n ∧ c.length = n * s ∧ ∃ b, v = .slice (some ⟨b, 0, none⟩) n unk ∧ h.get? b = some (.cells c e true) ∧ h0.n ≤ b)
theorem OutC.ext {e s n : Nat} {h0 h h1 : Heap} {v : Value} {c : List Value} (o : OutC e s h0 h v c n) (x : Ext h h1) : OutC e s h0 h1 v c n := by
  rcases o with o | ⟨a, b, q, r1, r2, r3⟩
  · exact .inl o
  · exact .inr ⟨a, b, q, r1, x.get r2, r3⟩
theorem OutC.but {e s n b : Nat} {h0 h h1 : Heap} {v : Value} {c : List Value} (o : OutC e s h0 h v c n) (x : ExtBut b h h1) (hb : b < h0.n) : OutC e s h0 h1 v c n := by
  rcases o with o | ⟨a, d, q, r1, r2, r3⟩
  · exact .inl o
  · exact .inr ⟨a, d, q, r1, x.get (by omega) r2, r3⟩
theorem OutC.rd {e s n : Nat} {h0 h : Heap} {v : Value} {c : List Value} (o : OutC e s h0 h v c n) : ∃ p k, v = .slice p n k ∧ RdK h s p c n := by
  rcases o with ⟨rfl, rfl, rfl⟩ | ⟨a, d, q, r1, r2, r3⟩
  · exact ⟨none, 0, rfl, by simp, .inl rfl, fun a q => by cases q⟩
  · exact ⟨_, _, r1, d, .inr ⟨q, e, true, rfl, r2⟩, fun a q => by cases q; rfl⟩
section
variable {P : Program} {K : Known} {x : Ctx} {N : Nat} {E : Env} {h : Heap} {ops : Array Oper} {F : Ex → Env → Heap → Prop} {i : Nat} {Hs : List Heap} {L : List Heap → Prop} {nw : List (Nat × Nat × Blk)}
variable {d : Nat} {ty : TypeId} {pos : String} {af : Array Edge} {g : Option (Nat × Bool)}
end
end Go.AX

namespace Go.AX
def marks (M : List Nat) : List Deferred := M.map fun r => { target := .collected r, args := #[] }
structure KM (P : Program) (K : Known) (x : Ctx) (N : Nat) (M : List Nat) (c : Code) (E : Env) (h : Heap) (Q : Ex → Env → Heap → List Nat → Prop) : Prop where
  out : ∀ tm D U, EnvOK N E tm → ∃ n e tm1 h1 E1 M1, (run P K n).code x c ⟨tm, marks M ++ D, U, h⟩ = some (e, ⟨tm1, marks M1 ++ D, U, h1⟩) ∧ EnvOK N E1 tm1 ∧ Q e E1 h1 M1
def GoOn (P : Program) (K : Known) (x : Ctx) (N : Nat) (b : Code) (Q : Ex → Env → Heap → List Nat → Prop) (e : Ex) (E1 : Env) (h1 : Heap) (M1 : List Nat) : Prop :=
  (e = .normal ∧ KM P K x N M1 b E1 h1 Q) ∨ (e ≠ .normal ∧ Q e E1 h1 M1)
section
variable {P : Program} {K : Known} {x : Ctx} {N : Nat} {E : Env} {h : Heap} {Q : Ex → Env → Heap → List Nat → Prop} {M : List Nat}
def unmark (M : List Nat) (h : Heap) : Heap := M.foldl (fun h r => h.set r (.obj (.deferred none))) h
end
end Go.AX

namespace Go.AX
section
variable {P : Program} {K : Known} {x : Ctx} {N : Nat} {E : Env} {h : Heap} {ops : Array Oper} {F : Ex → Env → Heap → Prop} {i : Nat} {Hs : List Heap} {L : List Heap → Prop} {nw : List (Nat × Nat × Blk)}
variable {d : Nat} {ty : TypeId} {pos : String} {af : Array Edge} {g : Option (Nat × Bool)}
theorem zhL {a : Operand} {q : Addr} (hN : Nat.blt d N = true) (hg : gval ops E g = some true) (hk : opsOK P ⟨some d, .nilCheck a, ty, pos, af, g⟩ = true) (ha : E.ev a = some (.pointer (some q)))
    (k : R1 P K x N ops F (i + 1) ((d, .pointer (some q)) :: E) h) : R2 P K x N ops F i ⟨some d, .nilCheck a, ty, pos, af, g⟩ E h :=
  ⟨fun ho => zaG ho rfl hN hg hk (fun tm hE => by
    show (match ev tm a with | .pointer (some a) => some (Value.pointer (some a), h) | .iface t v => some (.iface t v, h) | .func (.func f) a b => some (.func (.func f) a b, h) | _ => none) = _
    rw [hE.ev ha]) k.out⟩
theorem M_nil {a : Operand} {q : Addr} (hN : Nat.blt d N = true) (hg : gval ops E g = some true) (hk : opsOK P ⟨some d, .nilCheck a, ty, pos, af, g⟩ = true) (ha : E.ev a = some (.pointer (some q)))
    (k : S1 P K x N ops F (i + 1) ((d, .pointer (some q)) :: E) h Hs L nw) : S2 P K x N ops F i ⟨some d, .nilCheck a, ty, pos, af, g⟩ E h Hs L nw :=
  ⟨fun ho => zbC ho rfl hN hg hk rfl rfl (fun tm hE => by
    show (match ev tm a with | .pointer (some a) => some (Value.pointer (some a), h) | .iface t v => some (.iface t v, h) | .func (.func f) a b => some (.func (.func f) a b, h) | _ => none) = _
    rw [hE.ev ha]) k.out⟩
theorem P_bs {t : TypeId} {len : Nat} {ps : Array (Nat × Operand)} {vs : List (Nat × Value)} {c : List Value} {e : TypeId} (hN : Nat.blt d N = true) (hg : gval ops E g = some true) (hk : opsOK P ⟨some d, .buildSlice t len ps, ty, pos, af, g⟩ = true)
    (hps : E.parts ps.toList = some vs) (hb : buildSliceB P h t len vs = some (.slice (some ⟨h.n, 0, none⟩) len len, h.push (.cells c e true))) (k : R1 P K x N ops F (i + 1) ((d, .slice (some ⟨h.n, 0, none⟩) len len) :: E) (h.push (.cells c e true))) : R2 P K x N ops F i ⟨some d, .buildSlice t len ps, ty, pos, af, g⟩ E h :=
  zix hN hg hk (fun _ hE => hE.parts hps) hb k
theorem M_bs {t : TypeId} {len : Nat} {ps : Array (Nat × Operand)} {vs : List (Nat × Value)} {c : List Value} {e : TypeId} (hN : Nat.blt d N = true) (hg : gval ops E g = some true) (hk : opsOK P ⟨some d, .buildSlice t len ps, ty, pos, af, g⟩ = true)
    (hps : E.parts ps.toList = some vs) (hb : buildSliceB P h t len vs = some (.slice (some ⟨h.n, 0, none⟩) len len, h.push (.cells c e true))) (k : S1 P K x N ops F (i + 1) ((d, .slice (some ⟨h.n, 0, none⟩) len len) :: E) (h.push (.cells c e true)) Hs L ((i, h.n, .cells c e true) :: nw)) : S2 P K x N ops F i ⟨some d, .buildSlice t len ps, ty, pos, af, g⟩ E h Hs L nw :=
  ⟨fun ho => N_new ho rfl hN hg hk rfl (fun tm hE => by
    show buildSliceB P h t len (ps.toList.map fun (i, x) => (i, ev tm x)) = _
    rw [hE.parts hps, hb]) k.out⟩
theorem zlj {t e : TypeId} {a c : Operand} {b len cap n q : Nat} {ik : IntKind} {z : Int} (hN : Nat.blt d N = true) (hg : gval ops E g = some true) (hk : opsOK P ⟨some d, .slice t a none (some c) none, ty, pos, af, g⟩ = true)
    (ha : E.ev a = some (.slice (some ⟨b, 0, none⟩) len cap)) (hc : E.ev c = some (.int ik z)) (hu : P.underlying t = some (.slice e)) (hs : sizeB P e = some n) (hz : z = (q : Nat)) (hlc : len ≤ cap) (hle : len ≤ 1000000) (h1 : q ≤ len)
    (k : ∀ cap', R1 P K x N ops F (i + 1) ((d, .slice (some ⟨b, 0, none⟩) q cap') :: E) h) : R2 P K x N ops F i ⟨some d, .slice t a none (some c) none, ty, pos, af, g⟩ E h := by
  subst hz
  have e1 : ∀ tm, simpleB P tm h ⟨some d, .slice t a none (some c) none, ty, pos, af, g⟩ = match ev tm a with | .string s => simpleB P tm h ⟨some d, .slice t a none (some c) none, ty, pos, af, g⟩ | _ => (sliceB P t (ev tm a) none (some (ev tm c)) none).map fun v => (v, h) := by
    intro tm
    split
    · rfl
    · rename_i v hv
      show (match ev tm a with | .string _ => _ | x => _) = _
      split
      · rename_i s hs; exact absurd hs (hv s)
      · rfl
  by_cases hk1 : Nat.blt cap unk = true
  · refine ⟨fun ho => zaG ho rfl hN hg hk (fun tm hE => ?_) (k cap).out⟩
    rw [e1, hE.ev ha, hE.ev hc]
    dsimp only
    unfold sliceB
    simp only [hu, Option.isSome_none, Bool.false_and, Bool.false_eq_true, if_false]
    unfold sliceRowB
    simp only [hk1, if_true, maxB, boundB]
    rw [if_pos ⟨by omega, by omega⟩]
    simp only [hs]
    rw [if_pos ⟨by have := Nat.lt_of_succ_le (Nat.le_of_ble_eq_true hk1); exact this, hlc⟩]
    simp
  · have hk2 : Nat.blt cap unk = false := Bool.eq_false_iff.2 hk1
    refine ⟨fun ho => zaG ho rfl hN hg hk (fun tm hE => ?_) (k (if roomOf len cap - 0 = 0 then anyCap else anyCap + (roomOf len cap - 0))).out⟩
    rw [e1, hE.ev ha, hE.ev hc]
    dsimp only
    unfold sliceB
    simp only [hu, Option.isSome_none, Bool.false_and, Bool.false_eq_true, if_false]
    unfold sliceRowB
    simp only [hk2, Bool.false_eq_true, if_false, maxB, boundB]
    rw [if_pos ⟨by omega, by omega⟩]
    simp only [hs]
    rw [if_pos ⟨by unfold unk; omega, Nat.le_refl _⟩]
    simp
end
end Go.AX

namespace Go.AX
section
variable {P : Program} {K : Known} {x : Ctx} {N : Nat} {E : Env} {h : Heap} {ops : Array Oper} {F : Ex → Env → Heap → Prop} {i : Nat}
variable {d : Nat} {ty : TypeId} {pos : String} {af : Array Edge} {g : Option (Nat × Bool)}
end
end Go.AX
