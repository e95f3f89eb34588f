/- Rules for maps of numbers, structs of numbers, bound methods, quotients. -/
import Derived.Test.YtbjagnifnbmpeaaGreatDoorAxX
import Derived.Test.YtbjagnifnbmpeaaGreatDoorAxG
namespace Go.AX
open Instr
theorem pe_checkI {P : Program} {e : Bool} {d : Nat} {t : TypeId} {k : IntKind} {a : Int} (h : P.underlying t = some (.int k)) : pe P (checkKey e (d + 1) t (.int .i64 a)) = some () := by
  unfold checkKey
  refine (pe_bind (pe_underlying h)).trans ?_
  rfl
def mapT (P : Program) (t : TypeId) : Bool :=
  match P.underlying t with
  | some (.map kt e) => (match P.underlying kt with | some (.int _) => true | _ => false) && (match zeroB P e with | some (.int .i64 0) => true | _ => false)
  | _ => false
theorem mapT_some {P : Program} {t : TypeId} (h : mapT P t = true) : ∃ kt e k, P.underlying t = some (.map kt e) ∧ P.underlying kt = some (.int k) ∧ zeroB P e = some (.int .i64 0) := by
  unfold mapT at h
  split at h
  · rename_i kt e hu
    rw [Bool.and_eq_true] at h
    obtain ⟨h1, h2⟩ := h
    split at h1
    · rename_i k hk
      split at h2
      · rename_i hz; exact ⟨kt, e, k, hu, hk, hz⟩
      · cases h2
    · cases h1
  · cases h
def Ents : List MapEntry → List (Int × Int) → Prop
  | [], [] => True
  | e :: es, p :: l => e.key = .int .i64 p.1 ∧ e.val = .int .i64 p.2 ∧ Ents es l
  | _, _ => False
def lk : List (Int × Int) → Int → Nat → Option (Nat × Int)
  | [], _, _ => none
  | p :: l, k, i => if k = p.1 then some (i, p.2) else lk l k (i + 1)
def updI : List (Int × Int) → Int → Int → List (Int × Int)
  | [], k, v => [(k, v)]
  | p :: l, k, v => if k = p.1 then (k, v) :: l else p :: updI l k v
theorem findNow_int {ik : IntKind} {k : Int} : ∀ {es : List MapEntry} {l : List (Int × Int)} (i : Nat), Ents es l → findNow (.int ik) (.int .i64 k) (es.map bareE) i = some ((lk l k i).map fun q => (q.1, Value.bool false)) := by
  intro es
  induction es with
  | nil => intro l i h; cases l with
    | nil => rfl
    | cons _ _ => cases h
  | cons e es ih =>
    intro l i h
    cases l with
    | nil => cases h
    | cons p l =>
      obtain ⟨h1, h2, h3⟩ := h
      rw [List.map_cons]
      have hb : (bareE e).key = .int .i64 p.1 := h1
      have hs : sameNow (.int ik) (.int .i64 k) (bareE e).key = some (k == p.1) := by rw [hb]; rfl
      unfold findNow
      rw [hs]
      simp only [lk]
      by_cases hk : k = p.1
      · subst hk; simp [bareE]
      · have : (k == p.1) = false := by simpa using hk
        rw [this, if_neg hk]
        exact ih (i + 1) h3
theorem lk_at {k : Int} : ∀ {es : List MapEntry} {l : List (Int × Int)} {i j : Nat} {w : Int}, Ents es l → lk l k i = some (j, w) → ∃ q e, j = i + q ∧ es[q]? = some e ∧ e.key = .int .i64 k ∧ e.val = .int .i64 w := by
  intro es
  induction es with
  | nil => intro l i j w h e; cases l with
    | nil => cases e
    | cons _ _ => cases h
  | cons x es ih =>
    intro l i j w h e
    cases l with
    | nil => cases h
    | cons p l =>
      obtain ⟨h1, h2, h3⟩ := h
      simp only [lk] at e
      by_cases hk : k = p.1
      · rw [if_pos hk] at e; cases e
        exact ⟨0, x, rfl, rfl, by rw [h1, hk], h2⟩
      · rw [if_neg hk] at e
        obtain ⟨q, y, a, b, c, d⟩ := ih h3 e
        exact ⟨q + 1, y, by omega, by simpa using b, c, d⟩
theorem findB_int {P : Program} {em : Bool} {kt : TypeId} {ik : IntKind} {k : Int} {es : List MapEntry} {l : List (Int × Int)} (hu : P.underlying kt = some (.int ik)) (h : Ents es l) : findB P em kt (.int .i64 k) es = some ((lk l k 0).map fun q => (q.1, .int .i64 q.2)) := by
  unfold findB
  rw [if_pos (by simp [plain, deep])]
  have hpe : pe P (do checkKey em 10000 kt (.int .i64 k); findKey kt (.int .i64 k) (es.map bareE)) = some ((lk l k 0).map fun q => (q.1, Value.bool false)) := by
    refine (pe_bind (pe_checkI hu)).trans ?_
    unfold findKey
    refine (pe_bind (pe_underlying hu)).trans ?_
    rw [findNow_int 0 h]; rfl
  rw [hpe]
  cases hl : lk l k 0 with
  | none => rfl
  | some q =>
    obtain ⟨j, w⟩ := q
    obtain ⟨q, e, h1, h2, _, h4⟩ := lk_at h hl
    have : j = q := by omega
    subst this
    simp only [Option.map_some, h2, h4]
theorem lk_shift {k : Int} : ∀ (l : List (Int × Int)) (i : Nat), (lk l k i).map (·.2) = (lk l k 0).map (·.2) := by
  intro l
  induction l with
  | nil => intro i; rfl
  | cons p l ih =>
    intro i
    simp only [lk]
    by_cases hk : k = p.1
    · rw [if_pos hk, if_pos hk]; rfl
    · rw [if_neg hk, if_neg hk, ih (i + 1), ih (0 + 1)]
theorem lk_upd {k v : Int} : ∀ (l : List (Int × Int)) (q : Int), (lk (updI l k v) q 0).map (·.2) = if q = k then some v else (lk l q 0).map (·.2) := by
  intro l
  induction l with
  | nil => intro q; simp only [updI, lk]; by_cases hq : q = k <;> simp [hq]
  | cons p l ih =>
    intro q
    simp only [updI]
    by_cases hk : k = p.1
    · rw [if_pos hk]
      simp only [lk]
      by_cases hq : q = k
      · simp [hq]
      · rw [if_neg hq, if_neg hq, if_neg (fun e => hq (e.trans hk.symm))]
    · rw [if_neg hk]
      simp only [lk]
      by_cases hp : q = p.1
      · rw [if_pos hp, if_pos hp, if_neg (by rw [hp]; exact fun e => hk e.symm)]
      · rw [if_neg hp, if_neg hp, lk_shift (updI l k v) (0 + 1), ih q, lk_shift l (0 + 1)]
theorem ents_upd {k v w : Int} : ∀ {es : List MapEntry} {l : List (Int × Int)} {i j : Nat}, Ents es l → lk l k i = some (i + j, w) → Ents (es.modify j fun e => { e with key := .int .i64 k, val := .int .i64 v }) (updI l k v) := by
  intro es
  induction es with
  | nil => intro l i j h e; cases l with
    | nil => cases e
    | cons _ _ => cases h
  | cons x es ih =>
    intro l i j h e
    cases l with
    | nil => cases h
    | cons p l =>
      obtain ⟨h1, h2, h3⟩ := h
      simp only [lk] at e
      simp only [updI]
      by_cases hk : k = p.1
      · rw [if_pos hk] at e ⊢
        simp only [Option.some.injEq, Prod.mk.injEq] at e
        have : j = 0 := by omega
        subst this
        exact ⟨rfl, rfl, h3⟩
      · rw [if_neg hk] at e ⊢
        obtain ⟨q, _, a, _, _, _⟩ := lk_at h3 e
        obtain ⟨j, rfl⟩ : ∃ j', j = j' + 1 := ⟨j - 1, by omega⟩
        exact ⟨h1, h2, ih (i := i + 1) (j := j) h3 (by rw [e]; congr 2; omega)⟩
theorem ents_new {k v : Int} {c : Nat} : ∀ {es : List MapEntry} {l : List (Int × Int)} {i : Nat}, Ents es l → lk l k i = none → Ents (es ++ [{ key := .int .i64 k, val := .int .i64 v, born := c }]) (updI l k v) := by
  intro es
  induction es with
  | nil => intro l i h e; cases l with
    | nil => exact ⟨rfl, rfl, trivial⟩
    | cons _ _ => cases h
  | cons x es ih =>
    intro l i h e
    cases l with
    | nil => cases h
    | cons p l =>
      obtain ⟨h1, h2, h3⟩ := h
      simp only [lk] at e
      by_cases hk : k = p.1
      · rw [if_pos hk] at e; cases e
      · rw [if_neg hk] at e
        simp only [updI, if_neg hk]
        exact ⟨h1, h2, ih h3 e⟩
def MapI (h : Heap) (r : Nat) (f : Int → Int) : Prop := ∃ es c l, h.get? r = some (.obj (.map es c)) ∧ Ents es.toList l ∧ ∀ k, ((lk l k 0).map (·.2)).getD 0 = f k
theorem MapI.ext {h h1 : Heap} {r : Nat} {f : Int → Int} (m : MapI h r f) (x : Ext h h1) : MapI h1 r f := by
  obtain ⟨es, c, l, a, b, d⟩ := m
  exact ⟨es, c, l, x.get a, b, d⟩
theorem MapI.but {h h1 : Heap} {r b : Nat} {f : Int → Int} (m : MapI h r f) (x : ExtBut b h h1) (hb : r ≠ b) : MapI h1 r f := by
  obtain ⟨es, c, l, a, e, d⟩ := m
  exact ⟨es, c, l, x.get hb a, e, d⟩
theorem MapI.lt {h : Heap} {r : Nat} {f : Int → Int} (m : MapI h r f) : r < h.n := by
  obtain ⟨es, c, l, a, e, d⟩ := m
  exact Heap.get_lt a
theorem mapI_new {h : Heap} : MapI (h.push (.obj (.map #[] 0))) h.n fun _ => 0 := ⟨#[], 0, [], get_push_same, trivial, fun _ => rfl⟩
theorem lookupI {P : Program} {h : Heap} {t : TypeId} {r : Nat} {f : Int → Int} {a : Int} (ht : mapT P t = true) (m : MapI h r f) : lookupB P h t (.map (some r)) (.int .i64 a) false = some (.int .i64 (f a)) := by
  obtain ⟨kt, e, k, hu, hk, hz⟩ := mapT_some ht
  obtain ⟨es, c, l, hg, hE, hf⟩ := m
  unfold lookupB
  have hr : mapRows h (.map (some r)) = some es := by simp only [mapRows, mapOf, hg]
  simp only [hu, hr, hz, findB_int hk hE]
  rw [← hf a]
  cases lk l a 0 with
  | none => rfl
  | some q => rfl
theorem updateI {P : Program} {h : Heap} {t : TypeId} {r : Nat} {f : Int → Int} {a v : Int} (ht : mapT P t = true) (m : MapI h r f) : ∃ h1, mapUpdateB P h t (.map (some r)) (.int .i64 a) (.int .i64 v) = some h1 ∧ MapI h1 r (fun q => if q = a then v else f q) ∧ ExtBut r h h1 := by
  obtain ⟨kt, e, k, hu, hk, hz⟩ := mapT_some ht
  obtain ⟨es, c, l, hg, hE, hf⟩ := m
  have hm : mapOf h (.map (some r)) = some (r, es, c) := by simp only [mapOf, hg]
  have hfun : ∀ q, ((lk (updI l a v) q 0).map (·.2)).getD 0 = if q = a then v else f q := by
    intro q
    rw [lk_upd]
    by_cases hq : q = a
    · rw [if_pos hq, if_pos hq]; rfl
    · rw [if_neg hq, if_neg hq]; exact hf q
  unfold mapUpdateB
  simp only [hu, hm, findB_int hk hE]
  cases hl : lk l a 0 with
  | none =>
    simp only [Option.map_none]
    refine ⟨_, rfl, ⟨_, _, updI l a v, get_set_same hg, ?_, hfun⟩, (ExtBut.refl r h).set hg _⟩
    rw [Array.toList_push]
    exact ents_new hE hl
  | some q =>
    obtain ⟨j, w⟩ := q
    obtain ⟨q, x, h1, h2, h3, h4⟩ := lk_at hE hl
    have hj : j = q := by omega
    subst hj
    have h2' : es[j]? = some x := by rw [← Array.getElem?_toList]; exact h2
    simp only [Option.map_some, h2']
    have hsb : sameBits 10000 x.key (.int .i64 a) = true := by rw [h3]; simp [sameBits]
    rw [if_pos hsb]
    refine ⟨_, rfl, ⟨_, _, updI l a v, get_set_same hg, ?_, hfun⟩, (ExtBut.refl r h).set hg _⟩
    rw [Array.toList_modify]
    exact ents_upd hE (i := 0) (by rw [Nat.zero_add]; exact hl)
section
variable {P : Program} {K : Known} {x : Ctx} {N : Nat} {E : Env} {h : Heap} {ops : Array Oper} {F : Ex → Env → Heap → Prop} {i : Nat} {Hs : List Heap} {L : List Heap → Prop} {nw : List (Nat × Nat × Blk)}
variable {d : Nat} {ty : TypeId} {pos : String} {af : Array Edge} {g : Option (Nat × Bool)}
theorem P_makeMap {t : TypeId} (hN : Nat.blt d N = true) (hg : gval ops E g = some true) (hk : opsOK P ⟨some d, .makeMap t none, ty, pos, af, g⟩ = true)
    (k : ∀ h1, MapI h1 h.n (fun _ => 0) → Ext h h1 → R1 P K x N ops F (i + 1) ((d, .map (some h.n)) :: E) h1) : R2 P K x N ops F i ⟨some d, .makeMap t none, ty, pos, af, g⟩ E h :=
  ⟨fun ho => O_simple ho rfl hN hg hk (fun _ _ => rfl) (k _ mapI_new ((Ext.refl h).push _)).out⟩
theorem P_lookupI {t : TypeId} {a b : Operand} {r : Nat} {n : Int} {f : Int → Int} (hN : Nat.blt d N = true) (hg : gval ops E g = some true) (hk : opsOK P ⟨some d, .lookup t a b false, ty, pos, af, g⟩ = true)
    (ha : E.ev a = some (.map (some r))) (hb : E.ev b = some (.int .i64 n)) (ht : mapT P t = true) (hm : MapI h r f)
    (k : R1 P K x N ops F (i + 1) ((d, .int .i64 (f n)) :: E) h) : R2 P K x N ops F i ⟨some d, .lookup t a b false, ty, pos, af, g⟩ E h :=
  ⟨fun ho => O_simple ho rfl hN hg hk (fun tm hE => by
    show (lookupB P h t (ev tm a) (ev tm b) false).map (fun v => (v, h)) = _
    rw [hE.ev ha, hE.ev hb, lookupI ht hm]; rfl) k.out⟩
theorem M_lookupI {t : TypeId} {a b : Operand} {r : Nat} {n : Int} {f : Int → Int} (hN : Nat.blt d N = true) (hg : gval ops E g = some true) (hk : opsOK P ⟨some d, .lookup t a b false, ty, pos, af, g⟩ = true)
    (ha : E.ev a = some (.map (some r))) (hb : E.ev b = some (.int .i64 n)) (ht : mapT P t = true) (hm : MapI h r f)
    (k : S1 P K x N ops F (i + 1) ((d, .int .i64 (f n)) :: E) h Hs (fun hs => L hs ∧ ∀ hk ∈ hs, MapI hk r f) nw) : S2 P K x N ops F i ⟨some d, .lookup t a b false, ty, pos, af, g⟩ E h Hs L nw :=
  ⟨fun ho => N_look (A := fun hk => MapI hk r f) ho rfl hN hg hk rfl rfl (fun tm hE hk hA => by
    show (lookupB P hk t (ev tm a) (ev tm b) false).map (fun v => (v, hk)) = _
    rw [hE.ev ha, hE.ev hb, lookupI ht hA]; rfl) hm (same_int _ _) (within_int _ _ _) k.out⟩
theorem do_mapUpdate {t : TypeId} {a b c : Operand} {r : Nat} {n v : Int} {f : Int → Int} (hk : opsOK P ⟨none, .mapUpdate t a b c, ty, pos, af, g⟩ = true)
    (ha : E.ev a = some (.map (some r))) (hb : E.ev b = some (.int .i64 n)) (hc : E.ev c = some (.int .i64 v)) (ht : mapT P t = true) (hm : MapI h r f) (tm : Array Value) (D : List Deferred) (U : FrameMode) (hE : EnvOK N E tm) :
    ∃ m v' h1, doOp P (run P K m) x ⟨tm, D, U, h⟩ ⟨none, .mapUpdate t a b c, ty, pos, af, g⟩ = some (.val v', ⟨tm, D, U, h1⟩) ∧ MapI h1 r (fun q => if q = n then v else f q) ∧ ExtBut r h h1 := by
  obtain ⟨h1, e, q1, q2⟩ := updateI (P := P) (a := n) (v := v) ht hm
  refine ⟨0, undef, h1, do_effect hk rfl rfl ?_, q1, q2⟩
  show (mapUpdateB P h t (ev tm a) (ev tm b) (ev tm c)).map (fun h => (Out.val undef, h)) = _
  rw [hE.ev ha, hE.ev hb, hE.ev hc, e]; rfl
theorem M_mapUpdateI {t : TypeId} {a b c : Operand} {r : Nat} {n v : Int} {f : Int → Int} (hg : gval ops E g = some true) (hk : opsOK P ⟨none, .mapUpdate t a b c, ty, pos, af, g⟩ = true)
    (ha : E.ev a = some (.map (some r))) (hb : E.ev b = some (.int .i64 n)) (hc : E.ev c = some (.int .i64 v)) (ht : mapT P t = true) (hm : MapI h r f) (hnw : unseen (preds ops.toList) nw i = [])
    (k : ∀ h1, MapI h1 r (fun q => if q = n then v else f q) → ExtBut r h h1 → S1 P K x N ops F (i + 1) E h1 (h1 :: Hs) L nw) : S2 P K x N ops F i ⟨none, .mapUpdate t a b c, ty, pos, af, g⟩ E h Hs L nw :=
  ⟨fun ho => N_act0 (G := fun h1 => MapI h1 r (fun q => if q = n then v else f q) ∧ ExtBut r h h1) ho rfl hg rfl hnw (fun tm D U hE => do_mapUpdate hk ha hb hc ht hm tm D U hE) (fun h1 q => (k h1 q.1 q.2).out)⟩
end
end Go.AX

namespace Go.AX
section
variable {P : Program} {K : Known} {x : Ctx} {N : Nat} {E : Env} {h : Heap} {ops : Array Oper} {F : Ex → Env → Heap → Prop} {i : Nat} {Hs : List Heap} {L : List Heap → Prop} {nw : List (Nat × Nat × Blk)}
variable {d : Nat} {ty : TypeId} {pos : String} {af : Array Edge} {g : Option (Nat × Bool)}
theorem eqlI_simple {tm : Array Value} {t yt : TypeId} {x y : Operand} {n : Nat} {va vb : Value} (neg : Bool) {a b : List Int} (hE : EnvOK N E tm) (ha : E.ev x = some va) (hb : E.ev y = some vb) (hva : va = .agg (ints a).toArray) (hvb : vb = .agg (ints b).toArray)
    (hs : intsT P t n = true) (la : a.length = n) (lb : b.length = n) : simpleB P tm h ⟨some d, .binOp (if neg then .neq else .eql) t x y yt, ty, pos, af, g⟩ = some (.bool (if neg then !decide (a = b) else decide (a = b)), h) := by
  subst hva; subst hvb
  have := eqlI_op (P := P) (tm := tm) (o := ⟨some d, .binOp (if neg then .neq else .eql) t x y yt, ty, pos, af, g⟩) neg rfl (hE.ev ha) (hE.ev hb) hs la lb
  unfold simpleB
  simp only [this]
theorem P_neqI (a b : List Int) {t yt : TypeId} {x' y' : Operand} {n : Nat} {va vb : Value} (hN : Nat.blt d N = true) (hg : gval ops E g = some true) (hk : opsOK P ⟨some d, .binOp .neq t x' y' yt, ty, pos, af, g⟩ = true)
    (ha : E.ev x' = some va) (hb : E.ev y' = some vb) (hs : intsT P t n = true) (hva : va = .agg (ints a).toArray) (hvb : vb = .agg (ints b).toArray) (la : a.length = n) (lb : b.length = n)
    (kt : ¬ a = b → R1 P K x N ops F (i + 1) ((d, .bool true) :: E) h) (kf : a = b → R1 P K x N ops F (i + 1) ((d, .bool false) :: E) h) : R2 P K x N ops F i ⟨some d, .binOp .neq t x' y' yt, ty, pos, af, g⟩ E h := by
  by_cases hc : a = b
  · exact ⟨fun ho => O_simple ho rfl hN hg hk (fun tm hE => (eqlI_simple true hE ha hb hva hvb hs la lb).trans (by rw [decide_eq_true hc]; rfl)) (kf hc).out⟩
  · exact ⟨fun ho => O_simple ho rfl hN hg hk (fun tm hE => (eqlI_simple true hE ha hb hva hvb hs la lb).trans (by rw [decide_eq_false hc]; rfl)) (kt hc).out⟩
theorem P_bound {g0 : FuncId} {fs ca : Array Operand} {us vs : List Value} (hN : Nat.blt d N = true) (hg : gval ops E g = some true) (hk : opsOK P ⟨some d, .makeFunc (.func g0) fs ca, ty, pos, af, g⟩ = true)
    (hus : E.evs fs.toList = some us) (hvs : E.evs ca.toList = some vs) (k : R1 P K x N ops F (i + 1) ((d, .func (.func g0) us.toArray vs.toArray) :: E) h) : R2 P K x N ops F i ⟨some d, .makeFunc (.func g0) fs ca, ty, pos, af, g⟩ E h :=
  ⟨fun ho => O_simple ho rfl hN hg hk (fun tm hE => by
    have h1 : fs.map (ev tm) = us.toArray := by
      apply Array.ext'
      rw [Array.toList_map, hE.evs hus]
    have h2 : ca.map (ev tm) = vs.toArray := by
      apply Array.ext'
      rw [Array.toList_map, hE.evs hvs]
    show some (Value.func (.func g0) (fs.map (ev tm)) (ca.map (ev tm)), h) = _
    rw [h1, h2]) k.out⟩
theorem index_opG {tm : Array Value} {o : Oper} {t e : TypeId} {a j : Operand} {ik : IntKind} {k len : Nat} {cs : Array Value} {v : Value} (ho : o.op = .index t a j) (ha : AX.ev tm a = .agg cs) (hj : AX.ev tm j = .int ik (k : Nat))
    (hu : P.underlying t = some (.array len e)) (hs : one P e = true) (hv : cs[k]? = some v) (hl : k < len) : indexV P tm o t (.agg cs) (.int ik (k : Nat)) = some v := by
  have hag := one_agg hs
  have hsz := one_size hs
  have he : execOp (AX.ev tm) o = Sem.bind (Instr.index t (AX.ev tm a) (AX.ev tm j)) fun v => .pure (Next.value v) := by
    unfold execOp; rw [ho]; rfl
  have e1 : pe P (Instr.index t (.agg cs) (.int ik (k : Nat))) = some v := by
    unfold Instr.index
    refine (pe_bind (a := (ik, (k : Int))) rfl).trans ?_
    refine (pe_bind (pe_underlying hu)).trans ?_
    dsimp only
    rw [if_pos ⟨by omega, by omega⟩]
    have es : pe P (sizeOf e) = some 1 := by
      unfold sizeB at hsz
      unfold sizeOf typeInfo
      show pe P (Sem.bind (match P.info? e with | some t => Sem.pure t | none => stuck "no such type") _) = _
      cases hi : P.info? e with
      | none => rw [hi] at hsz; cases hsz
      | some ti => rw [hi] at hsz; simp only [Option.map_some] at hsz; show some ti.size = some 1; exact hsz
    refine (pe_bind es).trans ?_
    rw [Nat.mul_one, show (k : Int).toNat = k from rfl]
    unfold part isAgg
    unfold aggB at hag
    cases hue : P.underlying e with
    | none => rw [hue] at hag; cases hag
    | some u =>
      refine (pe_bind (a := false) ((pe_bind (pe_underlying hue)).trans ?_)).trans ?_
      · rw [hue] at hag
        cases u <;> simp only [Option.some.injEq, Bool.true_eq_false] at hag <;> rfl
      · simp only [Bool.false_eq_true, if_false, hv]; rfl
  have e2 : indexB P t (.agg cs) (.int ik (k : Nat)) = some v := by
    unfold indexB
    rw [hu]
    simp only [hsz]
    rw [if_pos ⟨by omega, by omega⟩, Nat.mul_one, show (k : Int).toNat = k from rfl]
    unfold partB
    rw [hag, hsz]
    simpa using hv
  have e3 : plainOp P tm o = some v ∨ plainOp P tm o = none := by
    unfold plainOp
    split
    · rw [he, ha, hj, (pe_bind e1).trans rfl]
      show (if plain deep v = true then some v else none) = some v ∨ (if plain deep v = true then some v else none) = none
      split <;> simp
    · exact .inr rfl
  unfold indexV
  rcases e3 with e | e <;> rw [e]
  exact e2
theorem P_indexG {t e : TypeId} {a j : Operand} {ik : IntKind} {k len : Nat} {q : Int} {cs : Array Value} {v : Value} (hN : Nat.blt d N = true) (hg : gval ops E g = some true) (hk : opsOK P ⟨some d, .index t a j, ty, pos, af, g⟩ = true)
    (ha : E.ev a = some (.agg cs)) (hj : E.ev j = some (.int ik q)) (hq : q = (k : Nat)) (hu : P.underlying t = some (.array len e)) (hs : one P e = true) (hl : k < len) (hv : cs[k]? = some v)
    (kk : R1 P K x N ops F (i + 1) ((d, v) :: E) h) : R2 P K x N ops F i ⟨some d, .index t a j, ty, pos, af, g⟩ E h :=
  ⟨fun ho => O_simple ho rfl hN hg hk (fun tm hE => by
    subst hq
    show (indexV P tm ⟨some d, .index t a j, ty, pos, af, g⟩ t (AX.ev tm a) (AX.ev tm j)).map (fun v => (v, h)) = _
    have ea := hE.ev ha
    have ej := hE.ev hj
    rw [ea, ej, index_opG rfl ea ej hu hs hv hl]; rfl) kk.out⟩
theorem M_remN {t yt : TypeId} {a b : Operand} {m n : Int} (hN : Nat.blt d N = true) (hg : gval ops E g = some true) (hk : opsOK P ⟨some d, .binOp .rem t a b yt, ty, pos, af, g⟩ = true)
    (ha : E.ev a = some (.int .i64 m)) (hb : E.ev b = some (.int .i64 n)) (h0 : 0 ≤ m) (hn : 0 < n) (k : S1 P K x N ops F (i + 1) ((d, .int .i64 (m % n)) :: E) h Hs L nw) : S2 P K x N ops F i ⟨some d, .binOp .rem t a b yt, ty, pos, af, g⟩ E h Hs L nw := by
  refine M_rem hN hg hk ha hb (by omega) ?_
  rw [Int.tmod_eq_emod_of_nonneg h0]; exact k
theorem P_idxQ {t e : TypeId} {a j : Operand} {ik : IntKind} {b k len : Nat} {q : Int} (hN : Nat.blt d N = true) (hg : gval ops E g = some true) (hk : opsOK P ⟨some d, .indexAddr t a j, ty, pos, af, g⟩ = true)
    (ha : E.ev a = some (.pointer (some ⟨b, 0, none⟩))) (hj : E.ev j = some (.int ik q)) (hu : P.underlying t = some (.array len e)) (hs : sizeB P e = some 1) (hq : q = (k : Nat)) (hl : k < len)
    (kk : R1 P K x N ops F (i + 1) ((d, .pointer (some ⟨b, k, none⟩)) :: E) h) : R2 P K x N ops F i ⟨some d, .indexAddr t a j, ty, pos, af, g⟩ E h := by
  subst hq
  exact P_idxP hN hg hk ha hj hu hs hl kk
theorem P_storeW {t : TypeId} {a y : Operand} {b n : Nat} {c : List Value} {e : TypeId} {v : Value} (hg : gval ops E g = some true) (hk : opsOK P ⟨none, .store t a y, ty, pos, af, g⟩ = true)
    (ha : E.ev a = some (.pointer (some ⟨b, 0, none⟩))) (hy : E.ev y = some v) (hb : h.get? b = some (.cells c e true)) (hs : sizeB P t = some n) (hc : v.cells.size = n) (hl : c.length = n) (hone : v.cells.toList.all oneB = true)
    (k : ∀ h1, h1.get? b = some (.cells v.cells.toList e true) → ExtBut b h h1 → R1 P K x N ops F (i + 1) E h1) : R2 P K x N ops F i ⟨none, .store t a y, ty, pos, af, g⟩ E h := by
  refine P_store hg hk ha hy hb hs hc (by omega) hone ?_
  have e1 : splice c 0 v.cells.toList = v.cells.toList := by
    have : v.cells.toList.length = c.length := by simp [hc, hl]
    simp [splice, this]
  rw [e1]
  exact k _ (get_set_same hb) ((ExtBut.refl b h).set hb _)
theorem M_storeW {t : TypeId} {a y : Operand} {b n : Nat} {c : List Value} {e : TypeId} {v : Value} (hg : gval ops E g = some true) (hk : opsOK P ⟨none, .store t a y, ty, pos, af, g⟩ = true)
    (ha : E.ev a = some (.pointer (some ⟨b, 0, none⟩))) (hy : E.ev y = some v) (hb : h.get? b = some (.cells c e true)) (hs : sizeB P t = some n) (hc : v.cells.size = n) (hl : c.length = n) (hone : v.cells.toList.all oneB = true) (hnw : unseen (preds ops.toList) nw i = [])
    (k : ∀ h1, h1.get? b = some (.cells v.cells.toList e true) → ExtBut b h h1 → S1 P K x N ops F (i + 1) E h1 (h1 :: Hs) L nw) : S2 P K x N ops F i ⟨none, .store t a y, ty, pos, af, g⟩ E h Hs L nw := by
  refine M_store hg hk ha hy hb hs hc (by omega) hone hnw ?_
  have e1 : splice c 0 v.cells.toList = v.cells.toList := by
    have : v.cells.toList.length = c.length := by simp [hc, hl]
    simp [splice, this]
  rw [e1]
  exact k _ (get_set_same hb) ((ExtBut.refl b h).set hb _)
end
end Go.AX
