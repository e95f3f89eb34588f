/- The law PayJust at the reading: what the functions that it calls answer (2). -/
import Derived.Test.YtbjagnifnbmpeaaGreatDoorPayJustTextA
namespace Go.AX.Sa
open Go.Proofs
set_option maxRecDepth 100000
/-! Shares of a prize: two ways to give what is left. -/
def amK (l : List Int) : Nat → Nat
  | 0 => 0
  | k + 1 => if l.getD k 0 > l.getD (amK l k) 0 then k else amK l k
theorem amK_lt (l : List Int) : ∀ k, 0 < k → amK l k < k := by
  intro k
  induction k with
  | zero => intro h; omega
  | succ k ih =>
    intro _
    simp only [amK]
    by_cases hc : l.getD k 0 > l.getD (amK l k) 0
    · rw [if_pos hc]; omega
    · rw [if_neg hc]
      by_cases hk : 0 < k
      · have := ih hk; omega
      · have : k = 0 := by omega
        subst this; simp [amK]
theorem amK_spec (l : List Int) : ∀ k, 0 < k → (∀ i, i < k → l.getD i 0 ≤ l.getD (amK l k) 0) ∧ ∀ i, i < amK l k → l.getD i 0 < l.getD (amK l k) 0 := by
  intro k
  induction k with
  | zero => intro h; omega
  | succ k ih =>
    intro _
    simp only [amK]
    by_cases hk : 0 < k
    · obtain ⟨h1, h2⟩ := ih hk
      by_cases hc : l.getD k 0 > l.getD (amK l k) 0
      · rw [if_pos hc]
        refine ⟨fun i hi => ?_, fun i hi => ?_⟩
        · by_cases hik : i = k
          · subst hik; exact Int.le_refl _
          · have := h1 i (by omega); omega
        · have := h1 i (by omega); omega
      · rw [if_neg hc]
        refine ⟨fun i hi => ?_, h2⟩
        by_cases hik : i = k
        · subst hik; omega
        · exact h1 i (by omega)
    · have : k = 0 := by omega
      subst this
      have h0 : amK l 0 = 0 := rfl
      rw [h0, if_neg (by omega)]
      exact ⟨fun i hi => by rw [show i = 0 by omega]; exact Int.le_refl _, fun i hi => by omega⟩
def st (z : Int) (s : List Int × List Int) : List Int × List Int := (s.1.set (amK s.2 s.2.length) (s.1.getD (amK s.2 s.2.length) 0 + 1), s.2.set (amK s.2 s.2.length) z)
def it (z : Int) (s : List Int × List Int) : Nat → List Int × List Int
  | 0 => s
  | k + 1 => st z (it z s k)
def sh0 (p : Int) (s : List Int) : List Int × List Int := (s.map fun x => p * x / s.sum, s.map fun x => p * x % s.sum)
theorem getD_set (l : List Int) (a i : Nat) (v : Int) (h : i < l.length) : (l.set a v).getD i 0 = if a = i then v else l.getD i 0 := by
  simp only [List.getD_eq_getElem?_getD]
  rw [List.getElem?_set]
  by_cases ha : a = i
  · subst ha; rw [if_pos rfl, if_pos rfl, if_pos h]; rfl
  · rw [if_neg ha, if_neg ha]
theorem sum_set : ∀ (l : List Int) (a : Nat) (v : Int), a < l.length → (l.set a v).sum = l.sum - l.getD a 0 + v := by
  intro l
  induction l with
  | nil => intro a v h; simp at h
  | cons x l ih =>
    intro a v h
    cases a with
    | zero => simp; omega
    | succ a =>
      have := ih a v (by simpa using h)
      simp only [List.set_cons_succ, List.sum_cons, this, List.getD_cons_succ]
      omega
theorem sum_mod (p A : Int) : ∀ s : List Int, (s.map fun x => p * x % A).sum = p * s.sum - A * (s.map fun x => p * x / A).sum := by
  intro s
  induction s with
  | nil => simp
  | cons x s ih =>
    simp only [List.map_cons, List.sum_cons, ih, Int.mul_add]
    have h1 : p * x % A = p * x - A * (p * x / A) := Int.emod_def _ _
    omega
theorem sum_pos {l : List Int} (h : ∀ i, i < l.length → l.getD i 0 ≤ 0) : l.sum ≤ 0 := by
  induction l with
  | nil => simp
  | cons x l ih =>
    have h0 := h 0 (by simp)
    have h1 := ih fun i hi => by have := h (i + 1) (by simpa using hi); simpa using this
    simp only [List.sum_cons]
    simp only [List.getD_cons_zero] at h0
    omega
structure Inv (A : Int) (H : Nat) (L : Int) (k : Nat) (c r : List Int × List Int) : Prop where
  one : c.1 = r.1
  l1 : c.1.length = H
  l2 : c.2.length = H
  l3 : r.2.length = H
  rel : ∀ i, i < H → (c.2.getD i 0 = r.2.getD i 0) ∨ (r.2.getD i 0 = -1 ∧ c.2.getD i 0 = 0)
  b : ∀ i, i < H → 0 ≤ c.2.getD i 0 ∧ c.2.getD i 0 ≤ A - 1
  s : A * (L - k) ≤ c.2.sum
  g : ∀ i, i < H → 0 ≤ c.1.getD i 0 ∧ c.1.getD i 0 ≤ 959999 + k
theorem Inv.am {A : Int} {H : Nat} {L : Int} {k : Nat} {c r : List Int × List Int} (v : Inv A H L k c r) (hA : 0 < A) (hk : (k : Int) < L) : 0 < H ∧ amK c.2 H = amK r.2 H := by
  have hs : 0 < c.2.sum := by
    have h1 : A * 1 ≤ A * (L - k) := Int.mul_le_mul_of_nonneg_left (by omega) (by omega)
    have := v.s
    omega
  have hex : ∃ i, i < H ∧ 0 < c.2.getD i 0 := by
    apply Classical.byContradiction
    intro q
    have := sum_pos (l := c.2) fun i hi => by
      rw [v.l2] at hi
      apply Classical.byContradiction
      intro w
      exact q ⟨i, hi, by omega⟩
    omega
  obtain ⟨i, hi, hpos⟩ := hex
  have hH : 0 < H := by omega
  refine ⟨hH, ?_⟩
  obtain ⟨c1, c2⟩ := amK_spec c.2 H hH
  obtain ⟨r1, r2⟩ := amK_spec r.2 H hH
  have ac := amK_lt c.2 H hH
  have ar := amK_lt r.2 H hH
  have e1 := v.rel _ ac
  have e2 := v.rel _ ar
  have f1 := c1 i hi
  have f2 := r1 _ ac
  have f3 := c1 _ ar
  rcases Nat.lt_trichotomy (amK c.2 H) (amK r.2 H) with h | h | h
  · have := r2 _ h; omega
  · exact h
  · have := c2 _ h; omega
theorem Inv.step {A : Int} {H : Nat} {L : Int} {k : Nat} {c r : List Int × List Int} (v : Inv A H L k c r) (hA : 0 < A) (hk : (k : Int) < L) : Inv A H L (k + 1) (st 0 c) (st (-1) r) := by
  obtain ⟨hH, ha⟩ := v.am hA hk
  have ac := amK_lt c.2 H hH
  obtain ⟨one, l1, l2, l3, rel, b, s, g⟩ := v
  have hl2 : amK c.2 c.2.length = amK c.2 H := by rw [l2]
  have hl3 : amK r.2 r.2.length = amK c.2 H := by rw [l3, ha]
  refine ⟨?_, ?_, ?_, ?_, ?_, ?_, ?_, ?_⟩
  · simp only [st, hl2, hl3, one]
  · simp only [st, List.length_set]; exact l1
  · simp only [st, List.length_set]; exact l2
  · simp only [st, List.length_set]; exact l3
  · intro i hi
    simp only [st, hl2, hl3]
    rw [getD_set _ _ _ _ (by omega), getD_set _ _ _ _ (by omega)]
    by_cases hai : amK c.2 H = i
    · rw [if_pos hai, if_pos hai]; exact .inr ⟨rfl, rfl⟩
    · rw [if_neg hai, if_neg hai]; exact rel i hi
  · intro i hi
    simp only [st, hl2]
    rw [getD_set _ _ _ _ (by omega)]
    by_cases hai : amK c.2 H = i
    · rw [if_pos hai]; omega
    · rw [if_neg hai]; exact b i hi
  · simp only [st, hl2]
    rw [sum_set _ _ _ (by omega)]
    have hb := (b _ ac).2
    have e : A * (L - ((k + 1 : Nat) : Int)) = A * (L - k) - A := by
      rw [show L - ((k + 1 : Nat) : Int) = (L - k) - 1 by omega, Int.mul_sub, Int.mul_one]
    rw [e]
    omega
  · intro i hi
    simp only [st, hl2]
    rw [getD_set _ _ _ _ (by omega)]
    by_cases hai : amK c.2 H = i
    · rw [if_pos hai]; have := g _ ac; omega
    · rw [if_neg hai]; have := g i hi; omega
theorem map_getD (f : Int → Int) (s : List Int) {i : Nat} (h : i < s.length) : (s.map f).getD i 0 = f (s.getD i 0) := by
  simp [List.getD_eq_getElem?_getD, h]
theorem le_sum {s : List Int} (h : ∀ i, i < s.length → 0 ≤ s.getD i 0) : 0 ≤ s.sum ∧ ∀ i, i < s.length → s.getD i 0 ≤ s.sum := by
  induction s with
  | nil => exact ⟨by simp, fun i hi => by simp at hi⟩
  | cons x s ih =>
    have h0 := h 0 (by simp)
    simp only [List.getD_cons_zero] at h0
    obtain ⟨h1, h2⟩ := ih fun i hi => by have := h (i + 1) (by simpa using hi); simpa using this
    refine ⟨by simp only [List.sum_cons]; omega, fun i hi => ?_⟩
    cases i with
    | zero => simp only [List.getD_cons_zero, List.sum_cons]; omega
    | succ i => have := h2 i (by simpa using hi); simp only [List.getD_cons_succ, List.sum_cons]; omega
theorem inv0 {p : Int} {s : List Int} (hp : 0 ≤ p ∧ p ≤ 959999) (hs : ∀ i, i < s.length → 0 ≤ s.getD i 0) (hA : 0 < s.sum) : Inv s.sum s.length (p - (sh0 p s).1.sum) 0 (sh0 p s) (sh0 p s) := by
  refine ⟨rfl, by simp [sh0], by simp [sh0], by simp [sh0], fun _ _ => .inl rfl, ?_, ?_, ?_⟩
  · intro i hi
    simp only [sh0]
    rw [map_getD _ _ hi]
    have h1 := Int.emod_nonneg (p * s.getD i 0) (show s.sum ≠ 0 by omega)
    have h2 := Int.emod_lt_of_pos (p * s.getD i 0) hA
    omega
  · simp only [sh0]
    rw [sum_mod]
    have e1 : s.sum * (p - (s.map fun x => p * x / s.sum).sum - ((0 : Nat) : Int)) = s.sum * p - s.sum * (s.map fun x => p * x / s.sum).sum := by
      rw [show p - (s.map fun x => p * x / s.sum).sum - ((0 : Nat) : Int) = p - (s.map fun x => p * x / s.sum).sum by simp, Int.mul_sub]
    rw [e1, Int.mul_comm p s.sum]
    exact Int.le_refl _
  · intro i hi
    simp only [sh0]
    rw [map_getD _ _ hi]
    have h0 := hs i hi
    have h1 := (le_sum hs).2 i hi
    have h2 : 0 ≤ p * s.getD i 0 / s.sum := Int.ediv_nonneg (Int.mul_nonneg hp.1 h0) (by omega)
    have h3 : p * s.getD i 0 / s.sum ≤ p := by
      have : p * s.getD i 0 / s.sum ≤ p * s.sum / s.sum := Int.ediv_le_ediv hA (Int.mul_le_mul_of_nonneg_left h1 hp.1)
      rwa [Int.mul_ediv_cancel _ (by omega)] at this
    omega
theorem inv_k {p : Int} {s : List Int} (hp : 0 ≤ p ∧ p ≤ 959999) (hs : ∀ i, i < s.length → 0 ≤ s.getD i 0) (hA : 0 < s.sum) : ∀ k : Nat, (k : Int) ≤ p - (sh0 p s).1.sum → Inv s.sum s.length (p - (sh0 p s).1.sum) k (it 0 (sh0 p s) k) (it (-1) (sh0 p s) k) := by
  intro k
  induction k with
  | zero => intro _; exact inv0 hp hs hA
  | succ k ih => intro hk; exact (ih (by omega)).step hA (by omega)
theorem left_b {p : Int} {s : List Int} (hp : 0 ≤ p ∧ p ≤ 959999) (hs : ∀ i, i < s.length → 0 ≤ s.getD i 0) (hA : 0 < s.sum) : 0 ≤ p - (sh0 p s).1.sum := by
  have v := inv0 hp hs hA
  have h1 : 0 ≤ (sh0 p s).2.sum := (le_sum fun i hi => (v.b i (by rwa [v.l2] at hi)).1).1
  have h2 : (sh0 p s).2.sum = s.sum * (p - (sh0 p s).1.sum) := by
    simp only [sh0]
    rw [sum_mod, Int.mul_sub, Int.mul_comm p s.sum]
  rw [h2] at h1
  apply Classical.byContradiction
  intro w
  have h3 : s.sum * (p - (sh0 p s).1.sum) ≤ s.sum * (-1) := Int.mul_le_mul_of_nonneg_left (by omega) (by omega)
  omega
def shareL (p : Int) (s : List Int) : List Int := (it 0 (sh0 p s) (p - (sh0 p s).1.sum).toNat).1
end Go.AX.Sa

namespace Go.AX.Sa
open Go.Proofs
set_option maxRecDepth 100000
/-! Lists that grow beside each other. -/
/-- The value reads as this list and lies in this block alone. -/
def Own (h : Heap) (v : Value) (l : List Int) (b : Nat) : Prop := (v = .slice none 0 0 ∧ l = []) ∨ (l ≠ [] ∧ v = .slice (some ⟨b, 0, none⟩) l.length unk ∧ h.get? b = some (.cells (ints l) 3 true))
theorem Own.ext {h h1 : Heap} {v : Value} {l : List Int} {b : Nat} (o : Own h v l b) (x : Ext h h1) : Own h1 v l b := o.imp id fun q => ⟨q.1, q.2.1, x.get q.2.2⟩
theorem Own.but {h h1 : Heap} {v : Value} {l : List Int} {b c : Nat} (o : Own h v l b) (x : ExtBut c h h1) (hne : b ≠ c) : Own h1 v l b := o.imp id fun q => ⟨q.1, q.2.1, x.get hne q.2.2⟩
/-- What stays when a list in this block grows. -/
structure KeptX (l : List Int) (b : Nat) (h h1 : Heap) : Prop where
  n : h1.n = h.n + 1
  get' : ∀ c y, (l = [] ∨ c ≠ b) → h.get? c = some y → h1.get? c = some y
theorem Own.kept {h h1 : Heap} {v : Value} {l l' : List Int} {b b' : Nat} (o : Own h v l b) (x : KeptX l' b' h h1) (hne : l' = [] ∨ b ≠ b') : Own h1 v l b := by
  rcases o with o | ⟨o0, o1, o2⟩
  · exact .inl o
  · rcases hne with hn | hn
    · exact .inr ⟨o0, o1, x.get' _ _ (.inl hn) o2⟩
    · exact .inr ⟨o0, o1, x.get' _ _ (.inr hn) o2⟩
theorem Own.one {h : Heap} {v : Value} {l : List Int} {b : Nat} (o : Own h v l b) : oneB v = true ∧ v.cells = #[v] := by
  rcases o with ⟨rfl, _⟩ | ⟨_, rfl, _⟩ <;> exact ⟨rfl, rfl⟩
theorem Own.same {h : Heap} {v : Value} {l : List Int} {b : Nat} (o : Own h v l b) : AX.same 20 v v = true := by
  rcases o with ⟨rfl, _⟩ | ⟨_, rfl, _⟩ <;> simp [AX.same]
theorem Own.within {h : Heap} {v : Value} {l : List Int} {b : Nat} (o : Own h v l b) {m : Nat} (hm : h.n ≤ m) : AX.within 20 m v = true := by
  rcases o with ⟨rfl, _⟩ | ⟨_, rfl, g⟩
  · rfl
  · have := Heap.get_lt g
    simp [AX.within]; omega
section
variable {P : Program} {K : Known} {x : Ctx} {N : Nat} {E : Env} {h : Heap} {ops : Array Oper} {F : Ex → Env → Heap → Prop} {i : Nat} {Hs : List Heap} {L : List Heap → Prop} {nw : List (Nat × Nat × Blk)}
variable {d : Nat} {ty : TypeId} {pos : String} {af : Array Edge} {g : Option (Nat × Bool)}
theorem own_app {ts : Array TypeId} {t t' e' : TypeId} {by_ cap bv : Nat} {e0 : TypeId} {own : Bool} {n : Int} {v : Value} {l : List Int} (h0' : ts[0]? = some t) (h1' : ts[1]? = some t') (hc : cell1 P t = some 3) (hc' : P.underlying t' = some (.slice e'))
    (hy : h.get? by_ = some (.cells [.int .i64 n] e0 own)) (ho : Own h v l bv) (hle : l.length ≤ 10000) : ∃ v' h1, appendB P h ts v (.slice (some ⟨by_, 0, none⟩) 1 cap) = some (v', h1) ∧ Own h1 v' (l ++ [n]) h.n ∧ KeptX l bv h h1 := by
  rcases ho with ⟨rfl, rfl⟩ | ⟨hne0, rfl, h2⟩
  · exact ⟨_, _, app_nil h0' h1' hc hc' hy rfl (by omega) (by omega) rfl, .inr ⟨by simp, rfl, get_push_same⟩, ⟨rfl, fun _ _ _ g => get_push_old g⟩⟩
  · refine ⟨_, _, app_unk h0' h1' hc hc' hy rfl (by omega) (by omega) rfl h2 (ints_len _), .inr ⟨by simp, by simp, ?_⟩, ⟨rfl, fun c y hne q => ?_⟩⟩
    · have : (h.set bv .dead).n = h.n := rfl
      rw [← this, show ints (l ++ [n]) = ints l ++ [Value.int .i64 n] from (AX.ints_app l [n]).symm]
      exact get_push_same
    · by_cases hb : c = bv
      · subst hb
        rcases hne with hn | hn
        · exact absurd hn hne0
        · exact absurd rfl hn
      · exact get_push_old (get_set_other h2 hb q)
theorem appOwnP {args : Array Operand} {ts : Array TypeId} {t t' e' : TypeId} {a b : Operand} {by_ cap bv : Nat} {e0 : TypeId} {own : Bool} {n : Int} {v : Value} {l : List Int} (hN : Nat.blt d N = true) (hg : gval ops E g = some true) (hk : opsOK P ⟨some d, .call ⟨.builtin .append, args, ts⟩, ty, pos, af, g⟩ = true) (hargs : args.toList = [a, b])
    (ha : E.ev a = some v) (hb : E.ev b = some (.slice (some ⟨by_, 0, none⟩) 1 cap)) (h0' : ts[0]? = some t) (h1' : ts[1]? = some t') (hc : cell1 P t = some 3) (hc' : P.underlying t' = some (.slice e'))
    (hy : h.get? by_ = some (.cells [.int .i64 n] e0 own)) (ho : Own h v l bv) (hle : l.length ≤ 10000)
    (k : ∀ v' h1, Own h1 v' (l ++ [n]) h.n → KeptX l bv h h1 → R1 P K x N ops F (i + 1) ((d, v') :: E) h1) : R2 P K x N ops F i ⟨some d, .call ⟨.builtin .append, args, ts⟩, ty, pos, af, g⟩ E h := by
  obtain ⟨v', h1, e, o, q⟩ := own_app (P := P) (e' := e') h0' h1' hc hc' hy ho hle
  exact P_append hN hg hk hargs ha hb e (k v' h1 o q)
theorem appOwnM {args : Array Operand} {ts : Array TypeId} {t t' e' : TypeId} {a b : Operand} {by_ cap bv : Nat} {e0 : TypeId} {own : Bool} {n : Int} {v : Value} {l : List Int} (hN : Nat.blt d N = true) (hg : gval ops E g = some true) (hk : opsOK P ⟨some d, .call ⟨.builtin .append, args, ts⟩, ty, pos, af, g⟩ = true) (hargs : args.toList = [a, b])
    (ha : E.ev a = some v) (hb : E.ev b = some (.slice (some ⟨by_, 0, none⟩) 1 cap)) (h0' : ts[0]? = some t) (h1' : ts[1]? = some t') (hc : cell1 P t = some 3) (hc' : P.underlying t' = some (.slice e'))
    (hy : h.get? by_ = some (.cells [.int .i64 n] e0 own)) (ho : Own h v l bv) (hle : l.length ≤ 10000) (hnw : unseen (preds ops.toList) nw i = [])
    (k : ∀ v' h1, Own h1 v' (l ++ [n]) h.n → KeptX l bv h h1 → S1 P K x N ops F (i + 1) ((d, v') :: E) h1 (h1 :: Hs) L nw) : S2 P K x N ops F i ⟨some d, .call ⟨.builtin .append, args, ts⟩, ty, pos, af, g⟩ E h Hs L nw := by
  obtain ⟨v', h1, e, o, q⟩ := own_app (P := P) (e' := e') h0' h1' hc hc' hy ho hle
  exact M_append hN hg hk hargs ha hb e hnw (k v' h1 o q)
end
variable {K : Known}
/-! The best of the hands. -/
theorem less_ok (hK : NoK K) {r : List Int} {c rb a b cap m : Nat} {e e2 : TypeId} {o o2 : Bool} {h : Heap} (hc : h.get? c = some (.cells [.slice (some ⟨rb, 0, none⟩) m cap] e o)) (hm : m = r.length) (hr : h.get? rb = some (.cells (ints r) e2 o2)) (ha : a < r.length) (hb : b < r.length) (_hl : r.length ≤ 1000) :
    CallW Tryz.prog K 107 #[.int .i64 (a : Nat), .int .i64 (b : Nat), .pointer (some ⟨c, 0, none⟩)] h (IfB (r.getD a 0 > r.getD b 0) h) := by
  subst hm
  refine body (N := 15) Tryz.func107 rfl (hK _ _ _ rfl) rfl rfl ?_
  (repeat' (first | (apply K_seq) | (apply K_region) | (apply O_at; rfl) | (apply N_at; rfl) | (apply O_fin; rfl) | (apply C_seq) | (apply K_open; exact openOK_of (by decide +kernel)) | (apply K_ret) | (apply N_fin; rfl; exact (.inl (Nat.le_refl 1))) | (apply N_fin; rfl; refine .inr ?_; (focus repeat' first | exact trivial | apply And.intro | rfl)) | (apply C_nil) | (apply P_assign; rfl; rfl; rfl; rfl) | (apply M_move; rfl; rfl; rfl; rfl) | (apply M_assign; rfl; rfl; rfl; rfl) | (apply M_gtr; rfl; rfl; rfl; rfl; rfl; all_goals intro _) | (apply M_idxA; rfl; rfl; rfl; rfl; rfl; exact un_ok rfl; exact sz_ok rfl; (first | rfl | exact (Int.toNat_of_nonneg (by omega)).symm); omega) | (apply M_load1E; rfl; rfl; rfl; rfl; exact on_ok rfl; exact actsMost_0 (by decide +kernel); (focus repeat' first | assumption); (first | exact ints_get (by omega) | rfl | assumption); (first | assumption | exact same_int _ _ | exact same_slice _ _ _ | rfl | (focus simp [same, same.all2]; done)); (first | rfl | assumption | exact hwv _ | (focus apply within_get; (focus repeat' first | assumption); done) | (simp [within]; omega))) | fail))
  · exact ⟨.inr rfl, _, rfl, .inl ⟨rfl, by assumption, by (focus repeat' first | exact Ext.refl _ | assumption)⟩⟩
  · exact ⟨.inr rfl, _, rfl, .inr ⟨rfl, by assumption, by (focus repeat' first | exact Ext.refl _ | assumption)⟩⟩
def nats (n : Nat) : List Int := (List.range n).map fun i => ((i : Nat) : Int)
theorem nats_len (n : Nat) : (nats n).length = n := by simp [nats]
theorem nats_get {n i : Nat} (h : i < n) : (nats n).getD i 0 = (i : Nat) := by simp [nats, List.getD_eq_getElem?_getD, h]
theorem best_ok (hK : NoK K) {r : List Int} {c rb hb cap caph m nh : Nat} {e e2 e3 : TypeId} {o o2 o3 : Bool} {h : Heap} (hc : h.get? c = some (.cells [.slice (some ⟨rb, 0, none⟩) m cap] e o)) (hm : m = r.length) (hr : h.get? rb = some (.cells (ints r) e2 o2)) (hh : h.get? hb = some (.cells (ints (nats nh)) e3 o3)) (hnh : nh = r.length) (hl : 0 < r.length ∧ r.length ≤ 1000) :
    CallW Tryz.prog K 106 #[.slice (some ⟨hb, 0, none⟩) nh caph, .func (.func 107) #[] #[.pointer (some ⟨c, 0, none⟩)]] h (IsV (.int .i64 ((amK r r.length : Nat) : Int)) h) := by
  subst hnh
  have hnl := nats_len r.length
  refine body (N := 26) Tryz.func106 rfl (hK _ _ _ rfl) rfl rfl ?_
  (repeat' (first | (apply K_seq) | (apply K_region) | (apply O_at; rfl) | (apply O_fin; rfl) | (apply C_seq) | (apply K_ifT; rfl) | (apply K_ifF; rfl) | (apply K_block) | (apply K_skip) | (apply K_exit) | (apply K_ret) | (apply C_exit) | (apply C_exitS) | (apply C_exitL) | (apply C_blockN) | (apply C_nil) | (apply P_skip; rfl; rfl; rfl) | (apply P_move; rfl; rfl; rfl; rfl) | (apply P_assign; rfl; rfl; rfl; rfl) | (apply P_len; rfl; rfl; rfl; rfl; rfl; rfl; exact un_ok rfl) | (apply P_pick; rfl; rfl; rfl; rfl; rfl; rfl) | (apply P_lssF; rfl; rfl; rfl; rfl; rfl; omega) | (apply P_lssT; rfl; rfl; rfl; rfl; rfl; omega) | (apply P_eqlF; rfl; rfl; rfl; rfl; rfl; omega) | (apply P_eqlT; rfl; rfl; rfl; rfl; rfl; omega) | (apply P_add; rfl; rfl; rfl; rfl; rfl; (unfold fit; omega)) | (apply P_idxA; rfl; rfl; rfl; rfl; rfl; exact un_ok rfl; exact sz_ok rfl; (first | exact zq0 | rfl | exact (Int.toNat_of_nonneg (by omega)).symm); omega) | (apply P_load1; rfl; rfl; rfl; rfl; exact on_ok rfl; (focus repeat' first | assumption | (apply Ext.get; assumption)); (first | exact ints_get (by omega) | rfl | assumption)) | fail))
  refine K_loopE (fun k : Nat => [(10, .int .i64 (k : Nat)), (9, .int .i64 (r.length : Nat)), (8, .slice (some ⟨hb, 0, none⟩) r.length caph), (1, .func (.func 107) #[] #[.pointer (some ⟨c, 0, none⟩)]), (5, .int .i64 ((amK r k : Nat) : Int))])
    (fun k h' => k ≤ r.length ∧ Ext h h') (fun k => r.length - k) ?_ 0 ?_ ?_
  · intro k h' ⟨hk, hx⟩ ih
    by_cases hlt : k < r.length
    · have hh' := hx.get hh
      have hng := nats_get (n := r.length) hlt
      have hr' := hx.get hr
      have hc' := hx.get hc
      by_cases hk0 : k = 0
      · subst hk0
        have e1 : amK r 1 = 0 := by simp [amK]
        (repeat' (first | (apply K_seq) | (apply K_region) | (apply O_at; rfl) | (apply O_fin; rfl) | (apply C_seq) | (apply K_ifT; rfl) | (apply K_ifF; rfl) | (apply K_block) | (apply K_skip) | (apply K_exit) | (apply K_ret) | (apply C_exit) | (apply C_exitS) | (apply C_exitL) | (apply C_blockN) | (apply C_nil) | (apply P_skip; rfl; rfl; rfl) | (apply P_move; rfl; rfl; rfl; rfl) | (apply P_assign; rfl; rfl; rfl; rfl) | (apply P_len; rfl; rfl; rfl; rfl; rfl; rfl; exact un_ok rfl) | (apply P_pick; rfl; rfl; rfl; rfl; rfl; rfl) | (apply P_lssF; rfl; rfl; rfl; rfl; rfl; omega) | (apply P_lssT; rfl; rfl; rfl; rfl; rfl; omega) | (apply P_eqlF; rfl; rfl; rfl; rfl; rfl; omega) | (apply P_eqlT; rfl; rfl; rfl; rfl; rfl; omega) | (apply P_add; rfl; rfl; rfl; rfl; rfl; (unfold fit; omega)) | (apply P_idxA; rfl; rfl; rfl; rfl; rfl; exact un_ok rfl; exact sz_ok rfl; (first | exact zq0 | rfl | exact (Int.toNat_of_nonneg (by omega)).symm); omega) | (apply P_load1; rfl; rfl; rfl; rfl; exact on_ok rfl; (focus repeat' first | assumption | (apply Ext.get; assumption)); (first | exact ints_get (by omega) | rfl | assumption)) | fail))
        exact C_again (ih 1 _ (by omega) ⟨hlt, by (focus repeat' first | exact Ext.refl _ | assumption | (refine Ext.trans ?_ (by assumption)))⟩) ⟨rfl, rfl, rfl, rfl, (by rw [e1]; exact congrArg (fun z => some (Value.int .i64 z)) hng), trivial⟩
      · have ha := amK_lt r k (by omega)
        by_cases hgt : r.getD k 0 > r.getD (amK r k) 0
        · have e1 : amK r (k + 1) = k := by simp only [amK]; rw [if_pos hgt]
          (repeat' (first | (apply K_seq) | (apply K_region) | (apply O_at; rfl) | (apply O_fin; rfl) | (apply C_seq) | (apply K_ifT; rfl) | (apply K_ifF; rfl) | (apply K_block) | (apply K_skip) | (apply K_exit) | (apply K_ret) | (apply C_exit) | (apply C_exitS) | (apply C_exitL) | (apply C_blockN) | (apply C_nil) | (apply P_skip; rfl; rfl; rfl) | (apply P_move; rfl; rfl; rfl; rfl) | (apply P_assign; rfl; rfl; rfl; rfl) | (apply P_len; rfl; rfl; rfl; rfl; rfl; rfl; exact un_ok rfl) | (apply P_pick; rfl; rfl; rfl; rfl; rfl; rfl) | (apply P_lssF; rfl; rfl; rfl; rfl; rfl; omega) | (apply P_lssT; rfl; rfl; rfl; rfl; rfl; omega) | (apply P_eqlF; rfl; rfl; rfl; rfl; rfl; omega) | (apply P_eqlT; rfl; rfl; rfl; rfl; rfl; omega) | (apply P_add; rfl; rfl; rfl; rfl; rfl; (unfold fit; omega)) | (apply P_idxA; rfl; rfl; rfl; rfl; rfl; exact un_ok rfl; exact sz_ok rfl; (first | exact zq0 | rfl | exact (Int.toNat_of_nonneg (by omega)).symm); omega) | (apply P_load1; rfl; rfl; rfl; rfl; exact on_ok rfl; (focus repeat' first | assumption | (apply Ext.get; assumption)); (first | exact ints_get (by omega) | rfl | assumption)) | fail))
          rw [hng]
          (repeat' (first | (apply K_seq) | (apply K_region) | (apply O_at; rfl) | (apply O_fin; rfl) | (apply C_seq) | (apply K_ifT; rfl) | (apply K_ifF; rfl) | (apply K_block) | (apply K_skip) | (apply K_exit) | (apply K_ret) | (apply C_exit) | (apply C_exitS) | (apply C_exitL) | (apply C_blockN) | (apply C_nil) | (apply P_skip; rfl; rfl; rfl) | (apply P_move; rfl; rfl; rfl; rfl) | (apply P_assign; rfl; rfl; rfl; rfl) | (apply P_len; rfl; rfl; rfl; rfl; rfl; rfl; exact un_ok rfl) | (apply P_pick; rfl; rfl; rfl; rfl; rfl; rfl) | (apply P_lssF; rfl; rfl; rfl; rfl; rfl; omega) | (apply P_lssT; rfl; rfl; rfl; rfl; rfl; omega) | (apply P_eqlF; rfl; rfl; rfl; rfl; rfl; omega) | (apply P_eqlT; rfl; rfl; rfl; rfl; rfl; omega) | (apply P_add; rfl; rfl; rfl; rfl; rfl; (unfold fit; omega)) | (apply P_idxA; rfl; rfl; rfl; rfl; rfl; exact un_ok rfl; exact sz_ok rfl; (first | exact zq0 | rfl | exact (Int.toNat_of_nonneg (by omega)).symm); omega) | (apply P_load1; rfl; rfl; rfl; rfl; exact on_ok rfl; (focus repeat' first | assumption | (apply Ext.get; assumption)); (first | exact ints_get (by omega) | rfl | assumption)) | (apply P_call; rfl; rfl; rfl; rfl; rfl; rfl; exact yes (less_ok hK (r := r) (a := k) (b := amK r k) (Ext.get (by (focus repeat' first | exact Ext.refl _ | assumption | (refine Ext.trans ?_ (by assumption)))) hc) hm (Ext.get (by (focus repeat' first | exact Ext.refl _ | assumption | (refine Ext.trans ?_ (by assumption)))) hr) hlt (by omega) hl.2) hgt; (rintro _ _ ⟨rfl, _⟩)) | fail))
          exact C_again (ih (k + 1) _ (by omega) ⟨hlt, by (focus repeat' first | exact Ext.refl _ | assumption | (refine Ext.trans ?_ (by assumption)))⟩) ⟨rfl, rfl, rfl, rfl, (by rw [e1]; rfl), trivial⟩
        · have e1 : amK r (k + 1) = amK r k := by simp only [amK]; rw [if_neg hgt]
          (repeat' (first | (apply K_seq) | (apply K_region) | (apply O_at; rfl) | (apply O_fin; rfl) | (apply C_seq) | (apply K_ifT; rfl) | (apply K_ifF; rfl) | (apply K_block) | (apply K_skip) | (apply K_exit) | (apply K_ret) | (apply C_exit) | (apply C_exitS) | (apply C_exitL) | (apply C_blockN) | (apply C_nil) | (apply P_skip; rfl; rfl; rfl) | (apply P_move; rfl; rfl; rfl; rfl) | (apply P_assign; rfl; rfl; rfl; rfl) | (apply P_len; rfl; rfl; rfl; rfl; rfl; rfl; exact un_ok rfl) | (apply P_pick; rfl; rfl; rfl; rfl; rfl; rfl) | (apply P_lssF; rfl; rfl; rfl; rfl; rfl; omega) | (apply P_lssT; rfl; rfl; rfl; rfl; rfl; omega) | (apply P_eqlF; rfl; rfl; rfl; rfl; rfl; omega) | (apply P_eqlT; rfl; rfl; rfl; rfl; rfl; omega) | (apply P_add; rfl; rfl; rfl; rfl; rfl; (unfold fit; omega)) | (apply P_idxA; rfl; rfl; rfl; rfl; rfl; exact un_ok rfl; exact sz_ok rfl; (first | exact zq0 | rfl | exact (Int.toNat_of_nonneg (by omega)).symm); omega) | (apply P_load1; rfl; rfl; rfl; rfl; exact on_ok rfl; (focus repeat' first | assumption | (apply Ext.get; assumption)); (first | exact ints_get (by omega) | rfl | assumption)) | fail))
          rw [hng]
          (repeat' (first | (apply K_seq) | (apply K_region) | (apply O_at; rfl) | (apply O_fin; rfl) | (apply C_seq) | (apply K_ifT; rfl) | (apply K_ifF; rfl) | (apply K_block) | (apply K_skip) | (apply K_exit) | (apply K_ret) | (apply C_exit) | (apply C_exitS) | (apply C_exitL) | (apply C_blockN) | (apply C_nil) | (apply P_skip; rfl; rfl; rfl) | (apply P_move; rfl; rfl; rfl; rfl) | (apply P_assign; rfl; rfl; rfl; rfl) | (apply P_len; rfl; rfl; rfl; rfl; rfl; rfl; exact un_ok rfl) | (apply P_pick; rfl; rfl; rfl; rfl; rfl; rfl) | (apply P_lssF; rfl; rfl; rfl; rfl; rfl; omega) | (apply P_lssT; rfl; rfl; rfl; rfl; rfl; omega) | (apply P_eqlF; rfl; rfl; rfl; rfl; rfl; omega) | (apply P_eqlT; rfl; rfl; rfl; rfl; rfl; omega) | (apply P_add; rfl; rfl; rfl; rfl; rfl; (unfold fit; omega)) | (apply P_idxA; rfl; rfl; rfl; rfl; rfl; exact un_ok rfl; exact sz_ok rfl; (first | exact zq0 | rfl | exact (Int.toNat_of_nonneg (by omega)).symm); omega) | (apply P_load1; rfl; rfl; rfl; rfl; exact on_ok rfl; (focus repeat' first | assumption | (apply Ext.get; assumption)); (first | exact ints_get (by omega) | rfl | assumption)) | (apply P_call; rfl; rfl; rfl; rfl; rfl; rfl; exact no (less_ok hK (r := r) (a := k) (b := amK r k) (Ext.get (by (focus repeat' first | exact Ext.refl _ | assumption | (refine Ext.trans ?_ (by assumption)))) hc) hm (Ext.get (by (focus repeat' first | exact Ext.refl _ | assumption | (refine Ext.trans ?_ (by assumption)))) hr) hlt (by omega) hl.2) hgt; (rintro _ _ ⟨rfl, _⟩)) | fail))
          exact C_again (ih (k + 1) _ (by omega) ⟨hlt, by (focus repeat' first | exact Ext.refl _ | assumption | (refine Ext.trans ?_ (by assumption)))⟩) ⟨rfl, rfl, rfl, rfl, (by rw [e1]; rfl), trivial⟩
    · have : k = r.length := by omega
      subst this
      (repeat' (first | (apply K_seq) | (apply K_region) | (apply O_at; rfl) | (apply O_fin; rfl) | (apply C_seq) | (apply K_ifT; rfl) | (apply K_ifF; rfl) | (apply K_block) | (apply K_skip) | (apply K_exit) | (apply K_ret) | (apply C_exit) | (apply C_exitS) | (apply C_exitL) | (apply C_blockN) | (apply C_nil) | (apply P_skip; rfl; rfl; rfl) | (apply P_move; rfl; rfl; rfl; rfl) | (apply P_assign; rfl; rfl; rfl; rfl) | (apply P_len; rfl; rfl; rfl; rfl; rfl; rfl; exact un_ok rfl) | (apply P_pick; rfl; rfl; rfl; rfl; rfl; rfl) | (apply P_lssF; rfl; rfl; rfl; rfl; rfl; omega) | (apply P_lssT; rfl; rfl; rfl; rfl; rfl; omega) | (apply P_eqlF; rfl; rfl; rfl; rfl; rfl; omega) | (apply P_eqlT; rfl; rfl; rfl; rfl; rfl; omega) | (apply P_add; rfl; rfl; rfl; rfl; rfl; (unfold fit; omega)) | (apply P_idxA; rfl; rfl; rfl; rfl; rfl; exact un_ok rfl; exact sz_ok rfl; (first | exact zq0 | rfl | exact (Int.toNat_of_nonneg (by omega)).symm); omega) | (apply P_load1; rfl; rfl; rfl; rfl; exact on_ok rfl; (focus repeat' first | assumption | (apply Ext.get; assumption)); (first | exact ints_get (by omega) | rfl | assumption)) | fail))
      exact ⟨.inr rfl, _, rfl, rfl, by (focus repeat' first | exact Ext.refl _ | assumption | (refine Ext.trans ?_ (by assumption)))⟩
  · exact ⟨Nat.zero_le _, by (focus repeat' first | exact Ext.refl _ | assumption | (refine Ext.trans ?_ (by assumption)))⟩
  · (focus repeat' first | rfl | exact trivial | apply And.intro)
end Go.AX.Sa

namespace Go.AX.Sa
open Go.Proofs
set_option maxRecDepth 100000
variable {K : Known}
/-! The shares of a prize. -/
def gP (p : Int) (s : List Int) (k : Nat) : List Int := (List.range k).map fun i => p * s.getD i 0 / s.sum
def rP (p : Int) (s : List Int) (k : Nat) : List Int := (List.range k).map fun i => p * s.getD i 0 % s.sum
theorem gP_len (p : Int) (s : List Int) (k : Nat) : (gP p s k).length = k := by simp [gP]
theorem rP_len (p : Int) (s : List Int) (k : Nat) : (rP p s k).length = k := by simp [rP]
theorem gP_succ (p : Int) (s : List Int) (k : Nat) : gP p s (k + 1) = gP p s k ++ [p * s.getD k 0 / s.sum] := by simp [gP, List.range_succ]
theorem rP_succ (p : Int) (s : List Int) (k : Nat) : rP p s (k + 1) = rP p s k ++ [p * s.getD k 0 % s.sum] := by simp [rP, List.range_succ]
theorem nats_succ (k : Nat) : nats (k + 1) = nats k ++ [((k : Nat) : Int)] := by simp [nats, List.range_succ]
theorem gP_full (p : Int) (s : List Int) : gP p s s.length = (sh0 p s).1 := List.ext_getElem (by simp [gP, sh0]) (by intro i h1 h2; have : i < s.length := (by simpa [gP] using h1); simp [gP, sh0, List.getD_eq_getElem?_getD, this])
theorem rP_full (p : Int) (s : List Int) : rP p s s.length = (sh0 p s).2 := List.ext_getElem (by simp [rP, sh0]) (by intro i h1 h2; have : i < s.length := (by simpa [rP] using h1); simp [rP, sh0, List.getD_eq_getElem?_getD, this])
theorem shL_b {B : Bk} (hP : BkP B) {i : Nat} (hi : i < (shL B B.n).length) : 0 ≤ (shL B B.n).getD i 0 ∧ (shL B B.n).getD i 0 ≤ 100 := by
  rw [shL_len] at hi
  rw [shL_at hi]
  have h1 := sh_b hP (i : Nat) B.n (Nat.le_refl _)
  have hn := hP.n
  omega
theorem shL_sum {B : Bk} (hP : BkP B) : 0 ≤ (shL B B.n).sum ∧ (shL B B.n).sum ≤ 300 := by
  have h1 := sum_le (l := shL B B.n) (m := 100) (fun k hk => shL_b hP hk) _ (Nat.le_refl _)
  rw [List.take_length] at h1
  have hh := hP.hands
  have := shL_len B B.n
  omega
theorem kept_but {c : Nat} {l : List Int} {b : Nat} {h0 h h1 : Heap} (x : ExtBut c h0 h) (q : KeptX l b h h1) (hb : l = [] ∨ h0.n ≤ b) : ExtBut c h0 h1 :=
  ⟨by have := q.n; have := x.n; omega, fun d y hne g => q.get' d y (hb.imp id fun w e => by have := Heap.get_lt g; omega) (x.get hne g)⟩
theorem Own.but0 {h h1 : Heap} {v : Value} {l : List Int} {b c : Nat} (o : Own h v l b) (x : ExtBut c h h1) (hne : l = [] ∨ b ≠ c) : Own h1 v l b := by
  rcases o with o | ⟨o0, o1, o2⟩
  · exact .inl o
  · rcases hne with q | q
    · exact absurd q o0
    · exact .inr ⟨o0, o1, x.get q o2⟩
theorem ExtBut.pushed {c : Nat} {h0 h : Heap} (x : ExtBut c h0 h) (b : Blk) : ExtBut c h0 (h.push b) := ⟨Nat.le_trans x.n (Nat.le_succ _), fun _ _ hne g => get_push_old (x.get hne g)⟩
theorem shares_ok (hK : NoK K) {B : Bk} {p : Int} {h : Heap} (hB : BkAt B h) (hP : BkP B) (hp : 0 ≤ p ∧ p ≤ 959999) (hA : 0 < (shL B B.n).sum) :
    CallW Tryz.prog K 82 #[bkV B, .int .i64 p] h (IsL (shareL p (shL B B.n)) h) := by
  have hh := hP.hands
  have hl := shL_len B B.n
  have hs := shL_sum hP
  refine body (N := 65) Tryz.func82 rfl (hK _ _ _ rfl) rfl rfl ?_
  (repeat' (first | (apply K_seq) | (apply K_region) | (apply O_at; rfl) | (apply N_at; rfl) | (apply O_fin; rfl) | (apply C_seq) | (apply K_ifT; rfl) | (apply K_ifF; rfl) | (apply K_open; exact openOK_of (by decide +kernel)) | (apply K_block) | (apply K_skip) | (apply K_exit) | (apply K_ret) | (apply N_fin; rfl; exact (.inl (Nat.le_refl 1))) | (apply N_fin; rfl; refine .inr ?_; (focus repeat' first | exact trivial | apply And.intro | rfl)) | (apply C_exit) | (apply C_exitS) | (apply C_exitL) | (apply C_blockN) | (apply C_nil) | (apply P_move; rfl; rfl; rfl; rfl) | (apply P_assign; rfl; rfl; rfl; rfl) | (apply P_fa; rfl; rfl; rfl; rfl; exact fo_ok rfl; (first | exact Nat.zero_add _ | exact Nat.add_zero _ | rfl)) | (apply P_makeFunc; rfl; rfl; rfl; rfl; rfl) | (apply P_lssF; rfl; rfl; rfl; rfl; rfl; omega) | (apply P_lssT; rfl; rfl; rfl; rfl; rfl; omega) | (apply P_add; rfl; rfl; rfl; rfl; rfl; (unfold fit; omega)) | (apply P_sub; rfl; rfl; rfl; rfl; rfl; (unfold fit; omega)) | (apply P_mul; rfl; rfl; rfl; rfl; rfl; (unfold fit; omega)) | (apply P_idxA; rfl; rfl; rfl; rfl; rfl; exact un_ok rfl; exact sz_ok rfl; (first | rfl | exact (Int.toNat_of_nonneg (by omega)).symm); omega) | (apply P_load1; rfl; rfl; rfl; rfl; exact on_ok rfl; (focus repeat' first | exact get_push_same | assumption | apply get_push_old | (apply Ext.get; assumption) | (apply ExtBut.get; assumption; (first | assumption | omega | (simp only [Heap.push]; omega)))); (first | exact ints_get (by omega) | rfl | assumption)) | (apply P_loadA; rfl; rfl; rfl; rfl; exact ag_ok rfl; (focus repeat' first | exact get_push_same | assumption | apply get_push_old | (apply Ext.get; assumption) | (apply ExtBut.get; assumption; (first | assumption | omega | (simp only [Heap.push]; omega)))); (first | exact Nat.le_of_ble_eq_true rfl | (simp; done) | (simp; omega)); rfl) | (apply P_build1; rfl; rfl; rfl; rfl; rfl; rfl; rfl; exact c1_ok rfl) | (apply P_storeI; rfl; rfl; rfl; rfl; (focus repeat' first | exact get_push_same | assumption | apply get_push_old | (apply Ext.get; assumption) | (apply ExtBut.get; assumption; (first | assumption | omega | (simp only [Heap.push]; omega)))); exact sz_ok rfl; (first | omega | (focus simp; done)); (intro _ _ _)) | (apply P_box; rfl; rfl; rfl; rfl; exact sz_ok rfl; rfl; rfl) | (apply P_alloc; rfl; rfl; rfl; rfl; exact sz_ok rfl; rfl; rfl) | (apply P_quoN; rfl; rfl; rfl; rfl; rfl; omega; omega; omega) | (apply M_move; rfl; rfl; rfl; rfl) | (apply M_build1; rfl; rfl; rfl; rfl; rfl; rfl; rfl; exact c1_ok rfl) | (apply M_load1E; rfl; rfl; rfl; rfl; exact on_ok rfl; exact actsMost_0 (by decide +kernel); (focus repeat' first | exact get_push_same | assumption | apply get_push_old | (apply Ext.get; assumption) | (apply ExtBut.get; assumption; (first | assumption | omega | (simp only [Heap.push]; omega)))); (first | exact ints_get (by omega) | rfl | assumption); (first | assumption | rfl | (focus simp [same, same.all2]; done)); (first | rfl | assumption | exact hwv _ | (simp [within]; omega))) | (apply M_remN; rfl; rfl; rfl; rfl; rfl; omega; omega) | (apply P_call; rfl; rfl; rfl; rfl; rfl; rfl; exact sheetsOf_ok hK (hB.ext (by (focus repeat' first | exact Ext.refl _ | assumption | apply Ext.push | (refine Ext.trans ?_ (by assumption)) | (refine Ext.ofBut ?_ (by assumption) (by first | exact Nat.le_refl _ | omega))))) hP; (rintro _ _ ⟨_, rfl, _, _⟩)) | fail))
  rename_i h1 rs g1 x1
  have hv : RdV h1 (.slice (some ⟨rs, 0, none⟩) B.hands.toNat B.hands.toNat) (shL B B.n) := ⟨_, _, by rw [hl], .inr ⟨rs, _, true, rfl, g1⟩⟩
  (repeat' (first | (apply K_seq) | (apply K_region) | (apply O_at; rfl) | (apply N_at; rfl) | (apply O_fin; rfl) | (apply C_seq) | (apply K_ifT; rfl) | (apply K_ifF; rfl) | (apply K_open; exact openOK_of (by decide +kernel)) | (apply K_block) | (apply K_skip) | (apply K_exit) | (apply K_ret) | (apply N_fin; rfl; exact (.inl (Nat.le_refl 1))) | (apply N_fin; rfl; refine .inr ?_; (focus repeat' first | exact trivial | apply And.intro | rfl)) | (apply C_exit) | (apply C_exitS) | (apply C_exitL) | (apply C_blockN) | (apply C_nil) | (apply P_move; rfl; rfl; rfl; rfl) | (apply P_assign; rfl; rfl; rfl; rfl) | (apply P_fa; rfl; rfl; rfl; rfl; exact fo_ok rfl; (first | exact Nat.zero_add _ | exact Nat.add_zero _ | rfl)) | (apply P_makeFunc; rfl; rfl; rfl; rfl; rfl) | (apply P_lssF; rfl; rfl; rfl; rfl; rfl; omega) | (apply P_lssT; rfl; rfl; rfl; rfl; rfl; omega) | (apply P_add; rfl; rfl; rfl; rfl; rfl; (unfold fit; omega)) | (apply P_sub; rfl; rfl; rfl; rfl; rfl; (unfold fit; omega)) | (apply P_mul; rfl; rfl; rfl; rfl; rfl; (unfold fit; omega)) | (apply P_idxA; rfl; rfl; rfl; rfl; rfl; exact un_ok rfl; exact sz_ok rfl; (first | rfl | exact (Int.toNat_of_nonneg (by omega)).symm); omega) | (apply P_load1; rfl; rfl; rfl; rfl; exact on_ok rfl; (focus repeat' first | exact get_push_same | assumption | apply get_push_old | (apply Ext.get; assumption) | (apply ExtBut.get; assumption; (first | assumption | omega | (simp only [Heap.push]; omega)))); (first | exact ints_get (by omega) | rfl | assumption)) | (apply P_loadA; rfl; rfl; rfl; rfl; exact ag_ok rfl; (focus repeat' first | exact get_push_same | assumption | apply get_push_old | (apply Ext.get; assumption) | (apply ExtBut.get; assumption; (first | assumption | omega | (simp only [Heap.push]; omega)))); (first | exact Nat.le_of_ble_eq_true rfl | (simp; done) | (simp; omega)); rfl) | (apply P_build1; rfl; rfl; rfl; rfl; rfl; rfl; rfl; exact c1_ok rfl) | (apply P_storeI; rfl; rfl; rfl; rfl; (focus repeat' first | exact get_push_same | assumption | apply get_push_old | (apply Ext.get; assumption) | (apply ExtBut.get; assumption; (first | assumption | omega | (simp only [Heap.push]; omega)))); exact sz_ok rfl; (first | omega | (focus simp; done)); (intro _ _ _)) | (apply P_box; rfl; rfl; rfl; rfl; exact sz_ok rfl; rfl; rfl) | (apply P_alloc; rfl; rfl; rfl; rfl; exact sz_ok rfl; rfl; rfl) | (apply P_quoN; rfl; rfl; rfl; rfl; rfl; omega; omega; omega) | (apply M_move; rfl; rfl; rfl; rfl) | (apply M_build1; rfl; rfl; rfl; rfl; rfl; rfl; rfl; exact c1_ok rfl) | (apply M_load1E; rfl; rfl; rfl; rfl; exact on_ok rfl; exact actsMost_0 (by decide +kernel); (focus repeat' first | exact get_push_same | assumption | apply get_push_old | (apply Ext.get; assumption) | (apply ExtBut.get; assumption; (first | assumption | omega | (simp only [Heap.push]; omega)))); (first | exact ints_get (by omega) | rfl | assumption); (first | assumption | rfl | (focus simp [same, same.all2]; done)); (first | rfl | assumption | exact hwv _ | (simp [within]; omega))) | (apply M_remN; rfl; rfl; rfl; rfl; rfl; omega; omega) | (apply P_call; rfl; rfl; rfl; rfl; rfl; rfl; exact sum_ok hK (hv.ext (by (focus repeat' first | exact Ext.refl _ | assumption | apply Ext.push | (refine Ext.trans ?_ (by assumption)) | (refine Ext.ofBut ?_ (by assumption) (by first | exact Nat.le_refl _ | omega))))) (by omega) (fun k hk => by have := shL_b hP hk; omega); (rintro _ _ ⟨rfl, _⟩)) | fail))
  rename_i h2 x2
  have y2 : Ext h h2 := by (focus repeat' first | exact Ext.refl _ | assumption | apply Ext.push | (refine Ext.trans ?_ (by assumption)) | (refine Ext.ofBut ?_ (by assumption) (by first | exact Nat.le_refl _ | omega)))
  have g2 := x2.get g1
  have gc0 : h2.get? (h.n + 1) = some (.cells [nilV] 36 true) := x2.get (x1.get get_push_same)
  have nc : h.n + 1 < h2.n := Heap.get_lt gc0
  have hrc : rs ≠ h.n + 1 := by
    rintro rfl
    rw [gc0] at g2
    have g3 := Option.some.inj g2
    injection g3 with _ g4 _
    exact absurd g4 (by decide)
  refine K_loopE (fun a : Nat × Value × Value × Value => [(19, .int .i64 (a.1 : Nat)), (18, .int .i64 B.hands), (5, a.2.1), (7, a.2.2.2), (6, .pointer (some ⟨h.n + 1, 0, none⟩)), (8, .slice (some ⟨rs, 0, none⟩) B.hands.toNat B.hands.toNat), (9, .int .i64 (shL B B.n).sum), (1, .int .i64 p)])
    (fun a h' => a.1 ≤ B.hands.toNat ∧ ExtBut (h.n + 1) h2 h' ∧ h'.get? (h.n + 1) = some (.cells [a.2.2.1] 36 true) ∧ ∃ b5 b6 b7, Own h' a.2.1 (gP p (shL B B.n) a.1) b5 ∧ Own h' a.2.2.1 (rP p (shL B B.n) a.1) b6 ∧ Own h' a.2.2.2 (nats a.1) b7 ∧ (a.1 = 0 ∨ (h2.n ≤ b5 ∧ h2.n ≤ b6 ∧ h2.n ≤ b7 ∧ b5 ≠ b6 ∧ b5 ≠ b7 ∧ b6 ≠ b7 ∧ b5 < h'.n ∧ b6 < h'.n ∧ b7 < h'.n))) (fun a => B.hands.toNat - a.1) ?_ (0, nilV, nilV, nilV) ?_ ?_
  · rintro ⟨k, v5, v6, v7⟩ h' ⟨hk, hx, gc, b5, b6, b7, o5, o6, o7, hd⟩ ih
    dsimp only at hk hx gc o5 o6 o7 hd ih ⊢
    by_cases hlt : k < B.hands.toNat
    · have gs := hx.get hrc g2
      have hsk := shL_b hP (i := k) (by omega)
      have hpx := mul_le hp hsk
      have nx := hx.n
      have e5 : gP p (shL B B.n) k = [] ∨ (h2.n ≤ b5 ∧ b6 ≠ b5 ∧ b7 ≠ b5 ∧ b5 < h'.n) := hd.imp (fun q => by subst q; rfl) fun q => by omega
      have e6 : rP p (shL B B.n) k = [] ∨ (h2.n ≤ b6 ∧ b5 ≠ b6 ∧ b7 ≠ b6 ∧ b6 < h'.n) := hd.imp (fun q => by subst q; rfl) fun q => by omega
      have e7 : nats k = [] ∨ (h2.n ≤ b7 ∧ b5 ≠ b7 ∧ b6 ≠ b7 ∧ b7 < h'.n) := hd.imp (fun q => by subst q; rfl) fun q => by omega
      have hlen5 : (gP p (shL B B.n) k).length ≤ 10000 := by rw [gP_len]; omega
      have hlen6 : (rP p (shL B B.n) k).length ≤ 10000 := by rw [rP_len]; omega
      have hlen7 : (nats k).length ≤ 10000 := by rw [nats_len]; omega
      (repeat' (first | (apply K_seq) | (apply K_region) | (apply O_at; rfl) | (apply N_at; rfl) | (apply O_fin; rfl) | (apply C_seq) | (apply K_ifT; rfl) | (apply K_ifF; rfl) | (apply K_open; exact openOK_of (by decide +kernel)) | (apply K_block) | (apply K_skip) | (apply K_exit) | (apply K_ret) | (apply N_fin; rfl; exact (.inl (Nat.le_refl 1))) | (apply N_fin; rfl; refine .inr ?_; (focus repeat' first | exact trivial | apply And.intro | rfl)) | (apply C_exit) | (apply C_exitS) | (apply C_exitL) | (apply C_blockN) | (apply C_nil) | (apply P_move; rfl; rfl; rfl; rfl) | (apply P_assign; rfl; rfl; rfl; rfl) | (apply P_fa; rfl; rfl; rfl; rfl; exact fo_ok rfl; (first | exact Nat.zero_add _ | exact Nat.add_zero _ | rfl)) | (apply P_makeFunc; rfl; rfl; rfl; rfl; rfl) | (apply P_lssF; rfl; rfl; rfl; rfl; rfl; omega) | (apply P_lssT; rfl; rfl; rfl; rfl; rfl; omega) | (apply P_add; rfl; rfl; rfl; rfl; rfl; (unfold fit; omega)) | (apply P_sub; rfl; rfl; rfl; rfl; rfl; (unfold fit; omega)) | (apply P_mul; rfl; rfl; rfl; rfl; rfl; (unfold fit; omega)) | (apply P_idxA; rfl; rfl; rfl; rfl; rfl; exact un_ok rfl; exact sz_ok rfl; (first | rfl | exact (Int.toNat_of_nonneg (by omega)).symm); omega) | (apply P_load1; rfl; rfl; rfl; rfl; exact on_ok rfl; (focus repeat' first | exact get_push_same | assumption | apply get_push_old | (apply Ext.get; assumption) | (apply ExtBut.get; assumption; (first | assumption | omega | (simp only [Heap.push]; omega)))); (first | exact ints_get (by omega) | rfl | assumption)) | (apply P_loadA; rfl; rfl; rfl; rfl; exact ag_ok rfl; (focus repeat' first | exact get_push_same | assumption | apply get_push_old | (apply Ext.get; assumption) | (apply ExtBut.get; assumption; (first | assumption | omega | (simp only [Heap.push]; omega)))); (first | exact Nat.le_of_ble_eq_true rfl | (simp; done) | (simp; omega)); rfl) | (apply P_build1; rfl; rfl; rfl; rfl; rfl; rfl; rfl; exact c1_ok rfl) | (apply P_storeI; rfl; rfl; rfl; rfl; (focus repeat' first | exact get_push_same | assumption | apply get_push_old | (apply Ext.get; assumption) | (apply ExtBut.get; assumption; (first | assumption | omega | (simp only [Heap.push]; omega)))); exact sz_ok rfl; (first | omega | (focus simp; done)); (intro _ _ _)) | (apply P_box; rfl; rfl; rfl; rfl; exact sz_ok rfl; rfl; rfl) | (apply P_alloc; rfl; rfl; rfl; rfl; exact sz_ok rfl; rfl; rfl) | (apply P_quoN; rfl; rfl; rfl; rfl; rfl; omega; omega; omega) | (apply M_move; rfl; rfl; rfl; rfl) | (apply M_build1; rfl; rfl; rfl; rfl; rfl; rfl; rfl; exact c1_ok rfl) | (apply M_load1E; rfl; rfl; rfl; rfl; exact on_ok rfl; exact actsMost_0 (by decide +kernel); (focus repeat' first | exact get_push_same | assumption | apply get_push_old | (apply Ext.get; assumption) | (apply ExtBut.get; assumption; (first | assumption | omega | (simp only [Heap.push]; omega)))); (first | exact ints_get (by omega) | rfl | assumption); (first | assumption | rfl | (focus simp [same, same.all2]; done)); (first | rfl | assumption | exact hwv _ | (simp [within]; omega))) | (apply M_remN; rfl; rfl; rfl; rfl; rfl; omega; omega) | fail))
      apply appOwnP (bv := b5); rfl; rfl; rfl; rfl; rfl; rfl; rfl; rfl; exact c1_ok rfl; exact un_ok rfl; exact get_push_same; exact Own.ext o5 (by (focus repeat' first | exact Ext.refl _ | assumption | apply Ext.push | (refine Ext.trans ?_ (by assumption)) | (refine Ext.ofBut ?_ (by assumption) (by first | exact Nat.le_refl _ | omega)))); exact hlen5
      intro v5' ha o5' q5
      have na : ha.n = h'.n + 2 := q5.n
      replace o5' : Own ha v5' (gP p (shL B B.n) (k + 1)) (h'.n + 1) := by rw [gP_succ]; exact o5'
      have gca : ha.get? (h.n + 1) = some (.cells [v6] 36 true) := q5.get' _ _ (e5.imp id fun q => by omega) (get_push_old gc)
      have gsa : ha.get? rs = some (.cells (ints (shL B B.n)) 3 true) := q5.get' _ _ (e5.imp id fun q => by have := Heap.get_lt g2; omega) (get_push_old gs)
      have xa : ExtBut (h.n + 1) h2 ha := kept_but (ExtBut.pushed hx _) q5 (e5.imp id fun q => q.1)
      have o6a : Own ha v6 (rP p (shL B B.n) k) b6 := Own.kept (Own.ext o6 (by (focus repeat' first | exact Ext.refl _ | assumption | apply Ext.push | (refine Ext.trans ?_ (by assumption)) | (refine Ext.ofBut ?_ (by assumption) (by first | exact Nat.le_refl _ | omega))))) q5 (e5.imp id fun q => q.2.1)
      have o7a : Own ha v7 (nats k) b7 := Own.kept (Own.ext o7 (by (focus repeat' first | exact Ext.refl _ | assumption | apply Ext.push | (refine Ext.trans ?_ (by assumption)) | (refine Ext.ofBut ?_ (by assumption) (by first | exact Nat.le_refl _ | omega))))) q5 (e5.imp id fun q => q.2.2.1)
      have hsv := Own.same o6a
      have hw0 : AX.within 20 ha.n v6 = true := Own.within o6a (Nat.le_refl _)
      obtain ⟨one1, one2⟩ := Own.one o6a
      (repeat' (first | (apply K_seq) | (apply K_region) | (apply O_at; rfl) | (apply N_at; rfl) | (apply O_fin; rfl) | (apply C_seq) | (apply K_ifT; rfl) | (apply K_ifF; rfl) | (apply K_open; exact openOK_of (by decide +kernel)) | (apply K_block) | (apply K_skip) | (apply K_exit) | (apply K_ret) | (apply N_fin; rfl; exact (.inl (Nat.le_refl 1))) | (apply N_fin; rfl; refine .inr ?_; (focus repeat' first | exact trivial | apply And.intro | rfl)) | (apply C_exit) | (apply C_exitS) | (apply C_exitL) | (apply C_blockN) | (apply C_nil) | (apply P_move; rfl; rfl; rfl; rfl) | (apply P_assign; rfl; rfl; rfl; rfl) | (apply P_fa; rfl; rfl; rfl; rfl; exact fo_ok rfl; (first | exact Nat.zero_add _ | exact Nat.add_zero _ | rfl)) | (apply P_makeFunc; rfl; rfl; rfl; rfl; rfl) | (apply P_lssF; rfl; rfl; rfl; rfl; rfl; omega) | (apply P_lssT; rfl; rfl; rfl; rfl; rfl; omega) | (apply P_add; rfl; rfl; rfl; rfl; rfl; (unfold fit; omega)) | (apply P_sub; rfl; rfl; rfl; rfl; rfl; (unfold fit; omega)) | (apply P_mul; rfl; rfl; rfl; rfl; rfl; (unfold fit; omega)) | (apply P_idxA; rfl; rfl; rfl; rfl; rfl; exact un_ok rfl; exact sz_ok rfl; (first | rfl | exact (Int.toNat_of_nonneg (by omega)).symm); omega) | (apply P_load1; rfl; rfl; rfl; rfl; exact on_ok rfl; (focus repeat' first | exact get_push_same | assumption | apply get_push_old | (apply Ext.get; assumption) | (apply ExtBut.get; assumption; (first | assumption | omega | (simp only [Heap.push]; omega)))); (first | exact ints_get (by omega) | rfl | assumption)) | (apply P_loadA; rfl; rfl; rfl; rfl; exact ag_ok rfl; (focus repeat' first | exact get_push_same | assumption | apply get_push_old | (apply Ext.get; assumption) | (apply ExtBut.get; assumption; (first | assumption | omega | (simp only [Heap.push]; omega)))); (first | exact Nat.le_of_ble_eq_true rfl | (simp; done) | (simp; omega)); rfl) | (apply P_build1; rfl; rfl; rfl; rfl; rfl; rfl; rfl; exact c1_ok rfl) | (apply P_storeI; rfl; rfl; rfl; rfl; (focus repeat' first | exact get_push_same | assumption | apply get_push_old | (apply Ext.get; assumption) | (apply ExtBut.get; assumption; (first | assumption | omega | (simp only [Heap.push]; omega)))); exact sz_ok rfl; (first | omega | (focus simp; done)); (intro _ _ _)) | (apply P_box; rfl; rfl; rfl; rfl; exact sz_ok rfl; rfl; rfl) | (apply P_alloc; rfl; rfl; rfl; rfl; exact sz_ok rfl; rfl; rfl) | (apply P_quoN; rfl; rfl; rfl; rfl; rfl; omega; omega; omega) | (apply M_move; rfl; rfl; rfl; rfl) | (apply M_build1; rfl; rfl; rfl; rfl; rfl; rfl; rfl; exact c1_ok rfl) | (apply M_load1E; rfl; rfl; rfl; rfl; exact on_ok rfl; exact actsMost_0 (by decide +kernel); (focus repeat' first | exact get_push_same | assumption | apply get_push_old | (apply Ext.get; assumption) | (apply ExtBut.get; assumption; (first | assumption | omega | (simp only [Heap.push]; omega)))); (first | exact ints_get (by omega) | rfl | assumption); (first | assumption | rfl | (focus simp [same, same.all2]; done)); (first | rfl | assumption | exact hwv _ | (simp [within]; omega))) | (apply M_remN; rfl; rfl; rfl; rfl; rfl; omega; omega) | fail))
      apply appOwnM (bv := b6); rfl; rfl; rfl; rfl; rfl; rfl; rfl; rfl; exact c1_ok rfl; exact un_ok rfl; exact get_push_same; exact Own.ext o6a (by (focus repeat' first | exact Ext.refl _ | assumption | apply Ext.push | (refine Ext.trans ?_ (by assumption)) | (refine Ext.ofBut ?_ (by assumption) (by first | exact Nat.le_refl _ | omega)))); exact hlen6; rfl
      intro v6' hb o6' q6
      have nb : hb.n = ha.n + 2 := q6.n
      have gcb : hb.get? (h.n + 1) = some (.cells [v6] 36 true) := q6.get' _ _ (e6.imp id fun q => by omega) (get_push_old gca)
      have xb : ExtBut (h.n + 1) h2 hb := kept_but (ExtBut.pushed xa _) q6 (e6.imp id fun q => q.1)
      replace o6' : Own hb v6' (rP p (shL B B.n) (k + 1)) (ha.n + 1) := by rw [rP_succ]; exact o6'
      have o5b : Own hb v5' (gP p (shL B B.n) (k + 1)) (h'.n + 1) := Own.kept (Own.ext o5' (by (focus repeat' first | exact Ext.refl _ | assumption | apply Ext.push | (refine Ext.trans ?_ (by assumption)) | (refine Ext.ofBut ?_ (by assumption) (by first | exact Nat.le_refl _ | omega))))) q6 (e6.imp id fun q => by omega)
      have o7b : Own hb v7 (nats k) b7 := Own.kept (Own.ext o7a (by (focus repeat' first | exact Ext.refl _ | assumption | apply Ext.push | (refine Ext.trans ?_ (by assumption)) | (refine Ext.ofBut ?_ (by assumption) (by first | exact Nat.le_refl _ | omega))))) q6 (e6.imp id fun q => q.2.2.1)
      obtain ⟨on1, on2⟩ := Own.one o6'
      (repeat' (first | (apply K_seq) | (apply K_region) | (apply O_at; rfl) | (apply N_at; rfl) | (apply O_fin; rfl) | (apply C_seq) | (apply K_ifT; rfl) | (apply K_ifF; rfl) | (apply K_open; exact openOK_of (by decide +kernel)) | (apply K_block) | (apply K_skip) | (apply K_exit) | (apply K_ret) | (apply N_fin; rfl; exact (.inl (Nat.le_refl 1))) | (apply N_fin; rfl; refine .inr ?_; (focus repeat' first | exact trivial | apply And.intro | rfl)) | (apply C_exit) | (apply C_exitS) | (apply C_exitL) | (apply C_blockN) | (apply C_nil) | (apply P_move; rfl; rfl; rfl; rfl) | (apply P_assign; rfl; rfl; rfl; rfl) | (apply P_fa; rfl; rfl; rfl; rfl; exact fo_ok rfl; (first | exact Nat.zero_add _ | exact Nat.add_zero _ | rfl)) | (apply P_makeFunc; rfl; rfl; rfl; rfl; rfl) | (apply P_lssF; rfl; rfl; rfl; rfl; rfl; omega) | (apply P_lssT; rfl; rfl; rfl; rfl; rfl; omega) | (apply P_add; rfl; rfl; rfl; rfl; rfl; (unfold fit; omega)) | (apply P_sub; rfl; rfl; rfl; rfl; rfl; (unfold fit; omega)) | (apply P_mul; rfl; rfl; rfl; rfl; rfl; (unfold fit; omega)) | (apply P_idxA; rfl; rfl; rfl; rfl; rfl; exact un_ok rfl; exact sz_ok rfl; (first | rfl | exact (Int.toNat_of_nonneg (by omega)).symm); omega) | (apply P_load1; rfl; rfl; rfl; rfl; exact on_ok rfl; (focus repeat' first | exact get_push_same | assumption | apply get_push_old | (apply Ext.get; assumption) | (apply ExtBut.get; assumption; (first | assumption | omega | (simp only [Heap.push]; omega)))); (first | exact ints_get (by omega) | rfl | assumption)) | (apply P_loadA; rfl; rfl; rfl; rfl; exact ag_ok rfl; (focus repeat' first | exact get_push_same | assumption | apply get_push_old | (apply Ext.get; assumption) | (apply ExtBut.get; assumption; (first | assumption | omega | (simp only [Heap.push]; omega)))); (first | exact Nat.le_of_ble_eq_true rfl | (simp; done) | (simp; omega)); rfl) | (apply P_build1; rfl; rfl; rfl; rfl; rfl; rfl; rfl; exact c1_ok rfl) | (apply P_storeI; rfl; rfl; rfl; rfl; (focus repeat' first | exact get_push_same | assumption | apply get_push_old | (apply Ext.get; assumption) | (apply ExtBut.get; assumption; (first | assumption | omega | (simp only [Heap.push]; omega)))); exact sz_ok rfl; (first | omega | (focus simp; done)); (intro _ _ _)) | (apply P_box; rfl; rfl; rfl; rfl; exact sz_ok rfl; rfl; rfl) | (apply P_alloc; rfl; rfl; rfl; rfl; exact sz_ok rfl; rfl; rfl) | (apply P_quoN; rfl; rfl; rfl; rfl; rfl; omega; omega; omega) | (apply M_move; rfl; rfl; rfl; rfl) | (apply M_build1; rfl; rfl; rfl; rfl; rfl; rfl; rfl; exact c1_ok rfl) | (apply M_load1E; rfl; rfl; rfl; rfl; exact on_ok rfl; exact actsMost_0 (by decide +kernel); (focus repeat' first | exact get_push_same | assumption | apply get_push_old | (apply Ext.get; assumption) | (apply ExtBut.get; assumption; (first | assumption | omega | (simp only [Heap.push]; omega)))); (first | exact ints_get (by omega) | rfl | assumption); (first | assumption | rfl | (focus simp [same, same.all2]; done)); (first | rfl | assumption | exact hwv _ | (simp [within]; omega))) | (apply M_remN; rfl; rfl; rfl; rfl; rfl; omega; omega) | fail))
      apply M_storeC (c' := [v6']); rfl; rfl; rfl; rfl; exact gcb; exact sz_ok rfl; exact (by rw [on2]; rfl); exact (by simp); exact (by rw [on2]; simp [on1]); exact (by rw [on2]; rfl); rfl
      intro hc gcc xc
      have nc2 := xc.n
      have o5c := Own.but o5b xc (by omega)
      have o6c := Own.but o6' xc (by omega)
      have o7c : Own hc v7 (nats k) b7 := Own.but0 o7b xc (e7.imp id fun q => by omega)
      have xc' : ExtBut (h.n + 1) h2 hc := ⟨Nat.le_trans xb.n xc.n, fun d y hne g => xc.get hne (xb.get hne g)⟩
      (repeat' (first | (apply K_seq) | (apply K_region) | (apply O_at; rfl) | (apply N_at; rfl) | (apply O_fin; rfl) | (apply C_seq) | (apply K_ifT; rfl) | (apply K_ifF; rfl) | (apply K_open; exact openOK_of (by decide +kernel)) | (apply K_block) | (apply K_skip) | (apply K_exit) | (apply K_ret) | (apply N_fin; rfl; exact (.inl (Nat.le_refl 1))) | (apply N_fin; rfl; refine .inr ?_; (focus repeat' first | exact trivial | apply And.intro | rfl)) | (apply C_exit) | (apply C_exitS) | (apply C_exitL) | (apply C_blockN) | (apply C_nil) | (apply P_move; rfl; rfl; rfl; rfl) | (apply P_assign; rfl; rfl; rfl; rfl) | (apply P_fa; rfl; rfl; rfl; rfl; exact fo_ok rfl; (first | exact Nat.zero_add _ | exact Nat.add_zero _ | rfl)) | (apply P_makeFunc; rfl; rfl; rfl; rfl; rfl) | (apply P_lssF; rfl; rfl; rfl; rfl; rfl; omega) | (apply P_lssT; rfl; rfl; rfl; rfl; rfl; omega) | (apply P_add; rfl; rfl; rfl; rfl; rfl; (unfold fit; omega)) | (apply P_sub; rfl; rfl; rfl; rfl; rfl; (unfold fit; omega)) | (apply P_mul; rfl; rfl; rfl; rfl; rfl; (unfold fit; omega)) | (apply P_idxA; rfl; rfl; rfl; rfl; rfl; exact un_ok rfl; exact sz_ok rfl; (first | rfl | exact (Int.toNat_of_nonneg (by omega)).symm); omega) | (apply P_load1; rfl; rfl; rfl; rfl; exact on_ok rfl; (focus repeat' first | exact get_push_same | assumption | apply get_push_old | (apply Ext.get; assumption) | (apply ExtBut.get; assumption; (first | assumption | omega | (simp only [Heap.push]; omega)))); (first | exact ints_get (by omega) | rfl | assumption)) | (apply P_loadA; rfl; rfl; rfl; rfl; exact ag_ok rfl; (focus repeat' first | exact get_push_same | assumption | apply get_push_old | (apply Ext.get; assumption) | (apply ExtBut.get; assumption; (first | assumption | omega | (simp only [Heap.push]; omega)))); (first | exact Nat.le_of_ble_eq_true rfl | (simp; done) | (simp; omega)); rfl) | (apply P_build1; rfl; rfl; rfl; rfl; rfl; rfl; rfl; exact c1_ok rfl) | (apply P_storeI; rfl; rfl; rfl; rfl; (focus repeat' first | exact get_push_same | assumption | apply get_push_old | (apply Ext.get; assumption) | (apply ExtBut.get; assumption; (first | assumption | omega | (simp only [Heap.push]; omega)))); exact sz_ok rfl; (first | omega | (focus simp; done)); (intro _ _ _)) | (apply P_box; rfl; rfl; rfl; rfl; exact sz_ok rfl; rfl; rfl) | (apply P_alloc; rfl; rfl; rfl; rfl; exact sz_ok rfl; rfl; rfl) | (apply P_quoN; rfl; rfl; rfl; rfl; rfl; omega; omega; omega) | (apply M_move; rfl; rfl; rfl; rfl) | (apply M_build1; rfl; rfl; rfl; rfl; rfl; rfl; rfl; exact c1_ok rfl) | (apply M_load1E; rfl; rfl; rfl; rfl; exact on_ok rfl; exact actsMost_0 (by decide +kernel); (focus repeat' first | exact get_push_same | assumption | apply get_push_old | (apply Ext.get; assumption) | (apply ExtBut.get; assumption; (first | assumption | omega | (simp only [Heap.push]; omega)))); (first | exact ints_get (by omega) | rfl | assumption); (first | assumption | rfl | (focus simp [same, same.all2]; done)); (first | rfl | assumption | exact hwv _ | (simp [within]; omega))) | (apply M_remN; rfl; rfl; rfl; rfl; rfl; omega; omega) | fail))
      apply appOwnP (bv := b7); rfl; rfl; rfl; rfl; rfl; rfl; rfl; rfl; exact c1_ok rfl; exact un_ok rfl; exact get_push_same; exact Own.ext o7c (by (focus repeat' first | exact Ext.refl _ | assumption | apply Ext.push | (refine Ext.trans ?_ (by assumption)) | (refine Ext.ofBut ?_ (by assumption) (by first | exact Nat.le_refl _ | omega)))); exact hlen7
      intro v7' he o7' q7
      have ne : he.n = hc.n + 2 := q7.n
      replace o7' : Own he v7' (nats (k + 1)) (hc.n + 1) := by rw [nats_succ]; exact o7'
      have o5e : Own he v5' (gP p (shL B B.n) (k + 1)) (h'.n + 1) := Own.kept (Own.ext o5c (by (focus repeat' first | exact Ext.refl _ | assumption | apply Ext.push | (refine Ext.trans ?_ (by assumption)) | (refine Ext.ofBut ?_ (by assumption) (by first | exact Nat.le_refl _ | omega))))) q7 (e7.imp id fun q => by omega)
      have o6e : Own he v6' (rP p (shL B B.n) (k + 1)) (ha.n + 1) := Own.kept (Own.ext o6c (by (focus repeat' first | exact Ext.refl _ | assumption | apply Ext.push | (refine Ext.trans ?_ (by assumption)) | (refine Ext.ofBut ?_ (by assumption) (by first | exact Nat.le_refl _ | omega))))) q7 (e7.imp id fun q => by omega)
      have gce : he.get? (h.n + 1) = some (.cells [v6'] 36 true) := q7.get' _ _ (e7.imp id fun q => by omega) (get_push_old gcc)
      have xe : ExtBut (h.n + 1) h2 he := kept_but (ExtBut.pushed xc' _) q7 (e7.imp id fun q => q.1)
      (repeat' (first | (apply K_seq) | (apply K_region) | (apply O_at; rfl) | (apply N_at; rfl) | (apply O_fin; rfl) | (apply C_seq) | (apply K_ifT; rfl) | (apply K_ifF; rfl) | (apply K_open; exact openOK_of (by decide +kernel)) | (apply K_block) | (apply K_skip) | (apply K_exit) | (apply K_ret) | (apply N_fin; rfl; exact (.inl (Nat.le_refl 1))) | (apply N_fin; rfl; refine .inr ?_; (focus repeat' first | exact trivial | apply And.intro | rfl)) | (apply C_exit) | (apply C_exitS) | (apply C_exitL) | (apply C_blockN) | (apply C_nil) | (apply P_move; rfl; rfl; rfl; rfl) | (apply P_assign; rfl; rfl; rfl; rfl) | (apply P_fa; rfl; rfl; rfl; rfl; exact fo_ok rfl; (first | exact Nat.zero_add _ | exact Nat.add_zero _ | rfl)) | (apply P_makeFunc; rfl; rfl; rfl; rfl; rfl) | (apply P_lssF; rfl; rfl; rfl; rfl; rfl; omega) | (apply P_lssT; rfl; rfl; rfl; rfl; rfl; omega) | (apply P_add; rfl; rfl; rfl; rfl; rfl; (unfold fit; omega)) | (apply P_sub; rfl; rfl; rfl; rfl; rfl; (unfold fit; omega)) | (apply P_mul; rfl; rfl; rfl; rfl; rfl; (unfold fit; omega)) | (apply P_idxA; rfl; rfl; rfl; rfl; rfl; exact un_ok rfl; exact sz_ok rfl; (first | rfl | exact (Int.toNat_of_nonneg (by omega)).symm); omega) | (apply P_load1; rfl; rfl; rfl; rfl; exact on_ok rfl; (focus repeat' first | exact get_push_same | assumption | apply get_push_old | (apply Ext.get; assumption) | (apply ExtBut.get; assumption; (first | assumption | omega | (simp only [Heap.push]; omega)))); (first | exact ints_get (by omega) | rfl | assumption)) | (apply P_loadA; rfl; rfl; rfl; rfl; exact ag_ok rfl; (focus repeat' first | exact get_push_same | assumption | apply get_push_old | (apply Ext.get; assumption) | (apply ExtBut.get; assumption; (first | assumption | omega | (simp only [Heap.push]; omega)))); (first | exact Nat.le_of_ble_eq_true rfl | (simp; done) | (simp; omega)); rfl) | (apply P_build1; rfl; rfl; rfl; rfl; rfl; rfl; rfl; exact c1_ok rfl) | (apply P_storeI; rfl; rfl; rfl; rfl; (focus repeat' first | exact get_push_same | assumption | apply get_push_old | (apply Ext.get; assumption) | (apply ExtBut.get; assumption; (first | assumption | omega | (simp only [Heap.push]; omega)))); exact sz_ok rfl; (first | omega | (focus simp; done)); (intro _ _ _)) | (apply P_box; rfl; rfl; rfl; rfl; exact sz_ok rfl; rfl; rfl) | (apply P_alloc; rfl; rfl; rfl; rfl; exact sz_ok rfl; rfl; rfl) | (apply P_quoN; rfl; rfl; rfl; rfl; rfl; omega; omega; omega) | (apply M_move; rfl; rfl; rfl; rfl) | (apply M_build1; rfl; rfl; rfl; rfl; rfl; rfl; rfl; exact c1_ok rfl) | (apply M_load1E; rfl; rfl; rfl; rfl; exact on_ok rfl; exact actsMost_0 (by decide +kernel); (focus repeat' first | exact get_push_same | assumption | apply get_push_old | (apply Ext.get; assumption) | (apply ExtBut.get; assumption; (first | assumption | omega | (simp only [Heap.push]; omega)))); (first | exact ints_get (by omega) | rfl | assumption); (first | assumption | rfl | (focus simp [same, same.all2]; done)); (first | rfl | assumption | exact hwv _ | (simp [within]; omega))) | (apply M_remN; rfl; rfl; rfl; rfl; rfl; omega; omega) | fail))
      exact C_again (ih (k + 1, v5', v6', v7') _ (by dsimp only; omega) ⟨hlt, xe, gce, _, _, _, o5e, o6e, o7', .inr (by omega)⟩) (by (focus repeat' first | rfl | exact trivial | apply And.intro))
    · have hkH : k = B.hands.toNat := by omega
      subst hkH
      clear ih
      rw [← hl] at o5 o6 o7
      rw [gP_full] at o5
      rw [rP_full] at o6
      have hs0 : ∀ i, i < (shL B B.n).length → 0 ≤ (shL B B.n).getD i 0 := fun i hi => (shL_b hP hi).1
      have i0 := inv0 hp hs0 hA
      have hH : 0 < (shL B B.n).length := by omega
      rcases o5 with ⟨_, q⟩ | ⟨_, rfl, g5⟩
      · have := i0.l1; rw [q] at this; simp at this; omega
      rcases o6 with ⟨_, q⟩ | ⟨_, rfl, g6⟩
      · have := i0.l2; rw [q] at this; simp at this; omega
      rcases o7 with ⟨_, q⟩ | ⟨_, rfl, g7⟩
      · have := nats_len (shL B B.n).length; rw [q] at this; simp at this; omega
      have hd' : h2.n ≤ b5 ∧ h2.n ≤ b6 ∧ h2.n ≤ b7 ∧ b5 ≠ b6 ∧ b5 ≠ b7 ∧ b6 ≠ b7 := by rcases hd with q | q <;> omega
      have yh : Ext h h' := Ext.ofBut y2 hx (Nat.le_succ _)
      have n2 := y2.n
      have hgb : ∀ k, k < (sh0 p (shL B B.n)).1.length → 0 ≤ (sh0 p (shL B B.n)).1.getD k 0 ∧ (sh0 p (shL B B.n)).1.getD k 0 ≤ 1000000000 := fun k hk => by have := i0.g k (by rwa [i0.l1] at hk); omega
      have hvg : RdV h' (.slice (some ⟨b5, 0, none⟩) (sh0 p (shL B B.n)).1.length unk) (sh0 p (shL B B.n)).1 := ⟨_, _, rfl, .inr ⟨b5, _, true, rfl, g5⟩⟩
      have hlb := left_b hp hs0 hA
      have hl1 := i0.l1
      have hsum := (le_sum fun k hk => (hgb k hk).1).1
      (repeat' (first | (apply K_seq) | (apply K_region) | (apply O_at; rfl) | (apply N_at; rfl) | (apply O_fin; rfl) | (apply C_seq) | (apply K_ifT; rfl) | (apply K_ifF; rfl) | (apply K_open; exact openOK_of (by decide +kernel)) | (apply K_block) | (apply K_skip) | (apply K_exit) | (apply K_ret) | (apply N_fin; rfl; exact (.inl (Nat.le_refl 1))) | (apply N_fin; rfl; refine .inr ?_; (focus repeat' first | exact trivial | apply And.intro | rfl)) | (apply C_exit) | (apply C_exitS) | (apply C_exitL) | (apply C_blockN) | (apply C_nil) | (apply P_move; rfl; rfl; rfl; rfl) | (apply P_assign; rfl; rfl; rfl; rfl) | (apply P_fa; rfl; rfl; rfl; rfl; exact fo_ok rfl; (first | exact Nat.zero_add _ | exact Nat.add_zero _ | rfl)) | (apply P_makeFunc; rfl; rfl; rfl; rfl; rfl) | (apply P_lssF; rfl; rfl; rfl; rfl; rfl; omega) | (apply P_lssT; rfl; rfl; rfl; rfl; rfl; omega) | (apply P_add; rfl; rfl; rfl; rfl; rfl; (unfold fit; omega)) | (apply P_sub; rfl; rfl; rfl; rfl; rfl; (unfold fit; omega)) | (apply P_mul; rfl; rfl; rfl; rfl; rfl; (unfold fit; omega)) | (apply P_idxA; rfl; rfl; rfl; rfl; rfl; exact un_ok rfl; exact sz_ok rfl; (first | rfl | exact (Int.toNat_of_nonneg (by omega)).symm); omega) | (apply P_load1; rfl; rfl; rfl; rfl; exact on_ok rfl; (focus repeat' first | exact get_push_same | assumption | apply get_push_old | (apply Ext.get; assumption) | (apply ExtBut.get; assumption; (first | assumption | omega | (simp only [Heap.push]; omega)))); (first | exact ints_get (by omega) | rfl | assumption)) | (apply P_loadA; rfl; rfl; rfl; rfl; exact ag_ok rfl; (focus repeat' first | exact get_push_same | assumption | apply get_push_old | (apply Ext.get; assumption) | (apply ExtBut.get; assumption; (first | assumption | omega | (simp only [Heap.push]; omega)))); (first | exact Nat.le_of_ble_eq_true rfl | (simp; done) | (simp; omega)); rfl) | (apply P_build1; rfl; rfl; rfl; rfl; rfl; rfl; rfl; exact c1_ok rfl) | (apply P_storeI; rfl; rfl; rfl; rfl; (focus repeat' first | exact get_push_same | assumption | apply get_push_old | (apply Ext.get; assumption) | (apply ExtBut.get; assumption; (first | assumption | omega | (simp only [Heap.push]; omega)))); exact sz_ok rfl; (first | omega | (focus simp; done)); (intro _ _ _)) | (apply P_box; rfl; rfl; rfl; rfl; exact sz_ok rfl; rfl; rfl) | (apply P_alloc; rfl; rfl; rfl; rfl; exact sz_ok rfl; rfl; rfl) | (apply P_quoN; rfl; rfl; rfl; rfl; rfl; omega; omega; omega) | (apply M_move; rfl; rfl; rfl; rfl) | (apply M_build1; rfl; rfl; rfl; rfl; rfl; rfl; rfl; exact c1_ok rfl) | (apply M_load1E; rfl; rfl; rfl; rfl; exact on_ok rfl; exact actsMost_0 (by decide +kernel); (focus repeat' first | exact get_push_same | assumption | apply get_push_old | (apply Ext.get; assumption) | (apply ExtBut.get; assumption; (first | assumption | omega | (simp only [Heap.push]; omega)))); (first | exact ints_get (by omega) | rfl | assumption); (first | assumption | rfl | (focus simp [same, same.all2]; done)); (first | rfl | assumption | exact hwv _ | (simp [within]; omega))) | (apply M_remN; rfl; rfl; rfl; rfl; rfl; omega; omega) | (apply P_call; rfl; rfl; rfl; rfl; rfl; rfl; exact sum_ok hK (hvg.ext (by (focus repeat' first | exact Ext.refl _ | assumption | apply Ext.push | (refine Ext.trans ?_ (by assumption)) | (refine Ext.ofBut ?_ (by assumption) (by first | exact Nat.le_refl _ | omega))))) (by omega) hgb; (rintro _ _ ⟨rfl, _⟩)) | fail))
      rename_i h3 x3
      have hl2 := i0.l2
      have n3 := x3.n
      rw [nats_len (shL B B.n).length]
      obtain ⟨L, hL⟩ : ∃ L : Nat, (p - (sh0 p (shL B B.n)).1.sum) = (L : Nat) := ⟨(p - (sh0 p (shL B B.n)).1.sum).toNat, by omega⟩
      have hshare : shareL p (shL B B.n) = (it 0 (sh0 p (shL B B.n)) L).1 := by unfold shareL; rw [hL]; rfl
      refine K_loopE (fun j : Nat => [(49, .int .i64 (j : Nat)), (48, .int .i64 (p - (sh0 p (shL B B.n)).1.sum)), (7, .slice (some ⟨b7, 0, none⟩) (shL B B.n).length unk), (6, .pointer (some ⟨h.n + 1, 0, none⟩)), (5, .slice (some ⟨b5, 0, none⟩) (sh0 p (shL B B.n)).1.length unk)])
        (fun j h4 => j ≤ L ∧ Ext h h4 ∧ h4.get? (h.n + 1) = some (.cells [.slice (some ⟨b6, 0, none⟩) (sh0 p (shL B B.n)).2.length unk] 36 true) ∧ h4.get? b7 = some (.cells (ints (nats (shL B B.n).length)) 3 true) ∧ h4.get? b5 = some (.cells (ints (it 0 (sh0 p (shL B B.n)) j).1) 3 true) ∧ h4.get? b6 = some (.cells (ints (it 0 (sh0 p (shL B B.n)) j).2) 3 true)) (fun j => L - j) ?_ 0 ?_ ?_
      · intro j h4 ⟨hj, y4, gc4, g74, g54, g64⟩ ih
        by_cases hjl : j < L
        · have v := inv_k hp hs0 hA j (by omega)
          have v1 := v.l1
          have v2 := v.l2
          obtain ⟨_, _⟩ := v.am hA (by omega)
          have ha := amK_lt (it 0 (sh0 p (shL B B.n)) j).2 (it 0 (sh0 p (shL B B.n)) j).2.length (by omega)
          have hgg := v.g (amK (it 0 (sh0 p (shL B B.n)) j).2 (it 0 (sh0 p (shL B B.n)) j).2.length) (by omega)
          (repeat' (first | (apply K_seq) | (apply K_region) | (apply O_at; rfl) | (apply N_at; rfl) | (apply O_fin; rfl) | (apply C_seq) | (apply K_ifT; rfl) | (apply K_ifF; rfl) | (apply K_open; exact openOK_of (by decide +kernel)) | (apply K_block) | (apply K_skip) | (apply K_exit) | (apply K_ret) | (apply N_fin; rfl; exact (.inl (Nat.le_refl 1))) | (apply N_fin; rfl; refine .inr ?_; (focus repeat' first | exact trivial | apply And.intro | rfl)) | (apply C_exit) | (apply C_exitS) | (apply C_exitL) | (apply C_blockN) | (apply C_nil) | (apply P_move; rfl; rfl; rfl; rfl) | (apply P_assign; rfl; rfl; rfl; rfl) | (apply P_fa; rfl; rfl; rfl; rfl; exact fo_ok rfl; (first | exact Nat.zero_add _ | exact Nat.add_zero _ | rfl)) | (apply P_makeFunc; rfl; rfl; rfl; rfl; rfl) | (apply P_lssF; rfl; rfl; rfl; rfl; rfl; omega) | (apply P_lssT; rfl; rfl; rfl; rfl; rfl; omega) | (apply P_add; rfl; rfl; rfl; rfl; rfl; (unfold fit; omega)) | (apply P_sub; rfl; rfl; rfl; rfl; rfl; (unfold fit; omega)) | (apply P_mul; rfl; rfl; rfl; rfl; rfl; (unfold fit; omega)) | (apply P_idxA; rfl; rfl; rfl; rfl; rfl; exact un_ok rfl; exact sz_ok rfl; (first | rfl | exact (Int.toNat_of_nonneg (by omega)).symm); omega) | (apply P_load1; rfl; rfl; rfl; rfl; exact on_ok rfl; (focus repeat' first | exact get_push_same | assumption | apply get_push_old | (apply Ext.get; assumption) | (apply ExtBut.get; assumption; (first | assumption | omega | (simp only [Heap.push]; omega)))); (first | exact ints_get (by omega) | rfl | assumption)) | (apply P_loadA; rfl; rfl; rfl; rfl; exact ag_ok rfl; (focus repeat' first | exact get_push_same | assumption | apply get_push_old | (apply Ext.get; assumption) | (apply ExtBut.get; assumption; (first | assumption | omega | (simp only [Heap.push]; omega)))); (first | exact Nat.le_of_ble_eq_true rfl | (simp; done) | (simp; omega)); rfl) | (apply P_build1; rfl; rfl; rfl; rfl; rfl; rfl; rfl; exact c1_ok rfl) | (apply P_storeI; rfl; rfl; rfl; rfl; (focus repeat' first | exact get_push_same | assumption | apply get_push_old | (apply Ext.get; assumption) | (apply ExtBut.get; assumption; (first | assumption | omega | (simp only [Heap.push]; omega)))); exact sz_ok rfl; (first | omega | (focus simp; done)); (intro _ _ _)) | (apply P_box; rfl; rfl; rfl; rfl; exact sz_ok rfl; rfl; rfl) | (apply P_alloc; rfl; rfl; rfl; rfl; exact sz_ok rfl; rfl; rfl) | (apply P_quoN; rfl; rfl; rfl; rfl; rfl; omega; omega; omega) | (apply M_move; rfl; rfl; rfl; rfl) | (apply M_build1; rfl; rfl; rfl; rfl; rfl; rfl; rfl; exact c1_ok rfl) | (apply M_load1E; rfl; rfl; rfl; rfl; exact on_ok rfl; exact actsMost_0 (by decide +kernel); (focus repeat' first | exact get_push_same | assumption | apply get_push_old | (apply Ext.get; assumption) | (apply ExtBut.get; assumption; (first | assumption | omega | (simp only [Heap.push]; omega)))); (first | exact ints_get (by omega) | rfl | assumption); (first | assumption | rfl | (focus simp [same, same.all2]; done)); (first | rfl | assumption | exact hwv _ | (simp [within]; omega))) | (apply M_remN; rfl; rfl; rfl; rfl; rfl; omega; omega) | (apply P_call; rfl; rfl; rfl; rfl; rfl; rfl; exact best_ok hK (r := (it 0 (sh0 p (shL B B.n)) j).2) (Ext.get (by (focus repeat' first | exact Ext.refl _ | assumption | apply Ext.push | (refine Ext.trans ?_ (by assumption)) | (refine Ext.ofBut ?_ (by assumption) (by first | exact Nat.le_refl _ | omega)))) gc4) (by omega) (Ext.get (by (focus repeat' first | exact Ext.refl _ | assumption | apply Ext.push | (refine Ext.trans ?_ (by assumption)) | (refine Ext.ofBut ?_ (by assumption) (by first | exact Nat.le_refl _ | omega)))) g64) (Ext.get (by (focus repeat' first | exact Ext.refl _ | assumption | apply Ext.push | (refine Ext.trans ?_ (by assumption)) | (refine Ext.ofBut ?_ (by assumption) (by first | exact Nat.le_refl _ | omega)))) g74) (by omega) (by omega); (rintro _ _ ⟨rfl, _⟩)) | fail))
          rename_i h5 x5 h6 g6' x6 h7 g7' x7
          have yy : Ext h h7 := Ext.ofBut (Ext.ofBut (y4.trans x5) x6 (by omega)) x7 (by omega)
          exact C_again (ih (j + 1) _ (by omega) ⟨hjl, yy, x7.get (by omega) (x6.get (by omega) (x5.get gc4)), x7.get (by omega) (x6.get (by omega) (x5.get g74)), x7.get (by omega) g6', g7'⟩) (by (focus repeat' first | rfl | exact trivial | apply And.intro))
        · have : j = L := by omega
          subst this
          have v := inv_k hp hs0 hA j (by omega)
          (repeat' (first | (apply K_seq) | (apply K_region) | (apply O_at; rfl) | (apply N_at; rfl) | (apply O_fin; rfl) | (apply C_seq) | (apply K_ifT; rfl) | (apply K_ifF; rfl) | (apply K_open; exact openOK_of (by decide +kernel)) | (apply K_block) | (apply K_skip) | (apply K_exit) | (apply K_ret) | (apply N_fin; rfl; exact (.inl (Nat.le_refl 1))) | (apply N_fin; rfl; refine .inr ?_; (focus repeat' first | exact trivial | apply And.intro | rfl)) | (apply C_exit) | (apply C_exitS) | (apply C_exitL) | (apply C_blockN) | (apply C_nil) | (apply P_move; rfl; rfl; rfl; rfl) | (apply P_assign; rfl; rfl; rfl; rfl) | (apply P_fa; rfl; rfl; rfl; rfl; exact fo_ok rfl; (first | exact Nat.zero_add _ | exact Nat.add_zero _ | rfl)) | (apply P_makeFunc; rfl; rfl; rfl; rfl; rfl) | (apply P_lssF; rfl; rfl; rfl; rfl; rfl; omega) | (apply P_lssT; rfl; rfl; rfl; rfl; rfl; omega) | (apply P_add; rfl; rfl; rfl; rfl; rfl; (unfold fit; omega)) | (apply P_sub; rfl; rfl; rfl; rfl; rfl; (unfold fit; omega)) | (apply P_mul; rfl; rfl; rfl; rfl; rfl; (unfold fit; omega)) | (apply P_idxA; rfl; rfl; rfl; rfl; rfl; exact un_ok rfl; exact sz_ok rfl; (first | rfl | exact (Int.toNat_of_nonneg (by omega)).symm); omega) | (apply P_load1; rfl; rfl; rfl; rfl; exact on_ok rfl; (focus repeat' first | exact get_push_same | assumption | apply get_push_old | (apply Ext.get; assumption) | (apply ExtBut.get; assumption; (first | assumption | omega | (simp only [Heap.push]; omega)))); (first | exact ints_get (by omega) | rfl | assumption)) | (apply P_loadA; rfl; rfl; rfl; rfl; exact ag_ok rfl; (focus repeat' first | exact get_push_same | assumption | apply get_push_old | (apply Ext.get; assumption) | (apply ExtBut.get; assumption; (first | assumption | omega | (simp only [Heap.push]; omega)))); (first | exact Nat.le_of_ble_eq_true rfl | (simp; done) | (simp; omega)); rfl) | (apply P_build1; rfl; rfl; rfl; rfl; rfl; rfl; rfl; exact c1_ok rfl) | (apply P_storeI; rfl; rfl; rfl; rfl; (focus repeat' first | exact get_push_same | assumption | apply get_push_old | (apply Ext.get; assumption) | (apply ExtBut.get; assumption; (first | assumption | omega | (simp only [Heap.push]; omega)))); exact sz_ok rfl; (first | omega | (focus simp; done)); (intro _ _ _)) | (apply P_box; rfl; rfl; rfl; rfl; exact sz_ok rfl; rfl; rfl) | (apply P_alloc; rfl; rfl; rfl; rfl; exact sz_ok rfl; rfl; rfl) | (apply P_quoN; rfl; rfl; rfl; rfl; rfl; omega; omega; omega) | (apply M_move; rfl; rfl; rfl; rfl) | (apply M_build1; rfl; rfl; rfl; rfl; rfl; rfl; rfl; exact c1_ok rfl) | (apply M_load1E; rfl; rfl; rfl; rfl; exact on_ok rfl; exact actsMost_0 (by decide +kernel); (focus repeat' first | exact get_push_same | assumption | apply get_push_old | (apply Ext.get; assumption) | (apply ExtBut.get; assumption; (first | assumption | omega | (simp only [Heap.push]; omega)))); (first | exact ints_get (by omega) | rfl | assumption); (first | assumption | rfl | (focus simp [same, same.all2]; done)); (first | rfl | assumption | exact hwv _ | (simp [within]; omega))) | (apply M_remN; rfl; rfl; rfl; rfl; rfl; omega; omega) | fail))
          exact ⟨.inr rfl, _, rfl, _, _, (by rw [hshare, v.l1, ← hl1]; rfl), .inr ⟨b5, _, true, rfl, by rw [hshare]; exact g54⟩, y4⟩
      · exact ⟨Nat.zero_le _, yh.trans x3, x3.get gc, x3.get g7, x3.get g5, x3.get g6⟩
      · (focus repeat' first | rfl | exact trivial | apply And.intro)
  · exact ⟨Nat.zero_le _, ExtBut.refl _ _, gc0, 0, 0, 0, .inl ⟨rfl, rfl⟩, .inl ⟨rfl, rfl⟩, .inl ⟨rfl, rfl⟩, .inl rfl⟩
  · (focus repeat' first | rfl | exact trivial | apply And.intro)
end Go.AX.Sa

namespace Go.AX.Sa
open Go.Proofs
set_option maxRecDepth 100000
variable {K : Known}
/-! The shares, as they are given, and as they are written in the other way. -/
theorem shareY_ok (hK : NoK K) {B : Bk} {p : Int} {h : Heap} (hB : BkAt B h) (hP : BkP B) (hp : SumP p) (hA : 0 < (shL B B.n).sum) :
    CallW Tryz.prog K 46 #[bkV B, .int .i64 p] h (PayR (shareL p (shL B B.n)) h) := by
  have hn := hP.n
  have hh := hP.hands
  have hl := shL_len B B.n
  have hbs : ∀ k, k < (shL B B.n).length → 0 ≤ (shL B B.n).getD k 0 ∧ (shL B B.n).getD k 0 ≤ 1000000000 := fun k hk => by have := shL_b hP hk; omega
  refine body (N := 21) Tryz.func46 rfl (hK _ _ _ rfl) rfl rfl ?_
  (repeat' (first | (apply K_seq) | (apply K_region) | (apply O_at; rfl) | (apply O_fin; rfl) | (apply C_seq) | (apply K_ifF; rfl) | (apply K_skip) | (apply K_ret) | (apply C_nil) | (apply P_move; rfl; rfl; rfl; rfl) | (apply P_assign; rfl; rfl; rfl; rfl) | (apply P_pick; rfl; rfl; rfl; rfl; rfl; rfl) | (apply P_not; rfl; rfl; rfl; rfl) | (apply P_eqlF; rfl; rfl; rfl; rfl; rfl; omega) | (apply P_loadA; rfl; rfl; rfl; rfl; exact ag_ok rfl; (focus repeat' first | exact get_push_same | assumption | (apply Ext.get; assumption)); (first | exact Nat.le_of_ble_eq_true rfl | (simp; done) | (simp; omega)); rfl) | (apply P_box; rfl; rfl; rfl; rfl; exact sz_ok rfl; rfl; rfl) | (apply P_call; rfl; rfl; rfl; rfl; rfl; rfl; exact yes (isBook_ok hK (by omega) (hB.ext (by (focus repeat' first | exact Ext.refl _ | assumption | apply Ext.push | (refine Ext.trans ?_ (by assumption)))))) hP; (rintro _ _ ⟨rfl, _⟩)) | (apply P_call; rfl; rfl; rfl; rfl; rfl; rfl; exact yes (isSum_ok hK (hB.g.ext (by (focus repeat' first | exact Ext.refl _ | assumption | apply Ext.push | (refine Ext.trans ?_ (by assumption)))))) hp; (rintro _ _ ⟨rfl, _⟩)) | (apply P_call; rfl; rfl; rfl; rfl; rfl; rfl; exact sheetsOf_ok hK (hB.ext (by (focus repeat' first | exact Ext.refl _ | assumption | apply Ext.push | (refine Ext.trans ?_ (by assumption))))) hP; (rintro _ _ ⟨_, rfl, _, _⟩)) | fail))
  rename_i h1 rs g1 x1
  have hv : RdV h1 (.slice (some ⟨rs, 0, none⟩) B.hands.toNat B.hands.toNat) (shL B B.n) := ⟨_, _, by rw [hl], .inr ⟨rs, _, true, rfl, g1⟩⟩
  (repeat' (first | (apply K_seq) | (apply K_region) | (apply O_at; rfl) | (apply O_fin; rfl) | (apply C_seq) | (apply K_ifF; rfl) | (apply K_skip) | (apply K_ret) | (apply C_nil) | (apply P_move; rfl; rfl; rfl; rfl) | (apply P_assign; rfl; rfl; rfl; rfl) | (apply P_pick; rfl; rfl; rfl; rfl; rfl; rfl) | (apply P_not; rfl; rfl; rfl; rfl) | (apply P_eqlF; rfl; rfl; rfl; rfl; rfl; omega) | (apply P_loadA; rfl; rfl; rfl; rfl; exact ag_ok rfl; (focus repeat' first | exact get_push_same | assumption | (apply Ext.get; assumption)); (first | exact Nat.le_of_ble_eq_true rfl | (simp; done) | (simp; omega)); rfl) | (apply P_box; rfl; rfl; rfl; rfl; exact sz_ok rfl; rfl; rfl) | (apply P_call; rfl; rfl; rfl; rfl; rfl; rfl; exact sum_ok hK (hv.ext (by (focus repeat' first | exact Ext.refl _ | assumption | apply Ext.push | (refine Ext.trans ?_ (by assumption))))) (by omega) hbs; (rintro _ _ ⟨rfl, _⟩)) | (apply P_call; rfl; rfl; rfl; rfl; rfl; rfl; exact shares_ok hK (hB.ext (by (focus repeat' first | exact Ext.refl _ | assumption | apply Ext.push | (refine Ext.trans ?_ (by assumption))))) hP hp hA; (rintro _ _ ⟨_, _, rfl, _, _⟩)) | fail))
  rename_i h5 p5 c5 rd x5
  exact ⟨.inr rfl, _, rfl, p5, c5, rfl, rd, by (focus repeat' first | exact Ext.refl _ | assumption | apply Ext.push | (refine Ext.trans ?_ (by assumption)))⟩
theorem shareZ_ok (hK : NoK K) {B : Bk} {p : Int} {h : Heap} (hB : BkAt B h) (hP : BkP B) (hp : SumP p) (hA : (shL B B.n).sum = 0) :
    CallW Tryz.prog K 46 #[bkV B, .int .i64 p] h (IsV (.tuple #[.slice none 0 0, .int .i64 5]) h) := by
  have hn := hP.n
  have hh := hP.hands
  have hl := shL_len B B.n
  have hbs : ∀ k, k < (shL B B.n).length → 0 ≤ (shL B B.n).getD k 0 ∧ (shL B B.n).getD k 0 ≤ 1000000000 := fun k hk => by have := shL_b hP hk; omega
  refine body (N := 21) Tryz.func46 rfl (hK _ _ _ rfl) rfl rfl ?_
  (repeat' (first | (apply K_seq) | (apply K_region) | (apply O_at; rfl) | (apply O_fin; rfl) | (apply C_seq) | (apply K_ifT; rfl) | (apply K_ifF; rfl) | (apply K_skip) | (apply K_ret) | (apply C_retS) | (apply C_nil) | (apply P_move; rfl; rfl; rfl; rfl) | (apply P_assign; rfl; rfl; rfl; rfl) | (apply P_pick; rfl; rfl; rfl; rfl; rfl; rfl) | (apply P_not; rfl; rfl; rfl; rfl) | (apply P_eqlT; rfl; rfl; rfl; rfl; rfl; omega) | (apply P_loadA; rfl; rfl; rfl; rfl; exact ag_ok rfl; (focus repeat' first | exact get_push_same | assumption | (apply Ext.get; assumption)); (first | exact Nat.le_of_ble_eq_true rfl | (simp; done) | (simp; omega)); rfl) | (apply P_box; rfl; rfl; rfl; rfl; exact sz_ok rfl; rfl; rfl) | (apply P_call; rfl; rfl; rfl; rfl; rfl; rfl; exact yes (isBook_ok hK (by omega) (hB.ext (by (focus repeat' first | exact Ext.refl _ | assumption | apply Ext.push | (refine Ext.trans ?_ (by assumption)))))) hP; (rintro _ _ ⟨rfl, _⟩)) | (apply P_call; rfl; rfl; rfl; rfl; rfl; rfl; exact yes (isSum_ok hK (hB.g.ext (by (focus repeat' first | exact Ext.refl _ | assumption | apply Ext.push | (refine Ext.trans ?_ (by assumption)))))) hp; (rintro _ _ ⟨rfl, _⟩)) | (apply P_call; rfl; rfl; rfl; rfl; rfl; rfl; exact sheetsOf_ok hK (hB.ext (by (focus repeat' first | exact Ext.refl _ | assumption | apply Ext.push | (refine Ext.trans ?_ (by assumption))))) hP; (rintro _ _ ⟨_, rfl, _, _⟩)) | fail))
  rename_i h1 rs g1 x1
  have hv : RdV h1 (.slice (some ⟨rs, 0, none⟩) B.hands.toNat B.hands.toNat) (shL B B.n) := ⟨_, _, by rw [hl], .inr ⟨rs, _, true, rfl, g1⟩⟩
  (repeat' (first | (apply K_seq) | (apply K_region) | (apply O_at; rfl) | (apply O_fin; rfl) | (apply C_seq) | (apply K_ifT; rfl) | (apply K_ifF; rfl) | (apply K_skip) | (apply K_ret) | (apply C_retS) | (apply C_nil) | (apply P_move; rfl; rfl; rfl; rfl) | (apply P_assign; rfl; rfl; rfl; rfl) | (apply P_pick; rfl; rfl; rfl; rfl; rfl; rfl) | (apply P_not; rfl; rfl; rfl; rfl) | (apply P_eqlT; rfl; rfl; rfl; rfl; rfl; omega) | (apply P_loadA; rfl; rfl; rfl; rfl; exact ag_ok rfl; (focus repeat' first | exact get_push_same | assumption | (apply Ext.get; assumption)); (first | exact Nat.le_of_ble_eq_true rfl | (simp; done) | (simp; omega)); rfl) | (apply P_box; rfl; rfl; rfl; rfl; exact sz_ok rfl; rfl; rfl) | (apply P_call; rfl; rfl; rfl; rfl; rfl; rfl; exact sum_ok hK (hv.ext (by (focus repeat' first | exact Ext.refl _ | assumption | apply Ext.push | (refine Ext.trans ?_ (by assumption))))) (by omega) hbs; (rintro _ _ ⟨rfl, _⟩)) | fail))
  exact ⟨.inr rfl, _, rfl, rfl, by (focus repeat' first | exact Ext.refl _ | assumption | apply Ext.push | (refine Ext.trans ?_ (by assumption)))⟩
theorem shL_take {B : Bk} {k : Nat} (hk : k < B.hands.toNat) : ((shL B B.n).take (k + 1)).sum = ((shL B B.n).take k).sum + sh B (k : Nat) B.n := by
  rw [take_sum (by rw [shL_len]; exact hk), shL_at hk]
end Go.AX.Sa

namespace Go.AX.Sa
open Go.Proofs
set_option maxRecDepth 100000
variable {K : Known}
/-! The law of the shares. -/
end Go.AX.Sa

namespace Go.AX.Sa
open Go.Proofs
set_option maxRecDepth 100000
/-! That the shares are just. -/
theorem Inv.pos {A : Int} {H : Nat} {L : Int} {k : Nat} {c r : List Int × List Int} (v : Inv A H L k c r) (hA : 0 < A) (hk : (k : Int) < L) : 0 < c.2.getD (amK c.2 H) 0 := by
  have hs : 0 < c.2.sum := by
    have h1 : A * 1 ≤ A * (L - k) := Int.mul_le_mul_of_nonneg_left (by omega) (by omega)
    have := v.s
    omega
  obtain ⟨hH, _⟩ := v.am hA hk
  apply Classical.byContradiction
  intro q
  have := sum_pos (l := c.2) fun i hi => by
    rw [v.l2] at hi
    have := (amK_spec c.2 H hH).1 i hi
    omega
  omega
structure Just (H : Nat) (s0 : List Int × List Int) (k : Nat) (c : List Int × List Int) : Prop where
  d : ∀ i, i < H → (c.1.getD i 0 = s0.1.getD i 0 ∧ c.2.getD i 0 = s0.2.getD i 0) ∨ (c.1.getD i 0 = s0.1.getD i 0 + 1 ∧ c.2.getD i 0 = 0 ∧ 0 < s0.2.getD i 0)
  s : c.1.sum = s0.1.sum + k
  o : ∀ i j, i < j → j < H → s0.1.getD i 0 = s0.1.getD j 0 → s0.2.getD i 0 = s0.2.getD j 0 → c.1.getD j 0 = s0.1.getD j 0 + 1 → c.1.getD i 0 = s0.1.getD i 0 + 1
theorem Just.step {A : Int} {H : Nat} {L : Int} {k : Nat} {s0 c r : List Int × List Int} (w : Just H s0 k c) (v : Inv A H L k c r) (hA : 0 < A) (hk : (k : Int) < L) : Just H s0 (k + 1) (st 0 c) := by
  obtain ⟨hH, _⟩ := v.am hA hk
  have hpos := v.pos hA hk
  have ac := amK_lt c.2 H hH
  have l1 := v.l1
  have l2 := v.l2
  have hl2 : amK c.2 c.2.length = amK c.2 H := by rw [l2]
  have ha : c.1.getD (amK c.2 H) 0 = s0.1.getD (amK c.2 H) 0 ∧ c.2.getD (amK c.2 H) 0 = s0.2.getD (amK c.2 H) 0 := by
    rcases w.d _ ac with q | q
    · exact q
    · omega
  have gd : ∀ i, i < H → (st 0 c).1.getD i 0 = if amK c.2 H = i then c.1.getD (amK c.2 H) 0 + 1 else c.1.getD i 0 := fun i hi => by
    simp only [st, hl2]; rw [getD_set _ _ _ _ (by omega)]
  have gd2 : ∀ i, i < H → (st 0 c).2.getD i 0 = if amK c.2 H = i then 0 else c.2.getD i 0 := fun i hi => by
    simp only [st, hl2]; rw [getD_set _ _ _ _ (by omega)]
  refine ⟨fun i hi => ?_, ?_, fun i j hij hj e1 e2 e3 => ?_⟩
  · rw [gd i hi, gd2 i hi]
    by_cases hai : amK c.2 H = i
    · rw [if_pos hai, if_pos hai]; rw [← hai]; exact .inr ⟨by omega, rfl, by omega⟩
    · rw [if_neg hai, if_neg hai]; exact w.d i hi
  · simp only [st, hl2]
    rw [sum_set _ _ _ (by omega), w.s]
    omega
  · rw [gd i (by omega)]
    rw [gd j hj] at e3
    by_cases hai : amK c.2 H = i
    · rw [if_pos hai]; rw [← hai]; omega
    · rw [if_neg hai]
      by_cases haj : amK c.2 H = j
      · rcases w.d i (by omega) with q | q
        · have h1 := (amK_spec c.2 H hH).2 i (by omega)
          rw [haj] at h1 ha
          omega
        · exact q.1
      · rw [if_neg haj] at e3
        exact w.o i j hij hj e1 e2 e3
theorem just_k {p : Int} {s : List Int} (hp : 0 ≤ p ∧ p ≤ 959999) (hs : ∀ i, i < s.length → 0 ≤ s.getD i 0) (hA : 0 < s.sum) : ∀ k : Nat, (k : Int) ≤ p - (sh0 p s).1.sum → Just s.length (sh0 p s) k (it 0 (sh0 p s) k) := by
  intro k
  induction k with
  | zero => intro _; exact ⟨fun _ _ => .inl ⟨rfl, rfl⟩, by simp [it], fun i j _ _ _ _ e => by have : (it 0 (sh0 p s) 0) = sh0 p s := rfl; rw [this] at e; omega⟩
  | succ k ih => intro hk; exact (ih (by omega)).step (inv_k hp hs hA k (by omega)) hA (by omega)
structure Fair (p : Int) (s : List Int) (g : List Int) : Prop where
  len : g.length = s.length
  sum : g.sum = p
  b : ∀ i, i < s.length → 0 ≤ g.getD i 0 ∧ g.getD i 0 ≤ p
  z : ∀ i, i < s.length → s.getD i 0 = 0 → g.getD i 0 = 0
  x : ∀ i, i < s.length → -s.sum < g.getD i 0 * s.sum - p * s.getD i 0 ∧ g.getD i 0 * s.sum - p * s.getD i 0 < s.sum
  o : ∀ i j, i < j → j < s.length → s.getD i 0 = s.getD j 0 → g.getD j 0 ≤ g.getD i 0 ∧ g.getD i 0 - g.getD j 0 ≤ 1
theorem fair {p : Int} {s : List Int} (hp : 0 ≤ p ∧ p ≤ 959999) (hs : ∀ i, i < s.length → 0 ≤ s.getD i 0) (hA : 0 < s.sum) : Fair p s (shareL p s) := by
  have hlb := left_b hp hs hA
  have hk : (((p - (sh0 p s).1.sum).toNat : Nat) : Int) = p - (sh0 p s).1.sum := by omega
  have v := inv_k hp hs hA (p - (sh0 p s).1.sum).toNat (by omega)
  have w := just_k hp hs hA (p - (sh0 p s).1.sum).toNat (by omega)
  have hq : ∀ i, i < s.length → (sh0 p s).1.getD i 0 = p * s.getD i 0 / s.sum ∧ (sh0 p s).2.getD i 0 = p * s.getD i 0 % s.sum := fun i hi => by
    simp only [sh0]; rw [map_getD _ _ hi, map_getD _ _ hi]; exact ⟨rfl, rfl⟩
  have hsum : (shareL p s).sum = p := by unfold shareL; rw [w.s, hk]; omega
  have hnn : ∀ i, i < (shareL p s).length → 0 ≤ (shareL p s).getD i 0 := fun i hi => (v.g i (by rw [← v.l1]; exact hi)).1
  have hle := (le_sum hnn).2
  have hlen : (shareL p s).length = s.length := v.l1
  refine ⟨hlen, hsum, fun i hi => ⟨hnn i (by omega), by have := hle i (by omega); omega⟩, fun i hi h0 => ?_, fun i hi => ?_, fun i j hij hj e => ?_⟩
  · obtain ⟨q1, q2⟩ := hq i hi
    rw [h0, Int.mul_zero, Int.zero_ediv] at q1
    rw [h0, Int.mul_zero, Int.zero_emod] at q2
    unfold shareL
    rcases w.d i hi with q | q <;> omega
  · obtain ⟨q1, q2⟩ := hq i hi
    have m1 := Int.emod_nonneg (p * s.getD i 0) (show s.sum ≠ 0 by omega)
    have m2 := Int.emod_lt_of_pos (p * s.getD i 0) hA
    have m3 := Int.emod_def (p * s.getD i 0) s.sum
    rw [Int.mul_comm s.sum] at m3
    unfold shareL
    rcases w.d i hi with q | q
    · rw [q.1, q1]; omega
    · rw [q.1, q1, Int.add_mul, Int.one_mul]; omega
  · obtain ⟨q1, q2⟩ := hq i (by omega)
    obtain ⟨q3, q4⟩ := hq j hj
    rw [e] at q1 q2
    have h1 := w.d i (by omega)
    have h2 := w.d j hj
    have h3 := w.o i j hij hj (by omega) (by omega)
    unfold shareL
    rcases h2 with h2 | h2
    · rcases h1 with h1 | h1 <;> omega
    · have := h3 h2.1; omega
end Go.AX.Sa
