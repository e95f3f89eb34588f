/- The law StepAdded at the reading: what the functions that it calls answer (3). -/
import Derived.Test.YtjdopbcoaocllaaGreatDoorStepAddedTextB
namespace Go.AX.Sa
open Go.Proofs
set_option maxRecDepth 100000
variable {K : Known}
/-! A kept list with a row more. -/
theorem zca {l : List Int} {a : Nat} {x : Int} (h : a ≤ l.length) (k : Nat) : (insL l a x).getD k 0 = if k < a then l.getD k 0 else if k = a then x else l.getD (k - 1) 0 := by
  unfold insL
  rw [List.getD_eq_getElem?_getD, List.getElem?_append]
  have hl : (l.take a).length = a := by rw [List.length_take]; omega
  rw [hl]
  by_cases h1 : k < a
  · rw [if_pos h1, if_pos h1, List.getElem?_take, if_pos h1, ← List.getD_eq_getElem?_getD]
  · rw [if_neg h1, if_neg h1]
    by_cases h2 : k = a
    · subst h2; rw [if_pos rfl, Nat.sub_self]; rfl
    · rw [if_neg h2, show k - a = (k - a - 1) + 1 by omega, List.getElem?_cons_succ, List.getElem?_drop, ← List.getD_eq_getElem?_getD]
      congr 1; omega
/-- Where a row that is not kept comes. -/
theorem at_in {n : Nat} {l : List Int} (hKp : KeptP n l) {j a : Nat} (hj : j < n) (hno : ¬ ((j : Nat) : Int) ∈ l) (hat : AtP l (j : Nat) a) : (1 ≤ a ∧ a < l.length) ∧ l.getD (a - 1) 0 < (j : Nat) ∧ ((j : Nat) : Int) < l.getD a 0 := by
  obtain ⟨h1, h2, h3⟩ := hat
  have hl2 := hKp.1
  have e0 := hKp.2.1
  have e1 := hKp.2.2.1
  have hne : ∀ k, k < l.length → l.getD k 0 ≠ (j : Nat) := fun k hk e => hno (mem_at.2 ⟨k, hk, e⟩)
  have ha1 : 1 ≤ a := by
    rcases Nat.eq_zero_or_pos a with q | q
    · have := h3 0 (by omega) (by omega)
      have := hne 0 (by omega)
      omega
    · exact q
  have ha2 : a < l.length := by
    by_cases q : a < l.length
    · exact q
    · have := h2 (l.length - 1) (by omega)
      omega
  have := h3 a (Nat.le_refl _) ha2
  have := hne a ha2
  exact ⟨⟨ha1, ha2⟩, h2 (a - 1) (by omega), by omega⟩
theorem zik {n : Nat} {l : List Int} (hKp : KeptP n l) {j a : Nat} (hj : j < n) (hno : ¬ ((j : Nat) : Int) ∈ l) (hat : AtP l (j : Nat) a) : KeptP n (insL l a (j : Nat)) := by
  obtain ⟨⟨a1, a2⟩, a3, a4⟩ := at_in hKp hj hno hat
  have hlen := zb9 (l := l) (i := a) (x := (j : Nat)) (by omega)
  have hl2 := hKp.1
  refine ⟨by omega, ?_, ?_, fun i hi => ?_⟩
  · rw [zca (by omega), if_pos (by omega)]; exact hKp.2.1
  · rw [hlen, zca (by omega), if_neg (by omega), if_neg (by omega)]; exact hKp.2.2.1
  · rw [hlen] at hi
    rw [zca (by omega), zca (by omega)]
    by_cases q1 : i + 1 < a
    · rw [if_pos (by omega), if_pos q1]; exact hKp.2.2.2 i (by omega)
    · by_cases q2 : i + 1 = a
      · rw [if_pos (by omega), if_neg q1, if_pos q2]
        rw [show i = a - 1 by omega]; exact a3
      · by_cases q3 : i = a
        · rw [if_neg (by omega), if_pos q3, if_neg q1, if_neg q2, show i + 1 - 1 = a by omega]; exact a4
        · rw [if_neg (by omega), if_neg q3, if_neg q1, if_neg q2]
          have := hKp.2.2.2 (i - 1) (by omega)
          rw [show i - 1 + 1 = i by omega] at this
          rw [show i + 1 - 1 = i by omega]; exact this
theorem plc_un {l : List Int} {x : Int} {a c : Nat} (h1 : AtP l x a) (h2 : AtP l x c) : a = c := by
  rcases Nat.lt_trichotomy a c with q | q | q
  · have := h1.2.2 a (Nat.le_refl _) (by have := h2.1; omega)
    have := h2.2.1 a q
    omega
  · exact q
  · have := h2.2.2 c (Nat.le_refl _) (by have := h1.1; omega)
    have := h1.2.1 c q
    omega
theorem plc_ex {l : List Int} {x : Int} (hG : GrowP l) : ∃ a, AtP l x a := by
  have key : ∀ k, k ≤ l.length → (∃ a, AtP l x a) ∨ ∀ m, m < k → l.getD m 0 < x := by
    intro k
    induction k with
    | zero => intro _; exact .inr fun m hm => absurd hm (Nat.not_lt_zero _)
    | succ k ih =>
      intro hk
      rcases ih (by omega) with h | h
      · exact .inl h
      · by_cases hc : l.getD k 0 < x
        · refine .inr fun m hm => ?_
          by_cases q : m = k
          · subst q; exact hc
          · exact h m (by omega)
        · exact .inl ⟨k, by omega, h, fun m h1 h2 => by have := keptLe hG h1 h2; omega⟩
  rcases key l.length (Nat.le_refl _) with h | h
  · exact h
  · exact ⟨l.length, Nat.le_refl _, h, fun m h1 h2 => by omega⟩
set_option maxHeartbeats 2000000 in
theorem with_ok (hK : NoK K) (hI : KIn K) {T : Tb} {l : List Int} {b cap j a : Nat} {e : TypeId} {own : Bool} {h : Heap} (hG : GrowP l) (h0 : 0 < l.length) (hll : l.length ≤ 1000) (hat : AtP l (j : Nat) a) (hqb : ∀ x, T.q = some x → x.block < h.n) (hg : h.get? b = some (.cells (ints l) e own)) :
    CallW Tryz.prog K 87 #[ktV T (some ⟨b, 0, none⟩) l.length cap, .int .i64 (j : Nat)] h (IsK T (insL l a (j : Nat)) h) := by
  obtain ⟨q, kq, s, r, o⟩ := T
  dsimp only [ktV, IsK] at hqb ⊢
  have lb := Heap.get_lt hg
  refine body (N := 23) Tryz.func87 rfl (hK _ _ _ rfl) rfl rfl ?_
  (repeat' (first | apply zah | apply zad | (apply O_at; rfl) | (apply zag; rfl) | apply zaf | ((first | apply zae | apply zac); rfl; rfl; rfl; rfl) | (apply P_fa; rfl; rfl; rfl; rfl; exact zaU rfl; (first | exact Nat.zero_add _ | exact Nat.add_zero _ | rfl)) | (apply zan; rfl; rfl; rfl; rfl; exact zay rfl; (focus repeat' first | exact zaa | assumption | apply zab | (apply Ext.get; assumption) | (apply ExtBut.get; assumption; (first | assumption | omega | (simp only [Heap.push]; omega)))); (first | rfl | assumption)) | (apply za4; rfl; rfl; rfl; rfl; exact zak rfl; rfl; rfl) | (apply zbi; rfl; rfl; rfl; rfl; exact zak rfl; rfl; rfl) | fail))
  apply zaj; rfl; rfl; rfl; rfl; rfl; rfl; exact zkb hK hG hll (.inr ⟨_, _, _, rfl, zab (zab hg)⟩)
  rintro _ h2 ⟨a', f, rfl, hat', x2⟩
  obtain rfl := plc_un hat hat'
  have hal := hat.1
  have gk2 : h2.get? h.n = some (.cells [.slice q s.length kq, .int .i64 r, .int .i64 o, .slice (some ⟨b, 0, none⟩) l.length cap] 82 true) := x2.get (zab zaa)
  have gr2 : h2.get? (h.n + 1) = some (.cells [nilV, .int .i64 0, .int .i64 0, nilV] 82 true) := x2.get zaa
  have n2 := x2.n
  simp only [Heap.push] at n2
  (repeat' (first | apply zah | apply zad | (apply O_at; rfl) | (apply zag; rfl) | apply zaf | ((first | apply zae | apply zac); rfl; rfl; rfl; rfl) | (apply P_fa; rfl; rfl; rfl; rfl; exact zaU rfl; (first | exact Nat.zero_add _ | exact Nat.add_zero _ | rfl)) | (apply zba; rfl; rfl; rfl; rfl; rfl) | (apply zan; rfl; rfl; rfl; rfl; exact zay rfl; (focus repeat' first | exact zaa | assumption | apply zab | (apply Ext.get; assumption) | (apply ExtBut.get; assumption; (first | assumption | omega | (simp only [Heap.push]; omega)))); (first | rfl | assumption)) | fail))
  apply zaj; rfl; rfl; rfl; rfl; rfl; rfl; exact zix hK h0 hll (.inr ⟨_, _, _, rfl, x2.get (zab (zab hg))⟩)
  rintro _ h3 ⟨x3, b1, rfl, g1, hb1⟩
  have lb1 := Heap.get_lt g1
  have n3 := x3.n
  (repeat' (first | (apply O_at; rfl) | ((first | apply zae | apply zac); rfl; rfl; rfl; rfl) | (apply zbS; rfl; rfl; rfl; rfl; rfl; rfl; rfl; exact zbM rfl) | fail))
  apply zaj; rfl; rfl; rfl; rfl; rfl; rfl; exact zkR hI (zab g1) zaa (by omega) hal h0 hll
  rintro _ h4 ⟨rfl, g4, x4⟩
  have n4 := x4.n
  simp only [Heap.push] at n4 g4
  have gk4 := x4.get (show h.n ≠ b1 by omega) (zab (x3.get gk2))
  have gr4 := x4.get (show h.n + 1 ≠ b1 by omega) (zab (x3.get gr2))
  (repeat' (first | (apply O_at; rfl) | (apply P_fa; rfl; rfl; rfl; rfl; exact zaU rfl; (first | exact Nat.zero_add _ | exact Nat.add_zero _ | rfl)) | fail))
  refine P_storeC (c' := [.slice q s.length kq, .int .i64 r, .int .i64 o, .slice (some ⟨h3.n + 1, 0, none⟩) (l.length + 1) unk]) rfl rfl rfl rfl gk4 (zak rfl) rfl (Nat.le_of_ble_eq_true rfl) rfl rfl ?_
  intro h5 gk5 x5
  have n5 := x5.n
  have gr5 := x5.get (show h.n + 1 ≠ h.n by omega) gr4
  (repeat' (first | apply zah | apply zad | (apply O_at; rfl) | (apply zag; rfl) | apply zaf | apply zav | apply zaw | (apply zaF; rfl; rfl; rfl; rfl; exact za6 rfl; (focus repeat' first | exact zaa | assumption | apply zab | (apply Ext.get; assumption) | (apply ExtBut.get; assumption; (first | assumption | omega | (simp only [Heap.push]; omega)))); (first | exact Nat.le_of_ble_eq_true rfl | (simp; done) | (simp; omega)); rfl) | (apply zc9; rfl; rfl; rfl; rfl; (focus repeat' first | exact zaa | assumption | apply zab | (apply Ext.get; assumption) | (apply ExtBut.get; assumption; (first | assumption | omega | (simp only [Heap.push]; omega)))); exact zak rfl; rfl; (first | rfl | exact zau _); rfl; (intro _ _ _)) | fail))
  rename_i h6 g6 x6
  replace x6 : ExtBut (h.n + 1) h5 h6 := x6
  refine ⟨.inr rfl, _, zkn rfl (readA (za6 rfl) g6 (Nat.le_of_ble_eq_true rfl) rfl) rfl, h3.n + 1, ?_, x6.get (by omega) (x5.get (by omega) g4), by omega, ?_⟩
  · rw [zb9 hal]; rfl
  · exact Ext.ofBut (Ext.ofBut (Ext.ofBut ((((((Ext.refl h).push _).push _).trans x2).trans x3).push _) x4 (by omega)) x5 (Nat.le_refl _)) x6 (Nat.le_succ _)
/-- Such a list, as it is built row by row. -/
theorem zkS {l : List Int} {a i : Nat} {x : Int} (h : a ≤ l.length) (hi : i < l.length) : (if i = a then (if i ≤ a then l.take i else (insL l a x).take (i + 1)) ++ [x] else (if i ≤ a then l.take i else (insL l a x).take (i + 1))) ++ [l.getD i 0] = if i + 1 ≤ a then l.take (i + 1) else (insL l a x).take (i + 2) := by
  have e1 : l.take (i + 1) = l.take i ++ [l.getD i 0] := by
    rw [List.take_succ_eq_append_getElem hi]
    simp [List.getD_eq_getElem?_getD, hi]
  have hlen := zb9 (x := x) h
  have e2 : ∀ k, k < (insL l a x).length → (insL l a x).take (k + 1) = (insL l a x).take k ++ [(insL l a x).getD k 0] := fun k hk => by
    rw [List.take_succ_eq_append_getElem hk]
    simp [List.getD_eq_getElem?_getD, hk]
  by_cases q1 : i = a
  · subst q1
    rw [if_pos rfl, if_pos (Nat.le_refl _), if_neg (by omega), e2 (i + 1) (by omega), e2 i (by omega), zca h, zca h, if_neg (by omega), if_pos rfl, if_neg (by omega), if_neg (by omega), Nat.add_sub_cancel]
    congr 2
    unfold insL
    rw [List.take_append_of_le_length (by rw [List.length_take]; omega), List.take_take, Nat.min_self]
  · rw [if_neg q1]
    by_cases q2 : i + 1 ≤ a
    · rw [if_pos (by omega), if_pos q2, e1]
    · rw [if_neg (by omega), if_neg q2, e2 (i + 1) (by omega), zca h (i + 1), if_neg (by omega), if_neg (by omega), Nat.add_sub_cancel]
def wiK (l : List Int) (a : Nat) (x : Int) (i : Nat) : List Int := if i ≤ a then l.take i else (insL l a x).take (i + 1)
theorem wiK_next {l : List Int} {a i : Nat} {x : Int} (h : a ≤ l.length) (hi : i < l.length) : (if i = a then wiK l a x i ++ [x] else wiK l a x i) ++ [l.getD i 0] = wiK l a x (i + 1) := zkS h hi
theorem wiK_len {l : List Int} {a i : Nat} {x : Int} (h : a ≤ l.length) : (wiK l a x i).length ≤ l.length + 1 := by
  unfold wiK
  split
  · rw [List.length_take]; omega
  · rw [List.length_take, zb9 h]; omega
set_option maxHeartbeats 1000000 in
theorem zjf (hK : NoK K) {n : Nat} {l : List Int} {p : Option Addr} {cap j a : Nat} {h : Heap} (hKp : KeptP n l) (hj : j < n) (hno : ¬ ((j : Nat) : Int) ∈ l) (hll : l.length ≤ 1000) (hat : AtP l (j : Nat) a) (hr : Rd h p (ints l)) :
    CallW Tryz.prog K 51 #[.slice p l.length cap, .int .i64 (j : Nat)] h (fun v h1 => OutI 3 h h1 v (insL l a (j : Nat)) ∧ Ext h h1) := by
  obtain ⟨⟨a1, a2⟩, a3, a4⟩ := at_in hKp hj hno hat
  have hl2 := hKp.1
  obtain ⟨b, e, own, rfl, hg⟩ := hr.at (by rw [zau]; omega)
  refine body (N := 44) Tryz.func51 rfl (hK _ _ _ rfl) rfl rfl ?_
  (repeat' (first | apply zah | apply zad | (apply O_at; rfl) | (apply zag; rfl) | apply zaf | apply zal | ((first | apply zae | apply zac); rfl; rfl; rfl; rfl) | fail))
  refine zaT (fun x : Nat × Value => [(6, .int .i64 (x.1 : Nat)), (5, x.2), (1, .int .i64 (j : Nat)), (0, .slice (some ⟨b, 0, none⟩) l.length cap)])
    (fun x h' => x.1 ≤ l.length ∧ Ext h h' ∧ OutI 3 h h' x.2 (wiK l a (j : Nat) x.1)) (fun x => l.length - x.1) ?_ (0, nilV) ?_ ?_
  · rintro ⟨i, v⟩ h' ⟨hi, hx, ho⟩ ih
    dsimp only at hi hx ho ih ⊢
    have hg' := hx.get hg
    have hwl := wiK_len (i := i) (x := ((j : Nat) : Int)) hat.1
    by_cases hlt : i < l.length
    · have hnx := wiK_next (x := ((j : Nat) : Int)) hat.1 hlt
      by_cases q1 : i = a
      · subst q1
        rw [if_pos rfl] at hnx
        have hz : ((i : Nat) : Int) - 1 = ((i - 1 : Nat) : Int) := by omega
        (repeat' (first | apply zah | apply zad | (apply O_at; rfl) | (apply zag; rfl) | apply zaf | (apply zaE; rfl) | apply zal | apply zat | apply zap | ((first | apply zae | apply zac); rfl; rfl; rfl; rfl) | (apply zaN; rfl; rfl; rfl; rfl; rfl; rfl; exact zao rfl) | (apply zaJ; rfl; rfl; rfl; rfl; rfl; rfl) | (apply zaA; rfl; rfl; rfl; rfl; rfl; omega) | (apply zes; rfl; rfl; rfl; rfl; rfl; omega) | (apply zbR; rfl; rfl; rfl; rfl; rfl; omega) | (apply zaV; rfl; rfl; rfl; rfl; rfl; (unfold fit; omega)) | (apply zc8; rfl; rfl; rfl; rfl; rfl; (unfold fit; omega)) | (apply zbh; rfl; rfl; rfl; rfl; rfl; exact zao rfl; exact zak rfl; (first | assumption | rfl | exact (Int.toNat_of_nonneg (by omega)).symm); omega) | (apply zan; rfl; rfl; rfl; rfl; exact zay rfl; (focus repeat' first | exact zaa | assumption | (apply Ext.get; assumption)); (first | exact zar (by omega) | rfl | assumption)) | (apply zbS; rfl; rfl; rfl; rfl; rfl; rfl; rfl; exact zbM rfl) | (apply zet; rfl; rfl; rfl; rfl; rfl; rfl; rfl; rfl; exact zbM rfl; exact zao rfl; (focus repeat' first | exact zaa | assumption | (apply Ext.get; assumption)); (apply OutI.ext; assumption; (focus repeat' first | exact Ext.refl _ | assumption | apply Ext.push)); (focus repeat' first | exact Ext.refl _ | assumption | apply Ext.push); (first | omega | (simp; omega)); (intro _ _ _ _)) | fail))
        rename_i v1 h1 o1 y1 v2 h2 o2 y2
        rw [hnx] at o2
        exact zax (ih (i + 1, v2) _ (by dsimp only; omega) ⟨hlt, y2, o2⟩) (by (focus repeat' first | rfl | exact trivial | apply And.intro))
      · rw [if_neg q1] at hnx
        by_cases q2 : i < a
        · have c1 := hat.2.1 i q2
          (repeat' (first | apply zah | apply zad | (apply O_at; rfl) | (apply zag; rfl) | apply zaf | (apply zaE; rfl) | (apply zaG; rfl) | apply zal | apply zat | apply zap | (apply zbj; rfl; rfl; rfl) | ((first | apply zae | apply zac); rfl; rfl; rfl; rfl) | (apply zaN; rfl; rfl; rfl; rfl; rfl; rfl; exact zao rfl) | (apply zaJ; rfl; rfl; rfl; rfl; rfl; rfl) | (apply zaA; rfl; rfl; rfl; rfl; rfl; omega) | (apply zda; rfl; rfl; rfl; rfl; rfl; omega) | (apply zaV; rfl; rfl; rfl; rfl; rfl; (unfold fit; omega)) | (apply zbh; rfl; rfl; rfl; rfl; rfl; exact zao rfl; exact zak rfl; (first | assumption | rfl | exact (Int.toNat_of_nonneg (by omega)).symm); omega) | (apply zan; rfl; rfl; rfl; rfl; exact zay rfl; (focus repeat' first | exact zaa | assumption | (apply Ext.get; assumption)); (first | exact zar (by omega) | rfl | assumption)) | (apply zbS; rfl; rfl; rfl; rfl; rfl; rfl; rfl; exact zbM rfl) | (apply zet; rfl; rfl; rfl; rfl; rfl; rfl; rfl; rfl; exact zbM rfl; exact zao rfl; (focus repeat' first | exact zaa | assumption | (apply Ext.get; assumption)); (apply OutI.ext; assumption; (focus repeat' first | exact Ext.refl _ | assumption | apply Ext.push)); (focus repeat' first | exact Ext.refl _ | assumption | apply Ext.push); (first | omega | (simp; omega)); (intro _ _ _ _)) | fail))
          rename_i v2 h2 o2 y2
          rw [hnx] at o2
          exact zax (ih (i + 1, v2) _ (by dsimp only; omega) ⟨hlt, y2, o2⟩) (by (focus repeat' first | rfl | exact trivial | apply And.intro))
        · have c1 := keptLe hKp.2.2.2 (show a ≤ i by omega) hlt
          have c2 := keptLe hKp.2.2.2 (show a ≤ i - 1 by omega) (by omega)
          have hz : ((i : Nat) : Int) - 1 = ((i - 1 : Nat) : Int) := by omega
          (repeat' (first | apply zah | apply zad | (apply O_at; rfl) | (apply zag; rfl) | apply zaf | (apply zaE; rfl) | (apply zaG; rfl) | apply zal | apply zat | apply zap | ((first | apply zae | apply zac); rfl; rfl; rfl; rfl) | (apply zaN; rfl; rfl; rfl; rfl; rfl; rfl; exact zao rfl) | (apply zaJ; rfl; rfl; rfl; rfl; rfl; rfl) | (apply zaR; rfl; rfl; rfl; rfl; rfl; omega) | (apply zaA; rfl; rfl; rfl; rfl; rfl; omega) | (apply zes; rfl; rfl; rfl; rfl; rfl; omega) | (apply zbR; rfl; rfl; rfl; rfl; rfl; omega) | (apply zaV; rfl; rfl; rfl; rfl; rfl; (unfold fit; omega)) | (apply zc8; rfl; rfl; rfl; rfl; rfl; (unfold fit; omega)) | (apply zbh; rfl; rfl; rfl; rfl; rfl; exact zao rfl; exact zak rfl; (first | assumption | rfl | exact (Int.toNat_of_nonneg (by omega)).symm); omega) | (apply zan; rfl; rfl; rfl; rfl; exact zay rfl; (focus repeat' first | exact zaa | assumption | (apply Ext.get; assumption)); (first | exact zar (by omega) | rfl | assumption)) | (apply zbS; rfl; rfl; rfl; rfl; rfl; rfl; rfl; exact zbM rfl) | (apply zet; rfl; rfl; rfl; rfl; rfl; rfl; rfl; rfl; exact zbM rfl; exact zao rfl; (focus repeat' first | exact zaa | assumption | (apply Ext.get; assumption)); (apply OutI.ext; assumption; (focus repeat' first | exact Ext.refl _ | assumption | apply Ext.push)); (focus repeat' first | exact Ext.refl _ | assumption | apply Ext.push); (first | omega | (simp; omega)); (intro _ _ _ _)) | fail))
          rename_i v2 h2 o2 y2
          rw [hnx] at o2
          exact zax (ih (i + 1, v2) _ (by dsimp only; omega) ⟨hlt, y2, o2⟩) (by (focus repeat' first | rfl | exact trivial | apply And.intro))
    · obtain rfl : i = l.length := by omega
      have hfin : wiK l a (j : Nat) l.length = insL l a (j : Nat) := by
        unfold wiK
        rw [if_neg (by omega), List.take_of_length_le (by rw [zb9 hat.1]; exact Nat.le_refl _)]
      rw [hfin] at ho
      (repeat' (first | apply zah | apply zad | (apply O_at; rfl) | (apply zag; rfl) | apply zaf | (apply zaG; rfl) | apply za2 | apply zav | apply za3 | apply zaI | apply zaM | apply zaw | ((first | apply zae | apply zac); rfl; rfl; rfl; rfl) | (apply zaN; rfl; rfl; rfl; rfl; rfl; rfl; exact zao rfl) | (apply zaR; rfl; rfl; rfl; rfl; rfl; omega) | fail))
      exact ⟨.inr rfl, _, rfl, ho, by (focus repeat' first | exact Ext.refl _ | assumption | apply Ext.push)⟩
  · refine ⟨Nat.zero_le _, Ext.refl _, ?_⟩
    show OutI 3 h h nilV (wiK l a (j : Nat) 0)
    have e0 : wiK l a (j : Nat) 0 = [] := by unfold wiK; rw [if_pos (Nat.zero_le _)]; rfl
    rw [e0]; exact OutI.nil _ _ _
  · (focus repeat' first | rfl | exact trivial | apply And.intro)
end Go.AX.Sa

namespace Go.AX.Sa
open Go.Proofs
set_option maxRecDepth 100000
variable {K : Known}
/-! How many rows may be wrong when a row is kept, too; the best of such rows. -/
noncomputable instance plcDec (l : List Int) (x : Int) : Decidable (∃ a, AtP l x a) := Classical.propDecidable _
noncomputable def plc (l : List Int) (x : Int) : Nat := if h : ∃ a, AtP l x a then Classical.choose h else 0
theorem zh6 {l : List Int} (hG : GrowP l) (x : Int) : AtP l x (plc l x) := by
  unfold plc
  rw [dif_pos (plc_ex hG)]
  exact Classical.choose_spec (plc_ex (x := x) hG)
noncomputable def ins (l : List Int) (j : Nat) : List Int := insL l (plc l (j : Nat)) (j : Nat)
noncomputable def cntD (s : List (Int × Int)) (l : List Int) (r o : Int) (j : Nat) : Int := ((dbts s (ins l j) r o s.length).length : Nat)
noncomputable def rstL (s : List (Int × Int)) (l : List Int) (r o : Int) : Nat → List (Int × Int)
  | 0 => []
  | k + 1 => if ((k : Nat) : Int) ∈ l then rstL s l r o k else rstL s l r o k ++ [(((k : Nat) : Int), cntD s l r o k)]
/-- The first of the best ones, of so many. -/
def bl (L : List (Int × Int)) : Nat → Int × Int
  | 0 => (0, 0)
  | i + 1 => if i = 0 ∨ (L.getD i (0, 0)).2 < (bl L i).2 then L.getD i (0, 0) else bl L i
theorem bl_pre {L : List (Int × Int)} {x : Int × Int} : ∀ i, i ≤ L.length → bl (L ++ [x]) i = bl L i := by
  intro i
  induction i with
  | zero => intro _; rfl
  | succ i ih =>
    intro hi
    have e : (L ++ [x]).getD i (0, 0) = L.getD i (0, 0) := by
      rw [List.getD_eq_getElem?_getD, List.getElem?_append_left (by omega), ← List.getD_eq_getElem?_getD]
    show (if i = 0 ∨ ((L ++ [x]).getD i (0, 0)).2 < (bl (L ++ [x]) i).2 then (L ++ [x]).getD i (0, 0) else bl (L ++ [x]) i) = _
    rw [ih (by omega), e]
    rfl
theorem bl_app (L : List (Int × Int)) (x : Int × Int) : bl (L ++ [x]) (L ++ [x]).length = if L.length = 0 ∨ x.2 < (bl L L.length).2 then x else bl L L.length := by
  have e : (L ++ [x]).getD L.length (0, 0) = x := by
    rw [List.getD_eq_getElem?_getD, List.getElem?_append_right (Nat.le_refl _), Nat.sub_self]; rfl
  rw [List.length_append]
  show (if L.length = 0 ∨ ((L ++ [x]).getD L.length (0, 0)).2 < (bl (L ++ [x]) L.length).2 then (L ++ [x]).getD L.length (0, 0) else bl (L ++ [x]) L.length) = _
  rw [bl_pre _ (Nat.le_refl _), e]
theorem fill_rs (a b : Int) : fillB Tryz.prog 101 [(0, .int .i64 a), (1, .int .i64 b)] = some (.agg #[.int .i64 a, .int .i64 b]) := by kernel_rfl
theorem c2r : cell2 Tryz.prog 98 = some 101 := by kernel_rfl
theorem zgG (hK : NoK K) {a b c d : Int} {h : Heap} : CallW Tryz.prog K 89 #[.agg #[.int .i64 a, .int .i64 b], .agg #[.int .i64 c, .int .i64 d]] h (IfB (b < d) h) := by
  refine body (N := 10) Tryz.func89 rfl (hK _ _ _ rfl) rfl rfl ?_
  by_cases hc : b < d
  · (repeat' (first | apply zah | apply zad | (apply O_at; rfl) | (apply zag; rfl) | apply zaf | apply zav | apply zaw | (apply zac; rfl; rfl; rfl; rfl) | (apply P_fa; rfl; rfl; rfl; rfl; exact zaU rfl; (first | exact Nat.zero_add _ | exact Nat.add_zero _ | rfl)) | (apply zaA; rfl; rfl; rfl; rfl; rfl; omega) | (apply zan; rfl; rfl; rfl; rfl; exact zay rfl; (focus repeat' first | exact zaa | assumption | apply zab); (first | rfl | assumption)) | (apply za4; rfl; rfl; rfl; rfl; exact zak rfl; rfl; rfl) | fail))
    exact ⟨.inr rfl, _, rfl, .inl ⟨rfl, hc, by (focus repeat' first | exact Ext.refl _ | assumption | apply Ext.push)⟩⟩
  · (repeat' (first | apply zah | apply zad | (apply O_at; rfl) | (apply zag; rfl) | apply zaf | apply zav | apply zaw | (apply zac; rfl; rfl; rfl; rfl) | (apply P_fa; rfl; rfl; rfl; rfl; exact zaU rfl; (first | exact Nat.zero_add _ | exact Nat.add_zero _ | rfl)) | (apply zaR; rfl; rfl; rfl; rfl; rfl; omega) | (apply zan; rfl; rfl; rfl; rfl; exact zay rfl; (focus repeat' first | exact zaa | assumption | apply zab); (first | rfl | assumption)) | (apply za4; rfl; rfl; rfl; rfl; exact zak rfl; rfl; rfl) | fail))
    exact ⟨.inr rfl, _, rfl, .inr ⟨rfl, hc, by (focus repeat' first | exact Ext.refl _ | assumption | apply Ext.push)⟩⟩
set_option maxHeartbeats 1000000 in
theorem best_ok (hK : NoK K) {L : List (Int × Int)} {p : Option Addr} {cap : Nat} {h : Heap} (hl : L.length ≤ 1000) (hr : Rd h p (spanCells L)) :
    CallW Tryz.prog K 88 #[.slice p L.length cap, .func (.func 89) #[] #[]] h (fun v h1 => v = .agg #[.int .i64 (bl L L.length).1, .int .i64 (bl L L.length).2] ∧ Ext h h1) := by
  refine body (N := 26) Tryz.func88 rfl (hK _ _ _ rfl) rfl rfl ?_
  (repeat' (first | apply zah | apply zad | (apply O_at; rfl) | (apply zag; rfl) | apply zaf | apply zal | ((first | apply zae | apply zac); rfl; rfl; rfl; rfl) | (apply zaN; rfl; rfl; rfl; rfl; rfl; rfl; exact zao rfl) | (apply zbi; rfl; rfl; rfl; rfl; exact zak rfl; rfl; rfl) | fail))
  refine zaT (fun k : Nat => [(10, .int .i64 (k : Nat)), (9, .int .i64 (L.length : Nat)), (8, .slice p L.length cap), (5, .pointer (some ⟨h.n + 1, 0, none⟩)), (4, .pointer (some ⟨h.n, 0, none⟩)), (1, .func (.func 89) #[] #[])])
    (fun k h' => k ≤ L.length ∧ ExtBut (h.n + 1) ((h.push (.cells [.int .i64 0, .int .i64 0] 101 true)).push (.cells [.int .i64 0, .int .i64 0] 101 true)) h' ∧ h'.get? (h.n + 1) = some (.cells [.int .i64 (bl L k).1, .int .i64 (bl L k).2] 101 true)) (fun k => L.length - k) ?_ 0 ⟨Nat.zero_le _, ExtBut.refl _ _, zaa⟩ ?_
  · rintro k h' ⟨hk, hx, hb⟩ ih
    have n' := hx.n
    simp only [Heap.push] at n'
    by_cases hlt : k < L.length
    · obtain ⟨b, e, own, rfl, hg⟩ := hr.at (by rw [zai]; omega)
      have lb := Heap.get_lt hg
      have hg' := hx.get (by omega) (zab (zab hg))
      have hbl : bl L (k + 1) = if k = 0 ∨ (L.getD k (0, 0)).2 < (bl L k).2 then L.getD k (0, 0) else bl L k := rfl
      by_cases hk0 : k = 0
      · subst hk0
        rw [if_pos (.inl rfl)] at hbl
        (repeat' (first | apply zah | apply zad | (apply O_at; rfl) | (apply zag; rfl) | apply zaf | (apply zaE; rfl) | apply zal | apply zat | apply zap | (apply zbj; rfl; rfl; rfl) | ((first | apply zae | apply zac); rfl; rfl; rfl; rfl) | (apply zaJ; rfl; rfl; rfl; rfl; rfl; rfl) | (apply zaA; rfl; rfl; rfl; rfl; rfl; omega) | (apply zbC; rfl; rfl; rfl; rfl; rfl; omega) | (apply zaV; rfl; rfl; rfl; rfl; rfl; (unfold fit; omega)) | (apply zch; rfl; rfl; rfl; rfl; rfl; exact zao rfl; exact zak rfl; (first | assumption | exact zq0 | rfl | exact (Int.toNat_of_nonneg (by omega)).symm); omega) | (apply zaF; rfl; rfl; rfl; rfl; exact za6 rfl; (focus repeat' first | exact zaa | assumption | apply zab | (apply Ext.get; assumption) | (apply ExtBut.get; assumption; (first | assumption | omega | (simp only [Heap.push]; omega)))); (first | exact Nat.le_of_ble_eq_true rfl | (simp; done) | (simp; omega) | (rw [zai]; omega)); (first | exact zaB (by omega) | rfl)) | (apply zaX; rfl; rfl; rfl; rfl; exact zak rfl; rfl; rfl; rfl) | (apply zbi; rfl; rfl; rfl; rfl; exact zak rfl; rfl; rfl) | (apply zc9; rfl; rfl; rfl; rfl; (focus repeat' first | exact zaa | assumption | apply zab | (apply Ext.get; assumption) | (apply ExtBut.get; assumption; (first | assumption | omega | (simp only [Heap.push]; omega)))); exact zak rfl; rfl; (first | rfl | exact zau _); rfl; (intro _ _ _)) | fail))
        rename_i h4 g4 x4
        refine zax (ih 1 _ (by omega) ⟨hlt, (hx.trans (Ext.but (Ext.push (Ext.refl _) _) _)).trans x4, ?_⟩) (by (focus repeat' first | rfl | exact trivial | apply And.intro))
        rw [hbl]; exact g4
      · by_cases hc : (L.getD k (0, 0)).2 < (bl L k).2
        · rw [if_pos (.inr hc)] at hbl
          (repeat' (first | apply zah | apply zad | (apply O_at; rfl) | (apply zag; rfl) | apply zaf | (apply zaE; rfl) | apply zal | apply zat | apply zap | ((first | apply zae | apply zac); rfl; rfl; rfl; rfl) | (apply zaJ; rfl; rfl; rfl; rfl; rfl; rfl) | (apply zaA; rfl; rfl; rfl; rfl; rfl; omega) | (apply zbR; rfl; rfl; rfl; rfl; rfl; omega) | (apply zaV; rfl; rfl; rfl; rfl; rfl; (unfold fit; omega)) | (apply zch; rfl; rfl; rfl; rfl; rfl; exact zao rfl; exact zak rfl; (first | assumption | exact zq0 | rfl | exact (Int.toNat_of_nonneg (by omega)).symm); omega) | (apply zaF; rfl; rfl; rfl; rfl; exact za6 rfl; (focus repeat' first | exact zaa | assumption | apply zab | (apply Ext.get; assumption) | (apply ExtBut.get; assumption; (first | assumption | omega | (simp only [Heap.push]; omega)))); (first | exact Nat.le_of_ble_eq_true rfl | (simp; done) | (simp; omega) | (rw [zai]; omega)); (first | exact zaB (by omega) | rfl)) | (apply zaX; rfl; rfl; rfl; rfl; exact zak rfl; rfl; rfl; rfl) | (apply zbi; rfl; rfl; rfl; rfl; exact zak rfl; rfl; rfl) | (apply zc9; rfl; rfl; rfl; rfl; (focus repeat' first | exact zaa | assumption | apply zab | (apply Ext.get; assumption) | (apply ExtBut.get; assumption; (first | assumption | omega | (simp only [Heap.push]; omega)))); exact zak rfl; rfl; (first | rfl | exact zau _); rfl; (intro _ _ _)) | (apply zaj; rfl; rfl; rfl; rfl; rfl; rfl; exact yes (zgG hK) hc; (rintro _ _ ⟨rfl, _⟩)) | fail))
          rename_i h3 x3 h4 g4 x4
          refine zax (ih (k + 1) _ (by omega) ⟨hlt, (hx.trans (Ext.but ((Ext.push (Ext.refl _) _).trans x3) _)).trans x4, ?_⟩) (by (focus repeat' first | rfl | exact trivial | apply And.intro))
          rw [hbl]; exact g4
        · rw [if_neg (by omega)] at hbl
          (repeat' (first | apply zah | apply zad | (apply O_at; rfl) | (apply zag; rfl) | apply zaf | (apply zaE; rfl) | (apply zaG; rfl) | apply zal | apply zat | apply zap | ((first | apply zae | apply zac); rfl; rfl; rfl; rfl) | (apply zaJ; rfl; rfl; rfl; rfl; rfl; rfl) | (apply zaA; rfl; rfl; rfl; rfl; rfl; omega) | (apply zbR; rfl; rfl; rfl; rfl; rfl; omega) | (apply zaV; rfl; rfl; rfl; rfl; rfl; (unfold fit; omega)) | (apply zch; rfl; rfl; rfl; rfl; rfl; exact zao rfl; exact zak rfl; (first | assumption | exact zq0 | rfl | exact (Int.toNat_of_nonneg (by omega)).symm); omega) | (apply zaF; rfl; rfl; rfl; rfl; exact za6 rfl; (focus repeat' first | exact zaa | assumption | apply zab | (apply Ext.get; assumption) | (apply ExtBut.get; assumption; (first | assumption | omega | (simp only [Heap.push]; omega)))); (first | exact Nat.le_of_ble_eq_true rfl | (simp; done) | (simp; omega) | (rw [zai]; omega)); (first | exact zaB (by omega) | rfl)) | (apply zaX; rfl; rfl; rfl; rfl; exact zak rfl; rfl; rfl; rfl) | (apply zbi; rfl; rfl; rfl; rfl; exact zak rfl; rfl; rfl) | (apply zaj; rfl; rfl; rfl; rfl; rfl; rfl; exact no (zgG hK) hc; (rintro _ _ ⟨rfl, _⟩)) | fail))
          rename_i h3 x3
          refine zax (ih (k + 1) _ (by omega) ⟨hlt, hx.trans (Ext.but ((Ext.push (Ext.refl _) _).trans x3) _), ?_⟩) (by (focus repeat' first | rfl | exact trivial | apply And.intro))
          rw [hbl]; exact x3.get (zab hb)
    · obtain rfl : k = L.length := by omega
      have hr' : h'.get? h.n = some (.cells [.int .i64 0, .int .i64 0] 101 true) := hx.get (by omega) (zab zaa)
      (repeat' (first | apply zah | apply zad | (apply O_at; rfl) | (apply zag; rfl) | apply zaf | (apply zaG; rfl) | apply za2 | apply zav | apply za3 | apply zaI | apply zaM | apply zaw | (apply zaR; rfl; rfl; rfl; rfl; rfl; omega) | (apply zaF; rfl; rfl; rfl; rfl; exact za6 rfl; (focus repeat' first | exact zaa | assumption | apply zab | (apply Ext.get; assumption) | (apply ExtBut.get; assumption; (first | assumption | omega | (simp only [Heap.push]; omega)))); (first | exact Nat.le_of_ble_eq_true rfl | (simp; done) | (simp; omega) | (rw [zai]; omega)); (first | exact zaB (by omega) | rfl)) | (apply zc9; rfl; rfl; rfl; rfl; (focus repeat' first | exact zaa | assumption | apply zab | (apply Ext.get; assumption) | (apply ExtBut.get; assumption; (first | assumption | omega | (simp only [Heap.push]; omega)))); exact zak rfl; rfl; (first | rfl | exact zau _); rfl; (intro _ _ _)) | fail))
      rename_i h4 g4 x4
      exact ⟨.inr rfl, _, zkn rfl (readA (za6 rfl) g4 (Nat.le_of_ble_eq_true rfl) rfl) rfl, rfl, Ext.ofBut (Ext.ofBut (((Ext.refl h).push _).push _) hx (Nat.le_succ _)) x4 (Nat.le_refl _)⟩
  · (focus repeat' first | rfl | exact trivial | apply And.intro)
end Go.AX.Sa

namespace Go.AX.Sa
open Go.Proofs
set_option maxRecDepth 100000
variable {K : Known}
/-! Which row should be kept, too: the program's. -/
section
variable {s : List (Int × Int)} {l : List Int} {r o : Int}
theorem zdG {k : Nat} (h : ((k : Nat) : Int) ∈ l) : rstL s l r o (k + 1) = rstL s l r o k := if_pos h
theorem zfb {k : Nat} (h : ¬ ((k : Nat) : Int) ∈ l) : rstL s l r o (k + 1) = rstL s l r o k ++ [(((k : Nat) : Int), cntD s l r o k)] := if_neg h
theorem rstL_len : ∀ k, (rstL s l r o k).length ≤ k := by
  intro k
  induction k with
  | zero => exact Nat.le_refl _
  | succ k ih =>
    by_cases h : ((k : Nat) : Int) ∈ l
    · rw [zdG h]; omega
    · rw [zfb h, List.length_append]; simp only [List.length_cons, List.length_nil]; omega
end
section
variable {T : Tb} {l : List Int} {h : Heap}
set_option maxHeartbeats 4000000 in
theorem add_ok (hK : NoK K) (hI : KIn K) {p : Option Addr} {cap : Nat} (hP : TbP T) (hKp : KeptP T.s.length l) (hll : l.length ≤ 100) (hTb : TbAt T h) (hr : Rd h p (ints l)) (hpb : ∀ a, p = some a → a.block < h.n) :
    CallW Tryz.prog K 49 #[tbV T, .slice p l.length cap] h (IsV (if (rstL T.s l T.r T.o T.s.length).length = 0 then .tuple #[.int .i64 0, .int .i64 0, .int .i64 5] else .tuple #[.int .i64 (bl (rstL T.s l T.r T.o T.s.length) (rstL T.s l T.r T.o T.s.length).length).1, .int .i64 (bl (rstL T.s l T.r T.o T.s.length) (rstL T.s l T.r T.o T.s.length).length).2, .int .i64 0]) h) := by
  have hn := hP.1
  have hl2 := hKp.1
  have hG := hKp.2.2.2
  obtain ⟨b, e, own, rfl, hg⟩ := hr.at (by rw [zau]; omega)
  have iK : ∀ {h' : Heap}, Ext h h' → CallW Tryz.prog K 63 #[ktV T (some ⟨b, 0, none⟩) l.length cap] h' (IsV (.bool true) h') := fun x => yes (zgn hK (by omega) (by omega) (hTb.ext x) (hr.ext x) (fun a w => Nat.lt_of_lt_of_le (hpb a w) x.n)) ⟨hP, hKp⟩
  have iW : ∀ {j : Nat} {h' : Heap}, Ext h h' → CallW Tryz.prog K 87 #[ktV T (some ⟨b, 0, none⟩) l.length cap, .int .i64 (j : Nat)] h' (IsK T (ins l j) h') := fun {j} _ x => with_ok hK hI hG (by omega) (by omega) (zh6 hG _) (hTb.ext x).b (x.get hg)
  have iD : ∀ {j bw : Nat} {h' : Heap}, j < T.s.length → ¬ ((j : Nat) : Int) ∈ l → h'.get? bw = some (.cells (ints (ins l j)) 3 true) → Ext h h' → CallW Tryz.prog K 77 #[ktV T (some ⟨bw, 0, none⟩) (ins l j).length unk] h' (IsL (dbts T.s (ins l j) T.r T.o T.s.length) h') := fun {j} _ _ hj hno g x => by
    have hat := zh6 hG (j : Nat)
    have hlen : (ins l j).length = l.length + 1 := zb9 hat.1
    exact zk6 hK hP (zik hKp hj hno hat) (by unfold unk; omega) (by omega) (hTb.ext x) g
  obtain ⟨q, kq, s, r, o⟩ := T
  have hqb : ∀ a, q = some a → a.block < h.n := hTb.b
  dsimp only [tbV, ktV, IsK] at iK iW iD hn hKp hqb ⊢
  refine body (N := 47) Tryz.func49 rfl (hK _ _ _ rfl) rfl rfl ?_
  (repeat' (first | apply zah | apply zad | (apply O_at; rfl) | (apply zag; rfl) | apply zaf | (apply zaG; rfl) | apply zal | apply zat | ((first | apply zae | apply zac | apply zbf | apply zaD); rfl; rfl; rfl; rfl) | ((first | apply P_fa | apply M_fa); rfl; rfl; rfl; rfl; exact zaU rfl; (first | exact Nat.zero_add _ | exact Nat.add_zero _ | rfl)) | (apply zaN; rfl; rfl; rfl; rfl; rfl; rfl; exact zao rfl) | (apply zan; rfl; rfl; rfl; rfl; exact zay rfl; (focus repeat' first | exact zaa | assumption | apply zab | (apply Ext.get; assumption)); (first | rfl | assumption)) | (apply zaF; rfl; rfl; rfl; rfl; exact za6 rfl; (focus repeat' first | exact zaa | assumption | apply zab | (apply Ext.get; assumption)); (first | exact Nat.le_of_ble_eq_true rfl | (simp; done) | (simp; omega) | (rw [zau]; omega)); rfl) | (apply zaX; rfl; rfl; rfl; rfl; exact zak rfl; rfl; rfl; rfl) | (apply zeY; rfl; rfl; rfl; rfl) | (apply za4; rfl; rfl; rfl; rfl; exact zak rfl; rfl; rfl) | (apply zbi; rfl; rfl; rfl; rfl; exact zak rfl; rfl; rfl) | (apply zaj; rfl; rfl; rfl; rfl; rfl; rfl; exact iK (by (focus repeat' first | exact Ext.refl _ | assumption | apply Ext.push | (refine Ext.trans ?_ (by assumption)))); (rintro _ _ ⟨rfl, _⟩)) | fail))
  rename_i h1 x1
  have e1 : Ext h h1 := (((Ext.refl h).push _).push _).trans x1
  have gt1 : h1.get? h.n = some (.cells [.slice q s.length kq, .int .i64 r, .int .i64 o] 25 true) := x1.get (zab zaa)
  have gk1 : h1.get? (h.n + 1) = some (.cells [.slice q s.length kq, .int .i64 r, .int .i64 o, .slice (some ⟨b, 0, none⟩) l.length cap] 82 true) := x1.get zaa
  refine zaT (fun a : Nat × Value => [(20, .int .i64 (a.1 : Nat)), (19, .int .i64 (s.length : Nat)), (8, a.2), (7, .pointer (some ⟨h.n + 1, 0, none⟩)), (2, .pointer (some ⟨h.n, 0, none⟩)), (1, .slice (some ⟨b, 0, none⟩) l.length cap)])
    (fun a h' => a.1 ≤ s.length ∧ Ext h1 h' ∧ OutS 101 h1 h' a.2 (rstL s l r o a.1)) (fun a => s.length - a.1) ?_ (0, nilV) ?_ ?_
  · rintro ⟨k, v⟩ h' ⟨hk, hx, ho⟩ ih
    dsimp only at hk ho ih ⊢
    have gt' := hx.get gt1
    have gk' := hx.get gk1
    have hrl := rstL_len (s := s) (l := l) (r := r) (o := o) k
    by_cases hlt : k < s.length
    · by_cases hc : ((k : Nat) : Int) ∈ l
      · (repeat' (first | apply zah | apply zad | (apply O_at; rfl) | (apply zag; rfl) | apply zaf | (apply zaE; rfl) | (apply zaG; rfl) | apply zal | apply zat | apply zap | ((first | apply zae | apply zac | apply zbf | apply zaD); rfl; rfl; rfl; rfl) | (apply zaA; rfl; rfl; rfl; rfl; rfl; omega) | (apply zaV; rfl; rfl; rfl; rfl; rfl; (unfold fit; omega)) | (apply zaj; rfl; rfl; rfl; rfl; rfl; rfl; exact yes (zcd hK (by omega) (hr.ext (by (focus repeat' first | exact Ext.refl _ | assumption | apply Ext.push | (refine Ext.trans ?_ (by assumption)))))) hc; (rintro _ _ ⟨rfl, _⟩)) | fail))
        rename_i h2 x2
        exact zax (ih (k + 1, v) _ (by dsimp only; omega) ⟨hlt, by (focus repeat' first | exact Ext.refl _ | assumption | apply Ext.push | (refine Ext.trans ?_ (by assumption))), by rw [zdG hc]; exact OutS.ext (e := 101) ho x2⟩) (by (focus repeat' first | rfl | exact trivial | apply And.intro))
      · (repeat' (first | apply zah | apply zad | (apply O_at; rfl) | (apply zag; rfl) | apply zaf | (apply zaE; rfl) | apply zal | apply zat | ((first | apply zae | apply zac | apply zbf | apply zaD); rfl; rfl; rfl; rfl) | (apply zaA; rfl; rfl; rfl; rfl; rfl; omega) | (apply zaF; rfl; rfl; rfl; rfl; exact za6 rfl; (focus repeat' first | exact zaa | assumption | apply zab | (apply Ext.get; assumption)); (first | exact Nat.le_of_ble_eq_true rfl | (simp; done) | (simp; omega) | (rw [zau]; omega)); rfl) | (apply zaj; rfl; rfl; rfl; rfl; rfl; rfl; exact no (zcd hK (by omega) (hr.ext (by (focus repeat' first | exact Ext.refl _ | assumption | apply Ext.push | (refine Ext.trans ?_ (by assumption)))))) hc; (rintro _ _ ⟨rfl, _⟩)) | fail))
        rename_i h2 x2
        apply zaj; rfl; rfl; rfl; rfl; rfl; rfl; exact iW (e1.trans (hx.trans x2))
        rintro _ h3 ⟨bw, rfl, gw, hbw, x3⟩
        (repeat' (first | (apply O_at; rfl) | (apply zaN; rfl; rfl; rfl; rfl; rfl; rfl; exact zao rfl) | (apply zaj; rfl; rfl; rfl; rfl; rfl; rfl; exact iD hlt hc gw (e1.trans (hx.trans (x2.trans x3))); (rintro _ _ ⟨_, _, rfl, _, _⟩)) | fail))
        rename_i h4 pd cd rdd x4
        apply zdl; rfl; rfl; rfl; rfl; exact fill_rs _ _
        (repeat' (first | (apply O_at; rfl) | fail))
        apply zgI; rfl; rfl; rfl; rfl; rfl; exact c2r
        (repeat' (first | (apply O_at; rfl) | fail))
        have x14 : Ext h1 h4 := hx.trans (x2.trans (x3.trans x4))
        apply P_appS (h0 := h1); rfl; rfl; rfl; rfl; rfl; rfl; rfl; rfl; exact c2r; exact zao rfl; exact zaa; exact OutS.ext (e := 101) ho ((x2.trans (x3.trans x4)).push _); exact x14.push _; omega
        intro v5 h5 o5 x5
        (repeat' (first | apply zad | (apply O_at; rfl) | (apply zag; rfl) | apply zaf | apply zap | ((first | apply zae | apply zac | apply zbf | apply zaD); rfl; rfl; rfl; rfl) | (apply zaV; rfl; rfl; rfl; rfl; rfl; (unfold fit; omega)) | fail))
        exact zax (ih (k + 1, v5) _ (by dsimp only; omega) ⟨hlt, x5, by rw [zfb hc]; exact o5⟩) (by (focus repeat' first | rfl | exact trivial | apply And.intro))
    · obtain rfl : k = s.length := by omega
      by_cases h0 : (rstL s l r o s.length).length = 0
      · rcases ho with ⟨_, rfl⟩ | ⟨hne, _⟩
        · (repeat' (first | apply zah | apply zad | (apply O_at; rfl) | (apply zag; rfl) | apply zaf | (apply zaE; rfl) | (apply zaG; rfl) | apply za2 | apply zav | apply zbq | apply za3 | apply zaI | apply zaM | apply zaw | ((first | apply zae | apply zac | apply zbf | apply zaD); rfl; rfl; rfl; rfl) | (apply zaN; rfl; rfl; rfl; rfl; rfl; rfl; exact zao rfl) | (apply zaR; rfl; rfl; rfl; rfl; rfl; omega) | (apply zbC; rfl; rfl; rfl; rfl; rfl; omega) | fail))
          exact ⟨.inr rfl, _, rfl, (by rw [if_pos h0]; rfl), by (focus repeat' first | exact Ext.refl _ | assumption | apply Ext.push | (refine Ext.trans ?_ (by assumption)))⟩
        · exact absurd (List.length_eq_zero_iff.1 h0) hne
      · rcases ho with ⟨e0, _⟩ | ⟨_, bv, rfl, gv, hbv⟩
        · exact absurd (by rw [e0]; rfl) h0
        · (repeat' (first | apply zah | apply zad | (apply O_at; rfl) | (apply zag; rfl) | apply zaf | (apply zaG; rfl) | apply zat | apply za2 | apply za3 | apply zaI | apply zaM | ((first | apply zae | apply zac | apply zbf | apply zaD); rfl; rfl; rfl; rfl) | (apply zaN; rfl; rfl; rfl; rfl; rfl; rfl; exact zao rfl) | (apply zaR; rfl; rfl; rfl; rfl; rfl; omega) | (apply zbR; rfl; rfl; rfl; rfl; rfl; omega) | fail))
          apply zaj; rfl; rfl; rfl; rfl; rfl; rfl; exact best_ok hK (by omega) (.inr ⟨_, _, _, rfl, gv⟩)
          rintro _ h6 ⟨rfl, x6⟩
          (repeat' (first | apply zah | (apply O_at; rfl) | (apply N_at; rfl) | (apply zag; rfl) | apply zaf | (apply zbp; exact zaH (by decide +kernel)) | apply zav | (apply zbN; rfl; exact (.inl (Nat.le_refl 1))) | apply zaw | ((first | apply zae | apply zac | apply zbf | apply zaD); rfl; rfl; rfl; rfl) | ((first | apply P_fa | apply M_fa); rfl; rfl; rfl; rfl; exact zaU rfl; (first | exact Nat.zero_add _ | exact Nat.add_zero _ | rfl)) | (apply zaX; rfl; rfl; rfl; rfl; exact zak rfl; rfl; rfl; rfl) | (apply zbi; rfl; rfl; rfl; rfl; exact zak rfl; rfl; rfl) | (((apply zbU; rfl; rfl; rfl; rfl; exact zay rfl; exact zbe (by decide +kernel)); (focus repeat' first | exact zaa | assumption | apply zab | (apply Ext.get; assumption)); (first | rfl | assumption)); (first | assumption | exact za5 _ _ | rfl | (focus simp [same, same.all2]; done)); (first | rfl | assumption | exact hwv _ | (simp [within]; omega))) | fail))
          exact ⟨.inr rfl, _, rfl, (by rw [if_neg h0]; rfl), by (focus repeat' first | exact Ext.refl _ | assumption | apply Ext.push | (refine Ext.trans ?_ (by assumption)))⟩
  · exact ⟨Nat.zero_le _, Ext.refl _, .inl ⟨rfl, rfl⟩⟩
  · (focus repeat' first | rfl | exact trivial | apply And.intro)
end
end Go.AX.Sa

namespace Go.AX.Sa
open Go.Proofs
set_option maxRecDepth 100000
variable {K : Known}
section
variable {s : List (Int × Int)} {l : List Int} {r o : Int}
theorem zlD : ∀ k m : Nat, m < k → ¬ ((m : Nat) : Int) ∈ l → (rstL s l r o k).length ≠ 0 := by
  intro k
  induction k with
  | zero => intro m hm; omega
  | succ k ih =>
    intro m hm hno
    by_cases hc : ((k : Nat) : Int) ∈ l
    · rw [zdG hc]
      by_cases e : m = k
      · exact absurd (e ▸ hc) hno
      · exact ih m (by omega) hno
    · rw [zfb hc, List.length_append]; simp only [List.length_cons, List.length_nil]; omega
theorem rst_best : ∀ k, (rstL s l r o k).length ≠ 0 → ∃ j : Nat, j < k ∧ ¬ ((j : Nat) : Int) ∈ l ∧ bl (rstL s l r o k) (rstL s l r o k).length = (((j : Nat) : Int), cntD s l r o j) ∧
    ∀ m : Nat, m < k → ¬ ((m : Nat) : Int) ∈ l → cntD s l r o j ≤ cntD s l r o m ∧ (cntD s l r o j < cntD s l r o m ∨ j ≤ m) := by
  intro k
  induction k with
  | zero => intro h; exact absurd rfl h
  | succ k ih =>
    intro h
    by_cases hc : ((k : Nat) : Int) ∈ l
    · rw [zdG hc] at h ⊢
      obtain ⟨j, j1, j2, j3, j4⟩ := ih h
      refine ⟨j, by omega, j2, j3, fun m hm hno => j4 m ?_ hno⟩
      have e : m ≠ k := fun e => hno (e ▸ hc)
      omega
    · have hbl := bl_app (rstL s l r o k) (((k : Nat) : Int), cntD s l r o k)
      rw [← zfb hc] at hbl
      by_cases h0 : (rstL s l r o k).length = 0
      · rw [if_pos (.inl h0)] at hbl
        refine ⟨k, Nat.lt_succ_self k, hc, hbl, fun m hm hno => ?_⟩
        by_cases e : m = k
        · subst e; exact ⟨Int.le_refl _, .inr (Nat.le_refl _)⟩
        · exact absurd h0 (zlD k m (by omega) hno)
      · obtain ⟨j, j1, j2, j3, j4⟩ := ih h0
        rw [j3] at hbl
        by_cases hd : cntD s l r o k < cntD s l r o j
        · rw [if_pos (.inr hd)] at hbl
          refine ⟨k, Nat.lt_succ_self k, hc, hbl, fun m hm hno => ?_⟩
          by_cases e : m = k
          · subst e; exact ⟨Int.le_refl _, .inr (Nat.le_refl _)⟩
          · have w := (j4 m (by omega) hno).1
            exact ⟨by omega, .inl (by omega)⟩
        · rw [if_neg (fun w => w.elim h0 hd)] at hbl
          refine ⟨j, by omega, j2, hbl, fun m hm hno => ?_⟩
          by_cases e : m = k
          · subst e; exact ⟨by omega, .inr (by omega)⟩
          · exact j4 m (by omega) hno
end
set_option maxHeartbeats 4000000 in
/-- P5.5: with the row added as many may be wrong as told, with another no fewer; the smallest row where more are the best. -/
theorem zlF (hK : NoK K) (hI : KIn K) (hKn : Kn K) {T : Tb} {l : List Int} {p : Option Addr} {cap : Nat} {ot : Int} {h : Heap} (hTb : TbAt T h) (hl : RowAt p l cap h) :
    CallW Tryz.prog K 13 #[tbV T, .slice p l.length cap, .int .i64 ot] h (fun v _ => v = .bool true) := by
  have iR : ∀ {h' : Heap}, Ext h h' → CallW Tryz.prog K 26 #[tbV T, .slice p l.length cap] h' (IfB (RightT T l) h') := fun x => zlG hK (hTb.ext x) (hl.ext x)
  have iN : ∀ {n : Int} {h' : Heap}, T.s.length ≤ 16 → CallW Tryz.prog K 32 #[tbV T, .int .i64 n] h' (IfB (0 ≤ n ∧ n ≤ (T.s.length : Int) - 1) h') := fun a => zlH hK (by omega)
  have iM : ∀ {n : Int} {h' : Heap}, l.length ≤ 16 → Ext h h' → CallW Tryz.prog K 37 #[.slice p l.length cap, .int .i64 n] h' (IfB (n ∈ l) h') := fun a x => zgh hK (by omega) (hl.ext x).rd
  refine body (N := 98) Tryz.func13 rfl (hK _ _ _ rfl) rfl rfl ?_
  by_cases hR : RightT T l
  · obtain ⟨hs, hl16, hP, hKp⟩ := hR
    have hn := hP.1
    have hl2 := hKp.1
    have hG := hKp.2.2.2
    by_cases hL : 0 ≤ ot ∧ ot ≤ (T.s.length : Int) - 1
    · by_cases hM : ot ∈ l
      · obtain ⟨q, kq, s, r, o⟩ := T
        dsimp only [tbV] at *
        (repeat' (first | apply zah | apply zad | (apply O_at; rfl) | (apply zag; rfl) | apply zaf | (apply zaE; rfl) | apply zav | apply zbq | apply zaw | ((first | apply zae | apply zac | apply zbf | apply zaz | apply zaD); rfl; rfl; rfl; rfl) | (apply zaJ; rfl; rfl; rfl; rfl; rfl; rfl) | (apply zaF; rfl; rfl; rfl; rfl; exact za6 rfl; (focus repeat' first | exact zaa | assumption | (apply Ext.get; assumption)); (first | exact Nat.le_of_ble_eq_true rfl | (simp; done) | (simp; omega)); rfl) | (apply za4; rfl; rfl; rfl; rfl; exact zak rfl; rfl; rfl) | ((first | (apply zaj; rfl; rfl; rfl; rfl; rfl; rfl) | (apply za8; rfl; rfl; rfl; rfl; rfl; rfl; rfl)); exact yes (iR (by (focus repeat' first | exact Ext.refl _ | assumption | apply Ext.push | (refine Ext.trans ?_ (by assumption))))) ⟨hs, hl16, hP, hKp⟩; (rintro _ _ ⟨rfl, _⟩)) | ((first | (apply zaj; rfl; rfl; rfl; rfl; rfl; rfl) | (apply za8; rfl; rfl; rfl; rfl; rfl; rfl; rfl)); exact yes (iN hs) hL; (rintro _ _ ⟨rfl, _⟩)) | ((first | (apply zaj; rfl; rfl; rfl; rfl; rfl; rfl) | (apply za8; rfl; rfl; rfl; rfl; rfl; rfl; rfl)); exact yes (iM hl16 (by (focus repeat' first | exact Ext.refl _ | assumption | apply Ext.push | (refine Ext.trans ?_ (by assumption))))) hM; (rintro _ _ ⟨rfl, _⟩)) | ((first | (apply zaj; rfl; rfl; rfl; rfl; rfl; rfl) | (apply za8; rfl; rfl; rfl; rfl; rfl; rfl; rfl)); exact zb4 hKn; (rintro _ _ ⟨rfl, _⟩)) | fail))
        exact ⟨.inr rfl, _, rfl, rfl⟩
      · obtain ⟨m, rfl⟩ : ∃ m : Nat, ot = (m : Nat) := ⟨ot.toNat, by omega⟩
        have hm : m < T.s.length := by omega
        obtain ⟨j, j1, j2, j3, j4⟩ := rst_best T.s.length (zlD (s := T.s) (l := l) (r := T.r) (o := T.o) T.s.length m hm hM)
        obtain ⟨jm1, jm2⟩ := j4 m hm hM
        have hne := zlD (s := T.s) (l := l) (r := T.r) (o := T.o) T.s.length m hm hM
        have hL' : (0 : Int) ≤ ((j : Nat) : Int) ∧ ((j : Nat) : Int) ≤ (T.s.length : Int) - 1 := by omega
        have iA : ∀ {h' : Heap}, Ext h h' → CallW Tryz.prog K 49 #[tbV T, .slice p l.length cap] h' (IsV (.tuple #[.int .i64 (j : Nat), .int .i64 ((dbts T.s (ins l j) T.r T.o T.s.length).length : Nat), .int .i64 0]) h') := fun x => by
          have w := add_ok (cap := cap) hK hI hP hKp (by omega) (hTb.ext x) (hl.ext x).rd (hl.ext x).b
          rw [if_neg hne, j3] at w; exact w
        have nn : ∀ i : Nat, ins l i ≠ [] := fun i w => by
          have := zb9 (l := l) (x := (i : Nat)) (zh6 hG (i : Nat)).1
          rw [show insL l (plc l (i : Nat)) (i : Nat) = [] from w] at this; cases this
        have iW : ∀ {i : Nat} {h' : Heap}, i < T.s.length → ¬ ((i : Nat) : Int) ∈ l → Ext h h' → CallW Tryz.prog K 51 #[.slice p l.length cap, .int .i64 (i : Nat)] h' (fun v h1 => ∃ b, v = .slice (some ⟨b, 0, none⟩) (ins l i).length unk ∧ h1.get? b = some (.cells (ints (ins l i)) 3 true) ∧ h'.n ≤ b ∧ Ext h' h1) := fun {i} _ hj hno x => (zjf hK hKp hj hno (by omega) (zh6 hG _) (hl.ext x).rd).to fun _ _ y => by
          obtain ⟨⟨w, _⟩ | ⟨_, b, e, g, hb⟩, z⟩ := y
          · exact absurd w (nn i)
          · exact ⟨b, e, g, hb, z⟩
        have iD : ∀ {i bw : Nat} {h' : Heap}, i < T.s.length → ¬ ((i : Nat) : Int) ∈ l → h'.get? bw = some (.cells (ints (ins l i)) 3 true) → Ext h h' → CallW Tryz.prog K 34 #[tbV T, .slice (some ⟨bw, 0, none⟩) (ins l i).length unk] h' (OkL (dbts T.s (ins l i) T.r T.o T.s.length) h') := fun {i} _ _ hj hno g x => by
          have hat := zh6 hG (i : Nat)
          have hlen : (ins l i).length = l.length + 1 := zb9 hat.1
          exact zlE hK hP (zik hKp hj hno hat) (by unfold unk; omega) (by omega) (hTb.ext x) (.inr ⟨_, _, _, rfl, g⟩) (fun a w => by cases w; exact Heap.get_lt g)
        have hle : (dbts T.s (ins l j) T.r T.o T.s.length).length ≤ (dbts T.s (ins l m) T.r T.o T.s.length).length := Int.ofNat_le.1 jm1
        have hor : (dbts T.s (ins l j) T.r T.o T.s.length).length < (dbts T.s (ins l m) T.r T.o T.s.length).length ∨ j ≤ m := jm2.imp Int.ofNat_lt.1 id
        clear j3 j4 jm1 jm2
        obtain ⟨q, kq, s, r, o⟩ := T
        have hqb : ∀ a, q = some a → a.block < h.n := hTb.b
        dsimp only [tbV] at *
        (repeat' (first | apply zah | apply zad | (apply O_at; rfl) | (apply N_at; rfl) | (apply zag; rfl) | apply zaf | (apply zaG; rfl) | (apply zbp; exact zaH (by decide +kernel)) | apply zat | ((first | apply zae | apply zac | apply zbf | apply zaz | apply zaD); rfl; rfl; rfl; rfl) | (apply zaJ; rfl; rfl; rfl; rfl; rfl; rfl) | ((first | apply zba | apply zlC); rfl; rfl; rfl; rfl; rfl) | (apply ziF; rfl; rfl; rfl; rfl; rfl; omega) | (apply zaF; rfl; rfl; rfl; rfl; exact za6 rfl; (focus repeat' first | exact zaa | assumption | (apply Ext.get; assumption)); (first | exact Nat.le_of_ble_eq_true rfl | (simp; done) | (simp; omega)); rfl) | (apply za4; rfl; rfl; rfl; rfl; exact zak rfl; rfl; rfl) | (((apply zcN; rfl; rfl; rfl; rfl; exact za6 rfl); (focus repeat' first | exact zaa | assumption | (apply Ext.get; assumption)); (first | exact Nat.le_of_ble_eq_true rfl | (simp; done) | (simp; omega)); rfl); (first | assumption | exact zdd _ _ _ _ _ | rfl | (focus simp [same, same.all2]; done)); (first | rfl | assumption | exact hwv _ | exact zbF (by assumption) (by (focus repeat' first | exact Ext.refl _ | assumption | apply Ext.push | (refine Ext.trans ?_ (by assumption)))) | (simp [within]; omega))) | ((first | (apply zaj; rfl; rfl; rfl; rfl; rfl; rfl) | (apply za8; rfl; rfl; rfl; rfl; rfl; rfl; rfl)); exact yes (iR (by (focus repeat' first | exact Ext.refl _ | assumption | apply Ext.push | (refine Ext.trans ?_ (by assumption))))) ⟨hs, hl16, hP, hKp⟩; (rintro _ _ ⟨rfl, _⟩)) | ((first | (apply zaj; rfl; rfl; rfl; rfl; rfl; rfl) | (apply za8; rfl; rfl; rfl; rfl; rfl; rfl; rfl)); exact yes (iN hs) hL; (rintro _ _ ⟨rfl, _⟩)) | ((first | (apply zaj; rfl; rfl; rfl; rfl; rfl; rfl) | (apply za8; rfl; rfl; rfl; rfl; rfl; rfl; rfl)); exact no (iM hl16 (by (focus repeat' first | exact Ext.refl _ | assumption | apply Ext.push | (refine Ext.trans ?_ (by assumption))))) hM; (rintro _ _ ⟨rfl, _⟩)) | ((first | (apply zaj; rfl; rfl; rfl; rfl; rfl; rfl) | (apply za8; rfl; rfl; rfl; rfl; rfl; rfl; rfl)); exact iA (by (focus repeat' first | exact Ext.refl _ | assumption | apply Ext.push | (refine Ext.trans ?_ (by assumption)))); (rintro _ _ ⟨rfl, _⟩)) | ((first | (apply zaj; rfl; rfl; rfl; rfl; rfl; rfl) | (apply za8; rfl; rfl; rfl; rfl; rfl; rfl; rfl)); exact yes (iN hs) hL'; (rintro _ _ ⟨rfl, _⟩)) | ((first | (apply zaj; rfl; rfl; rfl; rfl; rfl; rfl) | (apply za8; rfl; rfl; rfl; rfl; rfl; rfl; rfl)); exact no (iM hl16 (by (focus repeat' first | exact Ext.refl _ | assumption | apply Ext.push | (refine Ext.trans ?_ (by assumption))))) j2; (rintro _ _ ⟨rfl, _⟩)) | ((first | (apply zaj; rfl; rfl; rfl; rfl; rfl; rfl) | (apply za8; rfl; rfl; rfl; rfl; rfl; rfl; rfl)); exact iW j1 j2 (by (focus repeat' first | exact Ext.refl _ | assumption | apply Ext.push | (refine Ext.trans ?_ (by assumption)))); (rintro _ _ ⟨_, rfl, _, _, _⟩)) | fail))
        rename_i h8 b8 g8 n8 x8
        (repeat' (first | apply zah | (apply N_at; rfl) | apply zaf | (apply zbp; exact zaH (by decide +kernel)) | (apply zbN; rfl; refine .inr ?_; (focus repeat' first | exact trivial | exact Keeps.nil _ _ | apply And.intro | rfl | (apply Keeps.cons; iterate 2 (focus repeat' first | exact zaa | assumption | (apply Ext.get; assumption))))) | ((first | apply zae | apply zac | apply zbf | apply zaz | apply zaD); rfl; rfl; rfl; rfl) | ((first | apply zba | apply zlC); rfl; rfl; rfl; rfl; rfl) | (((apply zcN; rfl; rfl; rfl; rfl; exact za6 rfl); (focus repeat' first | exact zaa | assumption | (apply Ext.get; assumption)); (first | exact Nat.le_of_ble_eq_true rfl | (simp; done) | (simp; omega)); rfl); (first | assumption | exact zdd _ _ _ _ _ | rfl | (focus simp [same, same.all2]; done)); (first | rfl | assumption | exact hwv _ | exact zbF (by assumption) (by (focus repeat' first | exact Ext.refl _ | assumption | apply Ext.push | (refine Ext.trans ?_ (by assumption)))) | (simp [within]; omega))) | ((first | (apply zaj; rfl; rfl; rfl; rfl; rfl; rfl) | (apply za8; rfl; rfl; rfl; rfl; rfl; rfl; rfl)); exact iD j1 j2 g8 (by (focus repeat' first | exact Ext.refl _ | assumption | apply Ext.push | (refine Ext.trans ?_ (by assumption)))); (rintro _ _ ⟨_, _, rfl, _, _⟩)) | fail))
        rename_i h9 p9 c9 r9 x9
        (repeat' (first | (apply N_at; rfl) | ((first | (apply zaj; rfl; rfl; rfl; rfl; rfl; rfl) | (apply za8; rfl; rfl; rfl; rfl; rfl; rfl; rfl)); exact iW hm hM (by (focus repeat' first | exact Ext.refl _ | assumption | apply Ext.push | (refine Ext.trans ?_ (by assumption)))); (rintro _ _ ⟨_, rfl, _, _, _⟩)) | fail))
        rename_i ha ba ga na xa
        rcases Nat.lt_or_ge (dbts s (ins l j) r o s.length).length (dbts s (ins l m) r o s.length).length with w | w
        · (repeat' (first | apply zah | apply zad | (apply O_at; rfl) | (apply N_at; rfl) | (apply zag; rfl) | apply zaf | apply zav | (apply zbN; rfl; refine .inr ?_; (focus repeat' first | exact trivial | exact Keeps.nil _ _ | apply And.intro | rfl | (apply Keeps.cons; iterate 2 (focus repeat' first | exact zaa | assumption | (apply Ext.get; assumption))))) | apply zaw | (apply zbj; rfl; rfl; rfl) | ((first | apply zae | apply zac | apply zbf | apply zaz | apply zaD); rfl; rfl; rfl; rfl) | (apply zaN; rfl; rfl; rfl; rfl; rfl; rfl; exact zao rfl) | (apply zaJ; rfl; rfl; rfl; rfl; rfl; rfl) | ((first | apply zba | apply zlC); rfl; rfl; rfl; rfl; rfl) | (apply zes; rfl; rfl; rfl; rfl; rfl; omega) | (apply ziH; rfl; rfl; rfl; rfl; rfl; omega) | (apply zbC; rfl; rfl; rfl; rfl; rfl; omega) | ((first | (apply zaj; rfl; rfl; rfl; rfl; rfl; rfl) | (apply za8; rfl; rfl; rfl; rfl; rfl; rfl; rfl)); exact iD hm hM ga (by (focus repeat' first | exact Ext.refl _ | assumption | apply Ext.push | (refine Ext.trans ?_ (by assumption)))); (rintro _ _ ⟨_, _, rfl, _, _⟩)) | ((first | (apply zaj; rfl; rfl; rfl; rfl; rfl; rfl) | (apply za8; rfl; rfl; rfl; rfl; rfl; rfl; rfl)); exact zb4 hKn; (rintro _ _ ⟨rfl, _⟩)) | fail))
          exact ⟨.inr rfl, _, rfl, rfl⟩
        · have hor2 : j ≤ m := hor.elim (fun w2 => by omega) id
          (repeat' (first | apply zah | apply zad | (apply O_at; rfl) | (apply N_at; rfl) | (apply zag; rfl) | apply zaf | apply zav | (apply zbN; rfl; refine .inr ?_; (focus repeat' first | exact trivial | exact Keeps.nil _ _ | apply And.intro | rfl | (apply Keeps.cons; iterate 2 (focus repeat' first | exact zaa | assumption | (apply Ext.get; assumption))))) | apply zaw | ((first | apply zae | apply zac | apply zbf | apply zaz | apply zaD); rfl; rfl; rfl; rfl) | (apply zaN; rfl; rfl; rfl; rfl; rfl; rfl; exact zao rfl) | (apply zaJ; rfl; rfl; rfl; rfl; rfl; rfl) | ((first | apply zba | apply zlC); rfl; rfl; rfl; rfl; rfl) | (apply zda; rfl; rfl; rfl; rfl; rfl; omega) | (apply ziH; rfl; rfl; rfl; rfl; rfl; omega) | (apply zbC; rfl; rfl; rfl; rfl; rfl; omega) | ((first | (apply zaj; rfl; rfl; rfl; rfl; rfl; rfl) | (apply za8; rfl; rfl; rfl; rfl; rfl; rfl; rfl)); exact iD hm hM ga (by (focus repeat' first | exact Ext.refl _ | assumption | apply Ext.push | (refine Ext.trans ?_ (by assumption)))); (rintro _ _ ⟨_, _, rfl, _, _⟩)) | ((first | (apply zaj; rfl; rfl; rfl; rfl; rfl; rfl) | (apply za8; rfl; rfl; rfl; rfl; rfl; rfl; rfl)); exact zb4 hKn; (rintro _ _ ⟨rfl, _⟩)) | fail))
          exact ⟨.inr rfl, _, rfl, rfl⟩
    · obtain ⟨q, kq, s, r, o⟩ := T
      dsimp only [tbV] at *
      (repeat' (first | apply zah | apply zad | (apply O_at; rfl) | (apply zag; rfl) | apply zaf | (apply zaE; rfl) | apply zav | apply zbq | apply zaw | (apply zbj; rfl; rfl; rfl) | ((first | apply zae | apply zac | apply zbf | apply zaz | apply zaD); rfl; rfl; rfl; rfl) | (apply zaJ; rfl; rfl; rfl; rfl; rfl; rfl) | (apply zaF; rfl; rfl; rfl; rfl; exact za6 rfl; (focus repeat' first | exact zaa | assumption | (apply Ext.get; assumption)); (first | exact Nat.le_of_ble_eq_true rfl | (simp; done) | (simp; omega)); rfl) | (apply za4; rfl; rfl; rfl; rfl; exact zak rfl; rfl; rfl) | ((first | (apply zaj; rfl; rfl; rfl; rfl; rfl; rfl) | (apply za8; rfl; rfl; rfl; rfl; rfl; rfl; rfl)); exact yes (iR (by (focus repeat' first | exact Ext.refl _ | assumption | apply Ext.push | (refine Ext.trans ?_ (by assumption))))) ⟨hs, hl16, hP, hKp⟩; (rintro _ _ ⟨rfl, _⟩)) | ((first | (apply zaj; rfl; rfl; rfl; rfl; rfl; rfl) | (apply za8; rfl; rfl; rfl; rfl; rfl; rfl; rfl)); exact no (iN hs) hL; (rintro _ _ ⟨rfl, _⟩)) | ((first | (apply zaj; rfl; rfl; rfl; rfl; rfl; rfl) | (apply za8; rfl; rfl; rfl; rfl; rfl; rfl; rfl)); exact zb4 hKn; (rintro _ _ ⟨rfl, _⟩)) | fail))
      exact ⟨.inr rfl, _, rfl, rfl⟩
  · obtain ⟨q, kq, s, r, o⟩ := T
    dsimp only [tbV] at *
    (repeat' (first | apply zah | apply zad | (apply O_at; rfl) | (apply zag; rfl) | apply zaf | (apply zaE; rfl) | apply zav | apply zbq | apply zaw | (apply zbj; rfl; rfl; rfl) | ((first | apply zae | apply zac | apply zbf | apply zaz | apply zaD); rfl; rfl; rfl; rfl) | (apply zaJ; rfl; rfl; rfl; rfl; rfl; rfl) | (apply zaF; rfl; rfl; rfl; rfl; exact za6 rfl; (focus repeat' first | exact zaa | assumption | (apply Ext.get; assumption)); (first | exact Nat.le_of_ble_eq_true rfl | (simp; done) | (simp; omega)); rfl) | (apply za4; rfl; rfl; rfl; rfl; exact zak rfl; rfl; rfl) | ((first | (apply zaj; rfl; rfl; rfl; rfl; rfl; rfl) | (apply za8; rfl; rfl; rfl; rfl; rfl; rfl; rfl)); exact no (iR (by (focus repeat' first | exact Ext.refl _ | assumption | apply Ext.push | (refine Ext.trans ?_ (by assumption))))) hR; (rintro _ _ ⟨rfl, _⟩)) | ((first | (apply zaj; rfl; rfl; rfl; rfl; rfl; rfl) | (apply za8; rfl; rfl; rfl; rfl; rfl; rfl; rfl)); exact zb4 hKn; (rintro _ _ ⟨rfl, _⟩)) | fail))
    exact ⟨.inr rfl, _, rfl, rfl⟩
end Go.AX.Sa
