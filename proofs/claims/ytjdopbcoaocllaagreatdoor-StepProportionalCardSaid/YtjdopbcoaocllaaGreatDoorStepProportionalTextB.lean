/- The law StepProportional at the reading: what the functions that it calls answer (2). -/
import Derived.Test.YtjdopbcoaocllaaGreatDoorStepProportionalTextA
namespace Go.AX.Sa
open Go.Proofs
set_option maxRecDepth 100000
variable {K : Known}
/-! Kept rows next to each other. -/
def prs (l : List Int) (k : Nat) : List (Int × Int) := (List.range k).map fun i => (l.getD i 0, l.getD (i + 1) 0)
theorem zgL (l : List Int) (k : Nat) : (prs l k).length = k := by simp [prs]
theorem prs_succ (l : List Int) (k : Nat) : prs l (k + 1) = prs l k ++ [(l.getD k 0, l.getD (k + 1) 0)] := by simp [prs, List.range_succ]
theorem prs_get {l : List Int} {k i : Nat} (h : i < k) : (prs l k).getD i (0, 0) = (l.getD i 0, l.getD (i + 1) 0) := by
  simp [prs, List.getD_eq_getElem?_getD, h]
def IsP (l : List (Int × Int)) (h : Heap) (v : Value) (h1 : Heap) : Prop := ∃ p cap, v = .slice p l.length cap ∧ Rd h1 p (spanCells l) ∧ (∀ a, p = some a → h.n ≤ a.block) ∧ Ext h h1
theorem pairs_ok (hK : NoK K) {T : Tb} {l : List Int} {b cap : Nat} {e : TypeId} {own : Bool} {h : Heap} (hl : 2 ≤ l.length ∧ l.length ≤ 1000) (hcap : l.length ≤ cap) (hg : h.get? b = some (.cells (ints l) e own)) :
    CallW Tryz.prog K 104 #[ktV T (some ⟨b, 0, none⟩) l.length cap] h (IsP (prs l (l.length - 1)) h) := by
  obtain ⟨q, kq, s, r, o⟩ := T
  dsimp only [ktV]
  have hb := Heap.get_lt hg
  refine body (N := 27) Tryz.func104 rfl (hK _ _ _ rfl) rfl rfl ?_
  (repeat' (first | apply zao | apply zad | (apply O_at; rfl) | (apply zal; rfl) | apply zam | ((first | apply zae | apply zac); rfl; rfl; rfl; rfl) | (apply P_fa; rfl; rfl; rfl; rfl; exact zaU rfl; (first | exact Nat.zero_add _ | exact Nat.add_zero _ | rfl)) | (apply zap; rfl; rfl; rfl; rfl; exact zaB rfl; (focus repeat' first | exact zaa | assumption | apply zab | (apply Ext.get; assumption)); (first | exact zan (by omega) | rfl | assumption)) | (apply za5; rfl; rfl; rfl; rfl; exact zai rfl; rfl; rfl) | fail))
  refine zhm rfl rfl rfl rfl rfl (zar rfl) (zai rfl) (q := 1) (by omega) hcap (by omega) (by omega) ?_
  intro off cap' hoff
  have ho1 := hoff (by omega)
  subst ho1
  (repeat' (first | (apply O_at; rfl) | (apply zal; rfl) | apply zam | apply zav | ((first | apply zae | apply zac); rfl; rfl; rfl; rfl) | (apply zbw; rfl; rfl; rfl; rfl; rfl; rfl; exact zar rfl) | fail))
  refine zbJ (fun a : Nat × Value => [(10, .int .i64 (a.1 : Nat)), (9, .int .i64 ((l.length - 1 : Nat) : Int)), (8, .slice (some ⟨b, 1 * 1, none⟩) (l.length - 1) cap'), (3, a.2), (1, .pointer (some ⟨h.n, 0, none⟩))])
    (fun a h' => a.1 ≤ l.length - 1 ∧ Ext (h.push (.cells [.slice q s.length kq, .int .i64 r, .int .i64 o, .slice (some ⟨b, 0, none⟩) l.length cap] 82 true)) h' ∧ OutS 123 (h.push (.cells [.slice q s.length kq, .int .i64 r, .int .i64 o, .slice (some ⟨b, 0, none⟩) l.length cap] 82 true)) h' a.2 (prs l a.1)) (fun a => l.length - 1 - a.1) ?_ (0, nilV) ?_ ?_
  · rintro ⟨k, v⟩ h' ⟨hk, hx, ho⟩ ih
    dsimp only at hk hx ho ih ⊢
    have hbx : h'.get? h.n = some (.cells [.slice q s.length kq, .int .i64 r, .int .i64 o, .slice (some ⟨b, 0, none⟩) l.length cap] 82 true) := hx.get zaa
    have hg' := hx.get (zab hg)
    have hle := zgL l k
    by_cases hlt : k < l.length - 1
    · have hk1 : k + 1 < l.length := by omega
      (repeat' (first | apply zao | apply zad | (apply O_at; rfl) | (apply zal; rfl) | apply zam | (apply za6; rfl) | apply zav | apply zay | ((first | apply zae | apply zac); rfl; rfl; rfl; rfl) | (apply zbP; rfl; rfl; rfl; rfl; rfl; omega) | fail))
      refine P_idxO (o := 1) (n := 1) (k := k) rfl rfl rfl rfl rfl (zar rfl) (zai rfl) rfl hlt ?_
      rw [show (1 + k) * 1 = k + 1 by omega]
      (repeat' (first | apply zad | (apply O_at; rfl) | (apply zal; rfl) | apply zam | apply zaO | ((first | apply zae | apply zac); rfl; rfl; rfl; rfl) | (apply P_fa; rfl; rfl; rfl; rfl; exact zaU rfl; (first | exact Nat.zero_add _ | exact Nat.add_zero _ | rfl)) | (apply zbK; rfl; rfl; rfl; rfl; rfl; (unfold fit; omega)) | (apply zbz; rfl; rfl; rfl; rfl; rfl; exact zar rfl; exact zai rfl; (first | assumption | rfl | exact (Int.toNat_of_nonneg (by omega)).symm); omega) | (apply zap; rfl; rfl; rfl; rfl; exact zaB rfl; (focus repeat' first | exact zaa | assumption | apply zab | (apply Ext.get; assumption)); (first | exact zan (by omega) | rfl | assumption)) | (apply zc8; rfl; rfl; rfl; rfl) | (apply zkP; rfl; rfl; rfl; rfl; rfl; exact c2_ok rfl) | (apply P_appS; rfl; rfl; rfl; rfl; rfl; rfl; rfl; rfl; exact c2_ok rfl; exact zar rfl; (focus repeat' first | exact zaa | assumption | apply zab | (apply Ext.get; assumption)); (apply OutS.ext; assumption; (focus repeat' first | exact Ext.refl _ | assumption | apply Ext.push | (refine Ext.trans ?_ (by assumption)))); (focus repeat' first | exact Ext.refl _ | assumption | apply Ext.push | (refine Ext.trans ?_ (by assumption))); (first | omega | (simp; omega)); (intro _ _ _ _)) | fail))
      rename_i v1 h2 ho2 hx2
      exact zba (ih (k + 1, v1) _ (by dsimp only; omega) ⟨hlt, by (focus repeat' first | exact Ext.refl _ | assumption | apply Ext.push | (refine Ext.trans ?_ (by assumption))), by rw [prs_succ]; exact ho2⟩) (by (focus repeat' first | rfl | exact trivial | apply And.intro))
    · have : k = l.length - 1 := by omega
      subst this
      (repeat' (first | apply zao | apply zad | (apply O_at; rfl) | (apply zal; rfl) | apply zam | (apply za3; rfl) | apply zbm | apply zat | apply zbn | apply zaZ | apply za0 | apply zau | ((first | apply zae | apply zac); rfl; rfl; rfl; rfl) | (apply zcn; rfl; rfl; rfl; rfl; rfl; omega) | fail))
      refine ⟨.inr rfl, _, rfl, ?_⟩
      rcases ho with ⟨q1, rfl⟩ | ⟨q1, b2, rfl, q3, q4⟩
      · have := congrArg List.length q1
        rw [zgL] at this
        simp at this; omega
      · exact ⟨_, _, rfl, .inr ⟨_, _, _, rfl, q3⟩, fun a w => by cases w; exact Nat.le_of_succ_le (show h.n + 1 ≤ b2 from q4), by (focus repeat' first | exact Ext.refl _ | assumption | apply Ext.push | (refine Ext.trans ?_ (by assumption)))⟩
  · exact ⟨Nat.zero_le _, Ext.refl _, OutS.nil _ _ _⟩
  · (focus repeat' first | rfl | exact trivial | apply And.intro)
end Go.AX.Sa

namespace Go.AX.Sa
open Go.Proofs
set_option maxRecDepth 100000
variable {K : Known}
/-! The kept rows around a row, and its figure: numbers. -/
theorem keptLt {l : List Int} (hG : GrowP l) {m : Nat} : ∀ d, m + d + 1 < l.length → l.getD m 0 < l.getD (m + d + 1) 0 := by
  intro d
  induction d with
  | zero => intro h; exact hG m h
  | succ d ih =>
    intro h
    have h1 := ih (by omega)
    have h2 := hG (m + d + 1) (by omega)
    rw [show m + (d + 1) + 1 = m + d + 1 + 1 by omega]
    omega
theorem keptLe {l : List Int} (hG : GrowP l) {m n : Nat} (h : m ≤ n) (hn : n < l.length) : l.getD m 0 ≤ l.getD n 0 := by
  by_cases he : m = n
  · subst he; exact Int.le_refl _
  · have := keptLt hG (m := m) (n - m - 1) (by omega)
    rw [show m + (n - m - 1) + 1 = n by omega] at this
    omega
def befK (l : List Int) (j : Int) : Nat → Int
  | 0 => l.getD 0 0
  | k + 1 => if l.getD k 0 ≤ j then max (befK l j k) (l.getD k 0) else befK l j k
def aftK (l : List Int) (j : Int) : Nat → Int
  | 0 => l.getD (l.length - 1) 0
  | k + 1 => if j ≤ l.getD k 0 then min (aftK l j k) (l.getD k 0) else aftK l j k
theorem befK_is {l : List Int} (hG : GrowP l) {j : Int} {i : Nat} (hi : i < l.length) (h1 : l.getD i 0 ≤ j) (h2 : i + 1 < l.length → j < l.getD (i + 1) 0) : ∀ k, k ≤ l.length → befK l j k = l.getD (min (k - 1) i) 0 := by
  intro k
  induction k with
  | zero => intro _; show l.getD 0 0 = _; rw [show min (0 - 1) i = 0 by omega]
  | succ k ih =>
    intro hk
    have ih := ih (by omega)
    unfold befK
    by_cases hki : k ≤ i
    · have a := keptLe hG hki hi
      have b := keptLe hG (show min (k - 1) i ≤ k by omega) (by omega)
      rw [if_pos (by omega), ih, show min (k + 1 - 1) i = k by omega]
      omega
    · have a := h2 (by omega)
      have b := keptLe hG (show i + 1 ≤ k by omega) (by omega)
      rw [if_neg (by omega), ih, show min (k - 1) i = i by omega, show min (k + 1 - 1) i = i by omega]
theorem aftK_is {l : List Int} (hG : GrowP l) {j : Int} {i : Nat} (hi : i < l.length) (h1 : j ≤ l.getD i 0) (h2 : ∀ m, m + 1 = i → l.getD m 0 < j) : ∀ k, k ≤ l.length → aftK l j k = if k ≤ i then l.getD (l.length - 1) 0 else l.getD i 0 := by
  intro k
  induction k with
  | zero => intro _; rw [if_pos (Nat.zero_le _)]; rfl
  | succ k ih =>
    intro hk
    have ih := ih (by omega)
    unfold aftK
    by_cases hki : k < i
    · have a := h2 (i - 1) (by omega)
      have b := keptLe hG (show k ≤ i - 1 by omega) (by omega)
      rw [if_neg (by omega), ih, if_pos (by omega), if_pos (by omega)]
    · have a := keptLe hG (show i ≤ k by omega) (by omega)
      have c := keptLe hG (show k ≤ l.length - 1 by omega) (by omega)
      rw [if_pos (by omega), if_neg (by omega), ih]
      by_cases hke : k = i
      · subst hke; rw [if_pos (Nat.le_refl _)]; omega
      · rw [if_neg (by omega)]; omega
def bef (l : List Int) (j : Int) : Int := befK l j l.length
def aft (l : List Int) (j : Int) : Int := aftK l j l.length
theorem bef_is {l : List Int} (hG : GrowP l) {j : Int} {i : Nat} (hi : i < l.length) (h1 : l.getD i 0 ≤ j) (h2 : i + 1 < l.length → j < l.getD (i + 1) 0) : bef l j = l.getD i 0 := by
  unfold bef; rw [befK_is hG hi h1 h2 _ (Nat.le_refl _), show min (l.length - 1) i = i by omega]
theorem aft_is {l : List Int} (hG : GrowP l) {j : Int} {i : Nat} (hi : i < l.length) (h1 : j ≤ l.getD i 0) (h2 : ∀ m, m + 1 = i → l.getD m 0 < j) : aft l j = l.getD i 0 := by
  unfold aft; rw [aftK_is hG hi h1 h2 _ (Nat.le_refl _), if_neg (by omega)]
def figv (l t : List Int) (r : Int) (j : Nat) : Int :=
  if bef l j = aft l j then t.getD (bef l j).toNat 0 else rnd r (mixv (bef l j) (aft l j) j (t.getD (bef l j).toNat 0) (t.getD (aft l j).toNat 0)) (aft l j - bef l j)
theorem zci {l t : List Int} {r : Int} {i j : Nat} (hG : GrowP l) (hi : i < l.length) (hj : l.getD i 0 = (j : Nat)) : figv l t r j = t.getD j 0 := by
  have e1 := bef_is hG (j := (j : Nat)) hi (by omega) (fun w => by have := hG i w; omega)
  have e2 := aft_is hG (j := (j : Nat)) hi (by omega) (fun m w => by have := hG m (by omega); rw [w] at this; omega)
  unfold figv
  rw [e1, e2, if_pos rfl, hj, Int.toNat_natCast]
theorem zhX {l t : List Int} {r : Int} {i j : Nat} (hG : GrowP l) (hi : i + 1 < l.length) (h1 : l.getD i 0 < (j : Nat)) (h2 : ((j : Nat) : Int) < l.getD (i + 1) 0) :
    figv l t r j = rnd r (mixv (l.getD i 0) (l.getD (i + 1) 0) j (t.getD (l.getD i 0).toNat 0) (t.getD (l.getD (i + 1) 0).toNat 0)) (l.getD (i + 1) 0 - l.getD i 0) := by
  have e1 := bef_is hG (j := (j : Nat)) (i := i) (by omega) (by omega) (fun _ => h2)
  have e2 := aft_is hG (j := (j : Nat)) (i := i + 1) hi (by omega) (fun m w => by rw [show m = i by omega]; exact h1)
  unfold figv
  rw [e1, e2, if_neg (by omega)]
def figs (l t : List Int) (r : Int) (k : Nat) : List Int := (List.range k).map (figv l t r)
theorem ze9 (l t : List Int) (r : Int) (k : Nat) : (figs l t r k).length = k := by simp [figs]
theorem zfa {l t : List Int} {r : Int} {k j : Nat} (h : j < k) : (figs l t r k).getD j 0 = figv l t r j := by
  simp [figs, List.getD_eq_getElem?_getD, h]
/-- Every row is kept, or lies between two kept ones. -/
theorem row_at {n : Nat} {l : List Int} (hP : KeptP n l) {j : Nat} (hj : j < n) : (∃ i, i < l.length ∧ l.getD i 0 = (j : Nat)) ∨ ∃ i, i + 1 < l.length ∧ l.getD i 0 < (j : Nat) ∧ ((j : Nat) : Int) < l.getD (i + 1) 0 := by
  obtain ⟨h2, h0, h1, hG⟩ := hP
  have key : ∀ m, m < l.length → ((j : Nat) : Int) ≤ l.getD m 0 → (∃ i, i < l.length ∧ l.getD i 0 = (j : Nat)) ∨ ∃ i, i + 1 < l.length ∧ l.getD i 0 < (j : Nat) ∧ ((j : Nat) : Int) < l.getD (i + 1) 0 := by
    intro m
    induction m with
    | zero => intro hm hle; exact .inl ⟨0, hm, by omega⟩
    | succ m ih =>
      intro hm hle
      by_cases he : l.getD (m + 1) 0 = (j : Nat)
      · exact .inl ⟨m + 1, hm, he⟩
      · by_cases hl : ((j : Nat) : Int) ≤ l.getD m 0
        · exact ih (by omega) hl
        · exact .inr ⟨m, hm, by omega, by omega⟩
  exact key (l.length - 1) (by omega) (by omega)
end Go.AX.Sa

namespace Go.AX.Sa
open Go.Proofs
set_option maxRecDepth 100000
variable {K : Known}
/-! The figures of all rows. -/
theorem getD_set {l : List Int} {k j : Nat} {n : Int} (h : k < l.length) : (l.set k n).getD j 0 = if j = k then n else l.getD j 0 := by
  simp only [List.getD_eq_getElem?_getD, List.getElem?_set]
  by_cases hj : k = j
  · subst hj; simp [h]
  · rw [if_neg hj, if_neg (fun q => hj q.symm)]
theorem list_eq {a b : List Int} (hl : a.length = b.length) (h : ∀ j, j < a.length → a.getD j 0 = b.getD j 0) : a = b := by
  apply List.ext_getElem hl
  intro j h1 h2
  have := h j h1
  simpa [List.getD_eq_getElem?_getD, h1, h2] using this
/-- slices.Clone of a list that is not empty. -/
theorem clone_ok (hK : NoK K) {t : List Int} {q : Option Addr} {cap : Nat} {h : Heap} (hp : 0 < t.length) (hl : t.length ≤ 1000) (hr : Rd h q (ints t)) :
    CallW Tryz.prog K 103 #[.slice q t.length cap] h fun v h1 => Ext h h1 ∧ ∃ b, v = .slice (some ⟨b, 0, none⟩) t.length unk ∧ h1.get? b = some (.cells (ints t) 3 true) ∧ h.n ≤ b := by
  obtain ⟨b, e, own, rfl, hg⟩ := hr.at (by rw [zak]; omega)
  refine body (N := 8) Tryz.func103 rfl (hK _ _ _ rfl) rfl rfl ?_
  (repeat' (first | apply zao | apply zad | (apply O_at; rfl) | (apply zal; rfl) | apply zam | (apply za3; rfl) | apply zay | apply zat | apply zau | ((first | apply zae | apply zac); rfl; rfl; rfl; rfl) | (apply zkM; rfl; rfl; rfl; rfl; rfl; exact zar rfl) | (apply P_build0; rfl; rfl; rfl; rfl; exact zi6 rfl) | (apply zfk; rfl; rfl; rfl; rfl; rfl; rfl; (apply app_full; rfl; rfl; exact zi6 rfl; exact zar rfl; (focus repeat' first | exact zaa | assumption | apply zab); (first | rfl | exact zak _); (first | decide | omega); (first | decide | omega); (first | rfl | exact ints_one _); (focus repeat' first | exact zaa | assumption | apply zab); (first | rfl | exact zak _); omega; omega)) | fail))
  refine ⟨.inr rfl, _, rfl, ?_, (h.push (.cells [] 3 true)).n, ?_, ?_, ?_⟩
  · (focus repeat' first | exact Ext.refl _ | assumption | apply Ext.push)
  · simp [resV]
  · exact zaa
  · exact Nat.le_succ _


theorem truth_bd {s : List (Int × Int)} {t : List Int} (hV : Vals s) (hT : TruthP s t) {j : Nat} (hj : j < s.length) : -10000 ≤ t.getD j 0 ∧ t.getD j 0 ≤ 10000 := by
  have h1 := hV j hj
  have h2 := hT.2 j (by rw [hT.1]; exact hj)
  unfold ValP at h1
  omega
set_option maxHeartbeats 2000000 in
theorem ziW (hK : NoK K) {T : Tb} {l t : List Int} {b bt cap ct : Nat} {e et : TypeId} {own ownt : Bool} {h : Heap} (hP : TbP T) (hKp : KeptP T.s.length l) (hT : TruthP T.s t) (hcap : l.length ≤ cap) (hll : l.length ≤ 1000)
    (hg : h.get? b = some (.cells (ints l) e own)) (hgt : h.get? bt = some (.cells (ints t) et ownt)) :
    CallW Tryz.prog K 65 #[ktV T (some ⟨b, 0, none⟩) l.length cap, .slice (some ⟨bt, 0, none⟩) t.length ct] h (IsL (figs l t T.r T.s.length) h) := by
  obtain ⟨q, kq, s, r, o⟩ := T
  dsimp only at hP hKp hT ⊢
  have htl := hT.1
  have hn := hP.1
  dsimp only at hn
  have hr := hP.2.2.1
  have hG := hKp.2.2.2
  have hl2 := hKp.1
  have h0 := hKp.2.1
  have h1 := hKp.2.2.1
  have hbd : ∀ j, j < s.length → -10000 ≤ t.getD j 0 ∧ t.getD j 0 ≤ 10000 := fun j hj => truth_bd hP.2.1 hT hj
  have hlk : ∀ i, i < l.length → 0 ≤ l.getD i 0 ∧ l.getD i 0 ≤ (s.length : Int) - 1 := fun i hi => by
    have a := keptLe hG (Nat.zero_le i) hi
    have c := keptLe hG (show i ≤ l.length - 1 by omega) (by omega)
    omega
  have hb0 := Heap.get_lt hg
  have hbt0 := Heap.get_lt hgt
  refine body (N := 48) Tryz.func65 rfl (hK _ _ _ rfl) rfl rfl ?_
  (repeat' (first | apply zao | apply zad | (apply O_at; rfl) | (apply zal; rfl) | apply zam | ((first | apply zae | apply zac | apply zaI); rfl; rfl; rfl; rfl) | (apply za5; rfl; rfl; rfl; rfl; exact zai rfl; rfl; rfl) | fail))
  apply zag; rfl; rfl; rfl; rfl; rfl; rfl
  exact clone_ok hK (by omega) (by omega) (.inr ⟨_, _, _, rfl, zab hgt⟩)
  rintro _ h2 ⟨x2, bc, rfl, gc, hbc⟩
  have hk2 : h2.get? h.n = some (.cells [.slice q s.length kq, .int .i64 r, .int .i64 o, .slice (some ⟨b, 0, none⟩) l.length cap] 82 true) := x2.get zaa
  have hg2 := x2.get (zab hg)
  have hgt2 := x2.get (zab hgt)
  (repeat' (first | apply zao | apply zad | (apply O_at; rfl) | (apply zal; rfl) | apply zam | ((first | apply zae | apply zac | apply zaI); rfl; rfl; rfl; rfl) | (apply zby; rfl; rfl; rfl; rfl; exact zbg rfl; (focus repeat' first | exact zaa | assumption | apply zab | (apply Ext.get; assumption) | (apply ExtBut.get; assumption; (first | assumption | omega | (simp only [Heap.push]; omega)))); (first | exact Nat.le_of_ble_eq_true rfl | (simp; done) | (simp; omega) | (rw [zaq]; omega)); (first | exact zbc (by omega) | rfl)) | fail))
  apply zag; rfl; rfl; rfl; rfl; rfl; rfl
  exact pairs_ok (T := ⟨q, kq, s, r, o⟩) hK ⟨hl2, hll⟩ hcap hg2
  rintro _ h3 ⟨pp, cp, rfl, rp, fp, x3⟩
  have hpl := zgL l (l.length - 1)
  obtain ⟨bp, ep, ownp, rfl, gp⟩ := rp.at (by rw [zaq]; omega)
  have gc3 := x3.get gc
  have hk3 := x3.get hk2
  have hgt3 := x3.get hgt2
  have hbp := Heap.get_lt gp
  have hn3 := Heap.get_lt gc3
  have hn2 := Heap.get_lt gc
  have fp' := fp _ rfl
  dsimp only at fp'
  simp only [Heap.push] at hbc
  rw [hpl]
  (repeat' (first | (apply O_at; rfl) | (apply zal; rfl) | apply zam | apply zav | ((first | apply zae | apply zac | apply zaI); rfl; rfl; rfl; rfl) | (apply zbw; rfl; rfl; rfl; rfl; rfl; rfl; exact zar rfl) | fail))
  refine zbJ (fun a : Nat × List Int => [(14, .int .i64 (a.1 : Nat)), (13, .int .i64 ((l.length - 1 : Nat) : Int)), (12, .slice (some ⟨bp, 0, none⟩) (l.length - 1) cp), (5, .slice (some ⟨bc, 0, none⟩) t.length unk), (2, .pointer (some ⟨h.n, 0, none⟩)), (1, .slice (some ⟨bt, 0, none⟩) t.length ct)])
    (fun a h' => a.1 ≤ l.length - 1 ∧ ExtBut bc h3 h' ∧ h'.get? bc = some (.cells (ints a.2) 3 true) ∧ a.2.length = t.length ∧ ∀ j, j < t.length → a.2.getD j 0 = if ((j : Nat) : Int) < l.getD a.1 0 then figv l t r j else t.getD j 0) (fun a => l.length - 1 - a.1) ?_ (0, t) ?_ ?_
  · rintro ⟨i, F⟩ h' ⟨hi, hx, hb, hF, hj⟩ ih
    dsimp only at hi hb hF hj ih ⊢
    have hne : bp ≠ bc := by omega
    have hne2 : h.n ≠ bc := by omega
    have hne3 : bt ≠ bc := by omega
    have gp' := hx.get hne gp
    have hk' := hx.get hne2 hk3
    have hgt' := hx.get hne3 hgt3
    by_cases hlt : i < l.length - 1
    · have hpi : i < (prs l (l.length - 1)).length := by omega
      have hpg := prs_get (l := l) (k := l.length - 1) hlt
      have a1 := hlk i (by omega)
      have a2 := hlk (i + 1) (by omega)
      have a3 := hG i (by omega)
      have e1 : ((prs l (l.length - 1)).getD i (0, 0)).1 = l.getD i 0 := by rw [hpg]
      have e2 : ((prs l (l.length - 1)).getD i (0, 0)).2 = l.getD (i + 1) 0 := by rw [hpg]
      obtain ⟨A, hA⟩ : ∃ A : Nat, l.getD i 0 = (A : Nat) := ⟨(l.getD i 0).toNat, by omega⟩
      obtain ⟨C, hC⟩ : ∃ C : Nat, l.getD (i + 1) 0 = (C : Nat) := ⟨(l.getD (i + 1) 0).toNat, by omega⟩
      have hn' := hx.n
      (repeat' (first | apply zao | apply zad | (apply O_at; rfl) | (apply zal; rfl) | apply zam | (apply za6; rfl) | apply zav | apply zay | ((first | apply zae | apply zac | apply zaI); rfl; rfl; rfl; rfl) | ((first | apply P_fa | apply M_fa); rfl; rfl; rfl; rfl; exact zaU rfl; (first | exact Nat.zero_add _ | exact Nat.add_zero _ | rfl)) | (apply zbP; rfl; rfl; rfl; rfl; rfl; omega) | (apply zbK; rfl; rfl; rfl; rfl; rfl; (unfold fit; omega)) | (apply zdk; rfl; rfl; rfl; rfl; rfl; exact zar rfl; exact zai rfl; (first | assumption | rfl | exact (Int.toNat_of_nonneg (by omega)).symm); omega) | (apply zap; rfl; rfl; rfl; rfl; exact zaB rfl; (focus repeat' first | exact zaa | assumption | apply zab | (apply Ext.get; assumption) | (apply ExtBut.get; assumption; (first | assumption | omega | (simp only [Heap.push]; omega)))); (first | exact zan (by omega) | rfl | assumption)) | (apply zby; rfl; rfl; rfl; rfl; exact zbg rfl; (focus repeat' first | exact zaa | assumption | apply zab | (apply Ext.get; assumption) | (apply ExtBut.get; assumption; (first | assumption | omega | (simp only [Heap.push]; omega)))); (first | exact Nat.le_of_ble_eq_true rfl | (simp; done) | (simp; omega) | (rw [zaq]; omega)); (first | exact zbc (by omega) | rfl)) | (apply zbf; rfl; rfl; rfl; rfl; exact zai rfl; rfl; rfl; rfl) | (apply zfl; rfl; rfl; rfl; rfl; exact zai rfl; rfl; rfl) | fail))
      simp only [e1, e2, hA, hC]
      refine zbJ (fun a : Nat × List Int => [(8, .int .i64 (a.1 : Nat)), (14, .int .i64 (i : Nat)), (13, .int .i64 ((l.length - 1 : Nat) : Int)), (12, .slice (some ⟨bp, 0, none⟩) (l.length - 1) cp), (7, .pointer (some ⟨h'.n, 0, none⟩)), (5, .slice (some ⟨bc, 0, none⟩) t.length unk), (2, .pointer (some ⟨h.n, 0, none⟩)), (1, .slice (some ⟨bt, 0, none⟩) t.length ct)])
        (fun a g => A + 1 ≤ a.1 ∧ a.1 ≤ C ∧ ExtBut bc (h'.push (.cells [.int .i64 (A : Nat), .int .i64 (C : Nat)] 123 true)) g ∧ g.get? bc = some (.cells (ints a.2) 3 true) ∧ a.2.length = t.length ∧ ∀ j, j < t.length → a.2.getD j 0 = if j < a.1 then figv l t r j else t.getD j 0) (fun a => C - a.1) ?_ (A + 1, F) ?_ ?_
      · rintro ⟨row, G⟩ g ⟨hr1, hr2, hxg, hbg, hGl, hGj⟩ ih2
        dsimp only at hr1 hr2 hbg hGl hGj ih2 ⊢
        have q1 : g.get? h'.n = some (.cells [.int .i64 (A : Nat), .int .i64 (C : Nat)] 123 true) := hxg.get (by omega) zaa
        have q2 := hxg.get hne2 (zab hk')
        have q3 := hxg.get hne3 (zab hgt')
        by_cases hrow : row < C
        · have hm := zhX (l := l) (t := t) (r := r) (i := i) (j := row) hG (by omega) (by omega) (by omega)
          rw [hA, hC, Int.toNat_natCast, Int.toNat_natCast] at hm
          have hA1 := hbd A (by omega)
          have hC1 := hbd C (by omega)
          have hlr : row < G.length := by omega
          (repeat' (first | apply zao | apply zad | (apply O_at; rfl) | (apply N_at; rfl) | (apply zal; rfl) | apply zam | (apply za6; rfl) | (apply za4; exact zaA (by decide +kernel)) | apply zav | apply zay | (apply zbL; rfl; refine .inr ?_; (focus repeat' first | exact trivial | exact Keeps.nil _ _ | apply And.intro | rfl | (apply Keeps.cons; iterate 2 (focus repeat' first | exact zaa | assumption | apply zab | (apply Ext.get; assumption) | (apply ExtBut.get; assumption; (first | assumption | omega | (simp only [Heap.push]; omega))))))) | apply zaO | ((first | apply zae | apply zac | apply zaI); rfl; rfl; rfl; rfl) | ((first | apply P_fa | apply M_fa); rfl; rfl; rfl; rfl; exact zaU rfl; (first | exact Nat.zero_add _ | exact Nat.add_zero _ | rfl)) | (apply zbP; rfl; rfl; rfl; rfl; rfl; omega) | (apply zbK; rfl; rfl; rfl; rfl; rfl; (unfold fit; omega)) | (apply zap; rfl; rfl; rfl; rfl; exact zaB rfl; (focus repeat' first | exact zaa | assumption | apply zab | (apply Ext.get; assumption) | (apply ExtBut.get; assumption; (first | assumption | omega | (simp only [Heap.push]; omega)))); (first | exact zan (by omega) | rfl | assumption)) | (apply zb7; rfl; rfl; rfl; rfl; rfl; exact zar rfl; exact zai rfl; (first | assumption | rfl | exact (Int.toNat_of_nonneg (by omega)).symm); omega) | ((first | ((apply zaV; rfl; rfl; rfl; rfl; exact zaB rfl); (focus repeat' first | exact zaa | assumption | apply zab | (apply Ext.get; assumption) | (apply ExtBut.get; assumption; (first | assumption | omega | (simp only [Heap.push]; omega)))); (first | exact zan (by omega) | rfl | assumption)) | ((apply zaY; rfl; rfl; rfl; rfl; exact zbg rfl); (focus repeat' first | exact zaa | assumption | apply zab | (apply Ext.get; assumption) | (apply ExtBut.get; assumption; (first | assumption | omega | (simp only [Heap.push]; omega)))); (first | exact Nat.le_of_ble_eq_true rfl | (simp; done) | (simp; omega) | (rw [zaq]; omega)); (first | exact zbc (by omega) | rfl))); (first | assumption | exact zaE _ _ | exact zjA _ _ | rfl | (focus simp [same, same.all2]; done)); (first | rfl | assumption | exact hwv _ | (simp [within]; omega))) | (apply M_storeI; rfl; rfl; rfl; rfl; (focus repeat' first | exact zaa | assumption | apply zab | (apply Ext.get; assumption) | (apply ExtBut.get; assumption; (first | assumption | omega | (simp only [Heap.push]; omega)))); exact zai rfl; (first | omega | (focus simp; done)); rfl; (intro _ _ _)) | ((first | (apply zag; rfl; rfl; rfl; rfl; rfl; rfl) | (apply zax; rfl; rfl; rfl; rfl; rfl; rfl; rfl)); exact zi9 hK hA1 hC1 (by omega) (by omega) (by omega) (by omega) (by omega) hr; (rintro _ _ ⟨rfl, _⟩)) | fail))
          rename_i g1 xg1 g2 qg2 xg2
          rw [← hm] at qg2
          refine zba (ih2 (row + 1, G.set row (figv l t r row)) _ (by dsimp only; omega) ⟨by dsimp only; omega, by dsimp only; omega, (hxg.trans (Ext.but xg1 _)).trans xg2, qg2, by simpa using hGl, fun j hj' => ?_⟩) (by (focus repeat' first | rfl | exact trivial | apply And.intro))
          dsimp only
          rw [getD_set hlr]
          by_cases w : j = row
          · subst w; rw [if_pos rfl, if_pos (by omega)]
          · rw [if_neg w, hGj j hj']
            by_cases w2 : j < row
            · rw [if_pos w2, if_pos (by omega)]
            · rw [if_neg w2, if_neg (by omega)]
        · have : row = C := by omega
          subst this
          (repeat' (first | apply zao | apply zad | (apply O_at; rfl) | (apply zal; rfl) | apply zam | (apply za3; rfl) | apply zbm | apply zbn | apply zaZ | apply za0 | apply zaO | ((first | apply zae | apply zac | apply zaI); rfl; rfl; rfl; rfl) | ((first | apply P_fa | apply M_fa); rfl; rfl; rfl; rfl; exact zaU rfl; (first | exact Nat.zero_add _ | exact Nat.add_zero _ | rfl)) | (apply zcn; rfl; rfl; rfl; rfl; rfl; omega) | (apply zbK; rfl; rfl; rfl; rfl; rfl; (unfold fit; omega)) | (apply zap; rfl; rfl; rfl; rfl; exact zaB rfl; (focus repeat' first | exact zaa | assumption | apply zab | (apply Ext.get; assumption) | (apply ExtBut.get; assumption; (first | assumption | omega | (simp only [Heap.push]; omega)))); (first | exact zan (by omega) | rfl | assumption)) | fail))
          refine zba (ih (i + 1, G) _ (by dsimp only; omega) ⟨by dsimp only; omega, (hx.trans (Ext.but (Ext.push (Ext.refl _) _) _)).trans hxg, hbg, hGl, fun j hj' => ?_⟩) (by (focus repeat' first | rfl | exact trivial | apply And.intro))
          dsimp only
          rw [hGj j hj', hC]
          by_cases w : j < row
          · rw [if_pos w, if_pos (by omega)]
          · rw [if_neg w, if_neg (by omega)]
      · refine ⟨Nat.le_refl _, by omega, ExtBut.refl _ _, zab hb, hF, fun j hj' => ?_⟩
        dsimp only
        rw [hj j hj', hA]
        by_cases w : j < A
        · rw [if_pos (by omega), if_pos (by omega)]
        · by_cases w2 : j = A
          · subst w2
            rw [if_neg (by omega), if_pos (by omega), zci hG (by omega) hA]
          · rw [if_neg (by omega), if_neg (by omega)]
      · (focus repeat' first | rfl | exact trivial | apply And.intro)
    · have : i = l.length - 1 := by omega
      subst this
      (repeat' (first | apply zao | apply zad | (apply O_at; rfl) | (apply zal; rfl) | apply zam | (apply za3; rfl) | apply zbm | apply zat | apply zbn | apply zaZ | apply za0 | apply zau | ((first | apply zae | apply zac | apply zaI); rfl; rfl; rfl; rfl) | (apply zcn; rfl; rfl; rfl; rfl; rfl; omega) | fail))
      have hfin : F = figs l t r s.length := by
        refine list_eq (by rw [hF, ze9, htl]) fun j hj' => ?_
        rw [hj j (by omega), zfa (by omega)]
        by_cases w : ((j : Nat) : Int) < l.getD (l.length - 1) 0
        · rw [if_pos w]
        · rw [if_neg w, zci hG (show l.length - 1 < l.length by omega) (by omega)]
      refine ⟨.inr rfl, _, rfl, some ⟨bc, 0, none⟩, unk, ?_, .inr ⟨_, _, _, rfl, hfin ▸ hb⟩, ?_⟩
      · rw [ze9, ← htl]; rfl
      · exact Ext.ofBut (((Ext.push (Ext.refl h) _).trans x2).trans x3) hx (by omega)
  · exact ⟨Nat.zero_le _, ExtBut.refl _ _, gc3, rfl, fun j hj => by dsimp only; rw [h0, if_neg (by omega)]⟩
  · (focus repeat' first | rfl | exact trivial | apply And.intro)
end Go.AX.Sa

namespace Go.AX.Sa
open Go.Proofs
set_option maxRecDepth 100000
variable {K : Known}
/-! The specification's figures; what is asked for. -/
end Go.AX.Sa

namespace Go.AX.Sa
open Go.Proofs
set_option maxRecDepth 100000
variable {K : Known}
/-! All figures, and whether they are right. -/
def RightP (s : List (Int × Int)) (l t : List Int) (r o : Int) : Prop := ∀ j, j < s.length → t.getD j 0 - o ≤ figv l t r j ∧ figv l t r j ≤ t.getD j 0 + o
end Go.AX.Sa

namespace Go.AX.Sa
open Go.Proofs
set_option maxRecDepth 100000
variable {K : Known}
/-! Check, Figures, Right. -/
theorem fill_st (q p : Option Addr) (n k m j : Nat) (r o : Int) : fillB Tryz.prog 82 [(0, .agg #[.slice q n k, .int .i64 r, .int .i64 o]), (1, .slice p m j)] = some (.agg #[.slice q n k, .int .i64 r, .int .i64 o, .slice p m j]) := by kernel_rfl
section
variable {x : Ctx} {N : Nat} {E : Env} {h : Heap} {ops : Array Oper} {F : Ex → Env → Heap → Prop} {i : Nat}
variable {d : Nat} {ty : TypeId} {pos : String} {af : Array Edge} {g : Option (Nat × Bool)} {ps : Array (Nat × Operand)}
theorem zc7 {q p : Option Addr} {n k1 m j : Nat} {r o : Int} (hN : Nat.blt d N = true) (hg : gval ops E g = some true) (hk : opsOK Tryz.prog ⟨some d, .build 82 ps, ty, pos, af, g⟩ = true)
    (hps : E.parts ps.toList = some [(0, .agg #[.slice q n k1, .int .i64 r, .int .i64 o]), (1, .slice p m j)]) (k : R1 Tryz.prog K x N ops F (i + 1) ((d, .agg #[.slice q n k1, .int .i64 r, .int .i64 o, .slice p m j]) :: E) h) : R2 Tryz.prog K x N ops F i ⟨some d, .build 82 ps, ty, pos, af, g⟩ E h := zeg hN hg hk hps (fill_st q p n k1 m j r o) k
end
theorem zim (hK : NoK K) {T : Tb} {l t : List Int} {p pt : Option Addr} {cap ct : Nat} {h : Heap} (hP : TbP T) (hKp : KeptP T.s.length l) (hT : TruthP T.s t) (hcap : l.length ≤ cap) (hll : l.length ≤ 1000) (hTb : TbAt T h) (hr : Rd h p (ints l)) (hrt : Rd h pt (ints t)) (hpb : ∀ a, p = some a → a.block < h.n) :
    CallW Tryz.prog K 18 #[tbV T, .slice p l.length cap, .slice pt t.length ct] h (OkL (figs l t T.r T.s.length) h) := by
  have hn := hP.1
  have htl := hT.1
  have hl2 := hKp.1
  obtain ⟨b, e, own, rfl, hg⟩ := hr.at (by rw [zak]; omega)
  obtain ⟨bt, et, ownt, rfl, hgt⟩ := hrt.at (by rw [zak]; omega)
  have iK : ∀ {h' : Heap}, Ext h h' → CallW Tryz.prog K 63 #[ktV T (some ⟨b, 0, none⟩) l.length cap] h' (IsV (.bool true) h') := fun x => yes (zkf hK (by omega) hll (hTb.ext x) (hr.ext x) (fun a w => Nat.lt_of_lt_of_le (hpb a w) x.n)) ⟨hP, hKp⟩
  have iW : ∀ {h' : Heap}, Ext h h' → CallW Tryz.prog K 64 #[.slice (some ⟨bt, 0, none⟩) t.length ct, .slice T.q T.s.length T.k] h' (IsV (.bool true) h') := fun x => yes (zgh hK (by omega) (hTb.rd.ext x) (by omega) (hrt.ext x)) hT
  have iF : ∀ {h' : Heap}, Ext h h' → CallW Tryz.prog K 65 #[ktV T (some ⟨b, 0, none⟩) l.length cap, .slice (some ⟨bt, 0, none⟩) t.length ct] h' (IsL (figs l t T.r T.s.length) h') := fun x => ziW hK hP hKp hT hcap hll (x.get hg) (x.get hgt)
  obtain ⟨q, kq, s, r, o⟩ := T
  dsimp only [tbV, ktV] at iK iW iF ⊢
  refine body (N := 25) Tryz.func18 rfl (hK _ _ _ rfl) rfl rfl ?_
  (repeat' (first | apply zao | apply zad | (apply O_at; rfl) | (apply zal; rfl) | apply zam | (apply za3; rfl) | apply zay | apply zat | apply zau | ((first | apply zae | apply zac | apply zdn); rfl; rfl; rfl; rfl) | (apply P_fa; rfl; rfl; rfl; rfl; exact zaU rfl; (first | exact Nat.zero_add _ | exact Nat.add_zero _ | rfl)) | (apply zaG; rfl; rfl; rfl; rfl; rfl; rfl) | (apply zap; rfl; rfl; rfl; rfl; exact zaB rfl; (focus repeat' first | exact zaa | assumption | apply zab | (apply Ext.get; assumption)); (first | rfl | assumption)) | (apply zby; rfl; rfl; rfl; rfl; exact zbg rfl; (focus repeat' first | exact zaa | assumption | apply zab | (apply Ext.get; assumption)); (first | exact Nat.le_of_ble_eq_true rfl | (simp; done) | (simp; omega) | (rw [zak]; omega)); rfl) | (apply zbf; rfl; rfl; rfl; rfl; exact zai rfl; rfl; rfl; rfl) | (apply zc7; rfl; rfl; rfl; rfl) | (apply za5; rfl; rfl; rfl; rfl; exact zai rfl; rfl; rfl) | (apply zfl; rfl; rfl; rfl; rfl; exact zai rfl; rfl; rfl) | (apply zag; rfl; rfl; rfl; rfl; rfl; rfl; exact iK (by (focus repeat' first | exact Ext.refl _ | assumption | apply Ext.push | (refine Ext.trans ?_ (by assumption)))); (rintro _ _ ⟨rfl, _⟩)) | (apply zag; rfl; rfl; rfl; rfl; rfl; rfl; exact iW (by (focus repeat' first | exact Ext.refl _ | assumption | apply Ext.push | (refine Ext.trans ?_ (by assumption)))); (rintro _ _ ⟨rfl, _⟩)) | (apply zag; rfl; rfl; rfl; rfl; rfl; rfl; exact iF (by (focus repeat' first | exact Ext.refl _ | assumption | apply Ext.push | (refine Ext.trans ?_ (by assumption)))); (rintro _ _ ⟨_, _, rfl, _, _⟩)) | fail))
  rename_i rd1 y1
  exact ⟨.inr rfl, _, rfl, _, _, rfl, rd1, by (focus repeat' first | exact Ext.refl _ | assumption | apply Ext.push | (refine Ext.trans ?_ (by assumption)))⟩
end Go.AX.Sa

namespace Go.AX.Sa
open Go.Proofs
set_option maxRecDepth 100000
variable {K : Known}
/-! Right; the law. -/
theorem short_ok (hK : NoK K) {T : Tb} {h : Heap} : CallW Tryz.prog K 15 #[tbV T] h (IfB (T.s.length ≤ 16) h) := by
  obtain ⟨q, kq, s, r, o⟩ := T
  dsimp only [tbV]
  refine body (N := 7) Tryz.func15 rfl (hK _ _ _ rfl) rfl rfl ?_
  by_cases hs : s.length ≤ 16
  · (repeat' (first | apply zao | apply zad | (apply O_at; rfl) | (apply zal; rfl) | apply zam | apply zat | apply zau | (apply zac; rfl; rfl; rfl; rfl) | (apply P_fa; rfl; rfl; rfl; rfl; exact zaU rfl; (first | exact Nat.zero_add _ | exact Nat.add_zero _ | rfl)) | (apply zbw; rfl; rfl; rfl; rfl; rfl; rfl; exact zar rfl) | (apply zgl; rfl; rfl; rfl; rfl; rfl; omega) | (apply zap; rfl; rfl; rfl; rfl; exact zaB rfl; (focus repeat' first | exact zaa | assumption); (first | rfl | assumption)) | (apply za5; rfl; rfl; rfl; rfl; exact zai rfl; rfl; rfl) | fail))
    exact ⟨.inr rfl, _, rfl, .inl ⟨rfl, hs, by (focus repeat' first | exact Ext.refl _ | assumption | apply Ext.push)⟩⟩
  · (repeat' (first | apply zao | apply zad | (apply O_at; rfl) | (apply zal; rfl) | apply zam | apply zat | apply zau | (apply zac; rfl; rfl; rfl; rfl) | (apply P_fa; rfl; rfl; rfl; rfl; exact zaU rfl; (first | exact Nat.zero_add _ | exact Nat.add_zero _ | rfl)) | (apply zbw; rfl; rfl; rfl; rfl; rfl; rfl; exact zar rfl) | (apply zib; rfl; rfl; rfl; rfl; rfl; omega) | (apply zap; rfl; rfl; rfl; rfl; exact zaB rfl; (focus repeat' first | exact zaa | assumption); (first | rfl | assumption)) | (apply za5; rfl; rfl; rfl; rfl; exact zai rfl; rfl; rfl) | fail))
    exact ⟨.inr rfl, _, rfl, .inr ⟨rfl, hs, by (focus repeat' first | exact Ext.refl _ | assumption | apply Ext.push)⟩⟩
end Go.AX.Sa

namespace Go.AX.Sa
open Go.Proofs
set_option maxRecDepth 100000
variable {K : Known}
/-- A list in memory, as an argument. -/
structure RowAt (p : Option Addr) (l : List Int) (cap : Nat) (h : Heap) : Prop where
  rd : Rd h p (ints l)
  b : ∀ a, p = some a → a.block < h.n
  cap : l.length ≤ 1000000 → l.length ≤ cap
theorem RowAt.ext {p : Option Addr} {l : List Int} {cap : Nat} {h h1 : Heap} (x : RowAt p l cap h) (e : Ext h h1) : RowAt p l cap h1 := ⟨x.rd.ext e, fun a q => Nat.lt_of_lt_of_le (x.b a q) e.n, x.cap⟩
end Go.AX.Sa

namespace Go.AX.Sa
open Go.Proofs
set_option maxRecDepth 100000
variable {K : Known}
/-! The theorem of figures: numbers. -/
theorem mixv_lo (a c x y : Int) : mixv a c a x y = x * (c - a) := by
  unfold mixv; rw [Int.sub_self, Int.mul_zero, Int.add_zero]
theorem mixv_hi (a c x y : Int) : mixv a c c x y = y * (c - a) := by
  unfold mixv; rw [Int.sub_self, Int.mul_zero, Int.zero_add]
/-- Between two kept rows, both included. -/
theorem zhW {l t : List Int} {r : Int} {i j : Nat} (hG : GrowP l) (hi : i + 1 < l.length) (h1 : l.getD i 0 ≤ (j : Nat)) (h2 : ((j : Nat) : Int) ≤ l.getD (i + 1) 0) :
    figv l t r j = rnd r (mixv (l.getD i 0) (l.getD (i + 1) 0) j (t.getD (l.getD i 0).toNat 0) (t.getD (l.getD (i + 1) 0).toNat 0)) (l.getD (i + 1) 0 - l.getD i 0) := by
  have hg := hG i hi
  by_cases e1 : l.getD i 0 = (j : Nat)
  · rw [zci hG (by omega) e1, e1, mixv_lo, zdI (by omega), Int.toNat_natCast]
  · by_cases e2 : l.getD (i + 1) 0 = (j : Nat)
    · rw [zci hG hi e2, e2, mixv_hi, zdI (by omega), Int.toNat_natCast]
    · exact zhX hG hi (by omega) (by omega)
theorem mixv_is (a c j x y : Int) : mixv a c j x y = mix a c j x y := rfl
/-- The figure lies between the numbers of the kept rows around it. -/
theorem zg8 {l t : List Int} {r lo hi : Int} {i j : Nat} (hG : GrowP l) (hi' : i + 1 < l.length) (h1 : l.getD i 0 ≤ (j : Nat)) (h2 : ((j : Nat) : Int) ≤ l.getD (i + 1) 0)
    (x1 : lo ≤ t.getD (l.getD i 0).toNat 0) (x2 : t.getD (l.getD i 0).toNat 0 ≤ hi) (y1 : lo ≤ t.getD (l.getD (i + 1) 0).toNat 0) (y2 : t.getD (l.getD (i + 1) 0).toNat 0 ≤ hi) :
    lo ≤ figv l t r j ∧ figv l t r j ≤ hi := by
  have hg := hG i hi'
  rw [zhW hG hi' h1 h2, mixv_is]
  exact zgX h1 h2 hg x1 x2 y1 y2
/-- A table that is short and as defined, and a kept list of it. -/
def RightT (T : Tb) (l : List Int) : Prop := T.s.length ≤ 16 ∧ l.length ≤ 16 ∧ TbP T ∧ KeptP T.s.length l
end Go.AX.Sa

namespace Go.AX.Sa
open Go.Proofs
set_option maxRecDepth 100000
variable {K : Known}
/-! The theorem of figures. -/
theorem zbU {s : List (Int × Int)} {t : List Int} (hV : Vals s) (hT : TruthP s t) {j : Nat} (hj : j < s.length) : -9999 ≤ t.getD j 0 ∧ t.getD j 0 ≤ 9999 := by
  have h1 := hV j hj
  have h2 := hT.2 j (by rw [hT.1]; exact hj)
  unfold ValP at h1
  omega
theorem zkd {n : Nat} {l : List Int} (hKp : KeptP n l) {i : Nat} (hi : i < l.length) : 0 ≤ l.getD i 0 ∧ l.getD i 0 ≤ (n : Int) - 1 := by
  have a := keptLe hKp.2.2.2 (Nat.zero_le i) hi
  have c := keptLe hKp.2.2.2 (show i ≤ l.length - 1 by omega) (by omega)
  have h0 := hKp.2.1
  have h1 := hKp.2.2.1
  omega
/-- All figures are numbers as rows have them. -/
theorem zkn {s : List (Int × Int)} {l t : List Int} {r : Int} (hV : Vals s) (hKp : KeptP s.length l) (hT : TruthP s t) {j : Nat} (hj : j < s.length) : -9999 ≤ (figs l t r s.length).getD j 0 ∧ (figs l t r s.length).getD j 0 ≤ 9999 := by
  rw [zfa hj]
  rcases row_at hKp hj with ⟨i, hi, hij⟩ | ⟨i, hi, h1, h2⟩
  · rw [zci hKp.2.2.2 hi hij]
    exact zbU hV hT hj
  · have a1 := zkd hKp (i := i) (by omega)
    have a2 := zkd hKp hi
    have b1 := zbU hV hT (j := (l.getD i 0).toNat) (by omega)
    have b2 := zbU hV hT (j := (l.getD (i + 1) 0).toNat) (by omega)
    exact zg8 hKp.2.2.2 hi (by omega) (by omega) b1.1 b1.2 b2.1 b2.2
end Go.AX.Sa

namespace Go.AX.Sa
open Go.Proofs
set_option maxRecDepth 100000
variable {K : Known}
/-! The theorem of proportional parts. -/
theorem rnd_add {rule v u a : Int} (hu : 0 < u) (hr : rule ≠ 4) : rnd rule (a * u + v) u = a + rnd rule v u := by
  have e1 : (a * u + v) / u = a + v / u := by rw [Int.add_comm (a * u), Int.add_mul_ediv_right _ _ (by omega)]; omega
  have e2 : (a * u + v) % u = v % u := by rw [Int.add_comm, Int.add_mul_emod_self_right]
  by_cases h : upP rule v u
  · rw [zct h, zct (by unfold upP at *; rw [e1, e2]; omega), e1]; omega
  · rw [zce h, zce (by unfold upP at *; rw [e1, e2]; omega), e1]
theorem zb2 {r d p : Int} {n k : Nat} (h : k < n) : (prts r d p n).getD k 0 = rnd r (d * (k : Nat)) p := by
  simp [prts, prt, List.getD_eq_getElem?_getD, h]
theorem ziL {r d p : Int} {n : Nat} (h : 0 < n) (hp : 0 < p) : (prts r d p n).getD 0 0 = 0 := by
  rw [zb2 h, show d * ((0 : Nat) : Int) = 0 * p by simp, zdI hp]
theorem zjR {r d : Int} {P n : Nat} (h : P < n) (hp : 0 < P) : (prts r d P n).getD P 0 = d := by
  rw [zb2 h, zdI (by omega)]
theorem prts_up {r d p : Int} {n k : Nat} (h : k + 1 < n) (hp : 0 < p) (hd : 0 ≤ d) : (prts r d p n).getD k 0 ≤ (prts r d p n).getD (k + 1) 0 := by
  rw [zb2 h, zb2 (by omega)]
  exact zdv hp (Int.mul_le_mul_of_nonneg_left (by omega) hd)
theorem zjS {r d p : Int} {n k : Nat} (h : k + 1 < n) (hp : 0 < p) (hd : d ≤ 0) : (prts r d p n).getD (k + 1) 0 ≤ (prts r d p n).getD k 0 := by
  rw [zb2 h, zb2 (by omega)]
  exact zdv hp (Int.mul_le_mul_of_nonpos_left hd (by omega))
theorem zd3 {n : Nat} (hn : 2 ≤ n) : KeptP n [0, (n : Int) - 1] := by
  refine ⟨Nat.le_refl _, rfl, rfl, fun i hi => ?_⟩
  obtain rfl : i = 0 := by simp only [List.length_cons, List.length_nil] at hi; omega
  show (0 : Int) < (n : Int) - 1
  omega
/-- With the first and the last row alone, each figure is the first number and a part. -/
theorem zko {t : List Int} {r : Int} {n P j : Nat} (hn : n = P + 1) (hP : 1 ≤ P) (hj : j < n) (hr : r ≠ 4) :
    (figs [0, (n : Int) - 1] t r n).getD j 0 - t.getD 0 0 = (prts r (t.getD P 0 - t.getD 0 0) ((n : Int) - 1) (P + 1)).getD j 0 := by
  have hk := zd3 (n := n) (by omega)
  have h0 : ([0, (n : Int) - 1] : List Int).getD 0 0 = 0 := rfl
  have h1 : ([0, (n : Int) - 1] : List Int).getD (0 + 1) 0 = (n : Int) - 1 := rfl
  rw [zfa hj, zhW (i := 0) hk.2.2.2 (Nat.lt_succ_self 1) (by rw [h0]; omega) (by rw [h1]; omega), h0, h1, zb2 (by omega)]
  rw [show ((n : Int) - 1).toNat = P by omega, show (0 : Int).toNat = 0 from rfl]
  unfold mixv
  rw [show t.getD 0 0 * ((n : Int) - 1 - (j : Nat)) + t.getD P 0 * (((j : Nat) : Int) - 0) = t.getD 0 0 * ((n : Int) - 1) + (t.getD P 0 - t.getD 0 0) * (j : Nat) by
    rw [Int.mul_sub, Int.sub_mul, Int.sub_zero]; omega, Int.sub_zero, rnd_add (by omega) hr]
  omega
theorem ziK (hK : NoK K) {T : Tb} {n : Int} {h : Heap} (hsl : T.s.length ≤ 1000) : CallW Tryz.prog K 32 #[tbV T, .int .i64 n] h (IfB (0 ≤ n ∧ n ≤ (T.s.length : Int) - 1) h) := by
  obtain ⟨q, kq, s, r, o⟩ := T
  dsimp only [tbV] at hsl ⊢
  refine body (N := 11) Tryz.func32 rfl (hK _ _ _ rfl) rfl rfl ?_
  by_cases hc : 0 ≤ n ∧ n ≤ (s.length : Int) - 1
  · (repeat' (first | apply zao | apply zad | (apply O_at; rfl) | (apply zal; rfl) | apply zam | apply zat | apply zau | ((first | apply zae | apply zac); rfl; rfl; rfl; rfl) | (apply P_fa; rfl; rfl; rfl; rfl; exact zaU rfl; (first | exact Nat.zero_add _ | exact Nat.add_zero _ | rfl)) | (apply zbw; rfl; rfl; rfl; rfl; rfl; rfl; exact zar rfl) | (apply zbX; rfl; rfl; rfl; rfl; rfl; (unfold fit; omega)) | (apply zap; rfl; rfl; rfl; rfl; exact zaB rfl; (focus repeat' first | exact zaa | assumption); (first | rfl | assumption)) | (apply za5; rfl; rfl; rfl; rfl; exact zai rfl; rfl; rfl) | (apply zag; rfl; rfl; rfl; rfl; rfl; rfl; exact yes (zb1 hK) hc; (rintro _ _ ⟨rfl, _⟩)) | fail))
    exact ⟨.inr rfl, _, rfl, .inl ⟨rfl, hc, by (focus repeat' first | exact Ext.refl _ | assumption | apply Ext.push | (refine Ext.trans ?_ (by assumption)))⟩⟩
  · (repeat' (first | apply zao | apply zad | (apply O_at; rfl) | (apply zal; rfl) | apply zam | apply zat | apply zau | ((first | apply zae | apply zac); rfl; rfl; rfl; rfl) | (apply P_fa; rfl; rfl; rfl; rfl; exact zaU rfl; (first | exact Nat.zero_add _ | exact Nat.add_zero _ | rfl)) | (apply zbw; rfl; rfl; rfl; rfl; rfl; rfl; exact zar rfl) | (apply zbX; rfl; rfl; rfl; rfl; rfl; (unfold fit; omega)) | (apply zap; rfl; rfl; rfl; rfl; exact zaB rfl; (focus repeat' first | exact zaa | assumption); (first | rfl | assumption)) | (apply za5; rfl; rfl; rfl; rfl; exact zai rfl; rfl; rfl) | (apply zag; rfl; rfl; rfl; rfl; rfl; rfl; exact no (zb1 hK) hc; (rintro _ _ ⟨rfl, _⟩)) | fail))
    exact ⟨.inr rfl, _, rfl, .inr ⟨rfl, hc, by (focus repeat' first | exact Ext.refl _ | assumption | apply Ext.push | (refine Ext.trans ?_ (by assumption)))⟩⟩
set_option maxHeartbeats 4000000 in
/-- P5.1, P5.2: the theorem of proportional parts. -/
theorem zcv (hK : NoK K) (hKn : Kn K) {T : Tb} {t : List Int} {pt : Option Addr} {ct : Nat} {row : Int} {h : Heap} (hTb : TbAt T h) (ht : RowAt pt t ct h) :
    CallW Tryz.prog K 6 #[tbV T, .slice pt t.length ct, .int .i64 row] h (fun v _ => v = .bool true) := by
  have iS : ∀ {h' : Heap}, CallW Tryz.prog K 15 #[tbV T] h' (IfB (T.s.length ≤ 16) h') := short_ok hK
  have iT : ∀ {h' : Heap}, T.s.length ≤ 16 → Ext h h' → CallW Tryz.prog K 20 #[tbV T] h' (IfB (TbP T) h') := fun a x => zgJ hK (by omega) (hTb.ext x)
  have iU : ∀ {h' : Heap}, T.s.length ≤ 16 → t.length ≤ 16 → Ext h h' → CallW Tryz.prog K 22 #[tbV T, .slice pt t.length ct] h' (IfB (TruthP T.s t) h') := fun a b x => zgI hK (by omega) (hTb.ext x).rd (by omega) (ht.ext x).rd
  have iN : ∀ {h' : Heap}, T.s.length ≤ 16 → CallW Tryz.prog K 32 #[tbV T, .int .i64 row] h' (IfB (0 ≤ row ∧ row ≤ (T.s.length : Int) - 1) h') := fun a => ziK hK (by omega)
  have iF : ∀ {b : Nat} {own : Bool} {h' : Heap}, TbP T → TruthP T.s t → h'.get? b = some (.cells (ints [0, (T.s.length : Int) - 1]) 3 own) → Ext h h' → CallW Tryz.prog K 18 #[tbV T, .slice (some ⟨b, 0, none⟩) 2 2, .slice pt t.length ct] h' (OkL (figs [0, (T.s.length : Int) - 1] t T.r T.s.length) h') := fun a c g x =>
    zim (l := [0, (T.s.length : Int) - 1]) (cap := 2) hK a (zd3 a.1.1) c (Nat.le_refl _) (by simp) (hTb.ext x) (.inr ⟨_, _, _, rfl, g⟩) (ht.ext x).rd (fun a w => by cases w; exact Heap.get_lt g)
  obtain ⟨q, kq, s, r, o⟩ := T
  have hqb : ∀ a, q = some a → a.block < h.n := hTb.b
  dsimp only [tbV] at *
  by_cases hs : s.length ≤ 16
  case neg =>
    refine body (N := 171) Tryz.func6 rfl (hK _ _ _ rfl) rfl rfl ?_
    (repeat' (first | apply zao | apply zad | (apply O_at; rfl) | (apply N_at; rfl) | (apply zal; rfl) | apply zam | (apply za6; rfl) | (apply za4; exact zaA (by decide +kernel)) | apply zat | (apply zbL; rfl; refine .inr ?_; (focus repeat' first | exact trivial | exact Keeps.nil _ _ | apply And.intro | rfl | (apply Keeps.cons; iterate 2 (focus repeat' first | exact zaa | assumption | apply zab | (apply Ext.get; assumption))))) | apply zaR | apply zau | ((first | apply zae | apply zac | apply zaI | apply zaH | apply zb9); rfl; rfl; rfl; rfl) | ((first | apply P_fa | apply M_fa); rfl; rfl; rfl; rfl; exact zaU rfl; (first | exact Nat.zero_add _ | exact Nat.add_zero _ | rfl)) | ((first | apply zbw | apply zeu); rfl; rfl; rfl; rfl; rfl; rfl; exact zar rfl) | ((first | apply zaG | apply zbl); rfl; rfl; rfl; rfl; rfl; rfl) | (apply zap; rfl; rfl; rfl; rfl; exact zaB rfl; (focus repeat' first | exact zaa | assumption | apply zab | (apply Ext.get; assumption)); (first | exact zan (by omega) | rfl | assumption)) | (apply P_subW; rfl; rfl; rfl; rfl; rfl) | (apply za5; rfl; rfl; rfl; rfl; exact zai rfl; rfl; rfl) | (apply zb6; rfl; rfl; rfl; rfl) | (apply zda; rfl; rfl; rfl; rfl) | ((first | ((apply zaV; rfl; rfl; rfl; rfl; exact zaB rfl); (focus repeat' first | exact zaa | assumption | apply zab | (apply Ext.get; assumption)); (first | exact zan (by omega) | rfl | assumption)) | ((apply zaY; rfl; rfl; rfl; rfl; exact zbg rfl); (focus repeat' first | exact zaa | assumption | apply zab | (apply Ext.get; assumption)); (first | exact Nat.le_of_ble_eq_true rfl | (simp; done) | (simp; omega) | (rw [zak]; omega)); rfl)); (first | assumption | exact zaE _ _ | exact za1 _ _ _ _ _ | rfl | (focus simp [same, same.all2]; done)); (first | rfl | assumption | exact hwv _ | exact zaw (by assumption) (by (focus repeat' first | exact Ext.refl _ | assumption | apply Ext.push | (refine Ext.trans ?_ (by assumption)))) | (simp [within]; omega))) | ((first | (apply zag; rfl; rfl; rfl; rfl; rfl; rfl) | (apply zax; rfl; rfl; rfl; rfl; rfl; rfl; rfl)); exact no iS hs; (rintro _ _ ⟨rfl, _⟩)) | ((first | (apply zag; rfl; rfl; rfl; rfl; rfl; rfl) | (apply zax; rfl; rfl; rfl; rfl; rfl; rfl; rfl)); exact zbH hKn; (rintro _ _ ⟨rfl, _⟩)) | fail))
    exact ⟨.inr rfl, _, rfl, rfl⟩
  by_cases ht16 : t.length ≤ 16
  case neg =>
    refine body (N := 171) Tryz.func6 rfl (hK _ _ _ rfl) rfl rfl ?_
    (repeat' (first | apply zao | apply zad | (apply O_at; rfl) | (apply N_at; rfl) | (apply zal; rfl) | apply zam | (apply za6; rfl) | (apply za4; exact zaA (by decide +kernel)) | apply zat | (apply zbL; rfl; refine .inr ?_; (focus repeat' first | exact trivial | exact Keeps.nil _ _ | apply And.intro | rfl | (apply Keeps.cons; iterate 2 (focus repeat' first | exact zaa | assumption | apply zab | (apply Ext.get; assumption))))) | apply zaR | apply zau | ((first | apply zae | apply zac | apply zaI | apply zaH | apply zb9); rfl; rfl; rfl; rfl) | ((first | apply P_fa | apply M_fa); rfl; rfl; rfl; rfl; exact zaU rfl; (first | exact Nat.zero_add _ | exact Nat.add_zero _ | rfl)) | ((first | apply zbw | apply zeu); rfl; rfl; rfl; rfl; rfl; rfl; exact zar rfl) | ((first | apply zaG | apply zbl); rfl; rfl; rfl; rfl; rfl; rfl) | ((first | apply zbX | apply zdq); rfl; rfl; rfl; rfl; rfl; (unfold fit; omega)) | (apply zap; rfl; rfl; rfl; rfl; exact zaB rfl; (focus repeat' first | exact zaa | assumption | apply zab | (apply Ext.get; assumption)); (first | exact zan (by omega) | rfl | assumption)) | (apply za5; rfl; rfl; rfl; rfl; exact zai rfl; rfl; rfl) | (apply zb6; rfl; rfl; rfl; rfl) | (apply zda; rfl; rfl; rfl; rfl) | (apply zif; rfl; rfl; rfl; rfl; rfl; omega) | ((first | ((apply zaV; rfl; rfl; rfl; rfl; exact zaB rfl); (focus repeat' first | exact zaa | assumption | apply zab | (apply Ext.get; assumption)); (first | exact zan (by omega) | rfl | assumption)) | ((apply zaY; rfl; rfl; rfl; rfl; exact zbg rfl); (focus repeat' first | exact zaa | assumption | apply zab | (apply Ext.get; assumption)); (first | exact Nat.le_of_ble_eq_true rfl | (simp; done) | (simp; omega) | (rw [zak]; omega)); rfl)); (first | assumption | exact zaE _ _ | exact za1 _ _ _ _ _ | rfl | (focus simp [same, same.all2]; done)); (first | rfl | assumption | exact hwv _ | exact zaw (by assumption) (by (focus repeat' first | exact Ext.refl _ | assumption | apply Ext.push | (refine Ext.trans ?_ (by assumption)))) | (simp [within]; omega))) | ((first | (apply zag; rfl; rfl; rfl; rfl; rfl; rfl) | (apply zax; rfl; rfl; rfl; rfl; rfl; rfl; rfl)); exact yes iS hs; (rintro _ _ ⟨rfl, _⟩)) | ((first | (apply zag; rfl; rfl; rfl; rfl; rfl; rfl) | (apply zax; rfl; rfl; rfl; rfl; rfl; rfl; rfl)); exact zbH hKn; (rintro _ _ ⟨rfl, _⟩)) | fail))
    exact ⟨.inr rfl, _, rfl, rfl⟩
  by_cases hP : TbP ⟨q, kq, s, r, o⟩
  case neg =>
    refine body (N := 171) Tryz.func6 rfl (hK _ _ _ rfl) rfl rfl ?_
    (repeat' (first | apply zao | apply zad | (apply O_at; rfl) | (apply N_at; rfl) | (apply zal; rfl) | apply zam | (apply za6; rfl) | (apply za4; exact zaA (by decide +kernel)) | apply zat | (apply zbL; rfl; refine .inr ?_; (focus repeat' first | exact trivial | exact Keeps.nil _ _ | apply And.intro | rfl | (apply Keeps.cons; iterate 2 (focus repeat' first | exact zaa | assumption | apply zab | (apply Ext.get; assumption))))) | apply zaR | apply zau | ((first | apply zae | apply zac | apply zaI | apply zaH | apply zb9); rfl; rfl; rfl; rfl) | ((first | apply P_fa | apply M_fa); rfl; rfl; rfl; rfl; exact zaU rfl; (first | exact Nat.zero_add _ | exact Nat.add_zero _ | rfl)) | ((first | apply zbw | apply zeu); rfl; rfl; rfl; rfl; rfl; rfl; exact zar rfl) | ((first | apply zaG | apply zbl); rfl; rfl; rfl; rfl; rfl; rfl) | ((first | apply zbX | apply zdq); rfl; rfl; rfl; rfl; rfl; (unfold fit; omega)) | (apply zap; rfl; rfl; rfl; rfl; exact zaB rfl; (focus repeat' first | exact zaa | assumption | apply zab | (apply Ext.get; assumption)); (first | exact zan (by omega) | rfl | assumption)) | (apply za5; rfl; rfl; rfl; rfl; exact zai rfl; rfl; rfl) | (apply zb6; rfl; rfl; rfl; rfl) | (apply zda; rfl; rfl; rfl; rfl) | (apply zeh; rfl; rfl; rfl; rfl; rfl; omega) | ((first | ((apply zaV; rfl; rfl; rfl; rfl; exact zaB rfl); (focus repeat' first | exact zaa | assumption | apply zab | (apply Ext.get; assumption)); (first | exact zan (by omega) | rfl | assumption)) | ((apply zaY; rfl; rfl; rfl; rfl; exact zbg rfl); (focus repeat' first | exact zaa | assumption | apply zab | (apply Ext.get; assumption)); (first | exact Nat.le_of_ble_eq_true rfl | (simp; done) | (simp; omega) | (rw [zak]; omega)); rfl)); (first | assumption | exact zaE _ _ | exact za1 _ _ _ _ _ | rfl | (focus simp [same, same.all2]; done)); (first | rfl | assumption | exact hwv _ | exact zaw (by assumption) (by (focus repeat' first | exact Ext.refl _ | assumption | apply Ext.push | (refine Ext.trans ?_ (by assumption)))) | (simp [within]; omega))) | ((first | (apply zag; rfl; rfl; rfl; rfl; rfl; rfl) | (apply zax; rfl; rfl; rfl; rfl; rfl; rfl; rfl)); exact yes iS hs; (rintro _ _ ⟨rfl, _⟩)) | ((first | (apply zag; rfl; rfl; rfl; rfl; rfl; rfl) | (apply zax; rfl; rfl; rfl; rfl; rfl; rfl; rfl)); exact no (iT hs (by (focus repeat' first | exact Ext.refl _ | assumption | apply Ext.push | (refine Ext.trans ?_ (by assumption))))) hP; (rintro _ _ ⟨rfl, _⟩)) | ((first | (apply zag; rfl; rfl; rfl; rfl; rfl; rfl) | (apply zax; rfl; rfl; rfl; rfl; rfl; rfl; rfl)); exact zbH hKn; (rintro _ _ ⟨rfl, _⟩)) | fail))
    exact ⟨.inr rfl, _, rfl, rfl⟩
  by_cases hT : TruthP s t
  case neg =>
    refine body (N := 171) Tryz.func6 rfl (hK _ _ _ rfl) rfl rfl ?_
    (repeat' (first | apply zao | apply zad | (apply O_at; rfl) | (apply N_at; rfl) | (apply zal; rfl) | apply zam | (apply za6; rfl) | (apply za4; exact zaA (by decide +kernel)) | apply zat | (apply zbL; rfl; refine .inr ?_; (focus repeat' first | exact trivial | exact Keeps.nil _ _ | apply And.intro | rfl | (apply Keeps.cons; iterate 2 (focus repeat' first | exact zaa | assumption | apply zab | (apply Ext.get; assumption))))) | apply zaR | apply zau | ((first | apply zae | apply zac | apply zaI | apply zaH | apply zb9); rfl; rfl; rfl; rfl) | ((first | apply P_fa | apply M_fa); rfl; rfl; rfl; rfl; exact zaU rfl; (first | exact Nat.zero_add _ | exact Nat.add_zero _ | rfl)) | ((first | apply zbw | apply zeu); rfl; rfl; rfl; rfl; rfl; rfl; exact zar rfl) | ((first | apply zaG | apply zbl); rfl; rfl; rfl; rfl; rfl; rfl) | ((first | apply zbX | apply zdq); rfl; rfl; rfl; rfl; rfl; (unfold fit; omega)) | (apply zap; rfl; rfl; rfl; rfl; exact zaB rfl; (focus repeat' first | exact zaa | assumption | apply zab | (apply Ext.get; assumption)); (first | exact zan (by omega) | rfl | assumption)) | (apply za5; rfl; rfl; rfl; rfl; exact zai rfl; rfl; rfl) | (apply zb6; rfl; rfl; rfl; rfl) | (apply zda; rfl; rfl; rfl; rfl) | (apply zeh; rfl; rfl; rfl; rfl; rfl; omega) | ((first | ((apply zaV; rfl; rfl; rfl; rfl; exact zaB rfl); (focus repeat' first | exact zaa | assumption | apply zab | (apply Ext.get; assumption)); (first | exact zan (by omega) | rfl | assumption)) | ((apply zaY; rfl; rfl; rfl; rfl; exact zbg rfl); (focus repeat' first | exact zaa | assumption | apply zab | (apply Ext.get; assumption)); (first | exact Nat.le_of_ble_eq_true rfl | (simp; done) | (simp; omega) | (rw [zak]; omega)); rfl)); (first | assumption | exact zaE _ _ | exact za1 _ _ _ _ _ | rfl | (focus simp [same, same.all2]; done)); (first | rfl | assumption | exact hwv _ | exact zaw (by assumption) (by (focus repeat' first | exact Ext.refl _ | assumption | apply Ext.push | (refine Ext.trans ?_ (by assumption)))) | (simp [within]; omega))) | ((first | (apply zag; rfl; rfl; rfl; rfl; rfl; rfl) | (apply zax; rfl; rfl; rfl; rfl; rfl; rfl; rfl)); exact yes iS hs; (rintro _ _ ⟨rfl, _⟩)) | ((first | (apply zag; rfl; rfl; rfl; rfl; rfl; rfl) | (apply zax; rfl; rfl; rfl; rfl; rfl; rfl; rfl)); exact yes (iT hs (by (focus repeat' first | exact Ext.refl _ | assumption | apply Ext.push | (refine Ext.trans ?_ (by assumption))))) hP; (rintro _ _ ⟨rfl, _⟩)) | ((first | (apply zag; rfl; rfl; rfl; rfl; rfl; rfl) | (apply zax; rfl; rfl; rfl; rfl; rfl; rfl; rfl)); exact no (iU hs ht16 (by (focus repeat' first | exact Ext.refl _ | assumption | apply Ext.push | (refine Ext.trans ?_ (by assumption))))) hT; (rintro _ _ ⟨rfl, _⟩)) | ((first | (apply zag; rfl; rfl; rfl; rfl; rfl; rfl) | (apply zax; rfl; rfl; rfl; rfl; rfl; rfl; rfl)); exact zbH hKn; (rintro _ _ ⟨rfl, _⟩)) | fail))
    exact ⟨.inr rfl, _, rfl, rfl⟩
  by_cases hro : 0 ≤ row ∧ row ≤ (s.length : Int) - 1
  case neg =>
    refine body (N := 171) Tryz.func6 rfl (hK _ _ _ rfl) rfl rfl ?_
    (repeat' (first | apply zao | apply zad | (apply O_at; rfl) | (apply N_at; rfl) | (apply zal; rfl) | apply zam | (apply za6; rfl) | (apply za4; exact zaA (by decide +kernel)) | apply zat | (apply zbL; rfl; refine .inr ?_; (focus repeat' first | exact trivial | exact Keeps.nil _ _ | apply And.intro | rfl | (apply Keeps.cons; iterate 2 (focus repeat' first | exact zaa | assumption | apply zab | (apply Ext.get; assumption))))) | apply zaR | apply zau | ((first | apply zae | apply zac | apply zaI | apply zaH | apply zb9); rfl; rfl; rfl; rfl) | ((first | apply P_fa | apply M_fa); rfl; rfl; rfl; rfl; exact zaU rfl; (first | exact Nat.zero_add _ | exact Nat.add_zero _ | rfl)) | ((first | apply zbw | apply zeu); rfl; rfl; rfl; rfl; rfl; rfl; exact zar rfl) | ((first | apply zaG | apply zbl); rfl; rfl; rfl; rfl; rfl; rfl) | ((first | apply zbX | apply zdq); rfl; rfl; rfl; rfl; rfl; (unfold fit; omega)) | (apply zap; rfl; rfl; rfl; rfl; exact zaB rfl; (focus repeat' first | exact zaa | assumption | apply zab | (apply Ext.get; assumption)); (first | exact zan (by omega) | rfl | assumption)) | (apply za5; rfl; rfl; rfl; rfl; exact zai rfl; rfl; rfl) | (apply zb6; rfl; rfl; rfl; rfl) | (apply zda; rfl; rfl; rfl; rfl) | (apply zeh; rfl; rfl; rfl; rfl; rfl; omega) | ((first | ((apply zaV; rfl; rfl; rfl; rfl; exact zaB rfl); (focus repeat' first | exact zaa | assumption | apply zab | (apply Ext.get; assumption)); (first | exact zan (by omega) | rfl | assumption)) | ((apply zaY; rfl; rfl; rfl; rfl; exact zbg rfl); (focus repeat' first | exact zaa | assumption | apply zab | (apply Ext.get; assumption)); (first | exact Nat.le_of_ble_eq_true rfl | (simp; done) | (simp; omega) | (rw [zak]; omega)); rfl)); (first | assumption | exact zaE _ _ | exact za1 _ _ _ _ _ | rfl | (focus simp [same, same.all2]; done)); (first | rfl | assumption | exact hwv _ | exact zaw (by assumption) (by (focus repeat' first | exact Ext.refl _ | assumption | apply Ext.push | (refine Ext.trans ?_ (by assumption)))) | (simp [within]; omega))) | ((first | (apply zag; rfl; rfl; rfl; rfl; rfl; rfl) | (apply zax; rfl; rfl; rfl; rfl; rfl; rfl; rfl)); exact yes iS hs; (rintro _ _ ⟨rfl, _⟩)) | ((first | (apply zag; rfl; rfl; rfl; rfl; rfl; rfl) | (apply zax; rfl; rfl; rfl; rfl; rfl; rfl; rfl)); exact yes (iT hs (by (focus repeat' first | exact Ext.refl _ | assumption | apply Ext.push | (refine Ext.trans ?_ (by assumption))))) hP; (rintro _ _ ⟨rfl, _⟩)) | ((first | (apply zag; rfl; rfl; rfl; rfl; rfl; rfl) | (apply zax; rfl; rfl; rfl; rfl; rfl; rfl; rfl)); exact yes (iU hs ht16 (by (focus repeat' first | exact Ext.refl _ | assumption | apply Ext.push | (refine Ext.trans ?_ (by assumption))))) hT; (rintro _ _ ⟨rfl, _⟩)) | ((first | (apply zag; rfl; rfl; rfl; rfl; rfl; rfl) | (apply zax; rfl; rfl; rfl; rfl; rfl; rfl; rfl)); exact no (iN hs) hro; (rintro _ _ ⟨rfl, _⟩)) | ((first | (apply zag; rfl; rfl; rfl; rfl; rfl; rfl) | (apply zax; rfl; rfl; rfl; rfl; rfl; rfl; rfl)); exact zbH hKn; (rintro _ _ ⟨rfl, _⟩)) | fail))
    exact ⟨.inr rfl, _, rfl, rfl⟩
  have hn := hP.1
  have hV := hP.2.1
  have hru := hP.2.2.1
  have htl := hT.1
  dsimp only at hn hV hru
  obtain ⟨bt, et, ownt, rfl, hgt⟩ := ht.rd.at (by rw [zak]; omega)
  obtain ⟨P, hsP⟩ : ∃ P : Nat, s.length = P + 1 := ⟨s.length - 1, by omega⟩
  have hz : ((s.length : Nat) : Int) - 1 = (P : Nat) := by omega
  have hPs : P < s.length := by omega
  have h0s : 0 < s.length := by omega
  have tP := zbU hV hT hPs
  have t0 := zbU hV hT h0s
  obtain ⟨j, rfl⟩ : ∃ j : Nat, row = (j : Nat) := ⟨row.toNat, by omega⟩
  have hjs : j < s.length := by omega
  have hpart : PartP (t.getD P 0 - t.getD 0 0) ((s.length : Int) - 1) := ⟨by omega, by omega⟩
  have iP : ∀ {h' : Heap}, CallW Tryz.prog K 28 #[.int .i64 (t.getD P 0 - t.getD 0 0), .int .i64 ((s.length : Int) - 1), .int .i64 r] h' (OkL (prts r (t.getD P 0 - t.getD 0 0) ((s.length : Int) - 1) (P + 1)) h') := by
    intro h'
    rw [hz]
    exact parts_ok hK (by omega) (by omega) hru
  have gl := zeZ r (t.getD P 0 - t.getD 0 0) ((s.length : Int) - 1) (P + 1)
  have g0 := ziL (r := r) (d := t.getD P 0 - t.getD 0 0) (p := (s.length : Int) - 1) (n := P + 1) (by omega) (by omega)
  have gP : (prts r (t.getD P 0 - t.getD 0 0) ((s.length : Int) - 1) (P + 1)).getD P 0 = t.getD P 0 - t.getD 0 0 := by rw [hz]; exact zjR (by omega) (by omega)
  have gu : ∀ k, k + 1 < P + 1 → 0 ≤ t.getD P 0 - t.getD 0 0 → (prts r (t.getD P 0 - t.getD 0 0) ((s.length : Int) - 1) (P + 1)).getD k 0 ≤ (prts r (t.getD P 0 - t.getD 0 0) ((s.length : Int) - 1) (P + 1)).getD (k + 1) 0 := fun k hk hd => prts_up hk (by omega) hd
  have gd : ∀ k, k + 1 < P + 1 → t.getD P 0 - t.getD 0 0 ≤ 0 → (prts r (t.getD P 0 - t.getD 0 0) ((s.length : Int) - 1) (P + 1)).getD (k + 1) 0 ≤ (prts r (t.getD P 0 - t.getD 0 0) ((s.length : Int) - 1) (P + 1)).getD k 0 := fun k hk hd => zjS hk (by omega) hd
  have gf : r ≠ 4 → (figs [0, (s.length : Int) - 1] t r s.length).getD j 0 - t.getD 0 0 = (prts r (t.getD P 0 - t.getD 0 0) ((s.length : Int) - 1) (P + 1)).getD j 0 := fun hr => zko hsP (by omega) hjs hr
  have gb := zkn (l := [0, (s.length : Int) - 1]) (r := r) hV (zd3 hn.1) hT hjs
  have fl := ze9 [0, (s.length : Int) - 1] t r s.length
  generalize hL : prts r (t.getD P 0 - t.getD 0 0) ((s.length : Int) - 1) (P + 1) = L at *
  generalize hM : figs [0, (s.length : Int) - 1] t r s.length = M at *
  refine body (N := 171) Tryz.func6 rfl (hK _ _ _ rfl) rfl rfl ?_
  (repeat' (first | apply zao | apply zad | (apply O_at; rfl) | (apply N_at; rfl) | (apply zal; rfl) | apply zam | (apply za3; rfl) | (apply za4; exact zaA (by decide +kernel)) | apply zay | (apply zbL; rfl; exact (.inl (Nat.le_refl 1))) | (apply zbL; rfl; refine .inr ?_; (focus repeat' first | exact trivial | exact Keeps.nil _ _ | apply And.intro | rfl | (apply Keeps.cons; iterate 2 (focus repeat' first | exact zaa | assumption | apply zab | (apply Ext.get; assumption))))) | ((first | apply zae | apply zac | apply zaI | apply zaH | apply zb9); rfl; rfl; rfl; rfl) | ((first | apply P_fa | apply M_fa); rfl; rfl; rfl; rfl; exact zaU rfl; (first | exact Nat.zero_add _ | exact Nat.add_zero _ | rfl)) | ((first | apply zbw | apply zeu); rfl; rfl; rfl; rfl; rfl; rfl; exact zar rfl) | ((first | apply zaG | apply zbl); rfl; rfl; rfl; rfl; rfl; rfl) | (apply zcU; rfl; rfl; rfl; rfl; rfl) | (apply zkN; rfl; rfl; rfl; rfl; rfl; omega) | (apply zbK; rfl; rfl; rfl; rfl; rfl; (unfold fit; omega)) | ((first | apply zbX | apply zdq); rfl; rfl; rfl; rfl; rfl; (unfold fit; omega)) | ((first | apply zbz | apply zb7); rfl; rfl; rfl; rfl; rfl; exact zar rfl; exact zai rfl; (first | assumption | exact zq0 | exact zqs _ | rfl | exact (Int.toNat_of_nonneg (by omega)).symm); omega) | (apply zap; rfl; rfl; rfl; rfl; exact zaB rfl; (focus repeat' first | exact zaa | assumption | apply zab | (apply Ext.get; assumption)); (first | exact zan (by omega) | rfl | assumption)) | (apply zby; rfl; rfl; rfl; rfl; exact zbg rfl; (focus repeat' first | exact zaa | assumption | apply zab | (apply Ext.get; assumption)); (first | exact Nat.le_of_ble_eq_true rfl | (simp; done) | (simp; omega) | (rw [zak]; omega)); rfl) | (apply P_bs_i3; rfl; rfl; rfl; rfl) | (apply za5; rfl; rfl; rfl; rfl; exact zai rfl; rfl; rfl) | (apply zeh; rfl; rfl; rfl; rfl; rfl; omega) | ((first | ((apply zaV; rfl; rfl; rfl; rfl; exact zaB rfl); (focus repeat' first | exact zaa | assumption | apply zab | (apply Ext.get; assumption)); (first | exact zan (by omega) | rfl | assumption)) | ((apply zaY; rfl; rfl; rfl; rfl; exact zbg rfl); (focus repeat' first | exact zaa | assumption | apply zab | (apply Ext.get; assumption)); (first | exact Nat.le_of_ble_eq_true rfl | (simp; done) | (simp; omega) | (rw [zak]; omega)); rfl)); (first | assumption | exact zaE _ _ | exact za1 _ _ _ _ _ | rfl | (focus simp [same, same.all2]; done)); (first | rfl | assumption | exact hwv _ | exact zaw (by assumption) (by (focus repeat' first | exact Ext.refl _ | assumption | apply Ext.push | (refine Ext.trans ?_ (by assumption)))) | (simp [within]; omega))) | ((first | (apply zag; rfl; rfl; rfl; rfl; rfl; rfl) | (apply zax; rfl; rfl; rfl; rfl; rfl; rfl; rfl)); exact yes iS hs; (rintro _ _ ⟨rfl, _⟩)) | ((first | (apply zag; rfl; rfl; rfl; rfl; rfl; rfl) | (apply zax; rfl; rfl; rfl; rfl; rfl; rfl; rfl)); exact yes (iT hs (by (focus repeat' first | exact Ext.refl _ | assumption | apply Ext.push | (refine Ext.trans ?_ (by assumption))))) hP; (rintro _ _ ⟨rfl, _⟩)) | ((first | (apply zag; rfl; rfl; rfl; rfl; rfl; rfl) | (apply zax; rfl; rfl; rfl; rfl; rfl; rfl; rfl)); exact yes (iU hs ht16 (by (focus repeat' first | exact Ext.refl _ | assumption | apply Ext.push | (refine Ext.trans ?_ (by assumption))))) hT; (rintro _ _ ⟨rfl, _⟩)) | ((first | (apply zag; rfl; rfl; rfl; rfl; rfl; rfl) | (apply zax; rfl; rfl; rfl; rfl; rfl; rfl; rfl)); exact yes (iN hs) hro; (rintro _ _ ⟨rfl, _⟩)) | ((first | (apply zag; rfl; rfl; rfl; rfl; rfl; rfl) | (apply zax; rfl; rfl; rfl; rfl; rfl; rfl; rfl)); exact yes (ziJ hK) hpart; (rintro _ _ ⟨rfl, _⟩)) | ((first | (apply zag; rfl; rfl; rfl; rfl; rfl; rfl) | (apply zax; rfl; rfl; rfl; rfl; rfl; rfl; rfl)); exact iP; (rintro _ _ ⟨_, _, rfl, _, _⟩)) | ((first | (apply zag; rfl; rfl; rfl; rfl; rfl; rfl) | (apply zax; rfl; rfl; rfl; rfl; rfl; rfl; rfl)); exact iF hP hT zaa (by (focus repeat' first | exact Ext.refl _ | assumption | apply Ext.push | (refine Ext.trans ?_ (by assumption)))); (rintro _ _ ⟨_, _, rfl, _, _⟩)) | fail))
  rename_i hA pL cL rdL xL hM pM cM rdM xM
  obtain ⟨bL, eL, ownL, rfl, gL0⟩ := rdL.at (by rw [zak]; omega)
  obtain ⟨bM, eM, ownM, rfl, gM0⟩ := rdM.at (by rw [zak]; omega)
  have gL1 := xM.get (zab gL0)
  have gt1 : hM.get? bt = some (.cells (ints t) et ownt) := by (focus repeat' first | exact zaa | assumption | apply zab | (apply Ext.get; assumption))
  have hb1 : hM.get? h.n = some (.cells [.slice q s.length kq, .int .i64 r, .int .i64 o] 25 true) := by (focus repeat' first | exact zaa | assumption | apply zab | (apply Ext.get; assumption))
  (repeat' (first | apply zao | apply zad | (apply O_at; rfl) | (apply zal; rfl) | apply zam | (apply za3; rfl) | apply zav | apply zay | ((first | apply zae | apply zac | apply zaI | apply zaH | apply zb9); rfl; rfl; rfl; rfl) | ((first | apply zaG | apply zbl); rfl; rfl; rfl; rfl; rfl; rfl) | (apply zkN; rfl; rfl; rfl; rfl; rfl; omega) | ((first | apply zbz | apply zb7); rfl; rfl; rfl; rfl; rfl; exact zar rfl; exact zai rfl; (first | assumption | exact zq0 | exact zqs _ | rfl | exact (Int.toNat_of_nonneg (by omega)).symm); omega) | (apply zap; rfl; rfl; rfl; rfl; exact zaB rfl; (focus repeat' first | exact zaa | assumption | apply zab | (apply Ext.get; assumption)); (first | exact zan (by omega) | rfl | assumption)) | fail))
  refine zbJ (fun k : Nat => [(13, .int .i64 ((k + 1 : Nat) : Int)), (9, .slice (some ⟨bL, 0, none⟩) L.length cL), (8, .int .i64 (t.getD P 0 - t.getD 0 0)), (7, .int .i64 ((s.length : Int) - 1)), (11, .slice (some ⟨bM, 0, none⟩) M.length cM), (3, .pointer (some ⟨h.n, 0, none⟩)), (2, .int .i64 (j : Nat)), (1, .slice (some ⟨bt, 0, none⟩) t.length ct)])
    (fun k h' => k ≤ P ∧ Ext hM h') (fun k => P - k) ?_ 0 ⟨Nat.zero_le _, Ext.refl _⟩ ?_
  · rintro k h' ⟨hk, hx⟩ ih
    have gL' := hx.get gL1
    have gM' := hx.get gM0
    have gt' := hx.get gt1
    have hb' := hx.get hb1
    by_cases hlt : k < P
    · have hz' : (((k + 1 : Nat) : Int)) - 1 = (k : Nat) := by omega
      have u1 := gu k (by omega)
      have u2 := gd k (by omega)
      by_cases d1 : 0 ≤ t.getD P 0 - t.getD 0 0
      · by_cases d2 : t.getD P 0 - t.getD 0 0 ≤ 0
        · (repeat' (first | apply zao | apply zad | (apply O_at; rfl) | (apply N_at; rfl) | (apply zal; rfl) | apply zam | (apply za6; rfl) | (apply za3; rfl) | (apply za4; exact zaA (by decide +kernel)) | apply zav | apply zay | (apply zbL; rfl; exact (.inl (Nat.le_refl 1))) | apply zaO | ((first | apply zae | apply zac | apply zaI | apply zaH | apply zb9); rfl; rfl; rfl; rfl) | ((first | apply zaG | apply zbl); rfl; rfl; rfl; rfl; rfl; rfl) | (apply zgl; rfl; rfl; rfl; rfl; rfl; omega) | (apply zbK; rfl; rfl; rfl; rfl; rfl; (unfold fit; omega)) | ((first | apply zbX | apply zdq); rfl; rfl; rfl; rfl; rfl; (unfold fit; omega)) | ((first | apply zbz | apply zb7); rfl; rfl; rfl; rfl; rfl; exact zar rfl; exact zai rfl; (first | assumption | exact zq0 | exact zqs _ | rfl | exact (Int.toNat_of_nonneg (by omega)).symm); omega) | (apply M_lssF; rfl; rfl; rfl; rfl; rfl; omega) | (apply M_leqT; rfl; rfl; rfl; rfl; rfl; omega) | (apply zeh; rfl; rfl; rfl; rfl; rfl; omega) | (apply M_geqT; rfl; rfl; rfl; rfl; rfl; omega) | ((first | ((first | (apply zcV; rfl; rfl; rfl; rfl; exact zaB rfl; exact zc6 (by decide +kernel)) | (apply zaV; rfl; rfl; rfl; rfl; exact zaB rfl)); (focus repeat' first | exact zaa | assumption | apply zab | (apply Ext.get; assumption)); (first | exact zan (by omega) | rfl | assumption)) | ((apply zaY; rfl; rfl; rfl; rfl; exact zbg rfl); (focus repeat' first | exact zaa | assumption | apply zab | (apply Ext.get; assumption)); (first | exact Nat.le_of_ble_eq_true rfl | (simp; done) | (simp; omega) | (rw [zak]; omega)); rfl)); (first | assumption | exact zaE _ _ | exact za1 _ _ _ _ _ | rfl | (focus simp [same, same.all2]; done)); (first | rfl | assumption | exact hwv _ | exact zaw (by assumption) (by (focus repeat' first | exact Ext.refl _ | assumption | apply Ext.push | (refine Ext.trans ?_ (by assumption)))) | (simp [within]; omega))) | fail))
          exact zba (ih (k + 1) _ (by omega) ⟨hlt, by (focus repeat' first | exact Ext.refl _ | assumption | apply Ext.push | (refine Ext.trans ?_ (by assumption)))⟩) (by (focus repeat' first | rfl | exact trivial | apply And.intro))
        · (repeat' (first | apply zao | apply zad | (apply O_at; rfl) | (apply N_at; rfl) | (apply zal; rfl) | apply zam | (apply za6; rfl) | (apply za3; rfl) | (apply za4; exact zaA (by decide +kernel)) | apply zav | apply zay | (apply zbL; rfl; exact (.inl (Nat.le_refl 1))) | apply zaO | ((first | apply zae | apply zac | apply zaI | apply zaH | apply zb9); rfl; rfl; rfl; rfl) | ((first | apply zaG | apply zbl); rfl; rfl; rfl; rfl; rfl; rfl) | (apply zgl; rfl; rfl; rfl; rfl; rfl; omega) | (apply zbK; rfl; rfl; rfl; rfl; rfl; (unfold fit; omega)) | ((first | apply zbX | apply zdq); rfl; rfl; rfl; rfl; rfl; (unfold fit; omega)) | ((first | apply zbz | apply zb7); rfl; rfl; rfl; rfl; rfl; exact zar rfl; exact zai rfl; (first | assumption | exact zq0 | exact zqs _ | rfl | exact (Int.toNat_of_nonneg (by omega)).symm); omega) | (apply zb6; rfl; rfl; rfl; rfl) | (apply M_lssF; rfl; rfl; rfl; rfl; rfl; omega) | (apply M_leqF; rfl; rfl; rfl; rfl; rfl; omega) | (apply M_geqT; rfl; rfl; rfl; rfl; rfl; omega) | ((first | ((first | (apply zcV; rfl; rfl; rfl; rfl; exact zaB rfl; exact zc6 (by decide +kernel)) | (apply zaV; rfl; rfl; rfl; rfl; exact zaB rfl)); (focus repeat' first | exact zaa | assumption | apply zab | (apply Ext.get; assumption)); (first | exact zan (by omega) | rfl | assumption)) | ((apply zaY; rfl; rfl; rfl; rfl; exact zbg rfl); (focus repeat' first | exact zaa | assumption | apply zab | (apply Ext.get; assumption)); (first | exact Nat.le_of_ble_eq_true rfl | (simp; done) | (simp; omega) | (rw [zak]; omega)); rfl)); (first | assumption | exact zaE _ _ | exact za1 _ _ _ _ _ | rfl | (focus simp [same, same.all2]; done)); (first | rfl | assumption | exact hwv _ | exact zaw (by assumption) (by (focus repeat' first | exact Ext.refl _ | assumption | apply Ext.push | (refine Ext.trans ?_ (by assumption)))) | (simp [within]; omega))) | fail))
          exact zba (ih (k + 1) _ (by omega) ⟨hlt, by (focus repeat' first | exact Ext.refl _ | assumption | apply Ext.push | (refine Ext.trans ?_ (by assumption)))⟩) (by (focus repeat' first | rfl | exact trivial | apply And.intro))
      · (repeat' (first | apply zao | apply zad | (apply O_at; rfl) | (apply N_at; rfl) | (apply zal; rfl) | apply zam | (apply za6; rfl) | (apply za3; rfl) | (apply za4; exact zaA (by decide +kernel)) | apply zav | apply zay | (apply zbL; rfl; exact (.inl (Nat.le_refl 1))) | apply zaO | ((first | apply zae | apply zac | apply zaI | apply zaH | apply zb9); rfl; rfl; rfl; rfl) | ((first | apply zaG | apply zbl); rfl; rfl; rfl; rfl; rfl; rfl) | (apply zgl; rfl; rfl; rfl; rfl; rfl; omega) | (apply zbK; rfl; rfl; rfl; rfl; rfl; (unfold fit; omega)) | ((first | apply zbX | apply zdq); rfl; rfl; rfl; rfl; rfl; (unfold fit; omega)) | ((first | apply zbz | apply zb7); rfl; rfl; rfl; rfl; rfl; exact zar rfl; exact zai rfl; (first | assumption | exact zq0 | exact zqs _ | rfl | exact (Int.toNat_of_nonneg (by omega)).symm); omega) | (apply zb6; rfl; rfl; rfl; rfl) | (apply M_leqT; rfl; rfl; rfl; rfl; rfl; omega) | (apply zeh; rfl; rfl; rfl; rfl; rfl; omega) | (apply M_geqF; rfl; rfl; rfl; rfl; rfl; omega) | ((first | ((first | (apply zcV; rfl; rfl; rfl; rfl; exact zaB rfl; exact zc6 (by decide +kernel)) | (apply zaV; rfl; rfl; rfl; rfl; exact zaB rfl)); (focus repeat' first | exact zaa | assumption | apply zab | (apply Ext.get; assumption)); (first | exact zan (by omega) | rfl | assumption)) | ((apply zaY; rfl; rfl; rfl; rfl; exact zbg rfl); (focus repeat' first | exact zaa | assumption | apply zab | (apply Ext.get; assumption)); (first | exact Nat.le_of_ble_eq_true rfl | (simp; done) | (simp; omega) | (rw [zak]; omega)); rfl)); (first | assumption | exact zaE _ _ | exact za1 _ _ _ _ _ | rfl | (focus simp [same, same.all2]; done)); (first | rfl | assumption | exact hwv _ | exact zaw (by assumption) (by (focus repeat' first | exact Ext.refl _ | assumption | apply Ext.push | (refine Ext.trans ?_ (by assumption)))) | (simp [within]; omega))) | fail))
        exact zba (ih (k + 1) _ (by omega) ⟨hlt, by (focus repeat' first | exact Ext.refl _ | assumption | apply Ext.push | (refine Ext.trans ?_ (by assumption)))⟩) (by (focus repeat' first | rfl | exact trivial | apply And.intro))
    · obtain rfl : k = P := by omega
      by_cases hr4 : r = 4
      · (repeat' (first | apply zao | apply zad | (apply O_at; rfl) | (apply N_at; rfl) | (apply zal; rfl) | apply zam | (apply za3; rfl) | (apply za4; exact zaA (by decide +kernel)) | apply zbm | apply zat | (apply zbL; rfl; refine .inr ?_; (focus repeat' first | exact trivial | exact Keeps.nil _ _ | apply And.intro | rfl | (apply Keeps.cons; iterate 2 (focus repeat' first | exact zaa | assumption | apply zab | (apply Ext.get; assumption))))) | apply zbn | apply zaZ | apply za0 | apply zau | ((first | apply zae | apply zac | apply zaI | apply zaH | apply zb9); rfl; rfl; rfl; rfl) | ((first | apply P_fa | apply M_fa); rfl; rfl; rfl; rfl; exact zaU rfl; (first | exact Nat.zero_add _ | exact Nat.add_zero _ | rfl)) | ((first | apply zaG | apply zbl); rfl; rfl; rfl; rfl; rfl; rfl) | (apply zib; rfl; rfl; rfl; rfl; rfl; omega) | (apply zb6; rfl; rfl; rfl; rfl) | (apply zig; rfl; rfl; rfl; rfl; rfl; omega) | ((first | ((apply zaV; rfl; rfl; rfl; rfl; exact zaB rfl); (focus repeat' first | exact zaa | assumption | apply zab | (apply Ext.get; assumption)); (first | exact zan (by omega) | rfl | assumption)) | ((apply zaY; rfl; rfl; rfl; rfl; exact zbg rfl); (focus repeat' first | exact zaa | assumption | apply zab | (apply Ext.get; assumption)); (first | exact Nat.le_of_ble_eq_true rfl | (simp; done) | (simp; omega) | (rw [zak]; omega)); rfl)); (first | assumption | exact zaE _ _ | exact za1 _ _ _ _ _ | rfl | (focus simp [same, same.all2]; done)); (first | rfl | assumption | exact hwv _ | exact zaw (by assumption) (by (focus repeat' first | exact Ext.refl _ | assumption | apply Ext.push | (refine Ext.trans ?_ (by assumption)))) | (simp [within]; omega))) | ((first | (apply zag; rfl; rfl; rfl; rfl; rfl; rfl) | (apply zax; rfl; rfl; rfl; rfl; rfl; rfl; rfl)); exact zbH hKn; (rintro _ _ ⟨rfl, _⟩)) | fail))
        exact ⟨.inr rfl, _, rfl, rfl⟩
      · have gf' := gf hr4
        (repeat' (first | apply zao | apply zad | (apply O_at; rfl) | (apply N_at; rfl) | (apply zal; rfl) | apply zam | (apply za3; rfl) | (apply za4; exact zaA (by decide +kernel)) | apply zbm | apply zat | (apply zbL; rfl; refine .inr ?_; (focus repeat' first | exact trivial | exact Keeps.nil _ _ | apply And.intro | rfl | (apply Keeps.cons; iterate 2 (focus repeat' first | exact zaa | assumption | apply zab | (apply Ext.get; assumption))))) | apply zbn | apply zaZ | apply za0 | apply zau | ((first | apply zae | apply zac | apply zaI | apply zaH | apply zb9); rfl; rfl; rfl; rfl) | ((first | apply P_fa | apply M_fa); rfl; rfl; rfl; rfl; exact zaU rfl; (first | exact Nat.zero_add _ | exact Nat.add_zero _ | rfl)) | ((first | apply zaG | apply zbl); rfl; rfl; rfl; rfl; rfl; rfl) | (apply zib; rfl; rfl; rfl; rfl; rfl; omega) | ((first | apply zbX | apply zdq); rfl; rfl; rfl; rfl; rfl; (unfold fit; omega)) | ((first | apply zbz | apply zb7); rfl; rfl; rfl; rfl; rfl; exact zar rfl; exact zai rfl; (first | assumption | exact zq0 | exact zqs _ | rfl | exact (Int.toNat_of_nonneg (by omega)).symm); omega) | (apply zkS; rfl; rfl; rfl; rfl; rfl; omega) | (apply zig; rfl; rfl; rfl; rfl; rfl; omega) | ((first | ((apply zaV; rfl; rfl; rfl; rfl; exact zaB rfl); (focus repeat' first | exact zaa | assumption | apply zab | (apply Ext.get; assumption)); (first | exact zan (by omega) | rfl | assumption)) | ((apply zaY; rfl; rfl; rfl; rfl; exact zbg rfl); (focus repeat' first | exact zaa | assumption | apply zab | (apply Ext.get; assumption)); (first | exact Nat.le_of_ble_eq_true rfl | (simp; done) | (simp; omega) | (rw [zak]; omega)); rfl)); (first | assumption | exact zaE _ _ | exact za1 _ _ _ _ _ | rfl | (focus simp [same, same.all2]; done)); (first | rfl | assumption | exact hwv _ | exact zaw (by assumption) (by (focus repeat' first | exact Ext.refl _ | assumption | apply Ext.push | (refine Ext.trans ?_ (by assumption)))) | (simp [within]; omega))) | ((first | (apply zag; rfl; rfl; rfl; rfl; rfl; rfl) | (apply zax; rfl; rfl; rfl; rfl; rfl; rfl; rfl)); exact zbH hKn; (rintro _ _ ⟨rfl, _⟩)) | fail))
        exact ⟨.inr rfl, _, rfl, rfl⟩
  · (focus repeat' first | rfl | exact trivial | apply And.intro)
end Go.AX.Sa
