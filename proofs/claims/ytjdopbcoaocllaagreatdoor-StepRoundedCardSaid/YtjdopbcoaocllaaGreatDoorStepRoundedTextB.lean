/- The law StepRounded at the reading: what the functions that it calls answer (2). -/
import Derived.Test.YtjdopbcoaocllaaGreatDoorStepRoundedTextA
namespace Go.AX.Sa
open Go.Proofs
set_option maxRecDepth 100000
variable {K : Known}
/-! The kept rows around a row, and its figure: numbers. -/
theorem keptLt {l : List Int} (hG : GrowP l) {m : Nat} : ∀ d, m + d + 1 < l.length → l.getD m 0 < l.getD (m + d + 1) 0 := by
  intro d
  induction d with
  | zero => intro h; exact hG m h
  | succ d ih =>
    intro h
    have h1 := ih (by omega)
    have h2 := hG (m + d + 1) (by omega)
    rw [show m + (d + 1) + 1 = m + d + 1 + 1 by omega]
    omega
theorem keptLe {l : List Int} (hG : GrowP l) {m n : Nat} (h : m ≤ n) (hn : n < l.length) : l.getD m 0 ≤ l.getD n 0 := by
  by_cases he : m = n
  · subst he; exact Int.le_refl _
  · have := keptLt hG (m := m) (n - m - 1) (by omega)
    rw [show m + (n - m - 1) + 1 = n by omega] at this
    omega
def befK (l : List Int) (j : Int) : Nat → Int
  | 0 => l.getD 0 0
  | k + 1 => if l.getD k 0 ≤ j then max (befK l j k) (l.getD k 0) else befK l j k
def aftK (l : List Int) (j : Int) : Nat → Int
  | 0 => l.getD (l.length - 1) 0
  | k + 1 => if j ≤ l.getD k 0 then min (aftK l j k) (l.getD k 0) else aftK l j k
theorem befK_is {l : List Int} (hG : GrowP l) {j : Int} {i : Nat} (hi : i < l.length) (h1 : l.getD i 0 ≤ j) (h2 : i + 1 < l.length → j < l.getD (i + 1) 0) : ∀ k, k ≤ l.length → befK l j k = l.getD (min (k - 1) i) 0 := by
  intro k
  induction k with
  | zero => intro _; show l.getD 0 0 = _; rw [show min (0 - 1) i = 0 by omega]
  | succ k ih =>
    intro hk
    have ih := ih (by omega)
    unfold befK
    by_cases hki : k ≤ i
    · have a := keptLe hG hki hi
      have b := keptLe hG (show min (k - 1) i ≤ k by omega) (by omega)
      rw [if_pos (by omega), ih, show min (k + 1 - 1) i = k by omega]
      omega
    · have a := h2 (by omega)
      have b := keptLe hG (show i + 1 ≤ k by omega) (by omega)
      rw [if_neg (by omega), ih, show min (k - 1) i = i by omega, show min (k + 1 - 1) i = i by omega]
theorem aftK_is {l : List Int} (hG : GrowP l) {j : Int} {i : Nat} (hi : i < l.length) (h1 : j ≤ l.getD i 0) (h2 : ∀ m, m + 1 = i → l.getD m 0 < j) : ∀ k, k ≤ l.length → aftK l j k = if k ≤ i then l.getD (l.length - 1) 0 else l.getD i 0 := by
  intro k
  induction k with
  | zero => intro _; rw [if_pos (Nat.zero_le _)]; rfl
  | succ k ih =>
    intro hk
    have ih := ih (by omega)
    unfold aftK
    by_cases hki : k < i
    · have a := h2 (i - 1) (by omega)
      have b := keptLe hG (show k ≤ i - 1 by omega) (by omega)
      rw [if_neg (by omega), ih, if_pos (by omega), if_pos (by omega)]
    · have a := keptLe hG (show i ≤ k by omega) (by omega)
      have c := keptLe hG (show k ≤ l.length - 1 by omega) (by omega)
      rw [if_pos (by omega), if_neg (by omega), ih]
      by_cases hke : k = i
      · subst hke; rw [if_pos (Nat.le_refl _)]; omega
      · rw [if_neg (by omega)]; omega
def bef (l : List Int) (j : Int) : Int := befK l j l.length
def aft (l : List Int) (j : Int) : Int := aftK l j l.length
theorem bef_is {l : List Int} (hG : GrowP l) {j : Int} {i : Nat} (hi : i < l.length) (h1 : l.getD i 0 ≤ j) (h2 : i + 1 < l.length → j < l.getD (i + 1) 0) : bef l j = l.getD i 0 := by
  unfold bef; rw [befK_is hG hi h1 h2 _ (Nat.le_refl _), show min (l.length - 1) i = i by omega]
theorem aft_is {l : List Int} (hG : GrowP l) {j : Int} {i : Nat} (hi : i < l.length) (h1 : j ≤ l.getD i 0) (h2 : ∀ m, m + 1 = i → l.getD m 0 < j) : aft l j = l.getD i 0 := by
  unfold aft; rw [aftK_is hG hi h1 h2 _ (Nat.le_refl _), if_neg (by omega)]
def figv (l t : List Int) (r : Int) (j : Nat) : Int :=
  if bef l j = aft l j then t.getD (bef l j).toNat 0 else rnd r (mixv (bef l j) (aft l j) j (t.getD (bef l j).toNat 0) (t.getD (aft l j).toNat 0)) (aft l j - bef l j)
theorem zbE {l t : List Int} {r : Int} {i j : Nat} (hG : GrowP l) (hi : i < l.length) (hj : l.getD i 0 = (j : Nat)) : figv l t r j = t.getD j 0 := by
  have e1 := bef_is hG (j := (j : Nat)) hi (by omega) (fun w => by have := hG i w; omega)
  have e2 := aft_is hG (j := (j : Nat)) hi (by omega) (fun m w => by have := hG m (by omega); rw [w] at this; omega)
  unfold figv
  rw [e1, e2, if_pos rfl, hj, Int.toNat_natCast]
theorem ze3 {l t : List Int} {r : Int} {i j : Nat} (hG : GrowP l) (hi : i + 1 < l.length) (h1 : l.getD i 0 < (j : Nat)) (h2 : ((j : Nat) : Int) < l.getD (i + 1) 0) :
    figv l t r j = rnd r (mixv (l.getD i 0) (l.getD (i + 1) 0) j (t.getD (l.getD i 0).toNat 0) (t.getD (l.getD (i + 1) 0).toNat 0)) (l.getD (i + 1) 0 - l.getD i 0) := by
  have e1 := bef_is hG (j := (j : Nat)) (i := i) (by omega) (by omega) (fun _ => h2)
  have e2 := aft_is hG (j := (j : Nat)) (i := i + 1) hi (by omega) (fun m w => by rw [show m = i by omega]; exact h1)
  unfold figv
  rw [e1, e2, if_neg (by omega)]
def figs (l t : List Int) (r : Int) (k : Nat) : List Int := (List.range k).map (figv l t r)
theorem zdq (l t : List Int) (r : Int) (k : Nat) : (figs l t r k).length = k := by simp [figs]
theorem zbK {l t : List Int} {r : Int} {k j : Nat} (h : j < k) : (figs l t r k).getD j 0 = figv l t r j := by
  simp [figs, List.getD_eq_getElem?_getD, h]
/-- Every row is kept, or lies between two kept ones. -/
theorem row_at {n : Nat} {l : List Int} (hP : KeptP n l) {j : Nat} (hj : j < n) : (∃ i, i < l.length ∧ l.getD i 0 = (j : Nat)) ∨ ∃ i, i + 1 < l.length ∧ l.getD i 0 < (j : Nat) ∧ ((j : Nat) : Int) < l.getD (i + 1) 0 := by
  obtain ⟨h2, h0, h1, hG⟩ := hP
  have key : ∀ m, m < l.length → ((j : Nat) : Int) ≤ l.getD m 0 → (∃ i, i < l.length ∧ l.getD i 0 = (j : Nat)) ∨ ∃ i, i + 1 < l.length ∧ l.getD i 0 < (j : Nat) ∧ ((j : Nat) : Int) < l.getD (i + 1) 0 := by
    intro m
    induction m with
    | zero => intro hm hle; exact .inl ⟨0, hm, by omega⟩
    | succ m ih =>
      intro hm hle
      by_cases he : l.getD (m + 1) 0 = (j : Nat)
      · exact .inl ⟨m + 1, hm, he⟩
      · by_cases hl : ((j : Nat) : Int) ≤ l.getD m 0
        · exact ih (by omega) hl
        · exact .inr ⟨m, hm, by omega, by omega⟩
  exact key (l.length - 1) (by omega) (by omega)
end Go.AX.Sa

namespace Go.AX.Sa
open Go.Proofs
set_option maxRecDepth 100000
variable {K : Known}
/-! The figures of all rows. -/
theorem getD_set {l : List Int} {k j : Nat} {n : Int} (h : k < l.length) : (l.set k n).getD j 0 = if j = k then n else l.getD j 0 := by
  simp only [List.getD_eq_getElem?_getD, List.getElem?_set]
  by_cases hj : k = j
  · subst hj; simp [h]
  · rw [if_neg hj, if_neg (fun q => hj q.symm)]
theorem list_eq {a b : List Int} (hl : a.length = b.length) (h : ∀ j, j < a.length → a.getD j 0 = b.getD j 0) : a = b := by
  apply List.ext_getElem hl
  intro j h1 h2
  have := h j h1
  simpa [List.getD_eq_getElem?_getD, h1, h2] using this
/-- slices.Clone of a list that is not empty. -/
theorem clone_ok (hK : NoK K) {t : List Int} {q : Option Addr} {cap : Nat} {h : Heap} (hp : 0 < t.length) (hl : t.length ≤ 1000) (hr : Rd h q (ints t)) :
    CallW Tryz.prog K 103 #[.slice q t.length cap] h fun v h1 => Ext h h1 ∧ ∃ b, v = .slice (some ⟨b, 0, none⟩) t.length unk ∧ h1.get? b = some (.cells (ints t) 3 true) ∧ h.n ≤ b := by
  obtain ⟨b, e, own, rfl, hg⟩ := hr.at (by rw [zap]; omega)
  refine body (N := 8) Tryz.func103 rfl (hK _ _ _ rfl) rfl rfl ?_
  (repeat' (first | apply zak | apply zad | (apply O_at; rfl) | (apply zah; rfl) | apply zai | (apply zaV; rfl) | apply zav | apply zay | apply zaz | ((first | apply zae | apply zac); rfl; rfl; rfl; rfl) | (apply zku; rfl; rfl; rfl; rfl; rfl; exact zan rfl) | (apply P_build0; rfl; rfl; rfl; rfl; exact c1_ok rfl) | (apply zfc; rfl; rfl; rfl; rfl; rfl; rfl; (apply app_full; rfl; rfl; exact c1_ok rfl; exact zan rfl; (focus repeat' first | exact zaa | assumption | apply zab); (first | rfl | exact zap _); (first | decide | omega); (first | decide | omega); (first | rfl | exact ints_one _); (focus repeat' first | exact zaa | assumption | apply zab); (first | rfl | exact zap _); omega; omega)) | fail))
  refine ⟨.inr rfl, _, rfl, ?_, (h.push (.cells [] 3 true)).n, ?_, ?_, ?_⟩
  · (focus repeat' first | exact Ext.refl _ | assumption | apply Ext.push)
  · simp [resV]
  · exact zaa
  · exact Nat.le_succ _


theorem zeH {s : List (Int × Int)} {t : List Int} (hV : Vals s) (hT : TruthP s t) {j : Nat} (hj : j < s.length) : -10000 ≤ t.getD j 0 ∧ t.getD j 0 ≤ 10000 := by
  have h1 := hV j hj
  have h2 := hT.2 j (by rw [hT.1]; exact hj)
  unfold ValP at h1
  omega
set_option maxHeartbeats 2000000 in
theorem ziL (hK : NoK K) {T : Tb} {l t : List Int} {b bt cap ct : Nat} {e et : TypeId} {own ownt : Bool} {h : Heap} (hP : TbP T) (hKp : KeptP T.s.length l) (hT : TruthP T.s t) (hcap : l.length ≤ cap) (hll : l.length ≤ 1000)
    (hg : h.get? b = some (.cells (ints l) e own)) (hgt : h.get? bt = some (.cells (ints t) et ownt)) :
    CallW Tryz.prog K 65 #[ktV T (some ⟨b, 0, none⟩) l.length cap, .slice (some ⟨bt, 0, none⟩) t.length ct] h (IsL (figs l t T.r T.s.length) h) := by
  obtain ⟨q, kq, s, r, o⟩ := T
  dsimp only at hP hKp hT ⊢
  have htl := hT.1
  have hn := hP.1
  dsimp only at hn
  have hr := hP.2.2.1
  have hG := hKp.2.2.2
  have hl2 := hKp.1
  have h0 := hKp.2.1
  have h1 := hKp.2.2.1
  have hbd : ∀ j, j < s.length → -10000 ≤ t.getD j 0 ∧ t.getD j 0 ≤ 10000 := fun j hj => zeH hP.2.1 hT hj
  have hlk : ∀ i, i < l.length → 0 ≤ l.getD i 0 ∧ l.getD i 0 ≤ (s.length : Int) - 1 := fun i hi => by
    have a := keptLe hG (Nat.zero_le i) hi
    have c := keptLe hG (show i ≤ l.length - 1 by omega) (by omega)
    omega
  have hb0 := Heap.get_lt hg
  have hbt0 := Heap.get_lt hgt
  refine body (N := 48) Tryz.func65 rfl (hK _ _ _ rfl) rfl rfl ?_
  (repeat' (first | apply zak | apply zad | (apply O_at; rfl) | (apply zah; rfl) | apply zai | ((first | apply zae | apply zac | apply zat); rfl; rfl; rfl; rfl) | (apply zaT; rfl; rfl; rfl; rfl; exact zao rfl; rfl; rfl) | fail))
  apply zaf; rfl; rfl; rfl; rfl; rfl; rfl
  exact clone_ok hK (by omega) (by omega) (.inr ⟨_, _, _, rfl, zab hgt⟩)
  rintro _ h2 ⟨x2, bc, rfl, gc, hbc⟩
  have hk2 : h2.get? h.n = some (.cells [.slice q s.length kq, .int .i64 r, .int .i64 o, .slice (some ⟨b, 0, none⟩) l.length cap] 82 true) := x2.get zaa
  have hg2 := x2.get (zab hg)
  have hgt2 := x2.get (zab hgt)
  (repeat' (first | apply zak | apply zad | (apply O_at; rfl) | (apply zah; rfl) | apply zai | ((first | apply zae | apply zac | apply zat); rfl; rfl; rfl; rfl) | (apply zaI; rfl; rfl; rfl; rfl; exact zbe rfl; (focus repeat' first | exact zaa | assumption | apply zab | (apply Ext.get; assumption) | (apply ExtBut.get; assumption; (first | assumption | omega | (simp only [Heap.push]; omega)))); (first | exact Nat.le_of_ble_eq_true rfl | (simp; done) | (simp; omega) | (rw [zaB]; omega)); (first | exact zbm (by omega) | rfl)) | fail))
  apply zaf; rfl; rfl; rfl; rfl; rfl; rfl
  exact pairs_ok (T := ⟨q, kq, s, r, o⟩) hK ⟨hl2, hll⟩ hcap hg2
  rintro _ h3 ⟨pp, cp, rfl, rp, fp, x3⟩
  have hpl := zgG l (l.length - 1)
  obtain ⟨bp, ep, ownp, rfl, gp⟩ := rp.at (by rw [zaB]; omega)
  have gc3 := x3.get gc
  have hk3 := x3.get hk2
  have hgt3 := x3.get hgt2
  have hbp := Heap.get_lt gp
  have hn3 := Heap.get_lt gc3
  have hn2 := Heap.get_lt gc
  have fp' := fp _ rfl
  dsimp only at fp'
  simp only [Heap.push] at hbc
  rw [hpl]
  (repeat' (first | (apply O_at; rfl) | (apply zah; rfl) | apply zai | apply zas | ((first | apply zae | apply zac | apply zat); rfl; rfl; rfl; rfl) | (apply zaR; rfl; rfl; rfl; rfl; rfl; rfl; exact zan rfl) | fail))
  refine zby (fun a : Nat × List Int => [(14, .int .i64 (a.1 : Nat)), (13, .int .i64 ((l.length - 1 : Nat) : Int)), (12, .slice (some ⟨bp, 0, none⟩) (l.length - 1) cp), (5, .slice (some ⟨bc, 0, none⟩) t.length unk), (2, .pointer (some ⟨h.n, 0, none⟩)), (1, .slice (some ⟨bt, 0, none⟩) t.length ct)])
    (fun a h' => a.1 ≤ l.length - 1 ∧ ExtBut bc h3 h' ∧ h'.get? bc = some (.cells (ints a.2) 3 true) ∧ a.2.length = t.length ∧ ∀ j, j < t.length → a.2.getD j 0 = if ((j : Nat) : Int) < l.getD a.1 0 then figv l t r j else t.getD j 0) (fun a => l.length - 1 - a.1) ?_ (0, t) ?_ ?_
  · rintro ⟨i, F⟩ h' ⟨hi, hx, hb, hF, hj⟩ ih
    dsimp only at hi hb hF hj ih ⊢
    have hne : bp ≠ bc := by omega
    have hne2 : h.n ≠ bc := by omega
    have hne3 : bt ≠ bc := by omega
    have gp' := hx.get hne gp
    have hk' := hx.get hne2 hk3
    have hgt' := hx.get hne3 hgt3
    by_cases hlt : i < l.length - 1
    · have hpi : i < (prs l (l.length - 1)).length := by omega
      have hpg := prs_get (l := l) (k := l.length - 1) hlt
      have a1 := hlk i (by omega)
      have a2 := hlk (i + 1) (by omega)
      have a3 := hG i (by omega)
      have e1 : ((prs l (l.length - 1)).getD i (0, 0)).1 = l.getD i 0 := by rw [hpg]
      have e2 : ((prs l (l.length - 1)).getD i (0, 0)).2 = l.getD (i + 1) 0 := by rw [hpg]
      obtain ⟨A, hA⟩ : ∃ A : Nat, l.getD i 0 = (A : Nat) := ⟨(l.getD i 0).toNat, by omega⟩
      obtain ⟨C, hC⟩ : ∃ C : Nat, l.getD (i + 1) 0 = (C : Nat) := ⟨(l.getD (i + 1) 0).toNat, by omega⟩
      have hn' := hx.n
      (repeat' (first | apply zak | apply zad | (apply O_at; rfl) | (apply zah; rfl) | apply zai | (apply zaY; rfl) | apply zas | apply zav | ((first | apply zae | apply zac | apply zat); rfl; rfl; rfl; rfl) | ((first | apply P_fa | apply M_fa); rfl; rfl; rfl; rfl; exact za1 rfl; (first | exact Nat.zero_add _ | exact Nat.add_zero _ | rfl)) | (apply za9; rfl; rfl; rfl; rfl; rfl; omega) | (apply zbo; rfl; rfl; rfl; rfl; rfl; (unfold fit; omega)) | (apply zh3; rfl; rfl; rfl; rfl; rfl; exact zan rfl; exact zao rfl; (first | assumption | rfl | exact (Int.toNat_of_nonneg (by omega)).symm); omega) | (apply zaq; rfl; rfl; rfl; rfl; exact zax rfl; (focus repeat' first | exact zaa | assumption | apply zab | (apply Ext.get; assumption) | (apply ExtBut.get; assumption; (first | assumption | omega | (simp only [Heap.push]; omega)))); (first | exact zag (by omega) | rfl | assumption)) | (apply zaI; rfl; rfl; rfl; rfl; exact zbe rfl; (focus repeat' first | exact zaa | assumption | apply zab | (apply Ext.get; assumption) | (apply ExtBut.get; assumption; (first | assumption | omega | (simp only [Heap.push]; omega)))); (first | exact Nat.le_of_ble_eq_true rfl | (simp; done) | (simp; omega) | (rw [zaB]; omega)); (first | exact zbm (by omega) | rfl)) | (apply zcr; rfl; rfl; rfl; rfl; exact zao rfl; rfl; rfl; rfl) | (apply zfd; rfl; rfl; rfl; rfl; exact zao rfl; rfl; rfl) | fail))
      simp only [e1, e2, hA, hC]
      refine zby (fun a : Nat × List Int => [(8, .int .i64 (a.1 : Nat)), (14, .int .i64 (i : Nat)), (13, .int .i64 ((l.length - 1 : Nat) : Int)), (12, .slice (some ⟨bp, 0, none⟩) (l.length - 1) cp), (7, .pointer (some ⟨h'.n, 0, none⟩)), (5, .slice (some ⟨bc, 0, none⟩) t.length unk), (2, .pointer (some ⟨h.n, 0, none⟩)), (1, .slice (some ⟨bt, 0, none⟩) t.length ct)])
        (fun a g => A + 1 ≤ a.1 ∧ a.1 ≤ C ∧ ExtBut bc (h'.push (.cells [.int .i64 (A : Nat), .int .i64 (C : Nat)] 123 true)) g ∧ g.get? bc = some (.cells (ints a.2) 3 true) ∧ a.2.length = t.length ∧ ∀ j, j < t.length → a.2.getD j 0 = if j < a.1 then figv l t r j else t.getD j 0) (fun a => C - a.1) ?_ (A + 1, F) ?_ ?_
      · rintro ⟨row, G⟩ g ⟨hr1, hr2, hxg, hbg, hGl, hGj⟩ ih2
        dsimp only at hr1 hr2 hbg hGl hGj ih2 ⊢
        have q1 : g.get? h'.n = some (.cells [.int .i64 (A : Nat), .int .i64 (C : Nat)] 123 true) := hxg.get (by omega) zaa
        have q2 := hxg.get hne2 (zab hk')
        have q3 := hxg.get hne3 (zab hgt')
        by_cases hrow : row < C
        · have hm := ze3 (l := l) (t := t) (r := r) (i := i) (j := row) hG (by omega) (by omega) (by omega)
          rw [hA, hC, Int.toNat_natCast, Int.toNat_natCast] at hm
          have hA1 := hbd A (by omega)
          have hC1 := hbd C (by omega)
          have hlr : row < G.length := by omega
          (repeat' (first | apply zak | apply zad | (apply O_at; rfl) | (apply N_at; rfl) | (apply zah; rfl) | apply zai | (apply zaY; rfl) | (apply zaU; exact zar (by decide +kernel)) | apply zas | apply zav | (apply zbp; rfl; refine .inr ?_; (focus repeat' first | exact trivial | exact Keeps.nil _ _ | apply And.intro | rfl | (apply Keeps.cons; iterate 2 (focus repeat' first | exact zaa | assumption | apply zab | (apply Ext.get; assumption) | (apply ExtBut.get; assumption; (first | assumption | omega | (simp only [Heap.push]; omega))))))) | apply zaH | ((first | apply zae | apply zac | apply zat); rfl; rfl; rfl; rfl) | ((first | apply P_fa | apply M_fa); rfl; rfl; rfl; rfl; exact za1 rfl; (first | exact Nat.zero_add _ | exact Nat.add_zero _ | rfl)) | (apply za9; rfl; rfl; rfl; rfl; rfl; omega) | (apply zbo; rfl; rfl; rfl; rfl; rfl; (unfold fit; omega)) | (apply zaq; rfl; rfl; rfl; rfl; exact zax rfl; (focus repeat' first | exact zaa | assumption | apply zab | (apply Ext.get; assumption) | (apply ExtBut.get; assumption; (first | assumption | omega | (simp only [Heap.push]; omega)))); (first | exact zag (by omega) | rfl | assumption)) | (apply za3; rfl; rfl; rfl; rfl; rfl; exact zan rfl; exact zao rfl; (first | assumption | rfl | exact (Int.toNat_of_nonneg (by omega)).symm); omega) | ((first | ((apply za8; rfl; rfl; rfl; rfl; exact zax rfl); (focus repeat' first | exact zaa | assumption | apply zab | (apply Ext.get; assumption) | (apply ExtBut.get; assumption; (first | assumption | omega | (simp only [Heap.push]; omega)))); (first | exact zag (by omega) | rfl | assumption)) | ((apply zcD; rfl; rfl; rfl; rfl; exact zbe rfl); (focus repeat' first | exact zaa | assumption | apply zab | (apply Ext.get; assumption) | (apply ExtBut.get; assumption; (first | assumption | omega | (simp only [Heap.push]; omega)))); (first | exact Nat.le_of_ble_eq_true rfl | (simp; done) | (simp; omega) | (rw [zaB]; omega)); (first | exact zbm (by omega) | rfl))); (first | assumption | exact zaC _ _ | exact zjo _ _ | rfl | (focus simp [same, same.all2]; done)); (first | rfl | assumption | exact hwv _ | (simp [within]; omega))) | (apply M_storeI; rfl; rfl; rfl; rfl; (focus repeat' first | exact zaa | assumption | apply zab | (apply Ext.get; assumption) | (apply ExtBut.get; assumption; (first | assumption | omega | (simp only [Heap.push]; omega)))); exact zao rfl; (first | omega | (focus simp; done)); rfl; (intro _ _ _)) | ((first | (apply zaf; rfl; rfl; rfl; rfl; rfl; rfl) | (apply zau; rfl; rfl; rfl; rfl; rfl; rfl; rfl)); exact ziX hK hA1 hC1 (by omega) (by omega) (by omega) (by omega) (by omega) hr; (rintro _ _ ⟨rfl, _⟩)) | fail))
          rename_i g1 xg1 g2 qg2 xg2
          rw [← hm] at qg2
          refine zaZ (ih2 (row + 1, G.set row (figv l t r row)) _ (by dsimp only; omega) ⟨by dsimp only; omega, by dsimp only; omega, (hxg.trans (Ext.but xg1 _)).trans xg2, qg2, by simpa using hGl, fun j hj' => ?_⟩) (by (focus repeat' first | rfl | exact trivial | apply And.intro))
          dsimp only
          rw [getD_set hlr]
          by_cases w : j = row
          · subst w; rw [if_pos rfl, if_pos (by omega)]
          · rw [if_neg w, hGj j hj']
            by_cases w2 : j < row
            · rw [if_pos w2, if_pos (by omega)]
            · rw [if_neg w2, if_neg (by omega)]
        · have : row = C := by omega
          subst this
          (repeat' (first | apply zak | apply zad | (apply O_at; rfl) | (apply zah; rfl) | apply zai | (apply zaV; rfl) | apply zbI | apply zbJ | apply zbf | apply zbg | apply zaH | ((first | apply zae | apply zac | apply zat); rfl; rfl; rfl; rfl) | ((first | apply P_fa | apply M_fa); rfl; rfl; rfl; rfl; exact za1 rfl; (first | exact Nat.zero_add _ | exact Nat.add_zero _ | rfl)) | (apply zba; rfl; rfl; rfl; rfl; rfl; omega) | (apply zbo; rfl; rfl; rfl; rfl; rfl; (unfold fit; omega)) | (apply zaq; rfl; rfl; rfl; rfl; exact zax rfl; (focus repeat' first | exact zaa | assumption | apply zab | (apply Ext.get; assumption) | (apply ExtBut.get; assumption; (first | assumption | omega | (simp only [Heap.push]; omega)))); (first | exact zag (by omega) | rfl | assumption)) | fail))
          refine zaZ (ih (i + 1, G) _ (by dsimp only; omega) ⟨by dsimp only; omega, (hx.trans (Ext.but (Ext.push (Ext.refl _) _) _)).trans hxg, hbg, hGl, fun j hj' => ?_⟩) (by (focus repeat' first | rfl | exact trivial | apply And.intro))
          dsimp only
          rw [hGj j hj', hC]
          by_cases w : j < row
          · rw [if_pos w, if_pos (by omega)]
          · rw [if_neg w, if_neg (by omega)]
      · refine ⟨Nat.le_refl _, by omega, ExtBut.refl _ _, zab hb, hF, fun j hj' => ?_⟩
        dsimp only
        rw [hj j hj', hA]
        by_cases w : j < A
        · rw [if_pos (by omega), if_pos (by omega)]
        · by_cases w2 : j = A
          · subst w2
            rw [if_neg (by omega), if_pos (by omega), zbE hG (by omega) hA]
          · rw [if_neg (by omega), if_neg (by omega)]
      · (focus repeat' first | rfl | exact trivial | apply And.intro)
    · have : i = l.length - 1 := by omega
      subst this
      (repeat' (first | apply zak | apply zad | (apply O_at; rfl) | (apply zah; rfl) | apply zai | (apply zaV; rfl) | apply zbI | apply zay | apply zbJ | apply zbf | apply zbg | apply zaz | ((first | apply zae | apply zac | apply zat); rfl; rfl; rfl; rfl) | (apply zba; rfl; rfl; rfl; rfl; rfl; omega) | fail))
      have hfin : F = figs l t r s.length := by
        refine list_eq (by rw [hF, zdq, htl]) fun j hj' => ?_
        rw [hj j (by omega), zbK (by omega)]
        by_cases w : ((j : Nat) : Int) < l.getD (l.length - 1) 0
        · rw [if_pos w]
        · rw [if_neg w, zbE hG (show l.length - 1 < l.length by omega) (by omega)]
      refine ⟨.inr rfl, _, rfl, some ⟨bc, 0, none⟩, unk, ?_, .inr ⟨_, _, _, rfl, hfin ▸ hb⟩, ?_⟩
      · rw [zdq, ← htl]; rfl
      · exact Ext.ofBut (((Ext.push (Ext.refl h) _).trans x2).trans x3) hx (by omega)
  · exact ⟨Nat.zero_le _, ExtBut.refl _ _, gc3, rfl, fun j hj => by dsimp only; rw [h0, if_neg (by omega)]⟩
  · (focus repeat' first | rfl | exact trivial | apply And.intro)
end Go.AX.Sa

namespace Go.AX.Sa
open Go.Proofs
set_option maxRecDepth 100000
variable {K : Known}
/-! The specification's figures; what is asked for. -/
end Go.AX.Sa

namespace Go.AX.Sa
open Go.Proofs
set_option maxRecDepth 100000
variable {K : Known}
/-! All figures, and whether they are right. -/
def RightP (s : List (Int × Int)) (l t : List Int) (r o : Int) : Prop := ∀ j, j < s.length → t.getD j 0 - o ≤ figv l t r j ∧ figv l t r j ≤ t.getD j 0 + o
theorem mixv_bd {a c j x y : Int} (hx : -10000 ≤ x ∧ x ≤ 10000) (hy : -10000 ≤ y ∧ y ≤ 10000) (h1 : a ≤ j) (h2 : j ≤ c) (h3 : c - a ≤ 20) : -400000 ≤ mixv a c j x y ∧ mixv a c j x y ≤ 400000 := by
  have m1 := zes hx (d := c - j) (by omega)
  have m2 := zes hy (d := j - a) (by omega)
  unfold mixv
  omega
theorem figv_bd {T : Tb} {l t : List Int} (hP : TbP T) (hKp : KeptP T.s.length l) (hT : TruthP T.s t) {j : Nat} (hj : j < T.s.length) : -1000000 ≤ figv l t T.r j ∧ figv l t T.r j ≤ 1000000 := by
  have hG := hKp.2.2.2
  have hn := hP.1
  have hbd : ∀ j, j < T.s.length → -10000 ≤ t.getD j 0 ∧ t.getD j 0 ≤ 10000 := fun j hj => zeH hP.2.1 hT hj
  have hlk : ∀ i, i < l.length → 0 ≤ l.getD i 0 ∧ l.getD i 0 ≤ (T.s.length : Int) - 1 := fun i hi => by
    have a := keptLe hG (Nat.zero_le i) hi
    have c := keptLe hG (show i ≤ l.length - 1 by omega) (by omega)
    have h0 := hKp.2.1
    have h1 := hKp.2.2.1
    omega
  rcases row_at hKp hj with ⟨i, hi, hij⟩ | ⟨i, hi, h1, h2⟩
  · rw [zbE hG hi hij]
    have := hbd j hj
    omega
  · have a1 := hlk i (by omega)
    have a2 := hlk (i + 1) hi
    rw [ze3 hG hi h1 h2]
    have m := mixv_bd (j := (j : Nat)) (hbd (l.getD i 0).toNat (by omega)) (hbd (l.getD (i + 1) 0).toNat (by omega)) (Int.le_of_lt h1) (Int.le_of_lt h2) (by omega)
    have a3 := zfu T.r (mixv (l.getD i 0) (l.getD (i + 1) 0) j (t.getD (l.getD i 0).toNat 0) (t.getD (l.getD (i + 1) 0).toNat 0)) (l.getD (i + 1) 0 - l.getD i 0)
    obtain ⟨d1, d2⟩ := ze7 (n := mixv (l.getD i 0) (l.getD (i + 1) 0) j (t.getD (l.getD i 0).toNat 0) (t.getD (l.getD (i + 1) 0).toNat 0)) (u := l.getD (i + 1) 0 - l.getD i 0) (by omega)
    omega
end Go.AX.Sa

namespace Go.AX.Sa
open Go.Proofs
set_option maxRecDepth 100000
variable {K : Known}
/-! Check, Figures, Right. -/
theorem fill_st (q p : Option Addr) (n k m j : Nat) (r o : Int) : fillB Tryz.prog 82 [(0, .agg #[.slice q n k, .int .i64 r, .int .i64 o]), (1, .slice p m j)] = some (.agg #[.slice q n k, .int .i64 r, .int .i64 o, .slice p m j]) := by kernel_rfl
section
variable {x : Ctx} {N : Nat} {E : Env} {h : Heap} {ops : Array Oper} {F : Ex → Env → Heap → Prop} {i : Nat}
variable {d : Nat} {ty : TypeId} {pos : String} {af : Array Edge} {g : Option (Nat × Bool)} {ps : Array (Nat × Operand)}
theorem zc4 {q p : Option Addr} {n k1 m j : Nat} {r o : Int} (hN : Nat.blt d N = true) (hg : gval ops E g = some true) (hk : opsOK Tryz.prog ⟨some d, .build 82 ps, ty, pos, af, g⟩ = true)
    (hps : E.parts ps.toList = some [(0, .agg #[.slice q n k1, .int .i64 r, .int .i64 o]), (1, .slice p m j)]) (k : R1 Tryz.prog K x N ops F (i + 1) ((d, .agg #[.slice q n k1, .int .i64 r, .int .i64 o, .slice p m j]) :: E) h) : R2 Tryz.prog K x N ops F i ⟨some d, .build 82 ps, ty, pos, af, g⟩ E h := zd5 hN hg hk hps (fill_st q p n k1 m j r o) k
end
theorem zeo (hK : NoK K) {T : Tb} {l t : List Int} {p pt : Option Addr} {cap ct : Nat} {h : Heap} (hP : TbP T) (hKp : KeptP T.s.length l) (hT : TruthP T.s t) (hcap : l.length ≤ cap) (hll : l.length ≤ 1000) (hTb : TbAt T h) (hr : Rd h p (ints l)) (hrt : Rd h pt (ints t)) (hpb : ∀ a, p = some a → a.block < h.n) :
    CallW Tryz.prog K 18 #[tbV T, .slice p l.length cap, .slice pt t.length ct] h (OkL (figs l t T.r T.s.length) h) := by
  have hn := hP.1
  have htl := hT.1
  have hl2 := hKp.1
  obtain ⟨b, e, own, rfl, hg⟩ := hr.at (by rw [zap]; omega)
  obtain ⟨bt, et, ownt, rfl, hgt⟩ := hrt.at (by rw [zap]; omega)
  have iK : ∀ {h' : Heap}, Ext h h' → CallW Tryz.prog K 63 #[ktV T (some ⟨b, 0, none⟩) l.length cap] h' (IsV (.bool true) h') := fun x => yes (zjZ hK (by omega) hll (hTb.ext x) (hr.ext x) (fun a w => Nat.lt_of_lt_of_le (hpb a w) x.n)) ⟨hP, hKp⟩
  have iW : ∀ {h' : Heap}, Ext h h' → CallW Tryz.prog K 64 #[.slice (some ⟨bt, 0, none⟩) t.length ct, .slice T.q T.s.length T.k] h' (IsV (.bool true) h') := fun x => yes (zf9 hK (by omega) (hTb.rd.ext x) (by omega) (hrt.ext x)) hT
  have iF : ∀ {h' : Heap}, Ext h h' → CallW Tryz.prog K 65 #[ktV T (some ⟨b, 0, none⟩) l.length cap, .slice (some ⟨bt, 0, none⟩) t.length ct] h' (IsL (figs l t T.r T.s.length) h') := fun x => ziL hK hP hKp hT hcap hll (x.get hg) (x.get hgt)
  obtain ⟨q, kq, s, r, o⟩ := T
  dsimp only [tbV, ktV] at iK iW iF ⊢
  refine body (N := 25) Tryz.func18 rfl (hK _ _ _ rfl) rfl rfl ?_
  (repeat' (first | apply zak | apply zad | (apply O_at; rfl) | (apply zah; rfl) | apply zai | (apply zaV; rfl) | apply zav | apply zay | apply zaz | ((first | apply zae | apply zac | apply zbv); rfl; rfl; rfl; rfl) | (apply P_fa; rfl; rfl; rfl; rfl; exact za1 rfl; (first | exact Nat.zero_add _ | exact Nat.add_zero _ | rfl)) | (apply zaA; rfl; rfl; rfl; rfl; rfl; rfl) | (apply zaq; rfl; rfl; rfl; rfl; exact zax rfl; (focus repeat' first | exact zaa | assumption | apply zab | (apply Ext.get; assumption)); (first | rfl | assumption)) | (apply zaI; rfl; rfl; rfl; rfl; exact zbe rfl; (focus repeat' first | exact zaa | assumption | apply zab | (apply Ext.get; assumption)); (first | exact Nat.le_of_ble_eq_true rfl | (simp; done) | (simp; omega) | (rw [zap]; omega)); rfl) | (apply zcr; rfl; rfl; rfl; rfl; exact zao rfl; rfl; rfl; rfl) | (apply zc4; rfl; rfl; rfl; rfl) | (apply zaT; rfl; rfl; rfl; rfl; exact zao rfl; rfl; rfl) | (apply zfd; rfl; rfl; rfl; rfl; exact zao rfl; rfl; rfl) | (apply zaf; rfl; rfl; rfl; rfl; rfl; rfl; exact iK (by (focus repeat' first | exact Ext.refl _ | assumption | apply Ext.push | (refine Ext.trans ?_ (by assumption)))); (rintro _ _ ⟨rfl, _⟩)) | (apply zaf; rfl; rfl; rfl; rfl; rfl; rfl; exact iW (by (focus repeat' first | exact Ext.refl _ | assumption | apply Ext.push | (refine Ext.trans ?_ (by assumption)))); (rintro _ _ ⟨rfl, _⟩)) | (apply zaf; rfl; rfl; rfl; rfl; rfl; rfl; exact iF (by (focus repeat' first | exact Ext.refl _ | assumption | apply Ext.push | (refine Ext.trans ?_ (by assumption)))); (rintro _ _ ⟨_, _, rfl, _, _⟩)) | fail))
  rename_i rd1 y1
  exact ⟨.inr rfl, _, rfl, _, _, rfl, rd1, by (focus repeat' first | exact Ext.refl _ | assumption | apply Ext.push | (refine Ext.trans ?_ (by assumption)))⟩
end Go.AX.Sa

namespace Go.AX.Sa
open Go.Proofs
set_option maxRecDepth 100000
variable {K : Known}
/-! Right; the law. -/
theorem figs_at {T : Tb} {l t : List Int} (hP : TbP T) (hKp : KeptP T.s.length l) (hT : TruthP T.s t) {j : Nat} (hj : j < T.s.length) : -1000000 ≤ (figs l t T.r T.s.length).getD j 0 ∧ (figs l t T.r T.s.length).getD j 0 ≤ 1000000 := by
  rw [zbK hj]; exact figv_bd hP hKp hT hj
theorem right_ok (hK : NoK K) {T : Tb} {l t : List Int} {p pt : Option Addr} {cap ct : Nat} {h : Heap} (hP : TbP T) (hKp : KeptP T.s.length l) (hT : TruthP T.s t) (hcap : l.length ≤ cap) (hll : l.length ≤ 1000) (hTb : TbAt T h) (hr : Rd h p (ints l)) (hrt : Rd h pt (ints t)) (hpb : ∀ a, p = some a → a.block < h.n) :
    CallW Tryz.prog K 19 #[tbV T, .slice p l.length cap, .slice pt t.length ct] h (fun v h1 => (v = .tuple #[.bool true, .int .i64 0] ∧ RightP T.s l t T.r T.o ∧ Ext h h1) ∨ (v = .tuple #[.bool false, .int .i64 0] ∧ ¬ RightP T.s l t T.r T.o ∧ Ext h h1)) := by
  have iF : ∀ {h' : Heap}, Ext h h' → CallW Tryz.prog K 18 #[tbV T, .slice p l.length cap, .slice pt t.length ct] h' (OkL (figs l t T.r T.s.length) h') := fun x => zeo hK hP hKp hT hcap hll (hTb.ext x) (hr.ext x) (hrt.ext x) (fun a w => Nat.lt_of_lt_of_le (hpb a w) x.n)
  have hbf : ∀ j, j < T.s.length → -1000000 ≤ (figs l t T.r T.s.length).getD j 0 ∧ (figs l t T.r T.s.length).getD j 0 ≤ 1000000 := fun j hj => figs_at hP hKp hT hj
  obtain ⟨q, kq, s, r, o⟩ := T
  have hqb : ∀ a, q = some a → a.block < h.n := hTb.b
  have hbd : ∀ j, j < s.length → -10000 ≤ t.getD j 0 ∧ t.getD j 0 ≤ 10000 := fun j hj => zeH hP.2.1 hT hj
  have hn := hP.1
  have htl := hT.1
  have hOff := hP.2.2.2
  dsimp only [tbV, OffP] at iF hbf hn htl hOff ⊢
  obtain ⟨bt, et, ownt, rfl, hgt⟩ := hrt.at (by rw [zap]; omega)
  have hfl := zdq l t r s.length
  refine body (N := 47) Tryz.func19 rfl (hK _ _ _ rfl) rfl rfl ?_
  (repeat' (first | apply zak | apply zad | (apply O_at; rfl) | (apply zah; rfl) | apply zai | (apply zaV; rfl) | apply zas | apply zav | ((first | apply zae | apply zac | apply zat | apply zem); rfl; rfl; rfl; rfl) | (apply zaR; rfl; rfl; rfl; rfl; rfl; rfl; exact zan rfl) | (apply zbF; rfl; rfl; rfl; rfl; rfl) | (apply zh2; rfl; rfl; rfl; rfl; rfl; omega) | (apply zaI; rfl; rfl; rfl; rfl; exact zbe rfl; (focus repeat' first | exact zaa | assumption | apply zab | (apply Ext.get; assumption)); (first | exact Nat.le_of_ble_eq_true rfl | (simp; done) | (simp; omega) | (rw [zap]; omega)); rfl) | (apply zaT; rfl; rfl; rfl; rfl; exact zao rfl; rfl; rfl) | ((first | (apply zaf; rfl; rfl; rfl; rfl; rfl; rfl) | (apply zau; rfl; rfl; rfl; rfl; rfl; rfl; rfl)); exact iF (by (focus repeat' first | exact Ext.refl _ | assumption | apply Ext.push | (refine Ext.trans ?_ (by assumption)))); (rintro _ _ ⟨_, _, rfl, _, _⟩)) | fail))
  rename_i h1 fq fc frd fx
  rw [hfl]
  obtain ⟨bf, ef, ownf, rfl, gf⟩ := frd.at (by rw [zap]; omega)
  have hgt1 := fx.get (zab hgt)
  have hb1 : h1.get? h.n = some (.cells [.slice q s.length kq, .int .i64 r, .int .i64 o] 25 true) := fx.get zaa
  refine zby (fun k : Nat => [(24, .int .i64 (k : Nat)), (23, .int .i64 (s.length : Nat)), (22, .slice (some ⟨bf, 0, none⟩) s.length fc), (3, .pointer (some ⟨h.n, 0, none⟩)), (2, .slice (some ⟨bt, 0, none⟩) t.length ct)])
    (fun k h' => k ≤ s.length ∧ Ext h1 h' ∧ ∀ j, j < k → t.getD j 0 - o ≤ figv l t r j ∧ figv l t r j ≤ t.getD j 0 + o) (fun k => s.length - k) ?_ 0 ?_ ?_
  · intro k h' ⟨hk, hx, hj⟩ ih
    have hb := hx.get hb1
    have hgt' := hx.get hgt1
    have gf' := hx.get gf
    by_cases hlt : k < s.length
    · have c1 := hbf k hlt
      have c2 := hbd k hlt
      have c3 := zbK (l := l) (t := t) (r := r) hlt
      by_cases hc : t.getD k 0 - o ≤ (figs l t r s.length).getD k 0 ∧ (figs l t r s.length).getD k 0 ≤ t.getD k 0 + o
      · (repeat' (first | apply zak | apply zad | (apply O_at; rfl) | (apply N_at; rfl) | (apply zah; rfl) | apply zai | (apply zaY; rfl) | (apply zaV; rfl) | (apply zaU; exact zar (by decide +kernel)) | apply zas | apply zav | (apply zbp; rfl; refine .inr ?_; (focus repeat' first | exact trivial | exact Keeps.nil _ _ | apply And.intro | rfl | (apply Keeps.cons; iterate 2 (focus repeat' first | exact zaa | assumption | apply zab | (apply Ext.get; assumption))))) | apply zaH | ((first | apply zae | apply zac | apply zat | apply zem); rfl; rfl; rfl; rfl) | (apply za9; rfl; rfl; rfl; rfl; rfl; omega) | ((first | apply zbo | apply zcE); rfl; rfl; rfl; rfl; rfl; (unfold fit; omega)) | ((first | apply zbd | apply za3); rfl; rfl; rfl; rfl; rfl; exact zan rfl; exact zao rfl; (first | assumption | rfl | exact (Int.toNat_of_nonneg (by omega)).symm); omega) | (apply zaq; rfl; rfl; rfl; rfl; exact zax rfl; (focus repeat' first | exact zaa | assumption | apply zab | (apply Ext.get; assumption)); (first | exact zag (by omega) | rfl | assumption)) | (apply M_fa; rfl; rfl; rfl; rfl; exact za1 rfl; (first | exact Nat.zero_add _ | exact Nat.add_zero _ | rfl)) | (apply zbV; rfl; rfl; rfl; rfl; rfl; (unfold fit; omega)) | (((apply za8; rfl; rfl; rfl; rfl; exact zax rfl); (focus repeat' first | exact zaa | assumption | apply zab | (apply Ext.get; assumption)); (first | exact zag (by omega) | rfl | assumption)); (first | assumption | exact zaC _ _ | rfl | (focus simp [same, same.all2]; done)); (first | rfl | assumption | exact hwv _ | (simp [within]; omega))) | ((first | (apply zaf; rfl; rfl; rfl; rfl; rfl; rfl) | (apply zau; rfl; rfl; rfl; rfl; rfl; rfl; rfl)); exact yes (zbq hK) hc; (rintro _ _ ⟨rfl, _⟩)) | fail))
        refine zaZ (ih (k + 1) _ (by omega) ⟨hlt, by (focus repeat' first | exact Ext.refl _ | assumption | apply Ext.push | (refine Ext.trans ?_ (by assumption))), fun j hj' => ?_⟩) (by (focus repeat' first | rfl | exact trivial | apply And.intro))
        by_cases hjk : j = k
        · subst hjk; rw [c3] at hc; exact hc
        · exact hj j (by omega)
      · (repeat' (first | apply zak | apply zad | (apply O_at; rfl) | (apply N_at; rfl) | (apply zah; rfl) | apply zai | (apply zaY; rfl) | (apply zaU; exact zar (by decide +kernel)) | apply zas | apply zav | apply zay | (apply zbp; rfl; refine .inr ?_; (focus repeat' first | exact trivial | exact Keeps.nil _ _ | apply And.intro | rfl | (apply Keeps.cons; iterate 2 (focus repeat' first | exact zaa | assumption | apply zab | (apply Ext.get; assumption))))) | apply zaW | apply zd7 | apply zd8 | apply zaz | ((first | apply zae | apply zac | apply zat | apply zem); rfl; rfl; rfl; rfl) | (apply za9; rfl; rfl; rfl; rfl; rfl; omega) | ((first | apply zbo | apply zcE); rfl; rfl; rfl; rfl; rfl; (unfold fit; omega)) | ((first | apply zbd | apply za3); rfl; rfl; rfl; rfl; rfl; exact zan rfl; exact zao rfl; (first | assumption | rfl | exact (Int.toNat_of_nonneg (by omega)).symm); omega) | (apply zaq; rfl; rfl; rfl; rfl; exact zax rfl; (focus repeat' first | exact zaa | assumption | apply zab | (apply Ext.get; assumption)); (first | exact zag (by omega) | rfl | assumption)) | (apply M_fa; rfl; rfl; rfl; rfl; exact za1 rfl; (first | exact Nat.zero_add _ | exact Nat.add_zero _ | rfl)) | (apply zbV; rfl; rfl; rfl; rfl; rfl; (unfold fit; omega)) | (((apply za8; rfl; rfl; rfl; rfl; exact zax rfl); (focus repeat' first | exact zaa | assumption | apply zab | (apply Ext.get; assumption)); (first | exact zag (by omega) | rfl | assumption)); (first | assumption | exact zaC _ _ | rfl | (focus simp [same, same.all2]; done)); (first | rfl | assumption | exact hwv _ | (simp [within]; omega))) | ((first | (apply zaf; rfl; rfl; rfl; rfl; rfl; rfl) | (apply zau; rfl; rfl; rfl; rfl; rfl; rfl; rfl)); exact no (zbq hK) hc; (rintro _ _ ⟨rfl, _⟩)) | fail))
        exact ⟨.inr rfl, _, rfl, .inr ⟨rfl, fun z => hc (by rw [c3]; exact z k hlt), by (focus repeat' first | exact Ext.refl _ | assumption | apply Ext.push | (refine Ext.trans ?_ (by assumption)))⟩⟩
    · (repeat' (first | apply zak | apply zad | (apply O_at; rfl) | (apply zah; rfl) | apply zai | (apply zaV; rfl) | apply zbI | apply zay | apply zbJ | apply zbf | apply zbg | apply zaz | ((first | apply zae | apply zac | apply zat | apply zem); rfl; rfl; rfl; rfl) | (apply zba; rfl; rfl; rfl; rfl; rfl; omega) | fail))
      exact ⟨.inr rfl, _, rfl, .inl ⟨rfl, fun j hj' => hj j (by omega), by (focus repeat' first | exact Ext.refl _ | assumption | apply Ext.push | (refine Ext.trans ?_ (by assumption)))⟩⟩
  · exact ⟨Nat.zero_le _, Ext.refl _, fun j hj => by omega⟩
  · (focus repeat' first | rfl | exact trivial | apply And.intro)
theorem short_ok (hK : NoK K) {T : Tb} {h : Heap} : CallW Tryz.prog K 15 #[tbV T] h (IfB (T.s.length ≤ 16) h) := by
  obtain ⟨q, kq, s, r, o⟩ := T
  dsimp only [tbV]
  refine body (N := 7) Tryz.func15 rfl (hK _ _ _ rfl) rfl rfl ?_
  by_cases hs : s.length ≤ 16
  · (repeat' (first | apply zak | apply zad | (apply O_at; rfl) | (apply zah; rfl) | apply zai | apply zay | apply zaz | (apply zac; rfl; rfl; rfl; rfl) | (apply P_fa; rfl; rfl; rfl; rfl; exact za1 rfl; (first | exact Nat.zero_add _ | exact Nat.add_zero _ | rfl)) | (apply zaR; rfl; rfl; rfl; rfl; rfl; rfl; exact zan rfl) | (apply zgd; rfl; rfl; rfl; rfl; rfl; omega) | (apply zaq; rfl; rfl; rfl; rfl; exact zax rfl; (focus repeat' first | exact zaa | assumption); (first | rfl | assumption)) | (apply zaT; rfl; rfl; rfl; rfl; exact zao rfl; rfl; rfl) | fail))
    exact ⟨.inr rfl, _, rfl, .inl ⟨rfl, hs, by (focus repeat' first | exact Ext.refl _ | assumption | apply Ext.push)⟩⟩
  · (repeat' (first | apply zak | apply zad | (apply O_at; rfl) | (apply zah; rfl) | apply zai | apply zay | apply zaz | (apply zac; rfl; rfl; rfl; rfl) | (apply P_fa; rfl; rfl; rfl; rfl; exact za1 rfl; (first | exact Nat.zero_add _ | exact Nat.add_zero _ | rfl)) | (apply zaR; rfl; rfl; rfl; rfl; rfl; rfl; exact zan rfl) | (apply zkw; rfl; rfl; rfl; rfl; rfl; omega) | (apply zaq; rfl; rfl; rfl; rfl; exact zax rfl; (focus repeat' first | exact zaa | assumption); (first | rfl | assumption)) | (apply zaT; rfl; rfl; rfl; rfl; exact zao rfl; rfl; rfl) | fail))
    exact ⟨.inr rfl, _, rfl, .inr ⟨rfl, hs, by (focus repeat' first | exact Ext.refl _ | assumption | apply Ext.push)⟩⟩
end Go.AX.Sa

namespace Go.AX.Sa
open Go.Proofs
set_option maxRecDepth 100000
variable {K : Known}
/-- A list in memory, as an argument. -/
structure RowAt (p : Option Addr) (l : List Int) (cap : Nat) (h : Heap) : Prop where
  rd : Rd h p (ints l)
  b : ∀ a, p = some a → a.block < h.n
  cap : l.length ≤ 1000000 → l.length ≤ cap
theorem RowAt.ext {p : Option Addr} {l : List Int} {cap : Nat} {h h1 : Heap} (x : RowAt p l cap h) (e : Ext h h1) : RowAt p l cap h1 := ⟨x.rd.ext e, fun a q => Nat.lt_of_lt_of_le (x.b a q) e.n, x.cap⟩
end Go.AX.Sa

namespace Go.AX.Sa
open Go.Proofs
set_option maxRecDepth 100000
variable {K : Known}
/-! The theorem of figures: numbers. -/
theorem mixv_lo (a c x y : Int) : mixv a c a x y = x * (c - a) := by
  unfold mixv; rw [Int.sub_self, Int.mul_zero, Int.add_zero]
theorem mixv_hi (a c x y : Int) : mixv a c c x y = y * (c - a) := by
  unfold mixv; rw [Int.sub_self, Int.mul_zero, Int.zero_add]
/-- Between two kept rows, both included. -/
theorem zhP {l t : List Int} {r : Int} {i j : Nat} (hG : GrowP l) (hi : i + 1 < l.length) (h1 : l.getD i 0 ≤ (j : Nat)) (h2 : ((j : Nat) : Int) ≤ l.getD (i + 1) 0) :
    figv l t r j = rnd r (mixv (l.getD i 0) (l.getD (i + 1) 0) j (t.getD (l.getD i 0).toNat 0) (t.getD (l.getD (i + 1) 0).toNat 0)) (l.getD (i + 1) 0 - l.getD i 0) := by
  have hg := hG i hi
  by_cases e1 : l.getD i 0 = (j : Nat)
  · rw [zbE hG (by omega) e1, e1, mixv_lo, zgA (by omega), Int.toNat_natCast]
  · by_cases e2 : l.getD (i + 1) 0 = (j : Nat)
    · rw [zbE hG hi e2, e2, mixv_hi, zgA (by omega), Int.toNat_natCast]
    · exact ze3 hG hi (by omega) (by omega)
theorem mixv_is (a c j x y : Int) : mixv a c j x y = mix a c j x y := rfl
/-- The figure lies between the numbers of the kept rows around it. -/
theorem zdT {l t : List Int} {r lo hi : Int} {i j : Nat} (hG : GrowP l) (hi' : i + 1 < l.length) (h1 : l.getD i 0 ≤ (j : Nat)) (h2 : ((j : Nat) : Int) ≤ l.getD (i + 1) 0)
    (x1 : lo ≤ t.getD (l.getD i 0).toNat 0) (x2 : t.getD (l.getD i 0).toNat 0 ≤ hi) (y1 : lo ≤ t.getD (l.getD (i + 1) 0).toNat 0) (y2 : t.getD (l.getD (i + 1) 0).toNat 0 ≤ hi) :
    lo ≤ figv l t r j ∧ figv l t r j ≤ hi := by
  have hg := hG i hi'
  rw [zhP hG hi' h1 h2, mixv_is]
  exact zgS h1 h2 hg x1 x2 y1 y2
/-- A table that is short and as defined, and a kept list of it. -/
def RightT (T : Tb) (l : List Int) : Prop := T.s.length ≤ 16 ∧ l.length ≤ 16 ∧ TbP T ∧ KeptP T.s.length l
theorem zgV (hK : NoK K) {T : Tb} {l : List Int} {p : Option Addr} {cap : Nat} {h : Heap} (hTb : TbAt T h) (hl : RowAt p l cap h) :
    CallW Tryz.prog K 26 #[tbV T, .slice p l.length cap] h (IfB (RightT T l) h) := by
  have iS : ∀ {h' : Heap}, CallW Tryz.prog K 15 #[tbV T] h' (IfB (T.s.length ≤ 16) h') := short_ok hK
  have iT : ∀ {h' : Heap}, T.s.length ≤ 16 → Ext h h' → CallW Tryz.prog K 20 #[tbV T] h' (IfB (TbP T) h') := fun a x => zgE hK (by omega) (hTb.ext x)
  have iK : ∀ {h' : Heap}, T.s.length ≤ 16 → l.length ≤ 16 → Ext h h' → CallW Tryz.prog K 21 #[tbV T, .slice p l.length cap] h' (IfB (KeptP T.s.length l) h') := fun a b x => ziA hK (by omega) (by omega) (hTb.ext x) (hl.ext x).rd (hl.ext x).b
  obtain ⟨q, kq, s, r, o⟩ := T
  dsimp only [tbV, RightT] at *
  refine body (N := 21) Tryz.func26 rfl (hK _ _ _ rfl) rfl rfl ?_
  by_cases hs : s.length ≤ 16
  · by_cases hl16 : l.length ≤ 16
    · by_cases hP : TbP ⟨q, kq, s, r, o⟩
      · by_cases hKp : KeptP s.length l
        · (repeat' (first | apply zak | apply zad | (apply O_at; rfl) | (apply zah; rfl) | apply zai | apply zay | apply zaz | ((first | apply zae | apply zac); rfl; rfl; rfl; rfl) | (apply zaR; rfl; rfl; rfl; rfl; rfl; rfl; exact zan rfl) | (apply zaA; rfl; rfl; rfl; rfl; rfl; rfl) | (apply zgd; rfl; rfl; rfl; rfl; rfl; omega) | (apply zaI; rfl; rfl; rfl; rfl; exact zbe rfl; (focus repeat' first | exact zaa | assumption | (apply Ext.get; assumption)); (first | exact Nat.le_of_ble_eq_true rfl | (simp; done) | (simp; omega)); rfl) | (apply zaT; rfl; rfl; rfl; rfl; exact zao rfl; rfl; rfl) | (apply zaf; rfl; rfl; rfl; rfl; rfl; rfl; exact yes iS hs; (rintro _ _ ⟨rfl, _⟩)) | (apply zaf; rfl; rfl; rfl; rfl; rfl; rfl; exact yes (iT hs (by (focus repeat' first | exact Ext.refl _ | assumption | apply Ext.push | (refine Ext.trans ?_ (by assumption))))) hP; (rintro _ _ ⟨rfl, _⟩)) | (apply zaf; rfl; rfl; rfl; rfl; rfl; rfl; exact yes (iK hs hl16 (by (focus repeat' first | exact Ext.refl _ | assumption | apply Ext.push | (refine Ext.trans ?_ (by assumption))))) hKp; (rintro _ _ ⟨rfl, _⟩)) | fail))
          exact ⟨.inr rfl, _, rfl, .inl ⟨rfl, ⟨hs, hl16, hP, hKp⟩, by (focus repeat' first | exact Ext.refl _ | assumption | apply Ext.push | (refine Ext.trans ?_ (by assumption)))⟩⟩
        · (repeat' (first | apply zak | apply zad | (apply O_at; rfl) | (apply zah; rfl) | apply zai | apply zay | apply zaz | ((first | apply zae | apply zac); rfl; rfl; rfl; rfl) | (apply zaR; rfl; rfl; rfl; rfl; rfl; rfl; exact zan rfl) | (apply zaA; rfl; rfl; rfl; rfl; rfl; rfl) | (apply zgd; rfl; rfl; rfl; rfl; rfl; omega) | (apply zaI; rfl; rfl; rfl; rfl; exact zbe rfl; (focus repeat' first | exact zaa | assumption | (apply Ext.get; assumption)); (first | exact Nat.le_of_ble_eq_true rfl | (simp; done) | (simp; omega)); rfl) | (apply zaT; rfl; rfl; rfl; rfl; exact zao rfl; rfl; rfl) | (apply zaf; rfl; rfl; rfl; rfl; rfl; rfl; exact yes iS hs; (rintro _ _ ⟨rfl, _⟩)) | (apply zaf; rfl; rfl; rfl; rfl; rfl; rfl; exact yes (iT hs (by (focus repeat' first | exact Ext.refl _ | assumption | apply Ext.push | (refine Ext.trans ?_ (by assumption))))) hP; (rintro _ _ ⟨rfl, _⟩)) | (apply zaf; rfl; rfl; rfl; rfl; rfl; rfl; exact no (iK hs hl16 (by (focus repeat' first | exact Ext.refl _ | assumption | apply Ext.push | (refine Ext.trans ?_ (by assumption))))) hKp; (rintro _ _ ⟨rfl, _⟩)) | fail))
          exact ⟨.inr rfl, _, rfl, .inr ⟨rfl, fun z => hKp z.2.2.2, by (focus repeat' first | exact Ext.refl _ | assumption | apply Ext.push | (refine Ext.trans ?_ (by assumption)))⟩⟩
      · (repeat' (first | apply zak | apply zad | (apply O_at; rfl) | (apply zah; rfl) | apply zai | apply zay | apply zaz | (apply zbj; rfl; rfl; rfl) | ((first | apply zae | apply zac); rfl; rfl; rfl; rfl) | (apply zaR; rfl; rfl; rfl; rfl; rfl; rfl; exact zan rfl) | (apply zaA; rfl; rfl; rfl; rfl; rfl; rfl) | (apply zgd; rfl; rfl; rfl; rfl; rfl; omega) | (apply zaI; rfl; rfl; rfl; rfl; exact zbe rfl; (focus repeat' first | exact zaa | assumption | (apply Ext.get; assumption)); (first | exact Nat.le_of_ble_eq_true rfl | (simp; done) | (simp; omega)); rfl) | (apply zaT; rfl; rfl; rfl; rfl; exact zao rfl; rfl; rfl) | (apply zaf; rfl; rfl; rfl; rfl; rfl; rfl; exact yes iS hs; (rintro _ _ ⟨rfl, _⟩)) | (apply zaf; rfl; rfl; rfl; rfl; rfl; rfl; exact no (iT hs (by (focus repeat' first | exact Ext.refl _ | assumption | apply Ext.push | (refine Ext.trans ?_ (by assumption))))) hP; (rintro _ _ ⟨rfl, _⟩)) | fail))
        exact ⟨.inr rfl, _, rfl, .inr ⟨rfl, fun z => hP z.2.2.1, by (focus repeat' first | exact Ext.refl _ | assumption | apply Ext.push | (refine Ext.trans ?_ (by assumption)))⟩⟩
    · (repeat' (first | apply zak | apply zad | (apply O_at; rfl) | (apply zah; rfl) | apply zai | apply zay | apply zaz | (apply zbj; rfl; rfl; rfl) | ((first | apply zae | apply zac); rfl; rfl; rfl; rfl) | (apply zaR; rfl; rfl; rfl; rfl; rfl; rfl; exact zan rfl) | (apply zaA; rfl; rfl; rfl; rfl; rfl; rfl) | (apply zkw; rfl; rfl; rfl; rfl; rfl; omega) | (apply zaI; rfl; rfl; rfl; rfl; exact zbe rfl; (focus repeat' first | exact zaa | assumption | (apply Ext.get; assumption)); (first | exact Nat.le_of_ble_eq_true rfl | (simp; done) | (simp; omega)); rfl) | (apply zaT; rfl; rfl; rfl; rfl; exact zao rfl; rfl; rfl) | (apply zaf; rfl; rfl; rfl; rfl; rfl; rfl; exact yes iS hs; (rintro _ _ ⟨rfl, _⟩)) | fail))
      exact ⟨.inr rfl, _, rfl, .inr ⟨rfl, fun z => hl16 z.2.1, by (focus repeat' first | exact Ext.refl _ | assumption | apply Ext.push | (refine Ext.trans ?_ (by assumption)))⟩⟩
  · (repeat' (first | apply zak | apply zad | (apply O_at; rfl) | (apply zah; rfl) | apply zai | apply zay | apply zaz | (apply zbj; rfl; rfl; rfl) | ((first | apply zae | apply zac); rfl; rfl; rfl; rfl) | (apply zaA; rfl; rfl; rfl; rfl; rfl; rfl) | (apply zaI; rfl; rfl; rfl; rfl; exact zbe rfl; (focus repeat' first | exact zaa | assumption | (apply Ext.get; assumption)); (first | exact Nat.le_of_ble_eq_true rfl | (simp; done) | (simp; omega)); rfl) | (apply zaT; rfl; rfl; rfl; rfl; exact zao rfl; rfl; rfl) | (apply zaf; rfl; rfl; rfl; rfl; rfl; rfl; exact no iS hs; (rintro _ _ ⟨rfl, _⟩)) | fail))
    exact ⟨.inr rfl, _, rfl, .inr ⟨rfl, fun z => hs z.1, by (focus repeat' first | exact Ext.refl _ | assumption | apply Ext.push | (refine Ext.trans ?_ (by assumption)))⟩⟩
end Go.AX.Sa

namespace Go.AX.Sa
open Go.Proofs
set_option maxRecDepth 100000
variable {K : Known}
/-! The theorem of figures. -/
theorem zbM {s : List (Int × Int)} {t : List Int} (hV : Vals s) (hT : TruthP s t) {j : Nat} (hj : j < s.length) : -9999 ≤ t.getD j 0 ∧ t.getD j 0 ≤ 9999 := by
  have h1 := hV j hj
  have h2 := hT.2 j (by rw [hT.1]; exact hj)
  unfold ValP at h1
  omega
theorem zeY {n : Nat} {l : List Int} (hKp : KeptP n l) {i : Nat} (hi : i < l.length) : 0 ≤ l.getD i 0 ∧ l.getD i 0 ≤ (n : Int) - 1 := by
  have a := keptLe hKp.2.2.2 (Nat.zero_le i) hi
  have c := keptLe hKp.2.2.2 (show i ≤ l.length - 1 by omega) (by omega)
  have h0 := hKp.2.1
  have h1 := hKp.2.2.1
  omega
/-- All figures are numbers as rows have them. -/
theorem zj7 {s : List (Int × Int)} {l t : List Int} {r : Int} (hV : Vals s) (hKp : KeptP s.length l) (hT : TruthP s t) {j : Nat} (hj : j < s.length) : -9999 ≤ (figs l t r s.length).getD j 0 ∧ (figs l t r s.length).getD j 0 ≤ 9999 := by
  rw [zbK hj]
  rcases row_at hKp hj with ⟨i, hi, hij⟩ | ⟨i, hi, h1, h2⟩
  · rw [zbE hKp.2.2.2 hi hij]
    exact zbM hV hT hj
  · have a1 := zeY hKp (i := i) (by omega)
    have a2 := zeY hKp hi
    have b1 := zbM hV hT (j := (l.getD i 0).toNat) (by omega)
    have b2 := zbM hV hT (j := (l.getD (i + 1) 0).toNat) (by omega)
    exact zdT hKp.2.2.2 hi (by omega) (by omega) b1.1 b1.2 b2.1 b2.2
set_option maxHeartbeats 4000000 in
/-- P5.1: each figure is as defined; the figure of a kept row is its number; each lies between the numbers of the kept rows around it; Right tells whether all differ by at most Off. -/
theorem zd9 (hK : NoK K) (hKn : Kn K) {T : Tb} {l t : List Int} {p pt : Option Addr} {cap ct : Nat} {w row : Int} {h : Heap} (hTb : TbAt T h) (hl : RowAt p l cap h) (ht : RowAt pt t ct h) :
    CallW Tryz.prog K 4 #[tbV T, .slice p l.length cap, .slice pt t.length ct, .int .i64 w, .int .i64 row] h (fun v _ => v = .bool true) := by
  have iL : ∀ {h' : Heap}, Ext h h' → CallW Tryz.prog K 26 #[tbV T, .slice p l.length cap] h' (IfB (RightT T l) h') := fun x => zgV hK (hTb.ext x) (hl.ext x)
  have iU : ∀ {h' : Heap}, T.s.length ≤ 16 → t.length ≤ 16 → Ext h h' → CallW Tryz.prog K 22 #[tbV T, .slice pt t.length ct] h' (IfB (TruthP T.s t) h') := fun a b x => zgD hK (by omega) (hTb.ext x).rd (by omega) (ht.ext x).rd
  have iF : ∀ {h' : Heap}, TbP T → KeptP T.s.length l → TruthP T.s t → l.length ≤ 16 → Ext h h' → CallW Tryz.prog K 18 #[tbV T, .slice p l.length cap, .slice pt t.length ct] h' (OkL (figs l t T.r T.s.length) h') := fun a b c d x => zeo hK a b c (hl.cap (by omega)) (by omega) (hTb.ext x) (hl.ext x).rd (ht.ext x).rd (hl.ext x).b
  have iR := fun {h' : Heap} (a : TbP T) (b : KeptP T.s.length l) (c : TruthP T.s t) (d : l.length ≤ 16) (x : Ext h h') => right_ok (cap := cap) (ct := ct) hK a b c (hl.cap (by omega)) (by omega) (hTb.ext x) (hl.ext x).rd (ht.ext x).rd (hl.ext x).b
  obtain ⟨q, kq, s, r, o⟩ := T
  dsimp only [tbV] at *
  by_cases hRT : RightT ⟨q, kq, s, r, o⟩ l
  case neg =>
    refine body (N := 244) Tryz.func4 rfl (hK _ _ _ rfl) rfl rfl ?_
    (repeat' (first | apply zak | apply zad | (apply O_at; rfl) | (apply zah; rfl) | apply zai | (apply zaY; rfl) | apply zay | apply zaW | apply zaz | (apply zbj; rfl; rfl; rfl) | ((first | apply zae | apply zac | apply zbv | apply zat | apply zaw); rfl; rfl; rfl; rfl) | ((first | apply zaA | apply zaO); rfl; rfl; rfl; rfl; rfl; rfl) | (apply zaI; rfl; rfl; rfl; rfl; exact zbe rfl; (focus repeat' first | exact zaa | assumption | apply zab | (apply Ext.get; assumption)); (first | exact Nat.le_of_ble_eq_true rfl | (simp; done) | (simp; omega) | (rw [zap]; omega)); rfl) | (apply zaT; rfl; rfl; rfl; rfl; exact zao rfl; rfl; rfl) | ((first | (apply zaf; rfl; rfl; rfl; rfl; rfl; rfl) | (apply zau; rfl; rfl; rfl; rfl; rfl; rfl; rfl)); exact no (iL (by (focus repeat' first | exact Ext.refl _ | assumption | apply Ext.push | (refine Ext.trans ?_ (by assumption))))) hRT; (rintro _ _ ⟨rfl, _⟩)) | ((first | (apply zaf; rfl; rfl; rfl; rfl; rfl; rfl) | (apply zau; rfl; rfl; rfl; rfl; rfl; rfl; rfl)); exact zbu hKn; (rintro _ _ ⟨rfl, _⟩)) | fail))
    exact ⟨.inr rfl, _, rfl, rfl⟩
  obtain ⟨hs, hl16, hP, hKp⟩ := id hRT
  have hG := hKp.2.2.2
  have hV := hP.2.1
  have hru := hP.2.2.1
  have hOff := hP.2.2.2
  have hn := hP.1
  dsimp only [OffP] at hs hKp hV hru hOff hn
  have hl2 := hKp.1
  obtain ⟨b, e, own, rfl, hg⟩ := hl.rd.at (by rw [zap]; omega)
  by_cases ht16 : t.length ≤ 16
  case neg =>
    refine body (N := 244) Tryz.func4 rfl (hK _ _ _ rfl) rfl rfl ?_
    (repeat' (first | apply zak | apply zad | (apply O_at; rfl) | (apply zah; rfl) | apply zai | (apply zaY; rfl) | apply zay | apply zaW | apply zaz | (apply zbj; rfl; rfl; rfl) | ((first | apply zae | apply zac | apply zbv | apply zat | apply zaw); rfl; rfl; rfl; rfl) | (apply zaR; rfl; rfl; rfl; rfl; rfl; rfl; exact zan rfl) | ((first | apply zaA | apply zaO); rfl; rfl; rfl; rfl; rfl; rfl) | (apply zh4; rfl; rfl; rfl; rfl; rfl; omega) | (apply zaI; rfl; rfl; rfl; rfl; exact zbe rfl; (focus repeat' first | exact zaa | assumption | apply zab | (apply Ext.get; assumption)); (first | exact Nat.le_of_ble_eq_true rfl | (simp; done) | (simp; omega) | (rw [zap]; omega)); rfl) | (apply zaT; rfl; rfl; rfl; rfl; exact zao rfl; rfl; rfl) | ((first | (apply zaf; rfl; rfl; rfl; rfl; rfl; rfl) | (apply zau; rfl; rfl; rfl; rfl; rfl; rfl; rfl)); exact yes (iL (by (focus repeat' first | exact Ext.refl _ | assumption | apply Ext.push | (refine Ext.trans ?_ (by assumption))))) hRT; (rintro _ _ ⟨rfl, _⟩)) | ((first | (apply zaf; rfl; rfl; rfl; rfl; rfl; rfl) | (apply zau; rfl; rfl; rfl; rfl; rfl; rfl; rfl)); exact zbu hKn; (rintro _ _ ⟨rfl, _⟩)) | fail))
    exact ⟨.inr rfl, _, rfl, rfl⟩
  by_cases hT : TruthP s t
  case neg =>
    refine body (N := 244) Tryz.func4 rfl (hK _ _ _ rfl) rfl rfl ?_
    (repeat' (first | apply zak | apply zad | (apply O_at; rfl) | (apply zah; rfl) | apply zai | (apply zaY; rfl) | apply zay | apply zaW | apply zaz | (apply zbj; rfl; rfl; rfl) | ((first | apply zae | apply zac | apply zbv | apply zat | apply zaw); rfl; rfl; rfl; rfl) | (apply zaR; rfl; rfl; rfl; rfl; rfl; rfl; exact zan rfl) | ((first | apply zaA | apply zaO); rfl; rfl; rfl; rfl; rfl; rfl) | (apply zbH; rfl; rfl; rfl; rfl; rfl; omega) | (apply zaI; rfl; rfl; rfl; rfl; exact zbe rfl; (focus repeat' first | exact zaa | assumption | apply zab | (apply Ext.get; assumption)); (first | exact Nat.le_of_ble_eq_true rfl | (simp; done) | (simp; omega) | (rw [zap]; omega)); rfl) | (apply zaT; rfl; rfl; rfl; rfl; exact zao rfl; rfl; rfl) | ((first | (apply zaf; rfl; rfl; rfl; rfl; rfl; rfl) | (apply zau; rfl; rfl; rfl; rfl; rfl; rfl; rfl)); exact yes (iL (by (focus repeat' first | exact Ext.refl _ | assumption | apply Ext.push | (refine Ext.trans ?_ (by assumption))))) hRT; (rintro _ _ ⟨rfl, _⟩)) | ((first | (apply zaf; rfl; rfl; rfl; rfl; rfl; rfl) | (apply zau; rfl; rfl; rfl; rfl; rfl; rfl; rfl)); exact no (iU hs ht16 (by (focus repeat' first | exact Ext.refl _ | assumption | apply Ext.push | (refine Ext.trans ?_ (by assumption))))) hT; (rintro _ _ ⟨rfl, _⟩)) | ((first | (apply zaf; rfl; rfl; rfl; rfl; rfl; rfl) | (apply zau; rfl; rfl; rfl; rfl; rfl; rfl; rfl)); exact zbu hKn; (rintro _ _ ⟨rfl, _⟩)) | fail))
    exact ⟨.inr rfl, _, rfl, rfl⟩
  have htl := hT.1
  obtain ⟨bt, et, ownt, rfl, hgt⟩ := ht.rd.at (by rw [zap]; omega)
  by_cases hw0 : 0 ≤ w
  case neg =>
    refine body (N := 244) Tryz.func4 rfl (hK _ _ _ rfl) rfl rfl ?_
    (repeat' (first | apply zak | apply zad | (apply O_at; rfl) | (apply zah; rfl) | apply zai | (apply zaY; rfl) | apply zay | apply zaW | apply zaz | (apply zbj; rfl; rfl; rfl) | ((first | apply zae | apply zac | apply zbv | apply zat | apply zaw); rfl; rfl; rfl; rfl) | (apply zaR; rfl; rfl; rfl; rfl; rfl; rfl; exact zan rfl) | ((first | apply zaA | apply zaO); rfl; rfl; rfl; rfl; rfl; rfl) | (apply za9; rfl; rfl; rfl; rfl; rfl; omega) | (apply zbH; rfl; rfl; rfl; rfl; rfl; omega) | (apply zaI; rfl; rfl; rfl; rfl; exact zbe rfl; (focus repeat' first | exact zaa | assumption | apply zab | (apply Ext.get; assumption)); (first | exact Nat.le_of_ble_eq_true rfl | (simp; done) | (simp; omega) | (rw [zap]; omega)); rfl) | (apply zaT; rfl; rfl; rfl; rfl; exact zao rfl; rfl; rfl) | ((first | (apply zaf; rfl; rfl; rfl; rfl; rfl; rfl) | (apply zau; rfl; rfl; rfl; rfl; rfl; rfl; rfl)); exact yes (iL (by (focus repeat' first | exact Ext.refl _ | assumption | apply Ext.push | (refine Ext.trans ?_ (by assumption))))) hRT; (rintro _ _ ⟨rfl, _⟩)) | ((first | (apply zaf; rfl; rfl; rfl; rfl; rfl; rfl) | (apply zau; rfl; rfl; rfl; rfl; rfl; rfl; rfl)); exact yes (iU hs ht16 (by (focus repeat' first | exact Ext.refl _ | assumption | apply Ext.push | (refine Ext.trans ?_ (by assumption))))) hT; (rintro _ _ ⟨rfl, _⟩)) | ((first | (apply zaf; rfl; rfl; rfl; rfl; rfl; rfl) | (apply zau; rfl; rfl; rfl; rfl; rfl; rfl; rfl)); exact zbu hKn; (rintro _ _ ⟨rfl, _⟩)) | fail))
    exact ⟨.inr rfl, _, rfl, rfl⟩
  obtain ⟨i, rfl⟩ : ∃ i : Nat, w = (i : Nat) := ⟨w.toNat, by omega⟩
  by_cases hi : i + 1 < l.length
  case neg =>
    refine body (N := 244) Tryz.func4 rfl (hK _ _ _ rfl) rfl rfl ?_
    (repeat' (first | apply zak | apply zad | (apply O_at; rfl) | (apply zah; rfl) | apply zai | (apply zaY; rfl) | apply zay | apply zaW | apply zaz | (apply zbj; rfl; rfl; rfl) | ((first | apply zae | apply zac | apply zbv | apply zat | apply zaw); rfl; rfl; rfl; rfl) | (apply zaR; rfl; rfl; rfl; rfl; rfl; rfl; exact zan rfl) | ((first | apply zaA | apply zaO); rfl; rfl; rfl; rfl; rfl; rfl) | (apply zba; rfl; rfl; rfl; rfl; rfl; omega) | (apply zbH; rfl; rfl; rfl; rfl; rfl; omega) | (apply P_geqT; rfl; rfl; rfl; rfl; rfl; omega) | ((first | apply zbU | apply zbV); rfl; rfl; rfl; rfl; rfl; (unfold fit; omega)) | (apply zaI; rfl; rfl; rfl; rfl; exact zbe rfl; (focus repeat' first | exact zaa | assumption | apply zab | (apply Ext.get; assumption)); (first | exact Nat.le_of_ble_eq_true rfl | (simp; done) | (simp; omega) | (rw [zap]; omega)); rfl) | (apply zaT; rfl; rfl; rfl; rfl; exact zao rfl; rfl; rfl) | ((first | (apply zaf; rfl; rfl; rfl; rfl; rfl; rfl) | (apply zau; rfl; rfl; rfl; rfl; rfl; rfl; rfl)); exact yes (iL (by (focus repeat' first | exact Ext.refl _ | assumption | apply Ext.push | (refine Ext.trans ?_ (by assumption))))) hRT; (rintro _ _ ⟨rfl, _⟩)) | ((first | (apply zaf; rfl; rfl; rfl; rfl; rfl; rfl) | (apply zau; rfl; rfl; rfl; rfl; rfl; rfl; rfl)); exact yes (iU hs ht16 (by (focus repeat' first | exact Ext.refl _ | assumption | apply Ext.push | (refine Ext.trans ?_ (by assumption))))) hT; (rintro _ _ ⟨rfl, _⟩)) | ((first | (apply zaf; rfl; rfl; rfl; rfl; rfl; rfl) | (apply zau; rfl; rfl; rfl; rfl; rfl; rfl; rfl)); exact zbu hKn; (rintro _ _ ⟨rfl, _⟩)) | fail))
    exact ⟨.inr rfl, _, rfl, rfl⟩
  have hi0 : i < l.length := by omega
  have a1 := zeY hKp hi0
  have a2 := zeY hKp hi
  have hAC := hG i hi
  by_cases hlo : l.getD i 0 ≤ row
  case neg =>
    refine body (N := 244) Tryz.func4 rfl (hK _ _ _ rfl) rfl rfl ?_
    (repeat' (first | apply zak | apply zad | (apply O_at; rfl) | (apply zah; rfl) | apply zai | (apply zaY; rfl) | apply zay | apply zaW | apply zaz | (apply zbj; rfl; rfl; rfl) | ((first | apply zae | apply zac | apply zbv | apply zat | apply zaw); rfl; rfl; rfl; rfl) | (apply zaR; rfl; rfl; rfl; rfl; rfl; rfl; exact zan rfl) | ((first | apply zaA | apply zaO); rfl; rfl; rfl; rfl; rfl; rfl) | (apply zba; rfl; rfl; rfl; rfl; rfl; omega) | (apply za9; rfl; rfl; rfl; rfl; rfl; omega) | (apply zbH; rfl; rfl; rfl; rfl; rfl; omega) | (apply zh5; rfl; rfl; rfl; rfl; rfl; omega) | ((first | apply zbU | apply zbV); rfl; rfl; rfl; rfl; rfl; (unfold fit; omega)) | ((first | apply zbd | apply za3); rfl; rfl; rfl; rfl; rfl; exact zan rfl; exact zao rfl; (first | assumption | exact zqs _ | rfl | exact (Int.toNat_of_nonneg (by omega)).symm); omega) | (apply zaq; rfl; rfl; rfl; rfl; exact zax rfl; (focus repeat' first | exact zaa | assumption | apply zab | (apply Ext.get; assumption)); (first | exact zag (by omega) | rfl | assumption)) | (apply zaI; rfl; rfl; rfl; rfl; exact zbe rfl; (focus repeat' first | exact zaa | assumption | apply zab | (apply Ext.get; assumption)); (first | exact Nat.le_of_ble_eq_true rfl | (simp; done) | (simp; omega) | (rw [zap]; omega)); rfl) | (apply zaT; rfl; rfl; rfl; rfl; exact zao rfl; rfl; rfl) | ((first | (apply zaf; rfl; rfl; rfl; rfl; rfl; rfl) | (apply zau; rfl; rfl; rfl; rfl; rfl; rfl; rfl)); exact yes (iL (by (focus repeat' first | exact Ext.refl _ | assumption | apply Ext.push | (refine Ext.trans ?_ (by assumption))))) hRT; (rintro _ _ ⟨rfl, _⟩)) | ((first | (apply zaf; rfl; rfl; rfl; rfl; rfl; rfl) | (apply zau; rfl; rfl; rfl; rfl; rfl; rfl; rfl)); exact yes (iU hs ht16 (by (focus repeat' first | exact Ext.refl _ | assumption | apply Ext.push | (refine Ext.trans ?_ (by assumption))))) hT; (rintro _ _ ⟨rfl, _⟩)) | ((first | (apply zaf; rfl; rfl; rfl; rfl; rfl; rfl) | (apply zau; rfl; rfl; rfl; rfl; rfl; rfl; rfl)); exact zbu hKn; (rintro _ _ ⟨rfl, _⟩)) | fail))
    exact ⟨.inr rfl, _, rfl, rfl⟩
  by_cases hhi : row ≤ l.getD (i + 1) 0
  case neg =>
    refine body (N := 244) Tryz.func4 rfl (hK _ _ _ rfl) rfl rfl ?_
    (repeat' (first | apply zak | apply zad | (apply O_at; rfl) | (apply zah; rfl) | apply zai | (apply zaY; rfl) | apply zay | apply zaW | apply zaz | ((first | apply zae | apply zac | apply zbv | apply zat | apply zaw); rfl; rfl; rfl; rfl) | (apply zaR; rfl; rfl; rfl; rfl; rfl; rfl; exact zan rfl) | ((first | apply zaA | apply zaO); rfl; rfl; rfl; rfl; rfl; rfl) | (apply zba; rfl; rfl; rfl; rfl; rfl; omega) | (apply zbH; rfl; rfl; rfl; rfl; rfl; omega) | (apply zh4; rfl; rfl; rfl; rfl; rfl; omega) | (apply zh5; rfl; rfl; rfl; rfl; rfl; omega) | ((first | apply zbo | apply zcE); rfl; rfl; rfl; rfl; rfl; (unfold fit; omega)) | ((first | apply zbU | apply zbV); rfl; rfl; rfl; rfl; rfl; (unfold fit; omega)) | ((first | apply zbd | apply za3); rfl; rfl; rfl; rfl; rfl; exact zan rfl; exact zao rfl; (first | assumption | exact zqs _ | rfl | exact (Int.toNat_of_nonneg (by omega)).symm); omega) | (apply zaq; rfl; rfl; rfl; rfl; exact zax rfl; (focus repeat' first | exact zaa | assumption | apply zab | (apply Ext.get; assumption)); (first | exact zag (by omega) | rfl | assumption)) | (apply zaI; rfl; rfl; rfl; rfl; exact zbe rfl; (focus repeat' first | exact zaa | assumption | apply zab | (apply Ext.get; assumption)); (first | exact Nat.le_of_ble_eq_true rfl | (simp; done) | (simp; omega) | (rw [zap]; omega)); rfl) | (apply zaT; rfl; rfl; rfl; rfl; exact zao rfl; rfl; rfl) | ((first | (apply zaf; rfl; rfl; rfl; rfl; rfl; rfl) | (apply zau; rfl; rfl; rfl; rfl; rfl; rfl; rfl)); exact yes (iL (by (focus repeat' first | exact Ext.refl _ | assumption | apply Ext.push | (refine Ext.trans ?_ (by assumption))))) hRT; (rintro _ _ ⟨rfl, _⟩)) | ((first | (apply zaf; rfl; rfl; rfl; rfl; rfl; rfl) | (apply zau; rfl; rfl; rfl; rfl; rfl; rfl; rfl)); exact yes (iU hs ht16 (by (focus repeat' first | exact Ext.refl _ | assumption | apply Ext.push | (refine Ext.trans ?_ (by assumption))))) hT; (rintro _ _ ⟨rfl, _⟩)) | ((first | (apply zaf; rfl; rfl; rfl; rfl; rfl; rfl) | (apply zau; rfl; rfl; rfl; rfl; rfl; rfl; rfl)); exact zbu hKn; (rintro _ _ ⟨rfl, _⟩)) | fail))
    exact ⟨.inr rfl, _, rfl, rfl⟩
  obtain ⟨j, rfl⟩ : ∃ j : Nat, row = (j : Nat) := ⟨row.toNat, by omega⟩
  obtain ⟨A, hA⟩ : ∃ A : Nat, l.getD i 0 = (A : Nat) := ⟨(l.getD i 0).toNat, by omega⟩
  obtain ⟨C, hC⟩ : ∃ C : Nat, l.getD (i + 1) 0 = (C : Nat) := ⟨(l.getD (i + 1) 0).toNat, by omega⟩
  have eA : (l.getD i 0).toNat = A := by omega
  have eC : (l.getD (i + 1) 0).toNat = C := by omega
  have hAs : A < s.length := by omega
  have hCs : C < s.length := by omega
  have hjs : j < s.length := by omega
  have tA := zbM hV hT hAs
  have tC := zbM hV hT hCs
  have m1 := zes (x := t.getD A 0) (d := l.getD (i + 1) 0 - (j : Nat)) (by omega) (by omega)
  have m2 := zes (x := t.getD C 0) (d := ((j : Nat) : Int) - l.getD i 0) (by omega) (by omega)
  have hm := zhP (t := t) (r := r) hG hi hlo hhi
  have hwi := zdT (t := t) (r := r) (lo := min (t.getD A 0) (t.getD C 0)) (hi := max (t.getD A 0) (t.getD C 0)) hG hi hlo hhi (by rw [eA]; omega) (by rw [eA]; omega) (by rw [eC]; omega) (by rw [eC]; omega)
  rw [eA, eC] at hm
  unfold mixv at hm
  obtain ⟨L, hL⟩ : ∃ L, L = figs l t r s.length := ⟨_, rfl⟩
  have gl : L.length = s.length := by rw [hL]; exact zdq l t r s.length
  have gj : L.getD j 0 = figv l t r j := by rw [hL]; exact zbK hjs
  have gA : L.getD A 0 = t.getD A 0 := by rw [hL, zbK hAs]; exact zbE hG hi0 hA
  have gC : L.getD C 0 = t.getD C 0 := by rw [hL, zbK hCs]; exact zbE hG hi hC
  rw [← gj] at hm hwi
  have gb : ∀ k, k < s.length → -9999 ≤ L.getD k 0 ∧ L.getD k 0 ≤ 9999 := fun k hk => by rw [hL]; exact zj7 hV hKp hT hk
  have hRL : RightP s l t r o ↔ ∀ k, k < s.length → L.getD k 0 - t.getD k 0 ≤ o ∧ t.getD k 0 - L.getD k 0 ≤ o := by
    unfold RightP
    constructor
    · intro z k hk
      have := z k hk
      rw [hL, zbK hk]; omega
    · intro z k hk
      have := z k hk
      rw [hL, zbK hk] at this; omega
  have tb : ∀ k, k < s.length → -9999 ≤ t.getD k 0 ∧ t.getD k 0 ≤ 9999 := fun k hk => zbM hV hT hk
  rw [← hL] at iF
  by_cases hR : RightP s l t r o
  · refine body (N := 244) Tryz.func4 rfl (hK _ _ _ rfl) rfl rfl ?_
    (repeat' (first | apply zak | apply zad | (apply O_at; rfl) | (apply zah; rfl) | apply zai | (apply zaV; rfl) | apply zav | ((first | apply zae | apply zac | apply zbv | apply zat | apply zaw); rfl; rfl; rfl; rfl) | (apply zaR; rfl; rfl; rfl; rfl; rfl; rfl; exact zan rfl) | ((first | apply zaA | apply zaO); rfl; rfl; rfl; rfl; rfl; rfl) | ((first | apply zbF | apply zcV); rfl; rfl; rfl; rfl; rfl) | (apply zba; rfl; rfl; rfl; rfl; rfl; omega) | (apply zbH; rfl; rfl; rfl; rfl; rfl; omega) | (apply zh5; rfl; rfl; rfl; rfl; rfl; omega) | ((first | apply zbo | apply zcE); rfl; rfl; rfl; rfl; rfl; (unfold fit; omega)) | ((first | apply zbU | apply zbV); rfl; rfl; rfl; rfl; rfl; (unfold fit; omega)) | ((first | apply zbd | apply za3); rfl; rfl; rfl; rfl; rfl; exact zan rfl; exact zao rfl; (first | assumption | exact zqs _ | rfl | exact (Int.toNat_of_nonneg (by omega)).symm); omega) | (apply zaq; rfl; rfl; rfl; rfl; exact zax rfl; (focus repeat' first | exact zaa | assumption | apply zab | (apply Ext.get; assumption)); (first | exact zag (by omega) | rfl | assumption)) | (apply zaI; rfl; rfl; rfl; rfl; exact zbe rfl; (focus repeat' first | exact zaa | assumption | apply zab | (apply Ext.get; assumption)); (first | exact Nat.le_of_ble_eq_true rfl | (simp; done) | (simp; omega) | (rw [zap]; omega)); rfl) | (apply zaT; rfl; rfl; rfl; rfl; exact zao rfl; rfl; rfl) | ((first | (apply zaf; rfl; rfl; rfl; rfl; rfl; rfl) | (apply zau; rfl; rfl; rfl; rfl; rfl; rfl; rfl)); exact yes (iL (by (focus repeat' first | exact Ext.refl _ | assumption | apply Ext.push | (refine Ext.trans ?_ (by assumption))))) hRT; (rintro _ _ ⟨rfl, _⟩)) | ((first | (apply zaf; rfl; rfl; rfl; rfl; rfl; rfl) | (apply zau; rfl; rfl; rfl; rfl; rfl; rfl; rfl)); exact yes (iU hs ht16 (by (focus repeat' first | exact Ext.refl _ | assumption | apply Ext.push | (refine Ext.trans ?_ (by assumption))))) hT; (rintro _ _ ⟨rfl, _⟩)) | ((first | (apply zaf; rfl; rfl; rfl; rfl; rfl; rfl) | (apply zau; rfl; rfl; rfl; rfl; rfl; rfl; rfl)); exact iF hP hKp hT hl16 (by (focus repeat' first | exact Ext.refl _ | assumption | apply Ext.push | (refine Ext.trans ?_ (by assumption)))); (rintro _ _ ⟨_, _, rfl, _, _⟩)) | fail))
    rename_i h1 x1 h2 x2 h3 fq fc frd fx
    obtain ⟨bf, ef, ownf, rfl, gf⟩ := frd.at (by rw [zap]; omega)
    (repeat' (first | apply zak | apply zad | (apply O_at; rfl) | (apply N_at; rfl) | (apply zah; rfl) | apply zai | (apply zaV; rfl) | (apply zaU; exact zar (by decide +kernel)) | apply zas | apply zav | (apply zbp; rfl; exact (.inl (Nat.le_refl 1))) | (apply zbp; rfl; refine .inr ?_; (focus repeat' first | exact trivial | exact Keeps.nil _ _ | apply And.intro | rfl | (apply Keeps.cons; iterate 2 (focus repeat' first | exact zaa | assumption | apply zab | (apply Ext.get; assumption))))) | ((first | apply zae | apply zac | apply zbv | apply zat | apply zaw); rfl; rfl; rfl; rfl) | (apply zaR; rfl; rfl; rfl; rfl; rfl; rfl; exact zan rfl) | ((first | apply zaA | apply zaO); rfl; rfl; rfl; rfl; rfl; rfl) | ((first | apply zbF | apply zcV); rfl; rfl; rfl; rfl; rfl) | (apply zh2; rfl; rfl; rfl; rfl; rfl; omega) | ((first | apply zbo | apply zcE); rfl; rfl; rfl; rfl; rfl; (unfold fit; omega)) | ((first | apply zbU | apply zbV); rfl; rfl; rfl; rfl; rfl; (unfold fit; omega)) | ((first | apply zbd | apply za3); rfl; rfl; rfl; rfl; rfl; exact zan rfl; exact zao rfl; (first | assumption | exact zqs _ | rfl | exact (Int.toNat_of_nonneg (by omega)).symm); omega) | (apply M_fa; rfl; rfl; rfl; rfl; exact za1 rfl; (first | exact Nat.zero_add _ | exact Nat.add_zero _ | rfl)) | (apply zge; rfl; rfl; rfl; rfl; rfl; omega) | (apply zkE; rfl; rfl; rfl; rfl; rfl; omega) | (apply zh8; rfl; rfl; rfl; rfl; rfl; omega) | (apply M_mul; rfl; rfl; rfl; rfl; rfl; (unfold fit; omega)) | (((apply za8; rfl; rfl; rfl; rfl; exact zax rfl); (focus repeat' first | exact zaa | assumption | apply zab | (apply Ext.get; assumption)); (first | exact zag (by omega) | rfl | assumption)); (first | assumption | exact zaC _ _ | rfl | (focus simp [same, same.all2]; done)); (first | rfl | assumption | exact hwv _ | (simp [within]; omega))) | (apply M_min; rfl; rfl; rfl; rfl; rfl; rfl) | (apply M_max; rfl; rfl; rfl; rfl; rfl; rfl) | ((first | (apply zaf; rfl; rfl; rfl; rfl; rfl; rfl) | (apply zau; rfl; rfl; rfl; rfl; rfl; rfl; rfl)); exact okY (iR hP hKp hT hl16 (by (focus repeat' first | exact Ext.refl _ | assumption | apply Ext.push | (refine Ext.trans ?_ (by assumption))))) hR; (rintro _ _ ⟨rfl, _⟩)) | ((first | (apply zaf; rfl; rfl; rfl; rfl; rfl; rfl) | (apply zau; rfl; rfl; rfl; rfl; rfl; rfl; rfl)); exact to_ok hK (by omega) (by omega) hru; (rintro _ _ ⟨rfl, _⟩)) | fail))
    rename_i h4 x4 h5 x5
    have gf5 := x5.get (x4.get gf)
    have gt5 := x5.get (x4.get (fx.get (x2.get (x1.get (zab hgt)))))
    have hb5 : h5.get? h.n = some (.cells [.slice q s.length kq, .int .i64 r, .int .i64 o] 25 true) := x5.get (x4.get (fx.get (x2.get (x1.get zaa))))
    refine zby (fun a : Nat × Bool => [(20, .int .i64 (a.1 : Nat)), (19, .bool a.2), (13, .bool true), (11, .slice (some ⟨bf, 0, none⟩) L.length fc), (5, .pointer (some ⟨h.n, 0, none⟩)), (2, .slice (some ⟨bt, 0, none⟩) t.length ct)])
      (fun a h' => a.1 ≤ L.length ∧ Ext h5 h' ∧ (a.2 = true ↔ ∀ k, k < a.1 → L.getD k 0 - t.getD k 0 ≤ o ∧ t.getD k 0 - L.getD k 0 ≤ o)) (fun a => L.length - a.1) ?_ (0, true) ?_ ?_
    · rintro ⟨k, f⟩ h' ⟨hk, hx, hf⟩ ih
      dsimp only at hk hf ih ⊢
      have gf' := hx.get gf5
      have gt' := hx.get gt5
      have hb' := hx.get hb5
      by_cases hlt : k < L.length
      · have b1 := gb k (by omega)
        have b2 := tb k (by omega)
        cases f with
        | false =>
          (repeat' (first | apply zak | apply zad | (apply O_at; rfl) | (apply N_at; rfl) | (apply zah; rfl) | apply zai | (apply zaY; rfl) | (apply zaV; rfl) | (apply zaU; exact zar (by decide +kernel)) | apply zas | apply zav | (apply zbp; rfl; exact (.inl (Nat.le_refl 1))) | apply zaH | ((first | apply zae | apply zac | apply zbv | apply zat | apply zaw); rfl; rfl; rfl; rfl) | (apply zaR; rfl; rfl; rfl; rfl; rfl; rfl; exact zan rfl) | ((first | apply zaA | apply zaO); rfl; rfl; rfl; rfl; rfl; rfl) | (apply zba; rfl; rfl; rfl; rfl; rfl; omega) | (apply za9; rfl; rfl; rfl; rfl; rfl; omega) | (apply zbH; rfl; rfl; rfl; rfl; rfl; omega) | ((first | apply zbo | apply zcE); rfl; rfl; rfl; rfl; rfl; (unfold fit; omega)) | ((first | apply zbd | apply za3); rfl; rfl; rfl; rfl; rfl; exact zan rfl; exact zao rfl; (first | assumption | exact zqs _ | rfl | exact (Int.toNat_of_nonneg (by omega)).symm); omega) | (apply zaq; rfl; rfl; rfl; rfl; exact zax rfl; (focus repeat' first | exact zaa | assumption | apply zab | (apply Ext.get; assumption)); (first | exact zag (by omega) | rfl | assumption)) | (apply zct; rfl; rfl; rfl; rfl) | fail))
          refine zaZ (ih (k + 1, false) _ (by dsimp only; omega) ⟨hlt, by (focus repeat' first | exact Ext.refl _ | assumption | apply Ext.push | (refine Ext.trans ?_ (by assumption))), ?_⟩) (by (focus repeat' first | rfl | exact trivial | apply And.intro))
          refine ⟨fun w => Bool.noConfusion w, fun w => ?_⟩
          exact absurd (hf.2 fun j hj => w j (by dsimp only; omega)) (by decide)
        | true =>
          by_cases c1 : L.getD k 0 - t.getD k 0 ≤ o
          · by_cases c2 : t.getD k 0 - L.getD k 0 ≤ o
            · (repeat' (first | apply zak | apply zad | (apply O_at; rfl) | (apply N_at; rfl) | (apply zah; rfl) | apply zai | (apply zaY; rfl) | (apply zaV; rfl) | (apply zaU; exact zar (by decide +kernel)) | apply zas | apply zav | (apply zbp; rfl; exact (.inl (Nat.le_refl 1))) | apply zaH | ((first | apply zae | apply zac | apply zbv | apply zat | apply zaw); rfl; rfl; rfl; rfl) | (apply zaR; rfl; rfl; rfl; rfl; rfl; rfl; exact zan rfl) | ((first | apply zaA | apply zaO); rfl; rfl; rfl; rfl; rfl; rfl) | (apply zba; rfl; rfl; rfl; rfl; rfl; omega) | (apply za9; rfl; rfl; rfl; rfl; rfl; omega) | (apply zbH; rfl; rfl; rfl; rfl; rfl; omega) | ((first | apply zbo | apply zcE); rfl; rfl; rfl; rfl; rfl; (unfold fit; omega)) | ((first | apply zbU | apply zbV); rfl; rfl; rfl; rfl; rfl; (unfold fit; omega)) | ((first | apply zbd | apply za3); rfl; rfl; rfl; rfl; rfl; exact zan rfl; exact zao rfl; (first | assumption | exact zqs _ | rfl | exact (Int.toNat_of_nonneg (by omega)).symm); omega) | (apply zaq; rfl; rfl; rfl; rfl; exact zax rfl; (focus repeat' first | exact zaa | assumption | apply zab | (apply Ext.get; assumption)); (first | exact zag (by omega) | rfl | assumption)) | (apply M_fa; rfl; rfl; rfl; rfl; exact za1 rfl; (first | exact Nat.zero_add _ | exact Nat.add_zero _ | rfl)) | (apply zgf; rfl; rfl; rfl; rfl; rfl; omega) | (((first | (apply zbc; rfl; rfl; rfl; rfl; exact zax rfl; exact za2 (by decide +kernel)) | (apply za8; rfl; rfl; rfl; rfl; exact zax rfl)); (focus repeat' first | exact zaa | assumption | apply zab | (apply Ext.get; assumption)); (first | exact zag (by omega) | rfl | assumption)); (first | assumption | exact zaC _ _ | rfl | (focus simp [same, same.all2]; done)); (first | rfl | assumption | exact hwv _ | (simp [within]; omega))) | fail))
              refine zaZ (ih (k + 1, true) _ (by dsimp only; omega) ⟨hlt, by (focus repeat' first | exact Ext.refl _ | assumption | apply Ext.push | (refine Ext.trans ?_ (by assumption))), ?_⟩) (by (focus repeat' first | rfl | exact trivial | apply And.intro))
              refine ⟨fun _ j hj => ?_, fun _ => rfl⟩
              by_cases hjk : j = k
              · subst hjk; exact ⟨c1, c2⟩
              · exact hf.1 rfl j (by dsimp only at hj; omega)
            · (repeat' (first | apply zak | apply zad | (apply O_at; rfl) | (apply N_at; rfl) | (apply zah; rfl) | apply zai | (apply zaY; rfl) | (apply zaV; rfl) | (apply zaU; exact zar (by decide +kernel)) | apply zas | apply zav | (apply zbp; rfl; exact (.inl (Nat.le_refl 1))) | apply zaH | ((first | apply zae | apply zac | apply zbv | apply zat | apply zaw); rfl; rfl; rfl; rfl) | (apply zaR; rfl; rfl; rfl; rfl; rfl; rfl; exact zan rfl) | ((first | apply zaA | apply zaO); rfl; rfl; rfl; rfl; rfl; rfl) | (apply zba; rfl; rfl; rfl; rfl; rfl; omega) | (apply za9; rfl; rfl; rfl; rfl; rfl; omega) | (apply zbH; rfl; rfl; rfl; rfl; rfl; omega) | ((first | apply zbo | apply zcE); rfl; rfl; rfl; rfl; rfl; (unfold fit; omega)) | ((first | apply zbU | apply zbV); rfl; rfl; rfl; rfl; rfl; (unfold fit; omega)) | ((first | apply zbd | apply za3); rfl; rfl; rfl; rfl; rfl; exact zan rfl; exact zao rfl; (first | assumption | exact zqs _ | rfl | exact (Int.toNat_of_nonneg (by omega)).symm); omega) | (apply zaq; rfl; rfl; rfl; rfl; exact zax rfl; (focus repeat' first | exact zaa | assumption | apply zab | (apply Ext.get; assumption)); (first | exact zag (by omega) | rfl | assumption)) | (apply M_fa; rfl; rfl; rfl; rfl; exact za1 rfl; (first | exact Nat.zero_add _ | exact Nat.add_zero _ | rfl)) | (apply zgg; rfl; rfl; rfl; rfl; rfl; omega) | (apply zgf; rfl; rfl; rfl; rfl; rfl; omega) | (((first | (apply zbc; rfl; rfl; rfl; rfl; exact zax rfl; exact za2 (by decide +kernel)) | (apply za8; rfl; rfl; rfl; rfl; exact zax rfl)); (focus repeat' first | exact zaa | assumption | apply zab | (apply Ext.get; assumption)); (first | exact zag (by omega) | rfl | assumption)); (first | assumption | exact zaC _ _ | rfl | (focus simp [same, same.all2]; done)); (first | rfl | assumption | exact hwv _ | (simp [within]; omega))) | fail))
              refine zaZ (ih (k + 1, false) _ (by dsimp only; omega) ⟨hlt, by (focus repeat' first | exact Ext.refl _ | assumption | apply Ext.push | (refine Ext.trans ?_ (by assumption))), ?_⟩) (by (focus repeat' first | rfl | exact trivial | apply And.intro))
              exact ⟨fun w => Bool.noConfusion w, fun w => absurd (w k (Nat.lt_succ_self k)).2 c2⟩
          · (repeat' (first | apply zak | apply zad | (apply O_at; rfl) | (apply N_at; rfl) | (apply zah; rfl) | apply zai | (apply zaY; rfl) | (apply zaV; rfl) | (apply zaU; exact zar (by decide +kernel)) | apply zas | apply zav | (apply zbp; rfl; exact (.inl (Nat.le_refl 1))) | apply zaH | ((first | apply zae | apply zac | apply zbv | apply zat | apply zaw); rfl; rfl; rfl; rfl) | (apply zaR; rfl; rfl; rfl; rfl; rfl; rfl; exact zan rfl) | ((first | apply zaA | apply zaO); rfl; rfl; rfl; rfl; rfl; rfl) | (apply zba; rfl; rfl; rfl; rfl; rfl; omega) | (apply za9; rfl; rfl; rfl; rfl; rfl; omega) | (apply zbH; rfl; rfl; rfl; rfl; rfl; omega) | ((first | apply zbo | apply zcE); rfl; rfl; rfl; rfl; rfl; (unfold fit; omega)) | ((first | apply zbU | apply zbV); rfl; rfl; rfl; rfl; rfl; (unfold fit; omega)) | ((first | apply zbd | apply za3); rfl; rfl; rfl; rfl; rfl; exact zan rfl; exact zao rfl; (first | assumption | exact zqs _ | rfl | exact (Int.toNat_of_nonneg (by omega)).symm); omega) | (apply zaq; rfl; rfl; rfl; rfl; exact zax rfl; (focus repeat' first | exact zaa | assumption | apply zab | (apply Ext.get; assumption)); (first | exact zag (by omega) | rfl | assumption)) | (apply zct; rfl; rfl; rfl; rfl) | (apply M_fa; rfl; rfl; rfl; rfl; exact za1 rfl; (first | exact Nat.zero_add _ | exact Nat.add_zero _ | rfl)) | (apply zgg; rfl; rfl; rfl; rfl; rfl; omega) | (((first | (apply zbc; rfl; rfl; rfl; rfl; exact zax rfl; exact za2 (by decide +kernel)) | (apply za8; rfl; rfl; rfl; rfl; exact zax rfl)); (focus repeat' first | exact zaa | assumption | apply zab | (apply Ext.get; assumption)); (first | exact zag (by omega) | rfl | assumption)); (first | assumption | exact zaC _ _ | rfl | (focus simp [same, same.all2]; done)); (first | rfl | assumption | exact hwv _ | (simp [within]; omega))) | fail))
            refine zaZ (ih (k + 1, false) _ (by dsimp only; omega) ⟨hlt, by (focus repeat' first | exact Ext.refl _ | assumption | apply Ext.push | (refine Ext.trans ?_ (by assumption))), ?_⟩) (by (focus repeat' first | rfl | exact trivial | apply And.intro))
            exact ⟨fun w => Bool.noConfusion w, fun w => absurd (w k (Nat.lt_succ_self k)).1 c1⟩
      · obtain rfl : k = L.length := by omega
        rw [gl, ← hRL] at hf
        obtain rfl : f = true := hf.2 hR
        (repeat' (first | apply zak | apply zad | (apply O_at; rfl) | (apply zah; rfl) | apply zai | (apply zaV; rfl) | apply zbI | apply zay | apply zbJ | apply zbf | apply zbg | apply zaz | ((first | apply zae | apply zac | apply zbv | apply zat | apply zaw); rfl; rfl; rfl; rfl) | (apply zaR; rfl; rfl; rfl; rfl; rfl; rfl; exact zan rfl) | ((first | apply zaA | apply zaO); rfl; rfl; rfl; rfl; rfl; rfl) | (apply zba; rfl; rfl; rfl; rfl; rfl; omega) | (apply zh7; rfl; rfl; rfl; rfl; rfl; rfl) | ((first | (apply zaf; rfl; rfl; rfl; rfl; rfl; rfl) | (apply zau; rfl; rfl; rfl; rfl; rfl; rfl; rfl)); exact zbu hKn; (rintro _ _ ⟨rfl, _⟩)) | fail))
        exact ⟨.inr rfl, _, rfl, rfl⟩
    · exact ⟨Nat.zero_le _, Ext.refl _, fun _ j hj => absurd hj (Nat.not_lt_zero _), fun _ => rfl⟩
    · (focus repeat' first | rfl | exact trivial | apply And.intro)
  · refine body (N := 244) Tryz.func4 rfl (hK _ _ _ rfl) rfl rfl ?_
    (repeat' (first | apply zak | apply zad | (apply O_at; rfl) | (apply zah; rfl) | apply zai | (apply zaV; rfl) | apply zav | ((first | apply zae | apply zac | apply zbv | apply zat | apply zaw); rfl; rfl; rfl; rfl) | (apply zaR; rfl; rfl; rfl; rfl; rfl; rfl; exact zan rfl) | ((first | apply zaA | apply zaO); rfl; rfl; rfl; rfl; rfl; rfl) | ((first | apply zbF | apply zcV); rfl; rfl; rfl; rfl; rfl) | (apply zba; rfl; rfl; rfl; rfl; rfl; omega) | (apply zbH; rfl; rfl; rfl; rfl; rfl; omega) | (apply zh5; rfl; rfl; rfl; rfl; rfl; omega) | ((first | apply zbo | apply zcE); rfl; rfl; rfl; rfl; rfl; (unfold fit; omega)) | ((first | apply zbU | apply zbV); rfl; rfl; rfl; rfl; rfl; (unfold fit; omega)) | ((first | apply zbd | apply za3); rfl; rfl; rfl; rfl; rfl; exact zan rfl; exact zao rfl; (first | assumption | exact zqs _ | rfl | exact (Int.toNat_of_nonneg (by omega)).symm); omega) | (apply zaq; rfl; rfl; rfl; rfl; exact zax rfl; (focus repeat' first | exact zaa | assumption | apply zab | (apply Ext.get; assumption)); (first | exact zag (by omega) | rfl | assumption)) | (apply zaI; rfl; rfl; rfl; rfl; exact zbe rfl; (focus repeat' first | exact zaa | assumption | apply zab | (apply Ext.get; assumption)); (first | exact Nat.le_of_ble_eq_true rfl | (simp; done) | (simp; omega) | (rw [zap]; omega)); rfl) | (apply zaT; rfl; rfl; rfl; rfl; exact zao rfl; rfl; rfl) | ((first | (apply zaf; rfl; rfl; rfl; rfl; rfl; rfl) | (apply zau; rfl; rfl; rfl; rfl; rfl; rfl; rfl)); exact yes (iL (by (focus repeat' first | exact Ext.refl _ | assumption | apply Ext.push | (refine Ext.trans ?_ (by assumption))))) hRT; (rintro _ _ ⟨rfl, _⟩)) | ((first | (apply zaf; rfl; rfl; rfl; rfl; rfl; rfl) | (apply zau; rfl; rfl; rfl; rfl; rfl; rfl; rfl)); exact yes (iU hs ht16 (by (focus repeat' first | exact Ext.refl _ | assumption | apply Ext.push | (refine Ext.trans ?_ (by assumption))))) hT; (rintro _ _ ⟨rfl, _⟩)) | ((first | (apply zaf; rfl; rfl; rfl; rfl; rfl; rfl) | (apply zau; rfl; rfl; rfl; rfl; rfl; rfl; rfl)); exact iF hP hKp hT hl16 (by (focus repeat' first | exact Ext.refl _ | assumption | apply Ext.push | (refine Ext.trans ?_ (by assumption)))); (rintro _ _ ⟨_, _, rfl, _, _⟩)) | fail))
    rename_i h1 x1 h2 x2 h3 fq fc frd fx
    obtain ⟨bf, ef, ownf, rfl, gf⟩ := frd.at (by rw [zap]; omega)
    (repeat' (first | apply zak | apply zad | (apply O_at; rfl) | (apply N_at; rfl) | (apply zah; rfl) | apply zai | (apply zaV; rfl) | (apply zaU; exact zar (by decide +kernel)) | apply zas | apply zav | (apply zbp; rfl; exact (.inl (Nat.le_refl 1))) | (apply zbp; rfl; refine .inr ?_; (focus repeat' first | exact trivial | exact Keeps.nil _ _ | apply And.intro | rfl | (apply Keeps.cons; iterate 2 (focus repeat' first | exact zaa | assumption | apply zab | (apply Ext.get; assumption))))) | ((first | apply zae | apply zac | apply zbv | apply zat | apply zaw); rfl; rfl; rfl; rfl) | (apply zaR; rfl; rfl; rfl; rfl; rfl; rfl; exact zan rfl) | ((first | apply zaA | apply zaO); rfl; rfl; rfl; rfl; rfl; rfl) | ((first | apply zbF | apply zcV); rfl; rfl; rfl; rfl; rfl) | (apply zh2; rfl; rfl; rfl; rfl; rfl; omega) | ((first | apply zbo | apply zcE); rfl; rfl; rfl; rfl; rfl; (unfold fit; omega)) | ((first | apply zbU | apply zbV); rfl; rfl; rfl; rfl; rfl; (unfold fit; omega)) | ((first | apply zbd | apply za3); rfl; rfl; rfl; rfl; rfl; exact zan rfl; exact zao rfl; (first | assumption | exact zqs _ | rfl | exact (Int.toNat_of_nonneg (by omega)).symm); omega) | (apply M_fa; rfl; rfl; rfl; rfl; exact za1 rfl; (first | exact Nat.zero_add _ | exact Nat.add_zero _ | rfl)) | (apply zge; rfl; rfl; rfl; rfl; rfl; omega) | (apply zkE; rfl; rfl; rfl; rfl; rfl; omega) | (apply zh8; rfl; rfl; rfl; rfl; rfl; omega) | (apply M_mul; rfl; rfl; rfl; rfl; rfl; (unfold fit; omega)) | (((apply za8; rfl; rfl; rfl; rfl; exact zax rfl); (focus repeat' first | exact zaa | assumption | apply zab | (apply Ext.get; assumption)); (first | exact zag (by omega) | rfl | assumption)); (first | assumption | exact zaC _ _ | rfl | (focus simp [same, same.all2]; done)); (first | rfl | assumption | exact hwv _ | (simp [within]; omega))) | (apply M_min; rfl; rfl; rfl; rfl; rfl; rfl) | (apply M_max; rfl; rfl; rfl; rfl; rfl; rfl) | ((first | (apply zaf; rfl; rfl; rfl; rfl; rfl; rfl) | (apply zau; rfl; rfl; rfl; rfl; rfl; rfl; rfl)); exact okN (iR hP hKp hT hl16 (by (focus repeat' first | exact Ext.refl _ | assumption | apply Ext.push | (refine Ext.trans ?_ (by assumption))))) hR; (rintro _ _ ⟨rfl, _⟩)) | ((first | (apply zaf; rfl; rfl; rfl; rfl; rfl; rfl) | (apply zau; rfl; rfl; rfl; rfl; rfl; rfl; rfl)); exact to_ok hK (by omega) (by omega) hru; (rintro _ _ ⟨rfl, _⟩)) | fail))
    rename_i h4 x4 h5 x5
    have gf5 := x5.get (x4.get gf)
    have gt5 := x5.get (x4.get (fx.get (x2.get (x1.get (zab hgt)))))
    have hb5 : h5.get? h.n = some (.cells [.slice q s.length kq, .int .i64 r, .int .i64 o] 25 true) := x5.get (x4.get (fx.get (x2.get (x1.get zaa))))
    refine zby (fun a : Nat × Bool => [(20, .int .i64 (a.1 : Nat)), (19, .bool a.2), (13, .bool false), (11, .slice (some ⟨bf, 0, none⟩) L.length fc), (5, .pointer (some ⟨h.n, 0, none⟩)), (2, .slice (some ⟨bt, 0, none⟩) t.length ct)])
      (fun a h' => a.1 ≤ L.length ∧ Ext h5 h' ∧ (a.2 = true ↔ ∀ k, k < a.1 → L.getD k 0 - t.getD k 0 ≤ o ∧ t.getD k 0 - L.getD k 0 ≤ o)) (fun a => L.length - a.1) ?_ (0, true) ?_ ?_
    · rintro ⟨k, f⟩ h' ⟨hk, hx, hf⟩ ih
      dsimp only at hk hf ih ⊢
      have gf' := hx.get gf5
      have gt' := hx.get gt5
      have hb' := hx.get hb5
      by_cases hlt : k < L.length
      · have b1 := gb k (by omega)
        have b2 := tb k (by omega)
        cases f with
        | false =>
          (repeat' (first | apply zak | apply zad | (apply O_at; rfl) | (apply N_at; rfl) | (apply zah; rfl) | apply zai | (apply zaY; rfl) | (apply zaV; rfl) | (apply zaU; exact zar (by decide +kernel)) | apply zas | apply zav | (apply zbp; rfl; exact (.inl (Nat.le_refl 1))) | apply zaH | ((first | apply zae | apply zac | apply zbv | apply zat | apply zaw); rfl; rfl; rfl; rfl) | (apply zaR; rfl; rfl; rfl; rfl; rfl; rfl; exact zan rfl) | ((first | apply zaA | apply zaO); rfl; rfl; rfl; rfl; rfl; rfl) | (apply zba; rfl; rfl; rfl; rfl; rfl; omega) | (apply za9; rfl; rfl; rfl; rfl; rfl; omega) | (apply zbH; rfl; rfl; rfl; rfl; rfl; omega) | ((first | apply zbo | apply zcE); rfl; rfl; rfl; rfl; rfl; (unfold fit; omega)) | ((first | apply zbd | apply za3); rfl; rfl; rfl; rfl; rfl; exact zan rfl; exact zao rfl; (first | assumption | exact zqs _ | rfl | exact (Int.toNat_of_nonneg (by omega)).symm); omega) | (apply zaq; rfl; rfl; rfl; rfl; exact zax rfl; (focus repeat' first | exact zaa | assumption | apply zab | (apply Ext.get; assumption)); (first | exact zag (by omega) | rfl | assumption)) | (apply zct; rfl; rfl; rfl; rfl) | fail))
          refine zaZ (ih (k + 1, false) _ (by dsimp only; omega) ⟨hlt, by (focus repeat' first | exact Ext.refl _ | assumption | apply Ext.push | (refine Ext.trans ?_ (by assumption))), ?_⟩) (by (focus repeat' first | rfl | exact trivial | apply And.intro))
          refine ⟨fun w => Bool.noConfusion w, fun w => ?_⟩
          exact absurd (hf.2 fun j hj => w j (by dsimp only; omega)) (by decide)
        | true =>
          by_cases c1 : L.getD k 0 - t.getD k 0 ≤ o
          · by_cases c2 : t.getD k 0 - L.getD k 0 ≤ o
            · (repeat' (first | apply zak | apply zad | (apply O_at; rfl) | (apply N_at; rfl) | (apply zah; rfl) | apply zai | (apply zaY; rfl) | (apply zaV; rfl) | (apply zaU; exact zar (by decide +kernel)) | apply zas | apply zav | (apply zbp; rfl; exact (.inl (Nat.le_refl 1))) | apply zaH | ((first | apply zae | apply zac | apply zbv | apply zat | apply zaw); rfl; rfl; rfl; rfl) | (apply zaR; rfl; rfl; rfl; rfl; rfl; rfl; exact zan rfl) | ((first | apply zaA | apply zaO); rfl; rfl; rfl; rfl; rfl; rfl) | (apply zba; rfl; rfl; rfl; rfl; rfl; omega) | (apply za9; rfl; rfl; rfl; rfl; rfl; omega) | (apply zbH; rfl; rfl; rfl; rfl; rfl; omega) | ((first | apply zbo | apply zcE); rfl; rfl; rfl; rfl; rfl; (unfold fit; omega)) | ((first | apply zbU | apply zbV); rfl; rfl; rfl; rfl; rfl; (unfold fit; omega)) | ((first | apply zbd | apply za3); rfl; rfl; rfl; rfl; rfl; exact zan rfl; exact zao rfl; (first | assumption | exact zqs _ | rfl | exact (Int.toNat_of_nonneg (by omega)).symm); omega) | (apply zaq; rfl; rfl; rfl; rfl; exact zax rfl; (focus repeat' first | exact zaa | assumption | apply zab | (apply Ext.get; assumption)); (first | exact zag (by omega) | rfl | assumption)) | (apply M_fa; rfl; rfl; rfl; rfl; exact za1 rfl; (first | exact Nat.zero_add _ | exact Nat.add_zero _ | rfl)) | (apply zgf; rfl; rfl; rfl; rfl; rfl; omega) | (((first | (apply zbc; rfl; rfl; rfl; rfl; exact zax rfl; exact za2 (by decide +kernel)) | (apply za8; rfl; rfl; rfl; rfl; exact zax rfl)); (focus repeat' first | exact zaa | assumption | apply zab | (apply Ext.get; assumption)); (first | exact zag (by omega) | rfl | assumption)); (first | assumption | exact zaC _ _ | rfl | (focus simp [same, same.all2]; done)); (first | rfl | assumption | exact hwv _ | (simp [within]; omega))) | fail))
              refine zaZ (ih (k + 1, true) _ (by dsimp only; omega) ⟨hlt, by (focus repeat' first | exact Ext.refl _ | assumption | apply Ext.push | (refine Ext.trans ?_ (by assumption))), ?_⟩) (by (focus repeat' first | rfl | exact trivial | apply And.intro))
              refine ⟨fun _ j hj => ?_, fun _ => rfl⟩
              by_cases hjk : j = k
              · subst hjk; exact ⟨c1, c2⟩
              · exact hf.1 rfl j (by dsimp only at hj; omega)
            · (repeat' (first | apply zak | apply zad | (apply O_at; rfl) | (apply N_at; rfl) | (apply zah; rfl) | apply zai | (apply zaY; rfl) | (apply zaV; rfl) | (apply zaU; exact zar (by decide +kernel)) | apply zas | apply zav | (apply zbp; rfl; exact (.inl (Nat.le_refl 1))) | apply zaH | ((first | apply zae | apply zac | apply zbv | apply zat | apply zaw); rfl; rfl; rfl; rfl) | (apply zaR; rfl; rfl; rfl; rfl; rfl; rfl; exact zan rfl) | ((first | apply zaA | apply zaO); rfl; rfl; rfl; rfl; rfl; rfl) | (apply zba; rfl; rfl; rfl; rfl; rfl; omega) | (apply za9; rfl; rfl; rfl; rfl; rfl; omega) | (apply zbH; rfl; rfl; rfl; rfl; rfl; omega) | ((first | apply zbo | apply zcE); rfl; rfl; rfl; rfl; rfl; (unfold fit; omega)) | ((first | apply zbU | apply zbV); rfl; rfl; rfl; rfl; rfl; (unfold fit; omega)) | ((first | apply zbd | apply za3); rfl; rfl; rfl; rfl; rfl; exact zan rfl; exact zao rfl; (first | assumption | exact zqs _ | rfl | exact (Int.toNat_of_nonneg (by omega)).symm); omega) | (apply zaq; rfl; rfl; rfl; rfl; exact zax rfl; (focus repeat' first | exact zaa | assumption | apply zab | (apply Ext.get; assumption)); (first | exact zag (by omega) | rfl | assumption)) | (apply M_fa; rfl; rfl; rfl; rfl; exact za1 rfl; (first | exact Nat.zero_add _ | exact Nat.add_zero _ | rfl)) | (apply zgg; rfl; rfl; rfl; rfl; rfl; omega) | (apply zgf; rfl; rfl; rfl; rfl; rfl; omega) | (((first | (apply zbc; rfl; rfl; rfl; rfl; exact zax rfl; exact za2 (by decide +kernel)) | (apply za8; rfl; rfl; rfl; rfl; exact zax rfl)); (focus repeat' first | exact zaa | assumption | apply zab | (apply Ext.get; assumption)); (first | exact zag (by omega) | rfl | assumption)); (first | assumption | exact zaC _ _ | rfl | (focus simp [same, same.all2]; done)); (first | rfl | assumption | exact hwv _ | (simp [within]; omega))) | fail))
              refine zaZ (ih (k + 1, false) _ (by dsimp only; omega) ⟨hlt, by (focus repeat' first | exact Ext.refl _ | assumption | apply Ext.push | (refine Ext.trans ?_ (by assumption))), ?_⟩) (by (focus repeat' first | rfl | exact trivial | apply And.intro))
              exact ⟨fun w => Bool.noConfusion w, fun w => absurd (w k (Nat.lt_succ_self k)).2 c2⟩
          · (repeat' (first | apply zak | apply zad | (apply O_at; rfl) | (apply N_at; rfl) | (apply zah; rfl) | apply zai | (apply zaY; rfl) | (apply zaV; rfl) | (apply zaU; exact zar (by decide +kernel)) | apply zas | apply zav | (apply zbp; rfl; exact (.inl (Nat.le_refl 1))) | apply zaH | ((first | apply zae | apply zac | apply zbv | apply zat | apply zaw); rfl; rfl; rfl; rfl) | (apply zaR; rfl; rfl; rfl; rfl; rfl; rfl; exact zan rfl) | ((first | apply zaA | apply zaO); rfl; rfl; rfl; rfl; rfl; rfl) | (apply zba; rfl; rfl; rfl; rfl; rfl; omega) | (apply za9; rfl; rfl; rfl; rfl; rfl; omega) | (apply zbH; rfl; rfl; rfl; rfl; rfl; omega) | ((first | apply zbo | apply zcE); rfl; rfl; rfl; rfl; rfl; (unfold fit; omega)) | ((first | apply zbU | apply zbV); rfl; rfl; rfl; rfl; rfl; (unfold fit; omega)) | ((first | apply zbd | apply za3); rfl; rfl; rfl; rfl; rfl; exact zan rfl; exact zao rfl; (first | assumption | exact zqs _ | rfl | exact (Int.toNat_of_nonneg (by omega)).symm); omega) | (apply zaq; rfl; rfl; rfl; rfl; exact zax rfl; (focus repeat' first | exact zaa | assumption | apply zab | (apply Ext.get; assumption)); (first | exact zag (by omega) | rfl | assumption)) | (apply zct; rfl; rfl; rfl; rfl) | (apply M_fa; rfl; rfl; rfl; rfl; exact za1 rfl; (first | exact Nat.zero_add _ | exact Nat.add_zero _ | rfl)) | (apply zgg; rfl; rfl; rfl; rfl; rfl; omega) | (((first | (apply zbc; rfl; rfl; rfl; rfl; exact zax rfl; exact za2 (by decide +kernel)) | (apply za8; rfl; rfl; rfl; rfl; exact zax rfl)); (focus repeat' first | exact zaa | assumption | apply zab | (apply Ext.get; assumption)); (first | exact zag (by omega) | rfl | assumption)); (first | assumption | exact zaC _ _ | rfl | (focus simp [same, same.all2]; done)); (first | rfl | assumption | exact hwv _ | (simp [within]; omega))) | fail))
            refine zaZ (ih (k + 1, false) _ (by dsimp only; omega) ⟨hlt, by (focus repeat' first | exact Ext.refl _ | assumption | apply Ext.push | (refine Ext.trans ?_ (by assumption))), ?_⟩) (by (focus repeat' first | rfl | exact trivial | apply And.intro))
            exact ⟨fun w => Bool.noConfusion w, fun w => absurd (w k (Nat.lt_succ_self k)).1 c1⟩
      · obtain rfl : k = L.length := by omega
        rw [gl, ← hRL] at hf
        obtain rfl : f = false := by cases f with | false => rfl | true => exact absurd (hf.1 rfl) hR
        (repeat' (first | apply zak | apply zad | (apply O_at; rfl) | (apply zah; rfl) | apply zai | (apply zaV; rfl) | apply zbI | apply zay | apply zbJ | apply zbf | apply zbg | apply zaz | ((first | apply zae | apply zac | apply zbv | apply zat | apply zaw); rfl; rfl; rfl; rfl) | (apply zaR; rfl; rfl; rfl; rfl; rfl; rfl; exact zan rfl) | ((first | apply zaA | apply zaO); rfl; rfl; rfl; rfl; rfl; rfl) | (apply zba; rfl; rfl; rfl; rfl; rfl; omega) | (apply zh7; rfl; rfl; rfl; rfl; rfl; rfl) | ((first | (apply zaf; rfl; rfl; rfl; rfl; rfl; rfl) | (apply zau; rfl; rfl; rfl; rfl; rfl; rfl; rfl)); exact zbu hKn; (rintro _ _ ⟨rfl, _⟩)) | fail))
        exact ⟨.inr rfl, _, rfl, rfl⟩
    · exact ⟨Nat.zero_le _, Ext.refl _, fun _ j hj => absurd hj (Nat.not_lt_zero _), fun _ => rfl⟩
    · (focus repeat' first | rfl | exact trivial | apply And.intro)
end Go.AX.Sa
