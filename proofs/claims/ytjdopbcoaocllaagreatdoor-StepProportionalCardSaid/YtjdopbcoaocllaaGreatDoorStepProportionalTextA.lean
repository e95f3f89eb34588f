/- The law StepProportional at the reading: what the functions that it calls answer (1). -/
import Derived.Test.YtjdopbcoaocllaaGreatDoorAxY
import Derived.Test.YtjdopbcoaocllaaGreatDoorSwA
namespace Go.AX.Sa
/-! Rounding: numbers. -/
theorem zjO (n u : Int) (hu : 0 < u) : (if n.tmod u < 0 then n.tdiv u - 1 else n.tdiv u) = n / u := by
  have hs : u.sign = 1 := Int.sign_eq_one_of_pos hu
  have h := Int.emod_nonneg n (by omega : u ≠ 0)
  have h2 := Int.emod_lt_of_pos n hu
  by_cases h0 : 0 ≤ n
  · rw [Int.tdiv_eq_ediv_of_nonneg h0, Int.tmod_eq_emod_of_nonneg h0, if_neg (by omega)]
  · by_cases hd : u ∣ n
    · have e1 : n.tmod u = 0 := Int.tmod_eq_zero_of_dvd hd
      have e2 : n.tdiv u = n / u := by rw [Int.tdiv_eq_ediv, if_pos (.inr hd)]; omega
      rw [e1, e2]; simp
    · have e2 : n.tdiv u = n / u + 1 := by rw [Int.tdiv_eq_ediv, if_neg (by simp [hd]; omega), hs]
      have e1 : n.tmod u = n % u - u := by
        have a := Int.tmod_add_mul_tdiv n u
        have b := Int.emod_add_mul_ediv n u
        rw [e2, Int.mul_add] at a
        omega
      rw [e1, if_pos (by omega), e2]; omega
theorem zbF (v u : Int) (hu : 0 < u) : v = u * (v / u) + v % u ∧ 0 ≤ v % u ∧ v % u < u :=
  ⟨(Int.mul_ediv_add_emod v u).symm, Int.emod_nonneg _ (by omega), Int.emod_lt_of_pos _ hu⟩
theorem zh1 {v u n r : Int} (hu : 0 < u) (h : v = u * n + r) (h0 : 0 ≤ r) (h1 : r < u) : v / u = n := by
  rw [h, Int.add_comm, Int.add_mul_ediv_left _ _ (by omega), Int.ediv_eq_zero_of_lt h0 h1, Int.zero_add]
/-- A value rounded to units by a rule: 1 down, 2 up, 3 near, 4 even. -/
def upP (rule v u : Int) : Prop := (rule = 2 ∧ 0 < v % u) ∨ (rule = 3 ∧ u ≤ 2 * (v % u)) ∨ (rule = 4 ∧ (u < 2 * (v % u) ∨ (2 * (v % u) = u ∧ (v / u) % 2 ≠ 0)))
instance (rule v u : Int) : Decidable (upP rule v u) := by unfold upP; infer_instance
def rnd (rule v u : Int) : Int := if upP rule v u then v / u + 1 else v / u
theorem zhE (rule v u : Int) : v / u ≤ rnd rule v u ∧ rnd rule v u ≤ v / u + 1 := by unfold rnd; split <;> omega
theorem zct {rule v u : Int} (h : upP rule v u) : rnd rule v u = v / u + 1 := if_pos h
theorem zce {rule v u : Int} (h : ¬ upP rule v u) : rnd rule v u = v / u := if_neg h
theorem up_is (v u : Int) (hu : 0 < u) : -((-v) / u) = rnd 2 v u := by
  obtain ⟨h, h0, h1⟩ := zbF v u hu
  by_cases hr : 0 < v % u
  · rw [zct (.inl ⟨rfl, hr⟩), zh1 (n := -(v / u) - 1) (r := u - v % u) hu (by rw [Int.mul_sub, Int.mul_neg, Int.mul_one]; omega) (by omega) (by omega)]
    omega
  · rw [zce (by unfold upP; omega), zh1 (n := -(v / u)) (r := 0) hu (by rw [Int.mul_neg]; omega) (Int.le_refl 0) hu]
    omega
theorem near_is (v u : Int) (hu : 0 < u) : (2 * v + u) / (2 * u) = rnd 3 v u := by
  obtain ⟨h, h0, h1⟩ := zbF v u hu
  by_cases hr : u ≤ 2 * (v % u)
  · rw [zct (.inr (.inl ⟨rfl, hr⟩)), zh1 (n := v / u + 1) (r := 2 * (v % u) - u) (by omega) (by rw [Int.mul_add, Int.mul_assoc, Int.mul_one]; omega) (by omega) (by omega)]
  · rw [zce (by unfold upP; omega), zh1 (n := v / u) (r := 2 * (v % u) + u) (by omega) (by rw [Int.mul_assoc]; omega) (by omega) (by omega)]
theorem half_is (v u : Int) (hu : 0 < u) : 2 * v = (2 * rnd 3 v u - 1) * u ↔ 2 * (v % u) = u := by
  obtain ⟨h, h0, h1⟩ := zbF v u hu
  have e1 : ∀ n : Int, (2 * n - 1) * u = 2 * (u * n) - u := fun n => by rw [Int.sub_mul, Int.one_mul, Int.mul_assoc, Int.mul_comm n u]
  rw [e1]
  by_cases hr : u ≤ 2 * (v % u)
  · rw [zct (.inr (.inl ⟨rfl, hr⟩)), Int.mul_add, Int.mul_one]; omega
  · rw [zce (by unfold upP; omega)]; omega
theorem odd_is (n : Int) : n.tmod 2 ≠ 0 ↔ n % 2 ≠ 0 := by
  have := Int.dvd_iff_tmod_eq_zero (a := 2) (b := n)
  have := Int.dvd_iff_emod_eq_zero (a := 2) (b := n)
  omega
theorem even_is (v u : Int) (hu : 0 < u) : (if 2 * (v % u) = u ∧ (rnd 3 v u).tmod 2 ≠ 0 then rnd 3 v u - 1 else rnd 3 v u) = rnd 4 v u := by
  obtain ⟨h, h0, h1⟩ := zbF v u hu
  by_cases hr : u ≤ 2 * (v % u)
  · rw [zct (rule := 3) (.inr (.inl ⟨rfl, hr⟩))]
    by_cases he : 2 * (v % u) = u
    · by_cases hp : (v / u) % 2 = 0
      · rw [if_pos ⟨he, (odd_is _).2 (by omega)⟩, zce (by unfold upP; omega)]; omega
      · rw [if_neg (fun w => (odd_is _).1 w.2 (by omega)), zct (.inr (.inr ⟨rfl, .inr ⟨he, hp⟩⟩))]
    · rw [if_neg (fun w => he w.1), zct (.inr (.inr ⟨rfl, .inl (by omega)⟩))]
  · rw [zce (rule := 3) (by unfold upP; omega), if_neg (fun w => by omega), zce (by unfold upP; omega)]
theorem zdv {rule v v' u : Int} (hu : 0 < u) (h : v ≤ v') : rnd rule v u ≤ rnd rule v' u := by
  obtain ⟨h1, h2, h3⟩ := zbF v u hu
  obtain ⟨k1, k2, k3⟩ := zbF v' u hu
  have hd : v / u ≤ v' / u := Int.ediv_le_ediv hu h
  by_cases he : v / u = v' / u
  · have hr : v % u ≤ v' % u := by rw [he] at h1; omega
    by_cases hup : upP rule v u
    · have : upP rule v' u := by unfold upP at hup ⊢; rw [← he]; omega
      rw [zct hup, zct this, he]; exact Int.le_refl _
    · rw [zce hup]
      have := (zhE rule v' u).1
      omega
  · have a := (zhE rule v u).2
    have b := (zhE rule v' u).1
    omega
theorem zdI {rule n u : Int} (hu : 0 < u) : rnd rule (n * u) u = n := by
  have e1 : n * u / u = n := Int.mul_ediv_cancel _ (by omega)
  have e2 : n * u % u = 0 := Int.mul_emod_left ..
  rw [zce (by unfold upP; omega), e1]
/-- Between two numbers: its figure lies between them. -/
def mix (a b r x y : Int) : Int := x * (b - r) + y * (r - a)
theorem zhI {a b r x y x' y' : Int} (h1 : a ≤ r) (h2 : r ≤ b) (hx : x ≤ x') (hy : y ≤ y') : mix a b r x y ≤ mix a b r x' y' := by
  unfold mix
  exact Int.add_le_add (Int.mul_le_mul_of_nonneg_right hx (by omega)) (Int.mul_le_mul_of_nonneg_right hy (by omega))
theorem mix_same (a b r x : Int) : mix a b r x x = x * (b - a) := by
  unfold mix
  rw [← Int.mul_add]
  congr 1
  omega
theorem zgX {rule a b r x y lo hi : Int} (h1 : a ≤ r) (h2 : r ≤ b) (hab : a < b) (x1 : lo ≤ x) (x2 : x ≤ hi) (y1 : lo ≤ y) (y2 : y ≤ hi) : lo ≤ rnd rule (mix a b r x y) (b - a) ∧ rnd rule (mix a b r x y) (b - a) ≤ hi := by
  have e1 := zdv (rule := rule) (u := b - a) (by omega) (zhI h1 h2 x1 y1)
  have e2 := zdv (rule := rule) (u := b - a) (by omega) (zhI h1 h2 x2 y2)
  rw [mix_same, zdI (by omega)] at e1 e2
  exact ⟨e1, e2⟩
/-! Kept rows. -/
def Grow (kp : List Int) : Prop := ∀ i, i + 1 < kp.length → kp.getD i 0 < kp.getD (i + 1) 0
/-- Between which kept rows a row stands. -/
def At (kp : List Int) (r : Int) (i : Nat) : Prop := i < kp.length ∧ kp.getD i 0 ≤ r ∧ (i + 1 < kp.length → r < kp.getD (i + 1) 0)
end Go.AX.Sa

namespace Go.AX.Sa
open Go.Proofs
set_option maxRecDepth 100000
variable {K : Known}
/-! Rounding: what layer 4 does. -/
theorem zhd {n u : Int} (hu : 1 ≤ u) : (0 ≤ n → 0 ≤ n / u ∧ n / u ≤ n) ∧ (n ≤ 0 → n ≤ n / u ∧ n / u ≤ 0) := by
  refine ⟨fun h => ⟨Int.ediv_nonneg h (by omega), Int.ediv_le_self _ h⟩, fun h => ⟨?_, ?_⟩⟩
  · refine Int.le_ediv_of_mul_le (by omega) ?_
    have := Int.mul_le_mul_of_nonpos_left h hu
    omega
  · have := Int.ediv_le_ediv (c := u) (by omega) h
    simpa using this
theorem zcy (hK : NoK K) {n u : Int} {h : Heap} (hu : 1 ≤ u ∧ u ≤ 4194304) (hn : -4611686018427387904 ≤ n ∧ n ≤ 4611686018427387904) :
    CallW Tryz.prog K 142 #[.int .i64 n, .int .i64 u] h (IsV (.int .i64 (n / u)) h) := by
  have hu0 : 0 < u := by omega
  have hq := zjO n u hu0
  obtain ⟨d1, d2⟩ := zhd (n := n) hu.1
  have hb : -4611686018427387904 ≤ n / u ∧ n / u ≤ 4611686018427387904 := by omega
  refine body (N := 16) Tryz.func142 rfl (hK _ _ _ rfl) rfl rfl ?_
  by_cases hm : n.tmod u < 0
  · rw [if_pos hm] at hq
    (repeat' (first | apply zao | apply zad | (apply O_at; rfl) | (apply zal; rfl) | apply zam | ((first | apply zae | apply zac); rfl; rfl; rfl; rfl) | fail))
    apply P_quo; rfl; rfl; rfl; rfl; rfl; omega
    · unfold fit; omega
    (repeat' (first | apply zao | apply zad | (apply O_at; rfl) | (apply zal; rfl) | apply zam | ((first | apply zae | apply zac); rfl; rfl; rfl; rfl) | fail))
    apply P_rem; rfl; rfl; rfl; rfl; rfl; omega
    (repeat' (first | apply zao | apply zad | (apply O_at; rfl) | (apply zal; rfl) | apply zam | (apply za6; rfl) | apply zat | apply zau | ((first | apply zae | apply zac); rfl; rfl; rfl; rfl) | (apply zbP; rfl; rfl; rfl; rfl; rfl; omega) | (apply zbX; rfl; rfl; rfl; rfl; rfl; (unfold fit; omega)) | fail))
    refine ⟨.inr rfl, _, rfl, ?_, Ext.refl _⟩
    rw [← hq]; rfl
  · rw [if_neg hm] at hq
    (repeat' (first | apply zao | apply zad | (apply O_at; rfl) | (apply zal; rfl) | apply zam | ((first | apply zae | apply zac); rfl; rfl; rfl; rfl) | fail))
    apply P_quo; rfl; rfl; rfl; rfl; rfl; omega
    · unfold fit; omega
    (repeat' (first | apply zao | apply zad | (apply O_at; rfl) | (apply zal; rfl) | apply zam | ((first | apply zae | apply zac); rfl; rfl; rfl; rfl) | fail))
    apply P_rem; rfl; rfl; rfl; rfl; rfl; omega
    (repeat' (first | apply zao | apply zad | (apply O_at; rfl) | (apply zal; rfl) | apply zam | (apply za3; rfl) | apply zay | apply zat | apply zau | ((first | apply zae | apply zac); rfl; rfl; rfl; rfl) | (apply zcn; rfl; rfl; rfl; rfl; rfl; omega) | fail))
    refine ⟨.inr rfl, _, rfl, ?_, Ext.refl _⟩
    rw [← hq]; rfl
def dv (v u : Int) : Value := .agg #[.int .i64 v, .int .i64 u]
theorem down_ok (hK : NoK K) {v u : Int} {h : Heap} (hu : 1 ≤ u ∧ u ≤ 1048576) (hv : -1099511627776 ≤ v ∧ v ≤ 1099511627776) :
    CallW Tryz.prog K 108 #[dv v u] h (IsV (.int .i64 (v / u)) h) := by
  refine body (N := 8) Tryz.func108 rfl (hK _ _ _ rfl) rfl rfl ?_
  (repeat' (first | apply zao | apply zad | (apply O_at; rfl) | (apply zal; rfl) | apply zam | apply zat | apply zau | (apply zac; rfl; rfl; rfl; rfl) | (apply P_fa; rfl; rfl; rfl; rfl; exact zaU rfl; (first | exact Nat.zero_add _ | exact Nat.add_zero _ | rfl)) | (apply zap; rfl; rfl; rfl; rfl; exact zaB rfl; (focus repeat' first | exact zaa | assumption); (first | rfl | assumption)) | (apply za5; rfl; rfl; rfl; rfl; exact zai rfl; rfl; rfl) | (apply zag; rfl; rfl; rfl; rfl; rfl; rfl; exact zcy hK (by omega) (by omega); (rintro _ _ ⟨rfl, _⟩)) | fail))
  exact ⟨.inr rfl, _, rfl, rfl, by (focus repeat' first | exact Ext.refl _ | assumption | apply Ext.push | (refine Ext.trans ?_ (by assumption)))⟩
theorem up_ok (hK : NoK K) {v u : Int} {h : Heap} (hu : 1 ≤ u ∧ u ≤ 1048576) (hv : -1099511627776 ≤ v ∧ v ≤ 1099511627776) :
    CallW Tryz.prog K 109 #[dv v u] h (IsV (.int .i64 (rnd 2 v u)) h) := by
  have he := up_is v u (by omega)
  obtain ⟨d1, d2⟩ := zhd (n := -v) hu.1
  refine body (N := 10) Tryz.func109 rfl (hK _ _ _ rfl) rfl rfl ?_
  (repeat' (first | apply zao | apply zad | (apply O_at; rfl) | (apply zal; rfl) | apply zam | (apply zac; rfl; rfl; rfl; rfl) | (apply P_fa; rfl; rfl; rfl; rfl; exact zaU rfl; (first | exact Nat.zero_add _ | exact Nat.add_zero _ | rfl)) | (apply zfi; rfl; rfl; rfl; rfl; (unfold fit; omega)) | (apply zap; rfl; rfl; rfl; rfl; exact zaB rfl; (focus repeat' first | exact zaa | assumption); (first | rfl | assumption)) | (apply za5; rfl; rfl; rfl; rfl; exact zai rfl; rfl; rfl) | fail))
  rw [Int.zero_sub]
  (repeat' (first | (apply O_at; rfl) | (apply zal; rfl) | apply zam | apply zat | apply zau | (apply zac; rfl; rfl; rfl; rfl) | (apply zfi; rfl; rfl; rfl; rfl; (unfold fit; omega)) | (apply zag; rfl; rfl; rfl; rfl; rfl; rfl; exact zcy hK (by omega) (by omega); (rintro _ _ ⟨rfl, _⟩)) | fail))
  refine ⟨.inr rfl, _, rfl, ?_, by (focus repeat' first | exact Ext.refl _ | assumption | apply Ext.push | (refine Ext.trans ?_ (by assumption)))⟩
  rw [← he, Int.zero_sub]; rfl
theorem ze4 (hK : NoK K) {v u : Int} {h : Heap} (hu : 1 ≤ u ∧ u ≤ 1048576) (hv : -1099511627776 ≤ v ∧ v ≤ 1099511627776) :
    CallW Tryz.prog K 110 #[dv v u] h (IsV (.int .i64 (rnd 3 v u)) h) := by
  have he := near_is v u (by omega)
  refine body (N := 13) Tryz.func110 rfl (hK _ _ _ rfl) rfl rfl ?_
  (repeat' (first | apply zao | apply zad | (apply O_at; rfl) | (apply zal; rfl) | apply zam | apply zat | apply zau | (apply zac; rfl; rfl; rfl; rfl) | (apply P_fa; rfl; rfl; rfl; rfl; exact zaU rfl; (first | exact Nat.zero_add _ | exact Nat.add_zero _ | rfl)) | (apply zbK; rfl; rfl; rfl; rfl; rfl; (unfold fit; omega)) | (apply zgk; rfl; rfl; rfl; rfl; rfl; (unfold fit; omega)) | (apply zap; rfl; rfl; rfl; rfl; exact zaB rfl; (focus repeat' first | exact zaa | assumption); (first | rfl | assumption)) | (apply za5; rfl; rfl; rfl; rfl; exact zai rfl; rfl; rfl) | (apply zag; rfl; rfl; rfl; rfl; rfl; rfl; exact zcy hK (by omega) (by omega); (rintro _ _ ⟨rfl, _⟩)) | fail))
  refine ⟨.inr rfl, _, rfl, ?_, by (focus repeat' first | exact Ext.refl _ | assumption | apply Ext.push | (refine Ext.trans ?_ (by assumption)))⟩
  rw [← he]; rfl
theorem rnd_bd {r v u : Int} (hu : 1 ≤ u) (hv : -1099511627776 ≤ v ∧ v ≤ 1099511627776) : -1099511627777 ≤ rnd r v u ∧ rnd r v u ≤ 1099511627777 := by
  obtain ⟨d1, d2⟩ := zhd (n := v) hu
  have := zhE r v u
  omega
theorem even_ok (hK : NoK K) {v u : Int} {h : Heap} (hu : 1 ≤ u ∧ u ≤ 1048576) (hv : -1099511627776 ≤ v ∧ v ≤ 1099511627776) :
    CallW Tryz.prog K 111 #[dv v u] h (IsV (.int .i64 (rnd 4 v u)) h) := by
  have he := even_is v u (by omega)
  have hh := half_is v u (by omega)
  have hb := rnd_bd (r := 3) hu.1 hv
  have hm : -2000000000000000000 ≤ (2 * rnd 3 v u - 1) * u ∧ (2 * rnd 3 v u - 1) * u ≤ 2000000000000000000 := by
    obtain ⟨s1, s2, s3⟩ := zbF v u (by omega)
    have e1 : (2 * rnd 3 v u - 1) * u = 2 * (u * rnd 3 v u) - u := by rw [Int.sub_mul, Int.one_mul, Int.mul_assoc, Int.mul_comm _ u]
    have e2 : u * rnd 3 v u = u * (v / u) ∨ u * rnd 3 v u = u * (v / u) + u := by
      unfold rnd; split
      · right; rw [Int.mul_add, Int.mul_one]
      · left; rfl
    omega
  generalize hr : rnd 3 v u = r at he hh hb hm
  refine body (N := 26) Tryz.func111 rfl (hK _ _ _ rfl) rfl rfl ?_
  by_cases h1 : 2 * v = (2 * r - 1) * u
  · have h1' := hh.1 h1
    by_cases h2 : r.tmod 2 = 0
    · rw [if_neg (fun w => w.2 h2)] at he
      (repeat' (first | apply zao | apply zad | (apply O_at; rfl) | (apply zal; rfl) | apply zam | ((first | apply zae | apply zac); rfl; rfl; rfl; rfl) | (apply P_fa; rfl; rfl; rfl; rfl; exact zaU rfl; (first | exact Nat.zero_add _ | exact Nat.add_zero _ | rfl)) | (apply zic; rfl; rfl; rfl; rfl; rfl; omega) | (apply zbX; rfl; rfl; rfl; rfl; rfl; (unfold fit; omega)) | (apply zgk; rfl; rfl; rfl; rfl; rfl; (unfold fit; omega)) | (apply zap; rfl; rfl; rfl; rfl; exact zaB rfl; (focus repeat' first | exact zaa | assumption | (apply Ext.get; assumption)); (first | rfl | assumption)) | (apply zby; rfl; rfl; rfl; rfl; exact zbg rfl; (focus repeat' first | exact zaa | assumption | (apply Ext.get; assumption)); (first | exact Nat.le_of_ble_eq_true rfl | (simp; done) | (simp; omega)); rfl) | (apply za5; rfl; rfl; rfl; rfl; exact zai rfl; rfl; rfl) | (apply zag; rfl; rfl; rfl; rfl; rfl; rfl; exact hr ▸ ze4 hK hu hv; (rintro _ _ ⟨rfl, _⟩)) | fail))
      apply P_rem; rfl; rfl; rfl; rfl; rfl; omega
      (repeat' (first | apply zao | apply zad | (apply O_at; rfl) | (apply zal; rfl) | apply zam | (apply za3; rfl) | apply zay | apply zat | apply zau | ((first | apply zae | apply zac); rfl; rfl; rfl; rfl) | (apply zaG; rfl; rfl; rfl; rfl; rfl; rfl) | (apply zkN; rfl; rfl; rfl; rfl; rfl; omega) | fail))
      · exact ⟨.inr rfl, _, rfl, (by rw [← he]; rfl), by (focus repeat' first | exact Ext.refl _ | assumption | apply Ext.push | (refine Ext.trans ?_ (by assumption)))⟩
    · rw [if_pos ⟨h1', h2⟩] at he
      (repeat' (first | apply zao | apply zad | (apply O_at; rfl) | (apply zal; rfl) | apply zam | ((first | apply zae | apply zac); rfl; rfl; rfl; rfl) | (apply P_fa; rfl; rfl; rfl; rfl; exact zaU rfl; (first | exact Nat.zero_add _ | exact Nat.add_zero _ | rfl)) | (apply zic; rfl; rfl; rfl; rfl; rfl; omega) | (apply zbX; rfl; rfl; rfl; rfl; rfl; (unfold fit; omega)) | (apply zgk; rfl; rfl; rfl; rfl; rfl; (unfold fit; omega)) | (apply zap; rfl; rfl; rfl; rfl; exact zaB rfl; (focus repeat' first | exact zaa | assumption | (apply Ext.get; assumption)); (first | rfl | assumption)) | (apply zby; rfl; rfl; rfl; rfl; exact zbg rfl; (focus repeat' first | exact zaa | assumption | (apply Ext.get; assumption)); (first | exact Nat.le_of_ble_eq_true rfl | (simp; done) | (simp; omega)); rfl) | (apply za5; rfl; rfl; rfl; rfl; exact zai rfl; rfl; rfl) | (apply zag; rfl; rfl; rfl; rfl; rfl; rfl; exact hr ▸ ze4 hK hu hv; (rintro _ _ ⟨rfl, _⟩)) | fail))
      apply P_rem; rfl; rfl; rfl; rfl; rfl; omega
      (repeat' (first | apply zao | apply zad | (apply O_at; rfl) | (apply zal; rfl) | apply zam | (apply za6; rfl) | apply zat | apply zaR | apply zau | ((first | apply zae | apply zac); rfl; rfl; rfl; rfl) | (apply zaG; rfl; rfl; rfl; rfl; rfl; rfl) | (apply P_neqT; rfl; rfl; rfl; rfl; rfl; omega) | (apply zbX; rfl; rfl; rfl; rfl; rfl; (unfold fit; omega)) | fail))
      · exact ⟨.inr rfl, _, rfl, (by rw [← he]; rfl), by (focus repeat' first | exact Ext.refl _ | assumption | apply Ext.push | (refine Ext.trans ?_ (by assumption)))⟩
  · have h1' : ¬ 2 * (v % u) = u := fun w => h1 (hh.2 w)
    rw [if_neg (fun w => h1' w.1)] at he
    (repeat' (first | apply zao | apply zad | (apply O_at; rfl) | (apply zal; rfl) | apply zam | (apply za3; rfl) | apply zay | apply zat | apply zau | (apply zbv; rfl; rfl; rfl) | ((first | apply zae | apply zac); rfl; rfl; rfl; rfl) | (apply P_fa; rfl; rfl; rfl; rfl; exact zaU rfl; (first | exact Nat.zero_add _ | exact Nat.add_zero _ | rfl)) | (apply zaG; rfl; rfl; rfl; rfl; rfl; rfl) | (apply zkO; rfl; rfl; rfl; rfl; rfl; omega) | (apply zbX; rfl; rfl; rfl; rfl; rfl; (unfold fit; omega)) | (apply zgk; rfl; rfl; rfl; rfl; rfl; (unfold fit; omega)) | (apply zap; rfl; rfl; rfl; rfl; exact zaB rfl; (focus repeat' first | exact zaa | assumption | (apply Ext.get; assumption)); (first | rfl | assumption)) | (apply zby; rfl; rfl; rfl; rfl; exact zbg rfl; (focus repeat' first | exact zaa | assumption | (apply Ext.get; assumption)); (first | exact Nat.le_of_ble_eq_true rfl | (simp; done) | (simp; omega)); rfl) | (apply za5; rfl; rfl; rfl; rfl; exact zai rfl; rfl; rfl) | (apply zag; rfl; rfl; rfl; rfl; rfl; rfl; exact hr ▸ ze4 hK hu hv; (rintro _ _ ⟨rfl, _⟩)) | fail))
    · exact ⟨.inr rfl, _, rfl, (by rw [← he]; rfl), by (focus repeat' first | exact Ext.refl _ | assumption | apply Ext.push | (refine Ext.trans ?_ (by assumption)))⟩
def fourV (w : Value) : Array Value := #[.func (.func 108) #[w] #[], .func (.func 109) #[w] #[], .func (.func 110) #[w] #[], .func (.func 111) #[w] #[]]
theorem fill_fn (w : Value) : fillB Tryz.prog 129 [(0, .func (.func 108) #[w] #[]), (1, .func (.func 109) #[w] #[]), (2, .func (.func 110) #[w] #[]), (3, .func (.func 111) #[w] #[])] = some (.agg (fourV w)) := by kernel_rfl
section
variable {x : Ctx} {N : Nat} {E : Env} {h : Heap} {ops : Array Oper} {F : Ex → Env → Heap → Prop} {i : Nat}
variable {d : Nat} {ty : TypeId} {pos : String} {af : Array Edge} {g : Option (Nat × Bool)} {ps : Array (Nat × Operand)}
theorem zc9 {w : Value} (hN : Nat.blt d N = true) (hg : gval ops E g = some true) (hk : opsOK Tryz.prog ⟨some d, .build 129 ps, ty, pos, af, g⟩ = true)
    (hps : E.parts ps.toList = some [(0, .func (.func 108) #[w] #[]), (1, .func (.func 109) #[w] #[]), (2, .func (.func 110) #[w] #[]), (3, .func (.func 111) #[w] #[])]) (k : R1 Tryz.prog K x N ops F (i + 1) ((d, .agg (fourV w)) :: E) h) : R2 Tryz.prog K x N ops F i ⟨some d, .build 129 ps, ty, pos, af, g⟩ E h := zeg hN hg hk hps (fill_fn w) k
end
theorem rnd_one {v u : Int} : v / u = rnd 1 v u := by rw [zce]; unfold upP; omega
theorem by_ok (hK : NoK K) {v u r : Int} {h : Heap} (hu : 1 ≤ u ∧ u ≤ 1048576) (hv : -1099511627776 ≤ v ∧ v ≤ 1099511627776) (hr : 1 ≤ r ∧ r ≤ 4) :
    CallW Tryz.prog K 71 #[dv v u, .int .i64 r] h (IsV (.int .i64 (rnd r v u)) h) := by
  refine body (N := 20) Tryz.func71 rfl (hK _ _ _ rfl) rfl rfl ?_
  rcases (show r = 1 ∨ r = 2 ∨ r = 3 ∨ r = 4 by omega) with rfl | rfl | rfl | rfl
  all_goals (repeat' (first | apply zao | apply zad | (apply O_at; rfl) | (apply zal; rfl) | apply zam | apply zat | apply zau | ((first | apply zae | apply zac); rfl; rfl; rfl; rfl) | (apply zbX; rfl; rfl; rfl; rfl; rfl; (unfold fit; omega)) | (apply zap; rfl; rfl; rfl; rfl; exact zaB rfl; (focus repeat' first | exact zaa | assumption); (first | rfl | assumption)) | (apply zby; rfl; rfl; rfl; rfl; exact zbg rfl; (focus repeat' first | exact zaa | assumption); (first | exact Nat.le_of_ble_eq_true rfl | (simp; done) | (simp; omega)); rfl) | (apply zbf; rfl; rfl; rfl; rfl; exact zai rfl; rfl; rfl; rfl) | (apply zc9; rfl; rfl; rfl; rfl) | (apply za5; rfl; rfl; rfl; rfl; exact zai rfl; rfl; rfl) | (apply zfl; rfl; rfl; rfl; rfl; exact zai rfl; rfl; rfl) | (apply P_bound; rfl; rfl; rfl; rfl; rfl) | (apply zgm; rfl; rfl; rfl; rfl; rfl; exact zkJ rfl; exact zai rfl; (first | assumption | exact zq0 | exact zq1 | exact zq2 | exact zq3 | rfl | exact (Int.toNat_of_nonneg (by omega)).symm); omega) | (apply zag; rfl; rfl; rfl; rfl; rfl; rfl; exact down_ok hK hu hv; (rintro _ _ ⟨rfl, _⟩)) | (apply zag; rfl; rfl; rfl; rfl; rfl; rfl; exact up_ok hK hu hv; (rintro _ _ ⟨rfl, _⟩)) | (apply zag; rfl; rfl; rfl; rfl; rfl; rfl; exact ze4 hK hu hv; (rintro _ _ ⟨rfl, _⟩)) | (apply zag; rfl; rfl; rfl; rfl; rfl; rfl; exact even_ok hK hu hv; (rintro _ _ ⟨rfl, _⟩)) | fail))
  · exact ⟨.inr rfl, _, rfl, (by rw [← rnd_one]; rfl), by (focus repeat' first | exact Ext.refl _ | assumption | apply Ext.push | (refine Ext.trans ?_ (by assumption)))⟩
  all_goals exact ⟨.inr rfl, _, rfl, rfl, by (focus repeat' first | exact Ext.refl _ | assumption | apply Ext.push | (refine Ext.trans ?_ (by assumption)))⟩
end Go.AX.Sa

namespace Go.AX.Sa
open Go.Proofs
set_option maxRecDepth 100000
variable {K : Known}
/-! Rounding as it is asked for, and the specification's. -/
theorem zbh (hK : NoK K) {n a b : Int} {h : Heap} : CallW Tryz.prog K 66 #[.int .i64 n, .int .i64 a, .int .i64 b] h (IfB (a ≤ n ∧ n ≤ b) h) := by
  refine body (N := 15) Tryz.func66 rfl (hK _ _ _ rfl) rfl rfl ?_
  (repeat' (first | (apply zao) | (apply zad) | (apply O_at; rfl) | (apply zal; rfl) | (apply zam) | (apply zay) | (apply zat) | (apply zaR) | (apply zau) | (apply zbv; rfl; rfl; rfl) | (apply zae; rfl; rfl; rfl; rfl) | (apply zac; rfl; rfl; rfl; rfl) | (apply zaG; rfl; rfl; rfl; rfl; rfl; rfl) | (apply zjb; rfl; rfl; rfl; rfl; rfl; all_goals intro _) | fail))
  all_goals (refine ⟨.inr rfl, _, rfl, ?_⟩; first | (refine .inl ⟨rfl, by omega, ?_⟩; (focus repeat' first | exact Ext.refl _ | assumption | apply Ext.push | (refine Ext.trans ?_ (by assumption)) | (refine Ext.set ?_ (Nat.le_succ _) (zab zaa) _) | (refine Ext.ofBut ?_ (by assumption) (by first | exact Nat.le_refl _ | omega))); done) | (refine .inr ⟨rfl, by omega, ?_⟩; (focus repeat' first | exact Ext.refl _ | assumption | apply Ext.push | (refine Ext.trans ?_ (by assumption)) | (refine Ext.set ?_ (Nat.le_succ _) (zab zaa) _) | (refine Ext.ofBut ?_ (by assumption) (by first | exact Nat.le_refl _ | omega))); done))
theorem zb1 (hK : NoK K) {n a b : Int} {h : Heap} : CallW Tryz.prog K 68 #[.int .i64 n, .int .i64 a, .int .i64 b] h (IfB (a ≤ n ∧ n ≤ b) h) := by
  refine body (N := 15) Tryz.func68 rfl (hK _ _ _ rfl) rfl rfl ?_
  (repeat' (first | (apply zao) | (apply zad) | (apply O_at; rfl) | (apply zal; rfl) | (apply zam) | (apply zay) | (apply zat) | (apply zaR) | (apply zau) | (apply zbv; rfl; rfl; rfl) | (apply zae; rfl; rfl; rfl; rfl) | (apply zac; rfl; rfl; rfl; rfl) | (apply zaG; rfl; rfl; rfl; rfl; rfl; rfl) | (apply zjb; rfl; rfl; rfl; rfl; rfl; all_goals intro _) | (apply P_geq; rfl; rfl; rfl; rfl; rfl; all_goals intro _) | fail))
  all_goals (refine ⟨.inr rfl, _, rfl, ?_⟩; first | (refine .inl ⟨rfl, by omega, ?_⟩; (focus repeat' first | exact Ext.refl _ | assumption | apply Ext.push | (refine Ext.trans ?_ (by assumption)) | (refine Ext.set ?_ (Nat.le_succ _) (zab zaa) _) | (refine Ext.ofBut ?_ (by assumption) (by first | exact Nat.le_refl _ | omega))); done) | (refine .inr ⟨rfl, by omega, ?_⟩; (focus repeat' first | exact Ext.refl _ | assumption | apply Ext.push | (refine Ext.trans ?_ (by assumption)) | (refine Ext.set ?_ (Nat.le_succ _) (zab zaa) _) | (refine Ext.ofBut ?_ (by assumption) (by first | exact Nat.le_refl _ | omega))); done))
def RuleP (r : Int) : Prop := 1 ≤ r ∧ r ≤ 4
instance (r : Int) : Decidable (RuleP r) := by unfold RuleP; infer_instance
theorem zeC (hK : NoK K) {r : Int} {h : Heap} : CallW Tryz.prog K 70 #[.int .i64 r] h (IfB (RuleP r) h) := by
  refine body (N := 9) Tryz.func70 rfl (hK _ _ _ rfl) rfl rfl ?_
  (repeat' (first | (apply zao) | (apply zad) | (apply O_at; rfl) | (apply zal; rfl) | (apply zam) | (apply zay) | (apply zat) | (apply zaR) | (apply zau) | (apply zbv; rfl; rfl; rfl) | (apply zae; rfl; rfl; rfl; rfl) | (apply zac; rfl; rfl; rfl; rfl) | (apply zaG; rfl; rfl; rfl; rfl; rfl; rfl) | (apply zjb; rfl; rfl; rfl; rfl; rfl; all_goals intro _) | fail))
  all_goals (refine ⟨.inr rfl, _, rfl, ?_⟩; first | (refine .inl ⟨rfl, by unfold RuleP at *; omega, ?_⟩; (focus repeat' first | exact Ext.refl _ | assumption | apply Ext.push | (refine Ext.trans ?_ (by assumption)) | (refine Ext.set ?_ (Nat.le_succ _) (zab zaa) _) | (refine Ext.ofBut ?_ (by assumption) (by first | exact Nat.le_refl _ | omega))); done) | (refine .inr ⟨rfl, by unfold RuleP at *; omega, ?_⟩; (focus repeat' first | exact Ext.refl _ | assumption | apply Ext.push | (refine Ext.trans ?_ (by assumption)) | (refine Ext.set ?_ (Nat.le_succ _) (zab zaa) _) | (refine Ext.ofBut ?_ (by assumption) (by first | exact Nat.le_refl _ | omega))); done))
theorem ziI (hK : NoK K) {r : Int} {h : Heap} : CallW Tryz.prog K 30 #[.int .i64 r] h (IfB (RuleP r) h) := by
  refine body (N := 9) Tryz.func30 rfl (hK _ _ _ rfl) rfl rfl ?_
  (repeat' (first | (apply zao) | (apply zad) | (apply O_at; rfl) | (apply zal; rfl) | (apply zam) | (apply zay) | (apply zat) | (apply zaR) | (apply zau) | (apply zbv; rfl; rfl; rfl) | (apply zae; rfl; rfl; rfl; rfl) | (apply zac; rfl; rfl; rfl; rfl) | (apply zaG; rfl; rfl; rfl; rfl; rfl; rfl) | (apply zjb; rfl; rfl; rfl; rfl; rfl; all_goals intro _) | (apply P_geq; rfl; rfl; rfl; rfl; rfl; all_goals intro _) | fail))
  all_goals (refine ⟨.inr rfl, _, rfl, ?_⟩; first | (refine .inl ⟨rfl, by unfold RuleP at *; omega, ?_⟩; (focus repeat' first | exact Ext.refl _ | assumption | apply Ext.push | (refine Ext.trans ?_ (by assumption)) | (refine Ext.set ?_ (Nat.le_succ _) (zab zaa) _) | (refine Ext.ofBut ?_ (by assumption) (by first | exact Nat.le_refl _ | omega))); done) | (refine .inr ⟨rfl, by unfold RuleP at *; omega, ?_⟩; (focus repeat' first | exact Ext.refl _ | assumption | apply Ext.push | (refine Ext.trans ?_ (by assumption)) | (refine Ext.set ?_ (Nat.le_succ _) (zab zaa) _) | (refine Ext.ofBut ?_ (by assumption) (by first | exact Nat.le_refl _ | omega))); done))
theorem to_ok (hK : NoK K) {v u r : Int} {h : Heap} (hu : 1 ≤ u ∧ u ≤ 1048576) (hv : -1099511627776 ≤ v ∧ v ≤ 1099511627776) (hr : RuleP r) :
    CallW Tryz.prog K 27 #[.int .i64 v, .int .i64 u, .int .i64 r] h (IsV (.tuple #[.int .i64 (rnd r v u), .int .i64 0]) h) := by
  refine body (N := 26) Tryz.func27 rfl (hK _ _ _ rfl) rfl rfl ?_
  (repeat' (first | (apply zao) | (apply zad) | (apply O_at; rfl) | (apply zal; rfl) | (apply zam) | (apply za6; rfl) | (apply za3; rfl) | (apply zay) | (apply zat) | (apply zaR) | (apply zau) | (apply zbv; rfl; rfl; rfl) | (apply zae; rfl; rfl; rfl; rfl) | (apply zac; rfl; rfl; rfl; rfl) | (apply zaG; rfl; rfl; rfl; rfl; rfl; rfl) | (apply zdn; rfl; rfl; rfl; rfl) | (apply zfi; rfl; rfl; rfl; rfl; (unfold fit; omega)) | (apply zeH; rfl; rfl; rfl; rfl) | (apply zc8; rfl; rfl; rfl; rfl) | (apply P_build_en; rfl; rfl; rfl; rfl) | (apply zeI; rfl; rfl; rfl; rfl) | (apply P_build_pr; rfl; rfl; rfl; rfl) | (apply P_build_mg; rfl; rfl; rfl; rfl) | (apply zc7; rfl; rfl; rfl; rfl) | (apply zc9; rfl; rfl; rfl; rfl) | (apply zag; rfl; rfl; rfl; rfl; rfl; rfl; exact yes (zbh hK) hv; (rintro _ _ ⟨rfl, _⟩)) | (apply zag; rfl; rfl; rfl; rfl; rfl; rfl; exact yes (zbh hK) hu; (rintro _ _ ⟨rfl, _⟩)) | (apply zag; rfl; rfl; rfl; rfl; rfl; rfl; exact yes (zeC hK) hr; (rintro _ _ ⟨rfl, _⟩)) | (apply zag; rfl; rfl; rfl; rfl; rfl; rfl; exact by_ok hK hu hv hr; (rintro _ _ ⟨rfl, _⟩)) | fail))
  exact ⟨.inr rfl, _, rfl, rfl, by (focus repeat' first | exact Ext.refl _ | assumption | apply Ext.push | (refine Ext.trans ?_ (by assumption)) | (refine Ext.set ?_ (Nat.le_succ _) (zab zaa) _) | (refine Ext.ofBut ?_ (by assumption) (by first | exact Nat.le_refl _ | omega)))⟩
theorem to_bad (hK : NoK K) {v u r : Int} {h : Heap} (hu : 1 ≤ u ∧ u ≤ 1048576) (hv : -1099511627776 ≤ v ∧ v ≤ 1099511627776) (hr : ¬ RuleP r) :
    CallW Tryz.prog K 27 #[.int .i64 v, .int .i64 u, .int .i64 r] h (IsV (.tuple #[.int .i64 0, .int .i64 2]) h) := by
  refine body (N := 26) Tryz.func27 rfl (hK _ _ _ rfl) rfl rfl ?_
  (repeat' (first | (apply zao) | (apply zad) | (apply O_at; rfl) | (apply zal; rfl) | (apply zam) | (apply za6; rfl) | (apply za3; rfl) | (apply zay) | (apply zat) | (apply zaR) | (apply zau) | (apply zbv; rfl; rfl; rfl) | (apply zae; rfl; rfl; rfl; rfl) | (apply zac; rfl; rfl; rfl; rfl) | (apply zaG; rfl; rfl; rfl; rfl; rfl; rfl) | (apply zdn; rfl; rfl; rfl; rfl) | (apply zfi; rfl; rfl; rfl; rfl; (unfold fit; omega)) | (apply zeH; rfl; rfl; rfl; rfl) | (apply zc8; rfl; rfl; rfl; rfl) | (apply P_build_en; rfl; rfl; rfl; rfl) | (apply zeI; rfl; rfl; rfl; rfl) | (apply P_build_pr; rfl; rfl; rfl; rfl) | (apply P_build_mg; rfl; rfl; rfl; rfl) | (apply zc7; rfl; rfl; rfl; rfl) | (apply zc9; rfl; rfl; rfl; rfl) | (apply zag; rfl; rfl; rfl; rfl; rfl; rfl; exact yes (zbh hK) hv; (rintro _ _ ⟨rfl, _⟩)) | (apply zag; rfl; rfl; rfl; rfl; rfl; rfl; exact yes (zbh hK) hu; (rintro _ _ ⟨rfl, _⟩)) | (apply zag; rfl; rfl; rfl; rfl; rfl; rfl; exact no (zeC hK) hr; (rintro _ _ ⟨rfl, _⟩)) | fail))
  exact ⟨.inr rfl, _, rfl, rfl, by (focus repeat' first | exact Ext.refl _ | assumption | apply Ext.push | (refine Ext.trans ?_ (by assumption)) | (refine Ext.set ?_ (Nat.le_succ _) (zab zaa) _) | (refine Ext.ofBut ?_ (by assumption) (by first | exact Nat.le_refl _ | omega)))⟩
theorem zfZ (hK : NoK K) {r : Int} {h : Heap} : CallW Tryz.prog K 72 #[.int .i64 r] h (IfB (RuleP r) h) := by
  refine body (N := 12) Tryz.func72 rfl (hK _ _ _ rfl) rfl rfl ?_
  by_cases hr : RuleP r
  · (repeat' (first | (apply zao) | (apply zad) | (apply O_at; rfl) | (apply zal; rfl) | (apply zam) | (apply zay) | (apply zat) | (apply zaR) | (apply zau) | (apply zae; rfl; rfl; rfl; rfl) | (apply zac; rfl; rfl; rfl; rfl) | (apply zcU; rfl; rfl; rfl; rfl; rfl) | (apply zkO; rfl; rfl; rfl; rfl; rfl; omega) | (apply zic; rfl; rfl; rfl; rfl; rfl; omega) | (apply P_eql; rfl; rfl; rfl; rfl; rfl; all_goals intro _) | (apply zkM; rfl; rfl; rfl; rfl; rfl; exact zar rfl) | (apply P_eqlB; rfl; rfl; rfl; rfl; rfl; rfl) | (apply zag; rfl; rfl; rfl; rfl; rfl; rfl; exact to_ok hK (by decide) (by decide) hr; (rintro _ _ ⟨rfl, _⟩)) | fail))
    exact ⟨.inr rfl, _, rfl, .inl ⟨rfl, hr, by (focus repeat' first | exact Ext.refl _ | assumption | apply Ext.push | (refine Ext.trans ?_ (by assumption)) | (refine Ext.set ?_ (Nat.le_succ _) (zab zaa) _) | (refine Ext.ofBut ?_ (by assumption) (by first | exact Nat.le_refl _ | omega)))⟩⟩
  · (repeat' (first | (apply zao) | (apply zad) | (apply O_at; rfl) | (apply zal; rfl) | (apply zam) | (apply zay) | (apply zat) | (apply zaR) | (apply zau) | (apply zae; rfl; rfl; rfl; rfl) | (apply zac; rfl; rfl; rfl; rfl) | (apply zcU; rfl; rfl; rfl; rfl; rfl) | (apply zkO; rfl; rfl; rfl; rfl; rfl; omega) | (apply zic; rfl; rfl; rfl; rfl; rfl; omega) | (apply P_eql; rfl; rfl; rfl; rfl; rfl; all_goals intro _) | (apply zkM; rfl; rfl; rfl; rfl; rfl; exact zar rfl) | (apply P_eqlB; rfl; rfl; rfl; rfl; rfl; rfl) | (apply zag; rfl; rfl; rfl; rfl; rfl; rfl; exact to_bad hK (by decide) (by decide) hr; (rintro _ _ ⟨rfl, _⟩)) | fail))
    exact ⟨.inr rfl, _, rfl, .inr ⟨rfl, hr, by (focus repeat' first | exact Ext.refl _ | assumption | apply Ext.push | (refine Ext.trans ?_ (by assumption)) | (refine Ext.set ?_ (Nat.le_succ _) (zab zaa) _) | (refine Ext.ofBut ?_ (by assumption) (by first | exact Nat.le_refl _ | omega)))⟩⟩
theorem zex (hK : NoK K) {v u r : Int} {h : Heap} (hu : 1 ≤ u ∧ u ≤ 1048576) (hv : -1099511627776 ≤ v ∧ v ≤ 1099511627776) (hr : RuleP r) :
    CallW Tryz.prog K 73 #[.int .i64 v, .int .i64 u, .int .i64 r] h (IsV (.int .i64 (rnd r v u)) h) := by
  refine body (N := 17) Tryz.func73 rfl (hK _ _ _ rfl) rfl rfl ?_
  (repeat' (first | (apply zao) | (apply zad) | (apply O_at; rfl) | (apply zal; rfl) | (apply zam) | (apply zay) | (apply zat) | (apply zaR) | (apply zau) | (apply zae; rfl; rfl; rfl; rfl) | (apply zac; rfl; rfl; rfl; rfl) | (apply zcU; rfl; rfl; rfl; rfl; rfl) | (apply zag; rfl; rfl; rfl; rfl; rfl; rfl; exact to_ok hK hu hv hr; (rintro _ _ ⟨rfl, _⟩)) | fail))
  exact ⟨.inr rfl, _, rfl, rfl, by (focus repeat' first | exact Ext.refl _ | assumption | apply Ext.push | (refine Ext.trans ?_ (by assumption)) | (refine Ext.set ?_ (Nat.le_succ _) (zab zaa) _) | (refine Ext.ofBut ?_ (by assumption) (by first | exact Nat.le_refl _ | omega)))⟩

end Go.AX.Sa

namespace Go.AX.Sa
open Go.Proofs
set_option maxRecDepth 100000
variable {K : Known}
/-! Tables of proportional parts. -/
def prt (r d p : Int) (k : Nat) : Int := rnd r (d * (k : Nat)) p
def prts (r d p : Int) (k : Nat) : List Int := (List.range k).map (prt r d p)
theorem zeZ (r d p : Int) (k : Nat) : (prts r d p k).length = k := by simp [prts]
theorem zjQ (r d p : Int) (k : Nat) : prts r d p (k + 1) = prts r d p k ++ [prt r d p k] := by simp [prts, List.range_succ]
theorem row_set {l : List Int} {n : Nat} {x : Int} (h : l.length < n) : (l ++ List.replicate (n - l.length) 0).set l.length x = (l ++ [x]) ++ List.replicate (n - (l.length + 1)) 0 := by
  rw [List.set_append_right _ _ (Nat.le_refl _), Nat.sub_self, show n - l.length = (n - (l.length + 1)) + 1 by omega, List.replicate_succ, List.set_cons_zero, List.append_assoc]
  rfl
theorem dk_bd {d : Int} {k : Nat} (hd : -19998 ≤ d ∧ d ≤ 19998) (hk : k ≤ 1000) : -19998000 ≤ d * (k : Nat) ∧ d * (k : Nat) ≤ 19998000 := by
  have h1 : d * (k : Int) ≤ 19998 * k := Int.mul_le_mul_of_nonneg_right (by omega) (by omega)
  have h2 : -19998 * (k : Int) ≤ d * k := Int.mul_le_mul_of_nonneg_right (by omega) (by omega)
  omega
def OkL (l : List Int) (h : Heap) (v : Value) (h1 : Heap) : Prop := ∃ q cap, v = .tuple #[.slice q l.length cap, .int .i64 0] ∧ Rd h1 q (ints l) ∧ Ext h h1
theorem parts_ok (hK : NoK K) {d r : Int} {p : Nat} {h : Heap} (hd : -19998 ≤ d ∧ d ≤ 19998) (hp : 1 ≤ p ∧ p ≤ 13) (hr : RuleP r) :
    CallW Tryz.prog K 28 #[.int .i64 d, .int .i64 (p : Nat), .int .i64 r] h (OkL (prts r d p (p + 1)) h) := by
  have hp' : (1 : Int) ≤ (p : Nat) ∧ ((p : Nat) : Int) ≤ 13 := by omega
  refine body (N := 42) Tryz.func28 rfl (hK _ _ _ rfl) rfl rfl ?_
  (repeat' (first | (apply zao) | (apply zad) | (apply O_at; rfl) | (apply zal; rfl) | (apply zam) | (apply za6; rfl) | (apply za3; rfl) | (apply zav) | (apply zay) | (apply zbm) | (apply zat) | (apply zaR) | (apply zcW) | (apply zcX) | (apply zbn) | (apply zaZ) | (apply za0) | (apply zfm; rfl) | (apply zaO) | (apply zau) | (apply zbv; rfl; rfl; rfl) | (apply zae; rfl; rfl; rfl; rfl) | (apply zac; rfl; rfl; rfl; rfl) | (apply zbw; rfl; rfl; rfl; rfl; rfl; rfl; exact zar rfl) | (apply zaG; rfl; rfl; rfl; rfl; rfl; rfl) | (apply zdn; rfl; rfl; rfl; rfl) | (apply zfi; rfl; rfl; rfl; rfl; (unfold fit; omega)) | (apply zcn; rfl; rfl; rfl; rfl; rfl; omega) | (apply zbP; rfl; rfl; rfl; rfl; rfl; omega) | (apply zdo; rfl; rfl; rfl; rfl; rfl; all_goals intro _) | (apply zbK; rfl; rfl; rfl; rfl; rfl; (unfold fit; omega)) | (apply zgk; rfl; rfl; rfl; rfl; rfl; (unfold fit; omega)) | (apply zbz; rfl; rfl; rfl; rfl; rfl; exact zar rfl; exact zai rfl; (first | assumption | exact zq0 | exact zq1 | exact zq2 | exact zq3 | exact zqs _ | rfl | exact (Int.toNat_of_nonneg (by omega)).symm); omega) | (apply zdk; rfl; rfl; rfl; rfl; rfl; exact zar rfl; exact zai rfl; (first | assumption | exact zq0 | exact zq1 | exact zq2 | exact zq3 | exact zqs _ | rfl | exact (Int.toNat_of_nonneg (by omega)).symm); omega) | (apply zie; rfl; rfl; rfl; rfl; rfl) | (apply zia; rfl; rfl; rfl; rfl; rfl) | (apply zfj; rfl; rfl; rfl; rfl; rfl; exact zi6 rfl; exact zero3; omega; omega) | (apply zbf; rfl; rfl; rfl; rfl; exact zai rfl; rfl; rfl; rfl) | (apply zdB; rfl; rfl; rfl; rfl; (focus repeat' first | exact zaa | assumption | apply zab | (apply Ext.get; assumption) | (apply ExtBut.get; assumption; (first | assumption | omega | (simp only [Heap.push]; omega)))); exact zai rfl; (first | omega | (focus simp; done)); (intro _ _ _)) | (apply zdA; rfl; rfl; rfl; rfl; (focus repeat' first | exact zaa | assumption | apply zab | (apply Ext.get; assumption) | (apply ExtBut.get; assumption; (first | assumption | omega | (simp only [Heap.push]; omega)))); exact zai rfl; omega; (intro _ _ _)) | (apply zdz; rfl; rfl; rfl; rfl; rfl; (focus repeat' first | exact zaa | assumption | apply zab | (apply Ext.get; assumption) | (apply ExtBut.get; assumption; (first | assumption | omega | (simp only [Heap.push]; omega)))); exact zai rfl; omega; (intro _ _ _)) | (apply zdy; rfl; rfl; rfl; rfl; (focus repeat' first | exact zaa | assumption | apply zab | (apply Ext.get; assumption) | (apply ExtBut.get; assumption; (first | assumption | omega | (simp only [Heap.push]; omega)))); exact zai rfl; rfl; (first | rfl | exact zak _); rfl; (intro _ _ _)) | (apply zgm; rfl; rfl; rfl; rfl; rfl; exact zkJ rfl; exact zai rfl; (first | assumption | exact zq0 | exact zq1 | exact zq2 | exact zq3 | exact zqs _ | rfl | exact (Int.toNat_of_nonneg (by omega)).symm); omega) | (apply zag; rfl; rfl; rfl; rfl; rfl; rfl; exact yes (zbh hK) hd; (rintro _ _ ⟨rfl, _⟩)) | (apply zag; rfl; rfl; rfl; rfl; rfl; rfl; exact yes (zbh hK) hp'; (rintro _ _ ⟨rfl, _⟩)) | (apply zag; rfl; rfl; rfl; rfl; rfl; rfl; exact yes (zfZ hK) hr; (rintro _ _ ⟨rfl, _⟩)) | fail))
  rename_i h1 x1 h2 x2 h3 x3
  have n1 := x1.n
  have n2 := x2.n
  have n3 := x3.n
  rw [show (((p : Nat) : Int) + 1).toNat = p + 1 by omega]
  (repeat' (first | (apply zao) | (apply zad) | (apply O_at; rfl) | (apply zal; rfl) | (apply zam) | (apply za6; rfl) | (apply za3; rfl) | (apply zav) | (apply zay) | (apply zbm) | (apply zat) | (apply zaR) | (apply zcW) | (apply zcX) | (apply zbn) | (apply zaZ) | (apply za0) | (apply zfm; rfl) | (apply zaO) | (apply zau) | (apply zbv; rfl; rfl; rfl) | (apply zae; rfl; rfl; rfl; rfl) | (apply zac; rfl; rfl; rfl; rfl) | (apply zbw; rfl; rfl; rfl; rfl; rfl; rfl; exact zar rfl) | (apply zaG; rfl; rfl; rfl; rfl; rfl; rfl) | (apply zdn; rfl; rfl; rfl; rfl) | (apply zfi; rfl; rfl; rfl; rfl; (unfold fit; omega)) | (apply zcn; rfl; rfl; rfl; rfl; rfl; omega) | (apply zbP; rfl; rfl; rfl; rfl; rfl; omega) | (apply zdo; rfl; rfl; rfl; rfl; rfl; all_goals intro _) | (apply zbK; rfl; rfl; rfl; rfl; rfl; (unfold fit; omega)) | (apply zgk; rfl; rfl; rfl; rfl; rfl; (unfold fit; omega)) | (apply zbz; rfl; rfl; rfl; rfl; rfl; exact zar rfl; exact zai rfl; (first | assumption | exact zq0 | exact zq1 | exact zq2 | exact zq3 | exact zqs _ | rfl | exact (Int.toNat_of_nonneg (by omega)).symm); omega) | (apply zdk; rfl; rfl; rfl; rfl; rfl; exact zar rfl; exact zai rfl; (first | assumption | exact zq0 | exact zq1 | exact zq2 | exact zq3 | exact zqs _ | rfl | exact (Int.toNat_of_nonneg (by omega)).symm); omega) | (apply zie; rfl; rfl; rfl; rfl; rfl) | (apply zia; rfl; rfl; rfl; rfl; rfl) | (apply zfj; rfl; rfl; rfl; rfl; rfl; exact zi6 rfl; exact zero3; omega; omega) | (apply zbf; rfl; rfl; rfl; rfl; exact zai rfl; rfl; rfl; rfl) | (apply zdB; rfl; rfl; rfl; rfl; (focus repeat' first | exact zaa | assumption | apply zab | (apply Ext.get; assumption) | (apply ExtBut.get; assumption; (first | assumption | omega | (simp only [Heap.push]; omega)))); exact zai rfl; (first | omega | (focus simp; done)); (intro _ _ _)) | (apply zdA; rfl; rfl; rfl; rfl; (focus repeat' first | exact zaa | assumption | apply zab | (apply Ext.get; assumption) | (apply ExtBut.get; assumption; (first | assumption | omega | (simp only [Heap.push]; omega)))); exact zai rfl; omega; (intro _ _ _)) | (apply zdz; rfl; rfl; rfl; rfl; rfl; (focus repeat' first | exact zaa | assumption | apply zab | (apply Ext.get; assumption) | (apply ExtBut.get; assumption; (first | assumption | omega | (simp only [Heap.push]; omega)))); exact zai rfl; omega; (intro _ _ _)) | (apply zdy; rfl; rfl; rfl; rfl; (focus repeat' first | exact zaa | assumption | apply zab | (apply Ext.get; assumption) | (apply ExtBut.get; assumption; (first | assumption | omega | (simp only [Heap.push]; omega)))); exact zai rfl; rfl; (first | rfl | exact zak _); rfl; (intro _ _ _)) | (apply zgm; rfl; rfl; rfl; rfl; rfl; exact zkJ rfl; exact zai rfl; (first | assumption | exact zq0 | exact zq1 | exact zq2 | exact zq3 | exact zqs _ | rfl | exact (Int.toNat_of_nonneg (by omega)).symm); omega) | fail))
  refine zbJ (fun k : Nat => [(28, .int .i64 (k : Nat)), (27, .int .i64 ((p + 1 : Nat) : Int)), (8, .slice (some ⟨h3.n, 0, none⟩) (p + 1) (p + 1)), (2, .int .i64 r), (1, .int .i64 (p : Nat)), (0, .int .i64 d)])
    (fun k h' => k ≤ p + 1 ∧ ExtBut h3.n (h3.push (.cells (ints (List.replicate (p + 1) 0)) 3 true)) h' ∧ h'.get? h3.n = some (.cells (ints (prts r d p k ++ List.replicate (p + 1 - (prts r d p k).length) 0)) 3 true)) (fun k => p + 1 - k) ?_ 0 ?_ ?_
  · intro k h' ⟨hk, hx, hb⟩ ih
    have hle := zeZ r d p k
    by_cases hlt : k < p + 1
    · have hkb := dk_bd (k := k) hd (by omega)
      have hlen : k < (prts r d p k ++ List.replicate (p + 1 - (prts r d p k).length) 0).length := by simp [hle]; omega
      (repeat' (first | (apply zao) | (apply zad) | (apply O_at; rfl) | (apply zal; rfl) | (apply zam) | (apply za6; rfl) | (apply za3; rfl) | (apply zav) | (apply zay) | (apply zbm) | (apply zat) | (apply zaR) | (apply zcW) | (apply zcX) | (apply zbn) | (apply zaZ) | (apply za0) | (apply zfm; rfl) | (apply zaO) | (apply zau) | (apply zbv; rfl; rfl; rfl) | (apply zae; rfl; rfl; rfl; rfl) | (apply zac; rfl; rfl; rfl; rfl) | (apply zbw; rfl; rfl; rfl; rfl; rfl; rfl; exact zar rfl) | (apply zaG; rfl; rfl; rfl; rfl; rfl; rfl) | (apply zdn; rfl; rfl; rfl; rfl) | (apply zfi; rfl; rfl; rfl; rfl; (unfold fit; omega)) | (apply zcn; rfl; rfl; rfl; rfl; rfl; omega) | (apply zbP; rfl; rfl; rfl; rfl; rfl; omega) | (apply zdo; rfl; rfl; rfl; rfl; rfl; all_goals intro _) | (apply zbK; rfl; rfl; rfl; rfl; rfl; (unfold fit; omega)) | (apply zgk; rfl; rfl; rfl; rfl; rfl; (unfold fit; omega)) | (apply zbz; rfl; rfl; rfl; rfl; rfl; exact zar rfl; exact zai rfl; (first | assumption | exact zq0 | exact zq1 | exact zq2 | exact zq3 | exact zqs _ | rfl | exact (Int.toNat_of_nonneg (by omega)).symm); omega) | (apply zdk; rfl; rfl; rfl; rfl; rfl; exact zar rfl; exact zai rfl; (first | assumption | exact zq0 | exact zq1 | exact zq2 | exact zq3 | exact zqs _ | rfl | exact (Int.toNat_of_nonneg (by omega)).symm); omega) | (apply zie; rfl; rfl; rfl; rfl; rfl) | (apply zia; rfl; rfl; rfl; rfl; rfl) | (apply zfj; rfl; rfl; rfl; rfl; rfl; exact zi6 rfl; exact zero3; omega; omega) | (apply zbf; rfl; rfl; rfl; rfl; exact zai rfl; rfl; rfl; rfl) | (apply zdB; rfl; rfl; rfl; rfl; (focus repeat' first | exact zaa | assumption | apply zab | (apply Ext.get; assumption) | (apply ExtBut.get; assumption; (first | assumption | omega | (simp only [Heap.push]; omega)))); exact zai rfl; (first | omega | (focus simp; done)); (intro _ _ _)) | (apply zdA; rfl; rfl; rfl; rfl; (focus repeat' first | exact zaa | assumption | apply zab | (apply Ext.get; assumption) | (apply ExtBut.get; assumption; (first | assumption | omega | (simp only [Heap.push]; omega)))); exact zai rfl; omega; (intro _ _ _)) | (apply zdz; rfl; rfl; rfl; rfl; rfl; (focus repeat' first | exact zaa | assumption | apply zab | (apply Ext.get; assumption) | (apply ExtBut.get; assumption; (first | assumption | omega | (simp only [Heap.push]; omega)))); exact zai rfl; omega; (intro _ _ _)) | (apply zdy; rfl; rfl; rfl; rfl; (focus repeat' first | exact zaa | assumption | apply zab | (apply Ext.get; assumption) | (apply ExtBut.get; assumption; (first | assumption | omega | (simp only [Heap.push]; omega)))); exact zai rfl; rfl; (first | rfl | exact zak _); rfl; (intro _ _ _)) | (apply zgm; rfl; rfl; rfl; rfl; rfl; exact zkJ rfl; exact zai rfl; (first | assumption | exact zq0 | exact zq1 | exact zq2 | exact zq3 | exact zqs _ | rfl | exact (Int.toNat_of_nonneg (by omega)).symm); omega) | (apply zag; rfl; rfl; rfl; rfl; rfl; rfl; exact zex hK (by omega) (by omega) hr; (rintro _ _ ⟨rfl, _⟩)) | fail))
      rename_i h4 x4 h5 q5 x5
      refine zba (ih (k + 1) _ (by omega) ⟨hlt, (hx.trans (Ext.but x4 _)).trans x5, ?_⟩) (by (focus repeat' first | rfl | exact trivial | apply And.intro))
      have hs := row_set (l := prts r d p k) (n := p + 1) (x := prt r d p k) (by omega)
      rw [← zjQ, hle] at hs
      rw [hle] at q5
      rw [zeZ, ← hs]
      exact q5
    · have : k = p + 1 := by omega
      subst this
      rw [hle, Nat.sub_self, List.replicate_zero, List.append_nil] at hb
      (repeat' (first | (apply zao) | (apply zad) | (apply O_at; rfl) | (apply zal; rfl) | (apply zam) | (apply za6; rfl) | (apply za3; rfl) | (apply zav) | (apply zay) | (apply zbm) | (apply zat) | (apply zaR) | (apply zcW) | (apply zcX) | (apply zbn) | (apply zaZ) | (apply za0) | (apply zfm; rfl) | (apply zaO) | (apply zau) | (apply zbv; rfl; rfl; rfl) | (apply zae; rfl; rfl; rfl; rfl) | (apply zac; rfl; rfl; rfl; rfl) | (apply zbw; rfl; rfl; rfl; rfl; rfl; rfl; exact zar rfl) | (apply zaG; rfl; rfl; rfl; rfl; rfl; rfl) | (apply zdn; rfl; rfl; rfl; rfl) | (apply zfi; rfl; rfl; rfl; rfl; (unfold fit; omega)) | (apply zcn; rfl; rfl; rfl; rfl; rfl; omega) | (apply zbP; rfl; rfl; rfl; rfl; rfl; omega) | (apply zdo; rfl; rfl; rfl; rfl; rfl; all_goals intro _) | (apply zbK; rfl; rfl; rfl; rfl; rfl; (unfold fit; omega)) | (apply zgk; rfl; rfl; rfl; rfl; rfl; (unfold fit; omega)) | (apply zbz; rfl; rfl; rfl; rfl; rfl; exact zar rfl; exact zai rfl; (first | assumption | exact zq0 | exact zq1 | exact zq2 | exact zq3 | exact zqs _ | rfl | exact (Int.toNat_of_nonneg (by omega)).symm); omega) | (apply zdk; rfl; rfl; rfl; rfl; rfl; exact zar rfl; exact zai rfl; (first | assumption | exact zq0 | exact zq1 | exact zq2 | exact zq3 | exact zqs _ | rfl | exact (Int.toNat_of_nonneg (by omega)).symm); omega) | (apply zie; rfl; rfl; rfl; rfl; rfl) | (apply zia; rfl; rfl; rfl; rfl; rfl) | (apply zfj; rfl; rfl; rfl; rfl; rfl; exact zi6 rfl; exact zero3; omega; omega) | (apply zbf; rfl; rfl; rfl; rfl; exact zai rfl; rfl; rfl; rfl) | (apply zdB; rfl; rfl; rfl; rfl; (focus repeat' first | exact zaa | assumption | apply zab | (apply Ext.get; assumption) | (apply ExtBut.get; assumption; (first | assumption | omega | (simp only [Heap.push]; omega)))); exact zai rfl; (first | omega | (focus simp; done)); (intro _ _ _)) | (apply zdA; rfl; rfl; rfl; rfl; (focus repeat' first | exact zaa | assumption | apply zab | (apply Ext.get; assumption) | (apply ExtBut.get; assumption; (first | assumption | omega | (simp only [Heap.push]; omega)))); exact zai rfl; omega; (intro _ _ _)) | (apply zdz; rfl; rfl; rfl; rfl; rfl; (focus repeat' first | exact zaa | assumption | apply zab | (apply Ext.get; assumption) | (apply ExtBut.get; assumption; (first | assumption | omega | (simp only [Heap.push]; omega)))); exact zai rfl; omega; (intro _ _ _)) | (apply zdy; rfl; rfl; rfl; rfl; (focus repeat' first | exact zaa | assumption | apply zab | (apply Ext.get; assumption) | (apply ExtBut.get; assumption; (first | assumption | omega | (simp only [Heap.push]; omega)))); exact zai rfl; rfl; (first | rfl | exact zak _); rfl; (intro _ _ _)) | (apply zgm; rfl; rfl; rfl; rfl; rfl; exact zkJ rfl; exact zai rfl; (first | assumption | exact zq0 | exact zq1 | exact zq2 | exact zq3 | exact zqs _ | rfl | exact (Int.toNat_of_nonneg (by omega)).symm); omega) | fail))
      refine ⟨.inr rfl, _, rfl, some ⟨h3.n, 0, none⟩, p + 1, ?_, .inr ⟨_, _, _, rfl, hb⟩, ?_⟩
      · rw [hle]; rfl
      · exact Ext.ofBut (by (focus repeat' first | exact Ext.refl _ | assumption | apply Ext.push | (refine Ext.trans ?_ (by assumption)) | (refine Ext.set ?_ (Nat.le_succ _) (zab zaa) _) | (refine Ext.ofBut ?_ (by assumption) (by first | exact Nat.le_refl _ | omega)))) hx (by omega)
  · exact ⟨Nat.zero_le _, ExtBut.refl _ _, zaa⟩
  · (focus repeat' first | rfl | exact trivial | apply And.intro)
def PartP (d p : Int) : Prop := (-19998 ≤ d ∧ d ≤ 19998) ∧ 1 ≤ p ∧ p ≤ 13
instance (d p : Int) : Decidable (PartP d p) := by unfold PartP; infer_instance
theorem ziJ (hK : NoK K) {d p : Int} {h : Heap} : CallW Tryz.prog K 29 #[.int .i64 d, .int .i64 p] h (IfB (PartP d p) h) := by
  refine body (N := 11) Tryz.func29 rfl (hK _ _ _ rfl) rfl rfl ?_
  (repeat' (first | (apply zao) | (apply zad) | (apply O_at; rfl) | (apply zal; rfl) | (apply zam) | (apply zay) | (apply zat) | (apply zaR) | (apply zau) | (apply zbv; rfl; rfl; rfl) | (apply zae; rfl; rfl; rfl; rfl) | (apply zac; rfl; rfl; rfl; rfl) | (apply zaG; rfl; rfl; rfl; rfl; rfl; rfl) | (apply zag; rfl; rfl; rfl; rfl; rfl; rfl; exact zb1 hK; (rintro _ _ (⟨rfl, _, _⟩ | ⟨rfl, _, _⟩))) | fail))
  all_goals (refine ⟨.inr rfl, _, rfl, ?_⟩; first | (refine .inl ⟨rfl, by unfold PartP at *; omega, ?_⟩; (focus repeat' first | exact Ext.refl _ | assumption | apply Ext.push | (refine Ext.trans ?_ (by assumption)) | (refine Ext.set ?_ (Nat.le_succ _) (zab zaa) _) | (refine Ext.ofBut ?_ (by assumption) (by first | exact Nat.le_refl _ | omega))); done) | (refine .inr ⟨rfl, by unfold PartP at *; omega, ?_⟩; (focus repeat' first | exact Ext.refl _ | assumption | apply Ext.push | (refine Ext.trans ?_ (by assumption)) | (refine Ext.set ?_ (Nat.le_succ _) (zab zaa) _) | (refine Ext.ofBut ?_ (by assumption) (by first | exact Nat.le_refl _ | omega))); done))
def nilV : Value := .slice none 0 0
end Go.AX.Sa

namespace Go.AX.Sa
open Go.Proofs
set_option maxRecDepth 100000
variable {K : Known}
/-! Tables, kept lists and truths: which are as defined. -/
def ValP (a b : Int) : Prop := -9999 ≤ a ∧ a ≤ b ∧ b ≤ 9999 ∧ b ≤ a + 4
theorem zke (hK : NoK K) {a b m w : Int} {h : Heap} (hm : 0 ≤ m ∧ m ≤ 100000) : CallW Tryz.prog K 140 #[.agg #[.int .i64 a, .int .i64 b], .int .i64 m, .int .i64 w] h (IfB ((-m ≤ a ∧ a ≤ m) ∧ (-m ≤ b ∧ b ≤ m) ∧ 0 ≤ b - a ∧ b - a ≤ w) h) := by
  refine body (N := 30) Tryz.func140 rfl (hK _ _ _ rfl) rfl rfl ?_
  (repeat' (first | apply zao | apply zad | (apply O_at; rfl) | (apply zal; rfl) | apply zam | apply zat | apply zau | (apply zbv; rfl; rfl; rfl) | ((first | apply zae | apply zac); rfl; rfl; rfl; rfl) | (apply P_fa; rfl; rfl; rfl; rfl; exact zaU rfl; (first | exact Nat.zero_add _ | exact Nat.add_zero _ | rfl)) | (apply zaG; rfl; rfl; rfl; rfl; rfl; rfl) | (apply zfi; rfl; rfl; rfl; rfl; (unfold fit; omega)) | (apply zbX; rfl; rfl; rfl; rfl; rfl; (unfold fit; omega)) | (apply zap; rfl; rfl; rfl; rfl; exact zaB rfl; (focus repeat' first | exact zaa | assumption | (apply Ext.get; assumption)); (first | rfl | assumption)) | (apply za5; rfl; rfl; rfl; rfl; exact zai rfl; rfl; rfl) | (apply zag; rfl; rfl; rfl; rfl; rfl; rfl; exact zbh hK; (rintro _ _ (⟨rfl, _, _⟩ | ⟨rfl, _, _⟩))) | fail))
  all_goals (refine ⟨.inr rfl, _, rfl, ?_⟩; first | (refine .inl ⟨rfl, by omega, ?_⟩; (focus repeat' first | exact Ext.refl _ | assumption | apply Ext.push | (refine Ext.trans ?_ (by assumption)) | (refine Ext.set ?_ (Nat.le_succ _) (zab zaa) _) | (refine Ext.ofBut ?_ (by assumption) (by first | exact Nat.le_refl _ | omega))); done) | (refine .inr ⟨rfl, by omega, ?_⟩; (focus repeat' first | exact Ext.refl _ | assumption | apply Ext.push | (refine Ext.trans ?_ (by assumption)) | (refine Ext.set ?_ (Nat.le_succ _) (zab zaa) _) | (refine Ext.ofBut ?_ (by assumption) (by first | exact Nat.le_refl _ | omega))); done))
theorem zf0 (hK : NoK K) {a b : Int} {h : Heap} : CallW Tryz.prog K 101 #[.agg #[.int .i64 a, .int .i64 b]] h (IfB (¬ ValP a b) h) := by
  refine body (N := 6) Tryz.func101 rfl (hK _ _ _ rfl) rfl rfl ?_
  (repeat' (first | apply zao | apply zad | (apply O_at; rfl) | (apply zal; rfl) | apply zam | apply zat | apply zau | ((first | apply zac | apply zdn); rfl; rfl; rfl; rfl) | (apply zby; rfl; rfl; rfl; rfl; exact zbg rfl; (focus repeat' first | exact zaa | assumption); (first | exact Nat.le_of_ble_eq_true rfl | (simp; done) | (simp; omega)); rfl) | (apply za5; rfl; rfl; rfl; rfl; exact zai rfl; rfl; rfl) | (apply zag; rfl; rfl; rfl; rfl; rfl; rfl; exact zke hK (by omega); (rintro _ _ (⟨rfl, _, _⟩ | ⟨rfl, _, _⟩))) | fail))
  all_goals (refine ⟨.inr rfl, _, rfl, ?_⟩; first | (refine .inl ⟨rfl, by unfold ValP at *; omega, ?_⟩; (focus repeat' first | exact Ext.refl _ | assumption | apply Ext.push | (refine Ext.trans ?_ (by assumption)) | (refine Ext.set ?_ (Nat.le_succ _) (zab zaa) _) | (refine Ext.ofBut ?_ (by assumption) (by first | exact Nat.le_refl _ | omega))); done) | (refine .inr ⟨rfl, by unfold ValP at *; omega, ?_⟩; (focus repeat' first | exact Ext.refl _ | assumption | apply Ext.push | (refine Ext.trans ?_ (by assumption)) | (refine Ext.set ?_ (Nat.le_succ _) (zab zaa) _) | (refine Ext.ofBut ?_ (by assumption) (by first | exact Nat.le_refl _ | omega))); done))
theorem zgH (hK : NoK K) {a b : Int} {h : Heap} : CallW Tryz.prog K 67 #[.agg #[.int .i64 a, .int .i64 b]] h (IfB (ValP a b) h) := by
  refine body (N := 17) Tryz.func67 rfl (hK _ _ _ rfl) rfl rfl ?_
  (repeat' (first | apply zao | apply zad | (apply O_at; rfl) | (apply zal; rfl) | apply zam | apply zat | apply zau | (apply zbv; rfl; rfl; rfl) | ((first | apply zae | apply zac); rfl; rfl; rfl; rfl) | (apply P_fa; rfl; rfl; rfl; rfl; exact zaU rfl; (first | exact Nat.zero_add _ | exact Nat.add_zero _ | rfl)) | (apply zaG; rfl; rfl; rfl; rfl; rfl; rfl) | (apply zbK; rfl; rfl; rfl; rfl; rfl; (unfold fit; omega)) | (apply zap; rfl; rfl; rfl; rfl; exact zaB rfl; (focus repeat' first | exact zaa | assumption | (apply Ext.get; assumption)); (first | rfl | assumption)) | (apply za5; rfl; rfl; rfl; rfl; exact zai rfl; rfl; rfl) | (apply P_min; rfl; rfl; rfl; rfl; rfl; rfl) | (apply zag; rfl; rfl; rfl; rfl; rfl; rfl; exact zb1 hK; (rintro _ _ (⟨rfl, _, _⟩ | ⟨rfl, _, _⟩))) | fail))
  all_goals (refine ⟨.inr rfl, _, rfl, ?_⟩; first | (refine .inl ⟨rfl, by unfold ValP at *; omega, ?_⟩; (focus repeat' first | exact Ext.refl _ | assumption | apply Ext.push | (refine Ext.trans ?_ (by assumption)) | (refine Ext.set ?_ (Nat.le_succ _) (zab zaa) _) | (refine Ext.ofBut ?_ (by assumption) (by first | exact Nat.le_refl _ | omega))); done) | (refine .inr ⟨rfl, by unfold ValP at *; omega, ?_⟩; (focus repeat' first | exact Ext.refl _ | assumption | apply Ext.push | (refine Ext.trans ?_ (by assumption)) | (refine Ext.set ?_ (Nat.le_succ _) (zab zaa) _) | (refine Ext.ofBut ?_ (by assumption) (by first | exact Nat.le_refl _ | omega))); done))
/-- IndexFunc(s, isNoValue) -/
def Vals (l : List (Int × Int)) : Prop := ∀ k, k < l.length → ValP (l.getD k (0, 0)).1 (l.getD k (0, 0)).2
theorem zf3 (hK : NoK K) {l : List (Int × Int)} {p : Option Addr} {cap : Nat} {h : Heap} (hl : l.length ≤ 1000) (hr : Rd h p (spanCells l)) :
    CallW Tryz.prog K 139 #[.slice p l.length cap, .func (.func 101) #[] #[]] h fun v h1 => ∃ n : Int, v = .int .i64 n ∧ (0 ≤ n ↔ ¬ Vals l) ∧ Ext h h1 := by
  refine body (N := 19) Tryz.func139 rfl (hK _ _ _ rfl) rfl rfl ?_
  (repeat' (first | apply zao | apply zad | (apply O_at; rfl) | (apply zal; rfl) | apply zam | apply zav | ((first | apply zae | apply zac); rfl; rfl; rfl; rfl) | (apply zbw; rfl; rfl; rfl; rfl; rfl; rfl; exact zar rfl) | fail))
  refine zbJ (fun k : Nat => [(0, .slice p l.length cap), (1, .func (.func 101) #[] #[]), (7, .int .i64 (l.length : Nat)), (8, .int .i64 (k : Nat))])
    (fun k h' => k ≤ l.length ∧ Ext h h' ∧ ∀ j, j < k → ValP (l.getD j (0, 0)).1 (l.getD j (0, 0)).2) (fun k => l.length - k) ?_ 0 ?_ ?_
  · intro k h' ⟨hk, hx, hj⟩ ih
    by_cases hlt : k < l.length
    · obtain ⟨b, e, own, rfl, hg⟩ := hr.at (by rw [zaq]; omega)
      (repeat' (first | apply zao | apply zad | (apply O_at; rfl) | (apply zal; rfl) | apply zam | (apply za6; rfl) | (apply za3; rfl) | apply zav | apply zay | apply zbm | apply zat | apply zaR | apply zcW | apply zcX | apply zbn | apply zaZ | apply za0 | apply zaO | apply zau | ((first | apply zae | apply zac); rfl; rfl; rfl; rfl) | (apply zdo; rfl; rfl; rfl; rfl; rfl; all_goals intro _) | (apply zbK; rfl; rfl; rfl; rfl; rfl; (unfold fit; omega)) | (apply zdk; rfl; rfl; rfl; rfl; rfl; exact zar rfl; exact zai rfl; (first | assumption | rfl | exact (Int.toNat_of_nonneg (by omega)).symm); omega) | (apply zby; rfl; rfl; rfl; rfl; exact zbg rfl; (focus repeat' first | assumption | (apply Ext.get; assumption)); (first | exact Nat.le_of_ble_eq_true rfl | (simp; done) | (simp; omega) | (rw [zaq]; omega)); (first | exact zbc (by omega) | rfl)) | (apply zag; rfl; rfl; rfl; rfl; rfl; rfl; exact zf0 hK; (rintro _ _ (⟨rfl, _, _⟩ | ⟨rfl, _, _⟩))) | fail))
      · refine ⟨.inr rfl, _, rfl, (k : Int), rfl, ⟨fun _ q => ?_, fun _ => by omega⟩, by (focus repeat' first | exact Ext.refl _ | assumption | (refine Ext.trans ?_ (by assumption)))⟩
        rename_i hns _ _; exact hns (q k hlt)
      · rename_i hns _
        refine zba (ih (k + 1) _ ?_ ⟨hlt, ?_, fun j hj' => ?_⟩) ?_
        · omega
        · (focus repeat' first | exact Ext.refl _ | assumption | (refine Ext.trans ?_ (by assumption)))
        · by_cases hjk : j = k
          · subst hjk; exact Classical.not_not.1 hns
          · exact hj j (by omega)
        · (focus repeat' first | rfl | exact trivial | apply And.intro)
      · omega
    · (repeat' (first | apply zao | apply zad | (apply O_at; rfl) | (apply zal; rfl) | apply zam | (apply za6; rfl) | (apply za3; rfl) | apply zav | apply zay | apply zbm | apply zat | apply zbn | apply zaZ | apply za0 | apply zau | ((first | apply zae | apply zac); rfl; rfl; rfl; rfl) | (apply zdo; rfl; rfl; rfl; rfl; rfl; all_goals intro _) | fail))
      · omega
      · refine ⟨.inr rfl, _, rfl, -1, rfl, ⟨fun q => by omega, fun q => absurd (fun j hj' => hj j (by omega)) q⟩, by (focus repeat' first | exact Ext.refl _ | assumption | (refine Ext.trans ?_ (by assumption)))⟩
  · exact ⟨Nat.zero_le _, Ext.refl _, fun j hj => by omega⟩
  · (focus repeat' first | rfl | exact trivial | apply And.intro)
/-- ContainsFunc(s, isNoValue) -/
theorem zd7 (hK : NoK K) {l : List (Int × Int)} {p : Option Addr} {cap : Nat} {h : Heap} (hl : l.length ≤ 1000) (hr : Rd h p (spanCells l)) :
    CallW Tryz.prog K 100 #[.slice p l.length cap, .func (.func 101) #[] #[]] h (IfB (¬ Vals l) h) := by
  refine body (N := 9) Tryz.func100 rfl (hK _ _ _ rfl) rfl rfl ?_
  (repeat' (first | apply zao | apply zad | (apply O_at; rfl) | (apply zal; rfl) | apply zam | ((first | apply zae | apply zac); rfl; rfl; rfl; rfl) | fail))
  apply zag; rfl; rfl; rfl; rfl; rfl; rfl; exact zf3 hK hl hr
  rintro _ _ ⟨n, rfl, hn, hx⟩
  (repeat' (first | (apply O_at; rfl) | (apply zal; rfl) | apply zam | apply zat | apply zau | ((first | apply zae | apply zac); rfl; rfl; rfl; rfl) | (apply P_geq; rfl; rfl; rfl; rfl; rfl; all_goals intro _) | fail))
  · refine ⟨.inr rfl, _, rfl, .inl ⟨rfl, hn.1 (by assumption), by (focus repeat' first | assumption)⟩⟩
  · rename_i hc; refine ⟨.inr rfl, _, rfl, .inr ⟨rfl, fun q => hc (hn.2 q), by (focus repeat' first | assumption)⟩⟩
structure Tb where
  q : Option Addr
  k : Nat
  s : List (Int × Int)
  r : Int
  o : Int
def tbV (T : Tb) : Value := .agg #[.slice T.q T.s.length T.k, .int .i64 T.r, .int .i64 T.o]
structure TbAt (T : Tb) (h : Heap) : Prop where
  rd : Rd h T.q (spanCells T.s)
  b : ∀ a, T.q = some a → a.block < h.n
theorem TbAt.ext {T : Tb} {h h1 : Heap} (x : TbAt T h) (e : Ext h h1) : TbAt T h1 := ⟨x.rd.ext e, fun a q => Nat.lt_of_lt_of_le (x.b a q) e.n⟩
def OffP (o : Int) : Prop := 0 ≤ o ∧ o ≤ 100
def TbP (T : Tb) : Prop := (2 ≤ T.s.length ∧ T.s.length ≤ 13) ∧ Vals T.s ∧ RuleP T.r ∧ OffP T.o
theorem ziS (hK : NoK K) {T : Tb} {h : Heap} (hl : T.s.length ≤ 1000) (hT : TbAt T h) : CallW Tryz.prog K 62 #[tbV T] h (IfB (TbP T) h) := by
  obtain ⟨q, k, s, r, o⟩ := T
  have hr := hT.rd
  dsimp only [tbV] at hl hr ⊢
  refine body (N := 23) Tryz.func62 rfl (hK _ _ _ rfl) rfl rfl ?_
  (repeat' (first | apply zao | apply zad | (apply O_at; rfl) | (apply zal; rfl) | apply zam | apply zat | apply zau | (apply zbv; rfl; rfl; rfl) | ((first | apply zae | apply zac | apply zdn); rfl; rfl; rfl; rfl) | (apply P_fa; rfl; rfl; rfl; rfl; exact zaU rfl; (first | exact Nat.zero_add _ | exact Nat.add_zero _ | rfl)) | (apply zbw; rfl; rfl; rfl; rfl; rfl; rfl; exact zar rfl) | (apply zaG; rfl; rfl; rfl; rfl; rfl; rfl) | (apply zap; rfl; rfl; rfl; rfl; exact zaB rfl; (focus repeat' first | exact zaa | assumption | (apply Ext.get; assumption)); (first | rfl | assumption)) | (apply za5; rfl; rfl; rfl; rfl; exact zai rfl; rfl; rfl) | (apply zag; rfl; rfl; rfl; rfl; rfl; rfl; exact zbh hK; (rintro _ _ (⟨rfl, _, _⟩ | ⟨rfl, _, _⟩))) | (apply zag; rfl; rfl; rfl; rfl; rfl; rfl; exact zd7 hK hl (hr.ext (by (focus repeat' first | exact Ext.refl _ | assumption | apply Ext.push | (refine Ext.trans ?_ (by assumption))))); (rintro _ _ (⟨rfl, _, _⟩ | ⟨rfl, _, _⟩))) | (apply zag; rfl; rfl; rfl; rfl; rfl; rfl; exact zfZ hK; (rintro _ _ (⟨rfl, _, _⟩ | ⟨rfl, _, _⟩))) | fail))
  all_goals (refine ⟨.inr rfl, _, rfl, ?_⟩; first | (refine .inl ⟨rfl, by grind [TbP, OffP], ?_⟩; (focus repeat' first | exact Ext.refl _ | assumption | apply Ext.push | (refine Ext.trans ?_ (by assumption)) | (refine Ext.set ?_ (Nat.le_succ _) (zab zaa) _) | (refine Ext.ofBut ?_ (by assumption) (by first | exact Nat.le_refl _ | omega))); done) | (refine .inr ⟨rfl, by grind [TbP, OffP], ?_⟩; (focus repeat' first | exact Ext.refl _ | assumption | apply Ext.push | (refine Ext.trans ?_ (by assumption)) | (refine Ext.set ?_ (Nat.le_succ _) (zab zaa) _) | (refine Ext.ofBut ?_ (by assumption) (by first | exact Nat.le_refl _ | omega))); done))
theorem zjM (hK : NoK K) {o : Int} {h : Heap} : CallW Tryz.prog K 42 #[.int .i64 o] h (IfB (OffP o) h) := by
  refine body (N := 5) Tryz.func42 rfl (hK _ _ _ rfl) rfl rfl ?_
  (repeat' (first | apply zao | apply zad | (apply O_at; rfl) | (apply zal; rfl) | apply zam | apply zat | apply zau | ((first | apply zae | apply zac); rfl; rfl; rfl; rfl) | (apply zag; rfl; rfl; rfl; rfl; rfl; rfl; exact zb1 hK; (rintro _ _ (⟨rfl, _, _⟩ | ⟨rfl, _, _⟩))) | fail))
  all_goals (refine ⟨.inr rfl, _, rfl, ?_⟩; first | (refine .inl ⟨rfl, by unfold OffP at *; omega, ?_⟩; (focus repeat' first | exact Ext.refl _ | assumption | apply Ext.push | (refine Ext.trans ?_ (by assumption)) | (refine Ext.set ?_ (Nat.le_succ _) (zab zaa) _) | (refine Ext.ofBut ?_ (by assumption) (by first | exact Nat.le_refl _ | omega))); done) | (refine .inr ⟨rfl, by unfold OffP at *; omega, ?_⟩; (focus repeat' first | exact Ext.refl _ | assumption | apply Ext.push | (refine Ext.trans ?_ (by assumption)) | (refine Ext.set ?_ (Nat.le_succ _) (zab zaa) _) | (refine Ext.ofBut ?_ (by assumption) (by first | exact Nat.le_refl _ | omega))); done))
theorem zgJ (hK : NoK K) {T : Tb} {h : Heap} (hl : T.s.length ≤ 1000) (hT : TbAt T h) : CallW Tryz.prog K 20 #[tbV T] h (IfB (TbP T) h) := by
  obtain ⟨q, kq, s, r, o⟩ := T
  have hr := hT.rd
  dsimp only [tbV] at hl hr ⊢
  refine body (N := 32) Tryz.func20 rfl (hK _ _ _ rfl) rfl rfl ?_
  (repeat' (first | apply zao | apply zad | (apply O_at; rfl) | (apply zal; rfl) | apply zam | apply zav | ((first | apply zae | apply zac | apply zdn); rfl; rfl; rfl; rfl) | (apply za5; rfl; rfl; rfl; rfl; exact zai rfl; rfl; rfl) | fail))
  refine zbJ (fun k : Nat => [(3, .int .i64 (k : Nat)), (1, .pointer (some ⟨h.n, 0, none⟩))])
    (fun k h' => k ≤ s.length ∧ Ext (h.push (.cells [.slice q s.length kq, .int .i64 r, .int .i64 o] 25 true)) h' ∧ ∀ j, j < k → ValP (s.getD j (0, 0)).1 (s.getD j (0, 0)).2) (fun k => s.length - k) ?_ 0 ?_ ?_
  · intro k h' ⟨hk, hx, hj⟩ ih
    have hb : h'.get? h.n = some (.cells [.slice q s.length kq, .int .i64 r, .int .i64 o] 25 true) := hx.get zaa
    by_cases hlt : k < s.length
    · obtain ⟨b, e, own, rfl, hg⟩ := hr.at (by rw [zaq]; omega)
      have hg' := hx.get (zab hg)
      (repeat' (first | apply zao | apply zad | (apply O_at; rfl) | (apply zal; rfl) | apply zam | (apply za6; rfl) | (apply za3; rfl) | apply zav | apply zay | apply zat | apply zaR | apply zcW | apply zcX | apply zaO | apply zau | ((first | apply zae | apply zac | apply zdn); rfl; rfl; rfl; rfl) | (apply P_fa; rfl; rfl; rfl; rfl; exact zaU rfl; (first | exact Nat.zero_add _ | exact Nat.add_zero _ | rfl)) | (apply zbw; rfl; rfl; rfl; rfl; rfl; rfl; exact zar rfl) | (apply zbP; rfl; rfl; rfl; rfl; rfl; omega) | (apply zbK; rfl; rfl; rfl; rfl; rfl; (unfold fit; omega)) | (apply zdk; rfl; rfl; rfl; rfl; rfl; exact zar rfl; exact zai rfl; (first | assumption | rfl | exact (Int.toNat_of_nonneg (by omega)).symm); omega) | (apply zap; rfl; rfl; rfl; rfl; exact zaB rfl; (focus repeat' first | exact zaa | assumption | apply zab | (apply Ext.get; assumption)); (first | rfl | assumption)) | (apply zby; rfl; rfl; rfl; rfl; exact zbg rfl; (focus repeat' first | exact zaa | assumption | apply zab | (apply Ext.get; assumption)); (first | exact Nat.le_of_ble_eq_true rfl | (simp; done) | (simp; omega) | (rw [zaq]; omega)); (first | exact zbc (by omega) | rfl)) | (apply zag; rfl; rfl; rfl; rfl; rfl; rfl; exact zgH hK; (rintro _ _ (⟨rfl, _, _⟩ | ⟨rfl, _, _⟩))) | fail))
      · rename_i w _
        refine zba (ih (k + 1) _ (by omega) ⟨hlt, by (focus repeat' first | exact Ext.refl _ | assumption | apply Ext.push | (refine Ext.trans ?_ (by assumption))), fun j hj' => ?_⟩) (by (focus repeat' first | rfl | exact trivial | apply And.intro))
        by_cases hjk : j = k
        · subst hjk; exact w
        · exact hj j (by omega)
      · rename_i w _
        exact ⟨.inr rfl, _, rfl, .inr ⟨rfl, fun z => w (z.2.1 k hlt), by (focus repeat' first | exact Ext.refl _ | assumption | apply Ext.push | (refine Ext.trans ?_ (by assumption)))⟩⟩
    · have hv : Vals s := fun j hj' => hj j (by omega)
      (repeat' (first | apply zao | apply zad | (apply O_at; rfl) | (apply zal; rfl) | apply zam | (apply za3; rfl) | apply zbm | apply zat | apply zbn | apply zaZ | apply za0 | apply zau | (apply zbv; rfl; rfl; rfl) | ((first | apply zae | apply zac | apply zdn); rfl; rfl; rfl; rfl) | (apply P_fa; rfl; rfl; rfl; rfl; exact zaU rfl; (first | exact Nat.zero_add _ | exact Nat.add_zero _ | rfl)) | (apply zbw; rfl; rfl; rfl; rfl; rfl; rfl; exact zar rfl) | (apply zaG; rfl; rfl; rfl; rfl; rfl; rfl) | (apply zcn; rfl; rfl; rfl; rfl; rfl; omega) | (apply zap; rfl; rfl; rfl; rfl; exact zaB rfl; (focus repeat' first | exact zaa | assumption | apply zab | (apply Ext.get; assumption)); (first | rfl | assumption)) | (apply zag; rfl; rfl; rfl; rfl; rfl; rfl; exact zb1 hK; (rintro _ _ (⟨rfl, _, _⟩ | ⟨rfl, _, _⟩))) | (apply zag; rfl; rfl; rfl; rfl; rfl; rfl; exact ziI hK; (rintro _ _ (⟨rfl, _, _⟩ | ⟨rfl, _, _⟩))) | (apply zag; rfl; rfl; rfl; rfl; rfl; rfl; exact zjM hK; (rintro _ _ (⟨rfl, _, _⟩ | ⟨rfl, _, _⟩))) | fail))
      all_goals (refine ⟨.inr rfl, _, rfl, ?_⟩; first | (refine .inl ⟨rfl, by grind [TbP], ?_⟩; (focus repeat' first | exact Ext.refl _ | assumption | apply Ext.push | (refine Ext.trans ?_ (by assumption)) | (refine Ext.set ?_ (Nat.le_succ _) (zab zaa) _) | (refine Ext.ofBut ?_ (by assumption) (by first | exact Nat.le_refl _ | omega))); done) | (refine .inr ⟨rfl, by grind [TbP], ?_⟩; (focus repeat' first | exact Ext.refl _ | assumption | apply Ext.push | (refine Ext.trans ?_ (by assumption)) | (refine Ext.set ?_ (Nat.le_succ _) (zab zaa) _) | (refine Ext.ofBut ?_ (by assumption) (by first | exact Nat.le_refl _ | omega))); done))
  · exact ⟨Nat.zero_le _, Ext.refl _, fun j hj => by omega⟩
  · (focus repeat' first | rfl | exact trivial | apply And.intro)
end Go.AX.Sa

namespace Go.AX.Sa
open Go.Proofs
set_option maxRecDepth 100000
variable {K : Known}
theorem za1 (p : Option Addr) (n c : Nat) (r o : Int) : same 20 (.agg [Value.slice p n c, .int .i64 r, .int .i64 o].toArray) (.agg [Value.slice p n c, .int .i64 r, .int .i64 o].toArray) = true := by simp [same, same.all2]
theorem zaw {h0 h : Heap} {p : Option Addr} {n c : Nat} {r o : Int} (hp : ∀ a, p = some a → a.block < h0.n) (e : Ext h0 h) : within 20 h.n (.agg [Value.slice p n c, .int .i64 r, .int .i64 o].toArray) = true := by
  have := e.n
  cases p with
  | none => simp [within]
  | some a => have := hp a rfl; simp [within]; omega
theorem zbA {h0 h : Heap} {p : Option Addr} {m c : Nat} (hp : ∀ a, p = some a → a.block < h0.n) (e : Ext h0 h) : within 20 h.n (.slice p m c) = true := by
  have := e.n
  cases p with
  | none => simp [within]
  | some a => have := hp a rfl; simp [within]; omega
/-! Kept lists. -/
def GrowP (l : List Int) : Prop := ∀ i, i + 1 < l.length → l.getD i 0 < l.getD (i + 1) 0
theorem zbI (hK : NoK K) {l : List Int} {p : Option Addr} {cap : Nat} {h : Heap} (hl : l.length ≤ 1000) (hr : Rd h p (ints l)) :
    CallW Tryz.prog K 102 #[.slice p l.length cap] h (IfB (GrowP l) h) := by
  refine body (N := 24) Tryz.func102 rfl (hK _ _ _ rfl) rfl rfl ?_
  (repeat' (first | apply zao | apply zad | (apply O_at; rfl) | (apply zal; rfl) | apply zam | apply zav | ((first | apply zae | apply zac); rfl; rfl; rfl; rfl) | (apply zbw; rfl; rfl; rfl; rfl; rfl; rfl; exact zar rfl) | fail))
  refine zbJ (fun k : Nat => [(7, .int .i64 (k : Nat)), (6, .int .i64 (l.length : Nat)), (5, .slice p l.length cap), (0, .slice p l.length cap)])
    (fun k h' => k ≤ l.length ∧ Ext h h' ∧ ∀ i, i + 1 < k → l.getD i 0 < l.getD (i + 1) 0) (fun k => l.length - k) ?_ 0 ?_ ?_
  · intro k h' ⟨hk, hx, hj⟩ ih
    by_cases hlt : k < l.length
    · obtain ⟨b, e, own, rfl, hg⟩ := hr.at (by rw [zak]; omega)
      cases k with
      | zero =>
        (repeat' (first | apply zao | apply zad | (apply O_at; rfl) | (apply zal; rfl) | apply zam | (apply za6; rfl) | (apply za3; rfl) | apply zav | apply zay | apply zaO | (apply zbv; rfl; rfl; rfl) | ((first | apply zae | apply zac); rfl; rfl; rfl; rfl) | (apply zaG; rfl; rfl; rfl; rfl; rfl; rfl) | (apply zbP; rfl; rfl; rfl; rfl; rfl; omega) | (apply P_gtrF; rfl; rfl; rfl; rfl; rfl; omega) | (apply zbK; rfl; rfl; rfl; rfl; rfl; (unfold fit; omega)) | (apply zbz; rfl; rfl; rfl; rfl; rfl; exact zar rfl; exact zai rfl; (first | assumption | exact zq0 | exact zqs _ | rfl | exact (Int.toNat_of_nonneg (by omega)).symm); omega) | (apply zap; rfl; rfl; rfl; rfl; exact zaB rfl; (focus repeat' first | assumption | (apply Ext.get; assumption)); (first | exact zan (by omega) | rfl | assumption)) | fail))
        exact zba (ih 1 _ (by omega) ⟨hlt, by (focus repeat' first | exact Ext.refl _ | assumption), fun i hi => by omega⟩) (by (focus repeat' first | rfl | exact trivial | apply And.intro))
      | succ k =>
        have hz : (((k + 1 : Nat) : Int)) - 1 = (k : Nat) := by omega
        by_cases hc : l.getD (k + 1) 0 ≤ l.getD k 0
        · (repeat' (first | apply zao | apply zad | (apply O_at; rfl) | (apply zal; rfl) | apply zam | (apply za6; rfl) | apply zav | apply zay | apply zat | apply zaR | apply zcW | apply zcX | apply zau | ((first | apply zae | apply zac); rfl; rfl; rfl; rfl) | (apply zaG; rfl; rfl; rfl; rfl; rfl; rfl) | (apply zbP; rfl; rfl; rfl; rfl; rfl; omega) | (apply zgl; rfl; rfl; rfl; rfl; rfl; omega) | (apply P_gtrT; rfl; rfl; rfl; rfl; rfl; omega) | (apply zbX; rfl; rfl; rfl; rfl; rfl; (unfold fit; omega)) | (apply zbz; rfl; rfl; rfl; rfl; rfl; exact zar rfl; exact zai rfl; (first | assumption | exact zq0 | exact zqs _ | rfl | exact (Int.toNat_of_nonneg (by omega)).symm); omega) | (apply zap; rfl; rfl; rfl; rfl; exact zaB rfl; (focus repeat' first | assumption | (apply Ext.get; assumption)); (first | exact zan (by omega) | rfl | assumption)) | fail))
          exact ⟨.inr rfl, _, rfl, .inr ⟨rfl, fun z => by have := z k hlt; omega, by (focus repeat' first | exact Ext.refl _ | assumption)⟩⟩
        · (repeat' (first | apply zao | apply zad | (apply O_at; rfl) | (apply zal; rfl) | apply zam | (apply za6; rfl) | (apply za3; rfl) | apply zav | apply zay | apply zaO | ((first | apply zae | apply zac); rfl; rfl; rfl; rfl) | (apply zaG; rfl; rfl; rfl; rfl; rfl; rfl) | (apply zbP; rfl; rfl; rfl; rfl; rfl; omega) | (apply zib; rfl; rfl; rfl; rfl; rfl; omega) | (apply P_gtrT; rfl; rfl; rfl; rfl; rfl; omega) | (apply zbK; rfl; rfl; rfl; rfl; rfl; (unfold fit; omega)) | (apply zbX; rfl; rfl; rfl; rfl; rfl; (unfold fit; omega)) | (apply zbz; rfl; rfl; rfl; rfl; rfl; exact zar rfl; exact zai rfl; (first | assumption | exact zq0 | exact zqs _ | rfl | exact (Int.toNat_of_nonneg (by omega)).symm); omega) | (apply zap; rfl; rfl; rfl; rfl; exact zaB rfl; (focus repeat' first | assumption | (apply Ext.get; assumption)); (first | exact zan (by omega) | rfl | assumption)) | fail))
          refine zba (ih (k + 2) _ (by omega) ⟨hlt, by (focus repeat' first | exact Ext.refl _ | assumption), fun i hi => ?_⟩) (by (focus repeat' first | rfl | exact trivial | apply And.intro))
          by_cases hik : i = k
          · subst hik; omega
          · exact hj i (by omega)
    · (repeat' (first | apply zao | apply zad | (apply O_at; rfl) | (apply zal; rfl) | apply zam | (apply za3; rfl) | apply zbm | apply zat | apply zbn | apply zaZ | apply za0 | apply zau | ((first | apply zae | apply zac); rfl; rfl; rfl; rfl) | (apply zcn; rfl; rfl; rfl; rfl; rfl; omega) | fail))
      exact ⟨.inr rfl, _, rfl, .inl ⟨rfl, fun i hi => hj i (by omega), by (focus repeat' first | exact Ext.refl _ | assumption)⟩⟩
  · exact ⟨Nat.zero_le _, Ext.refl _, fun j hj => by omega⟩
  · (focus repeat' first | rfl | exact trivial | apply And.intro)
def KeptP (n : Nat) (l : List Int) : Prop := 2 ≤ l.length ∧ l.getD 0 0 = 0 ∧ l.getD (l.length - 1) 0 = (n : Int) - 1 ∧ GrowP l
def ktV (T : Tb) (p : Option Addr) (n cap : Nat) : Value := .agg #[.slice T.q T.s.length T.k, .int .i64 T.r, .int .i64 T.o, .slice p n cap]
theorem zkf (hK : NoK K) {T : Tb} {l : List Int} {p : Option Addr} {cap : Nat} {h : Heap} (hsl : T.s.length ≤ 1000) (hl : l.length ≤ 1000) (hT : TbAt T h) (hr : Rd h p (ints l)) (hpb : ∀ a, p = some a → a.block < h.n) :
    CallW Tryz.prog K 63 #[ktV T p l.length cap] h (IfB (TbP T ∧ KeptP T.s.length l) h) := by
  obtain ⟨q, kq, s, r, o⟩ := T
  have hqb : ∀ a, q = some a → a.block < h.n := hT.b
  dsimp only at hsl
  have iT : ∀ {h' : Heap}, Ext h h' → CallW Tryz.prog K 62 #[.agg #[.slice q s.length kq, .int .i64 r, .int .i64 o]] h' (IfB (TbP ⟨q, kq, s, r, o⟩) h') := fun x => ziS (T := ⟨q, kq, s, r, o⟩) hK hsl (hT.ext x)
  refine body (N := 40) Tryz.func63 rfl (hK _ _ _ rfl) rfl rfl ?_
  dsimp only [ktV]
  by_cases hP : TbP ⟨q, kq, s, r, o⟩
  · have hn : 2 ≤ s.length := hP.1.1
    by_cases hG : GrowP l
    · by_cases h0 : 0 < l.length
      · obtain ⟨b, e, own, rfl, hg⟩ := hr.at (by rw [zak]; omega)
        have hz : ((l.length : Nat) : Int) - 1 = ((l.length - 1 : Nat) : Int) := by omega
        by_cases h1 : l.getD 0 0 = 0
        · by_cases h2 : l.getD (l.length - 1) 0 = (s.length : Int) - 1
          · have h3 : 2 ≤ l.length := by
              rcases (show l.length = 1 ∨ 2 ≤ l.length by omega) with q | q
              · rw [q] at h2; simp only [Nat.sub_self] at h2; omega
              · exact q
            (repeat' (first | apply zao | apply zad | (apply O_at; rfl) | (apply N_at; rfl) | (apply zal; rfl) | apply zam | (apply za4; exact zaA (by decide +kernel)) | apply zat | (apply zbL; rfl; refine .inr ?_; (focus repeat' first | exact trivial | exact Keeps.nil _ _ | apply And.intro | rfl | (apply Keeps.cons; iterate 2 (focus repeat' first | exact zaa | assumption | apply zab | (apply Ext.get; assumption))))) | apply zau | ((first | apply zac | apply zaI | apply zaH); rfl; rfl; rfl; rfl) | (apply za5; rfl; rfl; rfl; rfl; exact zai rfl; rfl; rfl) | (apply M_fa; rfl; rfl; rfl; rfl; exact zaU rfl; (first | exact Nat.zero_add _ | exact Nat.add_zero _ | rfl)) | (apply zeu; rfl; rfl; rfl; rfl; rfl; rfl; exact zar rfl) | (apply zbl; rfl; rfl; rfl; rfl; rfl; rfl) | (apply zif; rfl; rfl; rfl; rfl; rfl; omega) | (apply zig; rfl; rfl; rfl; rfl; rfl; omega) | (apply zdq; rfl; rfl; rfl; rfl; rfl; (unfold fit; omega)) | (apply zb7; rfl; rfl; rfl; rfl; rfl; exact zar rfl; exact zai rfl; (first | assumption | exact zq0 | rfl | exact (Int.toNat_of_nonneg (by omega)).symm); omega) | ((first | ((apply zaV; rfl; rfl; rfl; rfl; exact zaB rfl); (focus repeat' first | exact zaa | assumption | apply zab | (apply Ext.get; assumption)); (first | exact zan (by omega) | rfl | assumption)) | ((apply zaY; rfl; rfl; rfl; rfl; exact zbg rfl); (focus repeat' first | exact zaa | assumption | apply zab | (apply Ext.get; assumption)); (first | exact Nat.le_of_ble_eq_true rfl | (simp; done) | (simp; omega) | (rw [zak]; omega)); rfl)); (first | assumption | exact zaE _ _ | exact zbd _ _ _ | exact za1 _ _ _ _ _ | rfl | (focus simp [same, same.all2]; done)); (first | rfl | assumption | exact hwv _ | (focus apply zbb; (focus repeat' first | exact zaa | assumption | apply zab | (apply Ext.get; assumption)); done) | exact zaw (by assumption) (by (focus repeat' first | exact Ext.refl _ | assumption | apply Ext.push | (refine Ext.trans ?_ (by assumption)))) | exact zbA (by assumption) (by (focus repeat' first | exact Ext.refl _ | assumption | apply Ext.push | (refine Ext.trans ?_ (by assumption)))) | (simp [within]; omega))) | (apply zax; rfl; rfl; rfl; rfl; rfl; rfl; rfl; exact yes (iT (by (focus repeat' first | exact Ext.refl _ | assumption | apply Ext.push | (refine Ext.trans ?_ (by assumption))))) hP; (rintro _ _ ⟨rfl, _⟩)) | (apply zax; rfl; rfl; rfl; rfl; rfl; rfl; rfl; exact yes (zbI hK hl (hr.ext (by (focus repeat' first | exact Ext.refl _ | assumption | apply Ext.push | (refine Ext.trans ?_ (by assumption)))))) hG; (rintro _ _ ⟨rfl, _⟩)) | fail))
            exact ⟨.inr rfl, _, rfl, .inl ⟨rfl, ⟨hP, h3, h1, h2, hG⟩, by (focus repeat' first | exact Ext.refl _ | assumption | apply Ext.push | (refine Ext.trans ?_ (by assumption)))⟩⟩
          · (repeat' (first | apply zao | apply zad | (apply O_at; rfl) | (apply N_at; rfl) | (apply zal; rfl) | apply zam | (apply za4; exact zaA (by decide +kernel)) | apply zat | (apply zbL; rfl; refine .inr ?_; (focus repeat' first | exact trivial | exact Keeps.nil _ _ | apply And.intro | rfl | (apply Keeps.cons; iterate 2 (focus repeat' first | exact zaa | assumption | apply zab | (apply Ext.get; assumption))))) | apply zau | ((first | apply zac | apply zaI | apply zaH); rfl; rfl; rfl; rfl) | (apply za5; rfl; rfl; rfl; rfl; exact zai rfl; rfl; rfl) | (apply M_fa; rfl; rfl; rfl; rfl; exact zaU rfl; (first | exact Nat.zero_add _ | exact Nat.add_zero _ | rfl)) | (apply zeu; rfl; rfl; rfl; rfl; rfl; rfl; exact zar rfl) | (apply zbl; rfl; rfl; rfl; rfl; rfl; rfl) | (apply zif; rfl; rfl; rfl; rfl; rfl; omega) | (apply zkS; rfl; rfl; rfl; rfl; rfl; omega) | (apply zig; rfl; rfl; rfl; rfl; rfl; omega) | (apply zdq; rfl; rfl; rfl; rfl; rfl; (unfold fit; omega)) | (apply zb7; rfl; rfl; rfl; rfl; rfl; exact zar rfl; exact zai rfl; (first | assumption | exact zq0 | rfl | exact (Int.toNat_of_nonneg (by omega)).symm); omega) | ((first | ((apply zaV; rfl; rfl; rfl; rfl; exact zaB rfl); (focus repeat' first | exact zaa | assumption | apply zab | (apply Ext.get; assumption)); (first | exact zan (by omega) | rfl | assumption)) | ((apply zaY; rfl; rfl; rfl; rfl; exact zbg rfl); (focus repeat' first | exact zaa | assumption | apply zab | (apply Ext.get; assumption)); (first | exact Nat.le_of_ble_eq_true rfl | (simp; done) | (simp; omega) | (rw [zak]; omega)); rfl)); (first | assumption | exact zaE _ _ | exact zbd _ _ _ | exact za1 _ _ _ _ _ | rfl | (focus simp [same, same.all2]; done)); (first | rfl | assumption | exact hwv _ | (focus apply zbb; (focus repeat' first | exact zaa | assumption | apply zab | (apply Ext.get; assumption)); done) | exact zaw (by assumption) (by (focus repeat' first | exact Ext.refl _ | assumption | apply Ext.push | (refine Ext.trans ?_ (by assumption)))) | exact zbA (by assumption) (by (focus repeat' first | exact Ext.refl _ | assumption | apply Ext.push | (refine Ext.trans ?_ (by assumption)))) | (simp [within]; omega))) | (apply zax; rfl; rfl; rfl; rfl; rfl; rfl; rfl; exact yes (iT (by (focus repeat' first | exact Ext.refl _ | assumption | apply Ext.push | (refine Ext.trans ?_ (by assumption))))) hP; (rintro _ _ ⟨rfl, _⟩)) | (apply zax; rfl; rfl; rfl; rfl; rfl; rfl; rfl; exact yes (zbI hK hl (hr.ext (by (focus repeat' first | exact Ext.refl _ | assumption | apply Ext.push | (refine Ext.trans ?_ (by assumption)))))) hG; (rintro _ _ ⟨rfl, _⟩)) | fail))
            exact ⟨.inr rfl, _, rfl, .inr ⟨rfl, fun z => h2 z.2.2.2.1, by (focus repeat' first | exact Ext.refl _ | assumption | apply Ext.push | (refine Ext.trans ?_ (by assumption)))⟩⟩
        · (repeat' (first | apply zao | apply zad | (apply O_at; rfl) | (apply N_at; rfl) | (apply zal; rfl) | apply zam | (apply za4; exact zaA (by decide +kernel)) | apply zat | (apply zbL; rfl; refine .inr ?_; (focus repeat' first | exact trivial | exact Keeps.nil _ _ | apply And.intro | rfl | (apply Keeps.cons; iterate 2 (focus repeat' first | exact zaa | assumption | apply zab | (apply Ext.get; assumption))))) | apply zau | ((first | apply zac | apply zaI | apply zaH); rfl; rfl; rfl; rfl) | (apply za5; rfl; rfl; rfl; rfl; exact zai rfl; rfl; rfl) | (apply zb6; rfl; rfl; rfl; rfl) | (apply M_fa; rfl; rfl; rfl; rfl; exact zaU rfl; (first | exact Nat.zero_add _ | exact Nat.add_zero _ | rfl)) | (apply zeu; rfl; rfl; rfl; rfl; rfl; rfl; exact zar rfl) | (apply zbl; rfl; rfl; rfl; rfl; rfl; rfl) | (apply zif; rfl; rfl; rfl; rfl; rfl; omega) | (apply zkS; rfl; rfl; rfl; rfl; rfl; omega) | (apply zb7; rfl; rfl; rfl; rfl; rfl; exact zar rfl; exact zai rfl; (first | assumption | exact zq0 | rfl | exact (Int.toNat_of_nonneg (by omega)).symm); omega) | ((first | ((apply zaV; rfl; rfl; rfl; rfl; exact zaB rfl); (focus repeat' first | exact zaa | assumption | apply zab | (apply Ext.get; assumption)); (first | exact zan (by omega) | rfl | assumption)) | ((apply zaY; rfl; rfl; rfl; rfl; exact zbg rfl); (focus repeat' first | exact zaa | assumption | apply zab | (apply Ext.get; assumption)); (first | exact Nat.le_of_ble_eq_true rfl | (simp; done) | (simp; omega) | (rw [zak]; omega)); rfl)); (first | assumption | exact zaE _ _ | exact zbd _ _ _ | exact za1 _ _ _ _ _ | rfl | (focus simp [same, same.all2]; done)); (first | rfl | assumption | exact hwv _ | (focus apply zbb; (focus repeat' first | exact zaa | assumption | apply zab | (apply Ext.get; assumption)); done) | exact zaw (by assumption) (by (focus repeat' first | exact Ext.refl _ | assumption | apply Ext.push | (refine Ext.trans ?_ (by assumption)))) | exact zbA (by assumption) (by (focus repeat' first | exact Ext.refl _ | assumption | apply Ext.push | (refine Ext.trans ?_ (by assumption)))) | (simp [within]; omega))) | (apply zax; rfl; rfl; rfl; rfl; rfl; rfl; rfl; exact yes (iT (by (focus repeat' first | exact Ext.refl _ | assumption | apply Ext.push | (refine Ext.trans ?_ (by assumption))))) hP; (rintro _ _ ⟨rfl, _⟩)) | (apply zax; rfl; rfl; rfl; rfl; rfl; rfl; rfl; exact yes (zbI hK hl (hr.ext (by (focus repeat' first | exact Ext.refl _ | assumption | apply Ext.push | (refine Ext.trans ?_ (by assumption)))))) hG; (rintro _ _ ⟨rfl, _⟩)) | fail))
          exact ⟨.inr rfl, _, rfl, .inr ⟨rfl, fun z => h1 z.2.2.1, by (focus repeat' first | exact Ext.refl _ | assumption | apply Ext.push | (refine Ext.trans ?_ (by assumption)))⟩⟩
      · (repeat' (first | apply zao | apply zad | (apply O_at; rfl) | (apply N_at; rfl) | (apply zal; rfl) | apply zam | (apply za4; exact zaA (by decide +kernel)) | apply zat | (apply zbL; rfl; refine .inr ?_; (focus repeat' first | exact trivial | exact Keeps.nil _ _ | apply And.intro | rfl | (apply Keeps.cons; iterate 2 (focus repeat' first | exact zaa | assumption | apply zab | (apply Ext.get; assumption))))) | apply zau | ((first | apply zac | apply zaI | apply zaH); rfl; rfl; rfl; rfl) | (apply za5; rfl; rfl; rfl; rfl; exact zai rfl; rfl; rfl) | (apply zb6; rfl; rfl; rfl; rfl) | (apply M_fa; rfl; rfl; rfl; rfl; exact zaU rfl; (first | exact Nat.zero_add _ | exact Nat.add_zero _ | rfl)) | (apply zeu; rfl; rfl; rfl; rfl; rfl; rfl; exact zar rfl) | (apply zbl; rfl; rfl; rfl; rfl; rfl; rfl) | (apply zeh; rfl; rfl; rfl; rfl; rfl; omega) | ((first | ((apply zaV; rfl; rfl; rfl; rfl; exact zaB rfl); (focus repeat' first | exact zaa | assumption | apply zab | (apply Ext.get; assumption)); (first | exact zan (by omega) | rfl | assumption)) | ((apply zaY; rfl; rfl; rfl; rfl; exact zbg rfl); (focus repeat' first | exact zaa | assumption | apply zab | (apply Ext.get; assumption)); (first | exact Nat.le_of_ble_eq_true rfl | (simp; done) | (simp; omega) | (rw [zak]; omega)); rfl)); (first | assumption | exact zaE _ _ | exact zbd _ _ _ | exact za1 _ _ _ _ _ | rfl | (focus simp [same, same.all2]; done)); (first | rfl | assumption | exact hwv _ | (focus apply zbb; (focus repeat' first | exact zaa | assumption | apply zab | (apply Ext.get; assumption)); done) | exact zaw (by assumption) (by (focus repeat' first | exact Ext.refl _ | assumption | apply Ext.push | (refine Ext.trans ?_ (by assumption)))) | exact zbA (by assumption) (by (focus repeat' first | exact Ext.refl _ | assumption | apply Ext.push | (refine Ext.trans ?_ (by assumption)))) | (simp [within]; omega))) | (apply zax; rfl; rfl; rfl; rfl; rfl; rfl; rfl; exact yes (iT (by (focus repeat' first | exact Ext.refl _ | assumption | apply Ext.push | (refine Ext.trans ?_ (by assumption))))) hP; (rintro _ _ ⟨rfl, _⟩)) | (apply zax; rfl; rfl; rfl; rfl; rfl; rfl; rfl; exact yes (zbI hK hl (hr.ext (by (focus repeat' first | exact Ext.refl _ | assumption | apply Ext.push | (refine Ext.trans ?_ (by assumption)))))) hG; (rintro _ _ ⟨rfl, _⟩)) | fail))
        exact ⟨.inr rfl, _, rfl, .inr ⟨rfl, fun z => by have := z.2.1; omega, by (focus repeat' first | exact Ext.refl _ | assumption | apply Ext.push | (refine Ext.trans ?_ (by assumption)))⟩⟩
    · (repeat' (first | apply zao | apply zad | (apply O_at; rfl) | (apply N_at; rfl) | (apply zal; rfl) | apply zam | (apply za4; exact zaA (by decide +kernel)) | apply zat | (apply zbL; rfl; refine .inr ?_; (focus repeat' first | exact trivial | exact Keeps.nil _ _ | apply And.intro | rfl | (apply Keeps.cons; iterate 2 (focus repeat' first | exact zaa | assumption | apply zab | (apply Ext.get; assumption))))) | apply zau | ((first | apply zac | apply zaI | apply zaH); rfl; rfl; rfl; rfl) | (apply za5; rfl; rfl; rfl; rfl; exact zai rfl; rfl; rfl) | (apply zb6; rfl; rfl; rfl; rfl) | (apply M_fa; rfl; rfl; rfl; rfl; exact zaU rfl; (first | exact Nat.zero_add _ | exact Nat.add_zero _ | rfl)) | (apply zbl; rfl; rfl; rfl; rfl; rfl; rfl) | ((first | ((apply zaV; rfl; rfl; rfl; rfl; exact zaB rfl); (focus repeat' first | exact zaa | assumption | apply zab | (apply Ext.get; assumption)); (first | exact zan (by omega) | rfl | assumption)) | ((apply zaY; rfl; rfl; rfl; rfl; exact zbg rfl); (focus repeat' first | exact zaa | assumption | apply zab | (apply Ext.get; assumption)); (first | exact Nat.le_of_ble_eq_true rfl | (simp; done) | (simp; omega) | (rw [zak]; omega)); rfl)); (first | assumption | exact zaE _ _ | exact zbd _ _ _ | exact za1 _ _ _ _ _ | rfl | (focus simp [same, same.all2]; done)); (first | rfl | assumption | exact hwv _ | (focus apply zbb; (focus repeat' first | exact zaa | assumption | apply zab | (apply Ext.get; assumption)); done) | exact zaw (by assumption) (by (focus repeat' first | exact Ext.refl _ | assumption | apply Ext.push | (refine Ext.trans ?_ (by assumption)))) | exact zbA (by assumption) (by (focus repeat' first | exact Ext.refl _ | assumption | apply Ext.push | (refine Ext.trans ?_ (by assumption)))) | (simp [within]; omega))) | (apply zax; rfl; rfl; rfl; rfl; rfl; rfl; rfl; exact yes (iT (by (focus repeat' first | exact Ext.refl _ | assumption | apply Ext.push | (refine Ext.trans ?_ (by assumption))))) hP; (rintro _ _ ⟨rfl, _⟩)) | (apply zax; rfl; rfl; rfl; rfl; rfl; rfl; rfl; exact no (zbI hK hl (hr.ext (by (focus repeat' first | exact Ext.refl _ | assumption | apply Ext.push | (refine Ext.trans ?_ (by assumption)))))) hG; (rintro _ _ ⟨rfl, _⟩)) | fail))
      exact ⟨.inr rfl, _, rfl, .inr ⟨rfl, fun z => hG z.2.2.2.2, by (focus repeat' first | exact Ext.refl _ | assumption | apply Ext.push | (refine Ext.trans ?_ (by assumption)))⟩⟩
  · (repeat' (first | apply zao | apply zad | (apply O_at; rfl) | (apply N_at; rfl) | (apply zal; rfl) | apply zam | (apply za4; exact zaA (by decide +kernel)) | apply zat | (apply zbL; rfl; refine .inr ?_; (focus repeat' first | exact trivial | exact Keeps.nil _ _ | apply And.intro | rfl | (apply Keeps.cons; iterate 2 (focus repeat' first | exact zaa | assumption | apply zab | (apply Ext.get; assumption))))) | apply zau | ((first | apply zac | apply zaI | apply zaH); rfl; rfl; rfl; rfl) | (apply za5; rfl; rfl; rfl; rfl; exact zai rfl; rfl; rfl) | (apply zb6; rfl; rfl; rfl; rfl) | (apply zda; rfl; rfl; rfl; rfl) | (apply M_fa; rfl; rfl; rfl; rfl; exact zaU rfl; (first | exact Nat.zero_add _ | exact Nat.add_zero _ | rfl)) | (apply zbl; rfl; rfl; rfl; rfl; rfl; rfl) | ((first | ((apply zaV; rfl; rfl; rfl; rfl; exact zaB rfl); (focus repeat' first | exact zaa | assumption | apply zab | (apply Ext.get; assumption)); (first | exact zan (by omega) | rfl | assumption)) | ((apply zaY; rfl; rfl; rfl; rfl; exact zbg rfl); (focus repeat' first | exact zaa | assumption | apply zab | (apply Ext.get; assumption)); (first | exact Nat.le_of_ble_eq_true rfl | (simp; done) | (simp; omega) | (rw [zak]; omega)); rfl)); (first | assumption | exact zaE _ _ | exact zbd _ _ _ | exact za1 _ _ _ _ _ | rfl | (focus simp [same, same.all2]; done)); (first | rfl | assumption | exact hwv _ | (focus apply zbb; (focus repeat' first | exact zaa | assumption | apply zab | (apply Ext.get; assumption)); done) | exact zaw (by assumption) (by (focus repeat' first | exact Ext.refl _ | assumption | apply Ext.push | (refine Ext.trans ?_ (by assumption)))) | exact zbA (by assumption) (by (focus repeat' first | exact Ext.refl _ | assumption | apply Ext.push | (refine Ext.trans ?_ (by assumption)))) | (simp [within]; omega))) | (apply zax; rfl; rfl; rfl; rfl; rfl; rfl; rfl; exact no (iT (by (focus repeat' first | exact Ext.refl _ | assumption | apply Ext.push | (refine Ext.trans ?_ (by assumption))))) hP; (rintro _ _ ⟨rfl, _⟩)) | fail))
    exact ⟨.inr rfl, _, rfl, .inr ⟨rfl, fun z => hP z.1, by (focus repeat' first | exact Ext.refl _ | assumption | apply Ext.push | (refine Ext.trans ?_ (by assumption)))⟩⟩
end Go.AX.Sa

namespace Go.AX.Sa
open Go.Proofs
set_option maxRecDepth 100000
variable {K : Known}
/-! Truths, sums, figures. -/
/-- Is it a truth? -/
def TruthP (l : List (Int × Int)) (t : List Int) : Prop := t.length = l.length ∧ ∀ k, k < t.length → (l.getD k (0, 0)).1 ≤ t.getD k 0 ∧ t.getD k 0 ≤ (l.getD k (0, 0)).2
theorem zgh (hK : NoK K) {l : List (Int × Int)} {p q : Option Addr} {cap cap' : Nat} {t : List Int} {h : Heap} (hl : l.length ≤ 1000) (hr : Rd h p (spanCells l)) (_ : t.length ≤ 1000) (hr' : Rd h q (ints t)) :
    CallW Tryz.prog K 64 #[.slice q t.length cap', .slice p l.length cap] h (IfB (TruthP l t) h) := by
  refine body (N := 30) Tryz.func64 rfl (hK _ _ _ rfl) rfl rfl ?_
  (repeat' (first | apply zao | apply zad | (apply O_at; rfl) | (apply zal; rfl) | apply zam | (apply za6; rfl) | (apply za3; rfl) | apply zav | apply zay | apply zat | apply zaR | apply zau | ((first | apply zae | apply zac | apply zaI | apply zb9); rfl; rfl; rfl; rfl) | (apply zbw; rfl; rfl; rfl; rfl; rfl; rfl; exact zar rfl) | (apply P_neq; rfl; rfl; rfl; rfl; rfl; all_goals intro _) | fail))
  · rename_i hne
    refine ⟨.inr rfl, _, rfl, .inr ⟨rfl, fun q => hne (by rw [q.1]), ?_⟩⟩
    (focus repeat' first | exact Ext.refl _ | assumption | apply Ext.push | (refine Ext.trans ?_ (by assumption)))
  rename_i heq
  have heq' : t.length = l.length := by omega
  refine zbJ (fun k : Nat => [(14, .int .i64 (k : Nat)), (13, .int .i64 (l.length : Nat)), (12, .slice p l.length cap), (0, .slice q t.length cap')])
    (fun k h' => k ≤ t.length ∧ Ext h h' ∧ ∀ j, j < k → (l.getD j (0, 0)).1 ≤ t.getD j 0 ∧ t.getD j 0 ≤ (l.getD j (0, 0)).2) (fun k => t.length - k) ?_ 0 ?_ ?_
  · intro k h' ⟨hk, hx, hj⟩ ih
    by_cases hlt : k < t.length
    · obtain ⟨b, e, own, rfl, hg⟩ := hr.at (by rw [zaq]; omega)
      obtain ⟨b', e', own', rfl, hg'⟩ := hr'.at (by rw [zak]; omega)
      have hg2 := hx.get hg
      have hg2' := hx.get hg'
      clear hg hg'
      have hltl : k < l.length := by omega
      (repeat' (first | apply zao | apply zad | (apply O_at; rfl) | (apply N_at; rfl) | (apply zal; rfl) | apply zam | (apply za6; rfl) | (apply za3; rfl) | (apply za4; kernel_rfl) | apply zav | apply zay | apply zbm | apply zat | (apply zbL; rfl; refine .inr ?_; (focus repeat' first | exact trivial | apply And.intro | rfl)) | apply zaR | apply zcW | apply zcX | apply zbn | apply zaZ | apply za0 | apply zaO | apply zau | ((first | apply zae | apply zac | apply zaI | apply zb9); rfl; rfl; rfl; rfl) | (apply zdo; rfl; rfl; rfl; rfl; rfl; all_goals intro _) | (apply zbK; rfl; rfl; rfl; rfl; rfl; (unfold fit; omega)) | (apply zdk; rfl; rfl; rfl; rfl; rfl; exact zar rfl; exact zai rfl; (first | assumption | rfl | exact (Int.toNat_of_nonneg (by omega)).symm); omega) | (apply zby; rfl; rfl; rfl; rfl; exact zbg rfl; (focus repeat' first | exact zaa | assumption | apply zab | (apply Ext.get; assumption)); (first | exact Nat.le_of_ble_eq_true rfl | (simp; done) | (simp; omega) | (rw [zaq]; omega) | (rw [zak]; omega)); (first | exact zbc (by omega) | rfl)) | (apply zbf; rfl; rfl; rfl; rfl; exact zai rfl; rfl; rfl; rfl) | (apply zfl; rfl; rfl; rfl; rfl; exact zai rfl; rfl; rfl) | (apply M_fa; rfl; rfl; rfl; rfl; exact zaU rfl; (first | exact Nat.zero_add _ | exact Nat.add_zero _ | rfl)) | (apply zb7; rfl; rfl; rfl; rfl; rfl; exact zar rfl; exact zai rfl; (first | assumption | rfl | exact (Int.toNat_of_nonneg (by omega)).symm); omega) | (((apply zcV; rfl; rfl; rfl; rfl; exact zaB rfl; decide +kernel); (focus repeat' first | exact zaa | assumption | apply zab | (apply Ext.get; assumption)); (first | exact zan (by omega) | rfl | assumption)); (first | assumption | exact zaE _ _ | rfl | (focus simp [same, same.all2]; done)); (first | rfl | assumption | exact hwv _ | (simp [within]; omega))) | (apply zax; rfl; rfl; rfl; rfl; rfl; rfl; rfl; exact zbh hK; (rintro _ _ (⟨rfl, _, _⟩ | ⟨rfl, _, _⟩))) | fail))
      · rename_i hns _
        refine zba (ih (k + 1) _ ?_ ⟨hlt, ?_, fun j hj' => ?_⟩) ?_
        · omega
        · (focus repeat' first | exact Ext.refl _ | assumption | apply Ext.push | (refine Ext.trans ?_ (by assumption)))
        · by_cases hjk : j = k
          · subst hjk; exact hns
          · exact hj j (by omega)
        · (focus repeat' first | rfl | exact trivial | apply And.intro)
      · rename_i hns _
        refine ⟨.inr rfl, _, rfl, .inr ⟨rfl, fun q => hns (q.2 k hlt), ?_⟩⟩
        (focus repeat' first | exact Ext.refl _ | assumption | apply Ext.push | (refine Ext.trans ?_ (by assumption)))
      · omega
    · (repeat' (first | apply zao | apply zad | (apply O_at; rfl) | (apply zal; rfl) | apply zam | (apply za6; rfl) | (apply za3; rfl) | apply zav | apply zay | apply zbm | apply zat | apply zbn | apply zaZ | apply za0 | apply zau | ((first | apply zae | apply zac | apply zaI | apply zb9); rfl; rfl; rfl; rfl) | (apply zdo; rfl; rfl; rfl; rfl; rfl; all_goals intro _) | fail))
      · omega
      · refine ⟨.inr rfl, _, rfl, .inl ⟨rfl, ⟨heq', fun j hj' => hj j (by omega)⟩, ?_⟩⟩
        (focus repeat' first | exact Ext.refl _ | assumption | apply Ext.push | (refine Ext.trans ?_ (by assumption)))
  · exact ⟨Nat.zero_le _, Ext.refl _, fun j hj => by omega⟩
  · (focus repeat' first | rfl | exact trivial | apply And.intro)
theorem zgI (hK : NoK K) {l : List (Int × Int)} {p q : Option Addr} {cap cap' : Nat} {rows guard : Int} {t : List Int} {h : Heap} (hl : l.length ≤ 1000) (hr : Rd h p (spanCells l)) (_ : t.length ≤ 1000) (hr' : Rd h q (ints t)) :
    CallW Tryz.prog K 22 #[.agg #[.slice p l.length cap, .int .i64 rows, .int .i64 guard], .slice q t.length cap'] h (IfB (TruthP l t) h) := by
  refine body (N := 36) Tryz.func22 rfl (hK _ _ _ rfl) rfl rfl ?_
  (repeat' (first | apply zao | apply zad | (apply O_at; rfl) | (apply zal; rfl) | apply zam | (apply za6; rfl) | (apply za3; rfl) | apply zav | apply zay | apply zat | apply zaR | apply zau | ((first | apply zae | apply zac | apply zaI | apply zb9); rfl; rfl; rfl; rfl) | ((first | apply P_fa | apply M_fa); rfl; rfl; rfl; rfl; exact zaU rfl; (first | exact Nat.zero_add _ | exact Nat.add_zero _ | rfl)) | (apply zbw; rfl; rfl; rfl; rfl; rfl; rfl; exact zar rfl) | (apply P_neq; rfl; rfl; rfl; rfl; rfl; all_goals intro _) | (apply zap; rfl; rfl; rfl; rfl; exact zaB rfl; (focus repeat' first | exact zaa | assumption | (apply Ext.get; assumption)); (first | exact zan (by omega) | exact zhy (by omega) | exact zhz (by omega) | rfl | assumption)) | (apply za5; rfl; rfl; rfl; rfl; exact zai rfl; rfl; rfl) | fail))
  · rename_i hne
    refine ⟨.inr rfl, _, rfl, .inr ⟨rfl, fun q => hne (by rw [q.1]), ?_⟩⟩
    (focus repeat' first | exact Ext.refl _ | assumption | apply Ext.push | (refine Ext.trans ?_ (by assumption)))
  rename_i heq
  have heq' : t.length = l.length := by omega
  have hb1 : (h.push (.cells (Value.agg #[.slice p l.length cap, .int .i64 rows, .int .i64 guard]).cells.toList 25 true)).get? h.n = some (.cells [.slice p l.length cap, .int .i64 rows, .int .i64 guard] 25 true) := zaa
  have hx2 : Ext h (h.push (.cells (Value.agg #[.slice p l.length cap, .int .i64 rows, .int .i64 guard]).cells.toList 25 true)) := by (focus repeat' first | exact Ext.refl _ | assumption | apply Ext.push | (refine Ext.trans ?_ (by assumption)))
  generalize h.push (.cells (Value.agg #[.slice p l.length cap, .int .i64 rows, .int .i64 guard]).cells.toList 25 true) = h2 at hb1 hx2 ⊢
  refine zbJ (fun k : Nat => [(5, .int .i64 (k : Nat)), (1, .slice q t.length cap'), (2, .pointer (some ⟨h.n, 0, none⟩))])
    (fun k h' => k ≤ t.length ∧ Ext h2 h' ∧ ∀ j, j < k → (l.getD j (0, 0)).1 ≤ t.getD j 0 ∧ t.getD j 0 ≤ (l.getD j (0, 0)).2) (fun k => t.length - k) ?_ 0 ?_ ?_
  · intro k h' ⟨hk, hx, hj⟩ ih
    have hb : h'.get? h.n = some (.cells [.slice p l.length cap, .int .i64 rows, .int .i64 guard] 25 true) := hx.get hb1
    by_cases hlt : k < t.length
    · obtain ⟨b, e, own, rfl, hg⟩ := hr.at (by rw [zaq]; omega)
      obtain ⟨b', e', own', rfl, hg'⟩ := hr'.at (by rw [zak]; omega)
      have hg2 := hx.get (hx2.get hg)
      have hg2' := hx.get (hx2.get hg')
      have hn1 := Heap.get_lt hg2
      have hn2 := Heap.get_lt hg2'
      have hn3 := Heap.get_lt hb
      clear hg hg' hb1
      have hltl : k < l.length := by omega
      (repeat' (first | apply zao | apply zad | (apply O_at; rfl) | (apply N_at; rfl) | (apply zal; rfl) | apply zam | (apply za6; rfl) | (apply za3; rfl) | (apply za4; kernel_rfl) | apply zav | apply zay | apply zbm | apply zat | (apply zbL; rfl; refine .inr ?_; (focus repeat' first | exact trivial | apply And.intro | rfl)) | apply zaR | apply zcW | apply zcX | apply zbn | apply zaZ | apply za0 | apply zaO | apply zau | ((first | apply zae | apply zac | apply zaI | apply zb9); rfl; rfl; rfl; rfl) | ((first | apply P_fa | apply M_fa); rfl; rfl; rfl; rfl; exact zaU rfl; (first | exact Nat.zero_add _ | exact Nat.add_zero _ | rfl)) | (apply zbw; rfl; rfl; rfl; rfl; rfl; rfl; exact zar rfl) | (apply zdo; rfl; rfl; rfl; rfl; rfl; all_goals intro _) | (apply zbK; rfl; rfl; rfl; rfl; rfl; (unfold fit; omega)) | (apply zb7; rfl; rfl; rfl; rfl; rfl; exact zar rfl; exact zai rfl; (first | assumption | rfl | exact (Int.toNat_of_nonneg (by omega)).symm); omega) | (apply M_idxB; rfl; rfl; rfl; rfl; rfl; exact zar rfl; exact zai rfl; (first | assumption | rfl | exact (Int.toNat_of_nonneg (by omega)).symm); omega) | (((apply zcV; rfl; rfl; rfl; rfl; exact zaB rfl; decide +kernel); (focus repeat' first | exact zaa | assumption | (apply Ext.get; assumption)); (first | exact zan (by omega) | exact zhy (by omega) | exact zhz (by omega) | rfl | assumption)); (first | assumption | exact zaE _ _ | exact zbd _ _ _ | rfl | (focus simp [same, same.all2]; done)); (first | rfl | assumption | exact hwv _ | (focus apply zbb; (focus repeat' first | exact zaa | assumption | (apply Ext.get; assumption)); done) | (simp [within]; omega))) | (apply zax; rfl; rfl; rfl; rfl; rfl; rfl; rfl; exact zb1 hK; (rintro _ _ (⟨rfl, _, _⟩ | ⟨rfl, _, _⟩))) | fail))
      · rename_i hns _
        refine zba (ih (k + 1) _ ?_ ⟨hlt, ?_, fun j hj' => ?_⟩) ?_
        · omega
        · (focus repeat' first | exact Ext.refl _ | assumption | apply Ext.push | (refine Ext.trans ?_ (by assumption)))
        · by_cases hjk : j = k
          · subst hjk; exact hns
          · exact hj j (by omega)
        · (focus repeat' first | rfl | exact trivial | apply And.intro)
      · rename_i hns _
        refine ⟨.inr rfl, _, rfl, .inr ⟨rfl, fun q => hns (q.2 k hlt), ?_⟩⟩
        (focus repeat' first | exact Ext.refl _ | assumption | apply Ext.push | (refine Ext.trans ?_ (by assumption)))
      · omega
    · (repeat' (first | apply zao | apply zad | (apply O_at; rfl) | (apply N_at; rfl) | (apply zal; rfl) | apply zam | (apply za6; rfl) | (apply za3; rfl) | (apply za4; kernel_rfl) | apply zav | apply zay | apply zbm | apply zat | apply zbn | apply zaZ | apply za0 | apply zau | ((first | apply zae | apply zac | apply zaI | apply zb9); rfl; rfl; rfl; rfl) | (apply zbw; rfl; rfl; rfl; rfl; rfl; rfl; exact zar rfl) | (apply zdo; rfl; rfl; rfl; rfl; rfl; all_goals intro _) | fail))
      · omega
      · refine ⟨.inr rfl, _, rfl, .inl ⟨rfl, ⟨heq', fun j hj' => hj j (by omega)⟩, ?_⟩⟩
        (focus repeat' first | exact Ext.refl _ | assumption | apply Ext.push | (refine Ext.trans ?_ (by assumption)))
  · exact ⟨Nat.zero_le _, Ext.refl _, fun j hj => by omega⟩
  · (focus repeat' first | rfl | exact trivial | apply And.intro)
theorem sum2_ok (hK : NoK K) {a b : Int} {h : Heap} (ha : -1000000 ≤ a ∧ a ≤ 1000000) (hb : -1000000 ≤ b ∧ b ≤ 1000000) {blk : Nat} (hg : h.get? blk = some (.cells (ints [a, b]) 3 true)) :
    CallW Tryz.prog K 141 #[.slice (some ⟨blk, 0, none⟩) 2 2] h (IsV (.int .i64 (a + b)) h) := by
  refine body (N := 17) Tryz.func141 rfl (hK _ _ _ rfl) rfl rfl ?_
  (repeat' (first | apply zao | apply zad | (apply O_at; rfl) | (apply zal; rfl) | apply zam | apply zav | ((first | apply zae | apply zac); rfl; rfl; rfl; rfl) | (apply zbw; rfl; rfl; rfl; rfl; rfl; rfl; exact zar rfl) | fail))
  refine zbJ (fun x : Nat × Int => [(8, .int .i64 (x.1 : Nat)), (7, .int .i64 ((2 : Nat) : Int)), (6, .slice (some ⟨blk, 0, none⟩) 2 2), (3, .int .i64 x.2)])
    (fun x h' => (x = (0, 0) ∨ x = (1, 0 + a) ∨ x = (2, 0 + a + b)) ∧ h' = h) (fun x => 2 - x.1) ?_ (0, 0) ⟨.inl rfl, rfl⟩ ?_
  · rintro ⟨k, s⟩ h' ⟨hk, rfl⟩ ih
    rcases hk with q | q | q
    all_goals cases q
    · (repeat' (first | apply zao | apply zad | (apply O_at; rfl) | (apply zal; rfl) | apply zam | (apply za6; rfl) | apply zav | apply zay | apply zaO | ((first | apply zae | apply zac); rfl; rfl; rfl; rfl) | (apply zbP; rfl; rfl; rfl; rfl; rfl; omega) | (apply zbK; rfl; rfl; rfl; rfl; rfl; (unfold fit; omega)) | (apply zbz; rfl; rfl; rfl; rfl; rfl; exact zar rfl; exact zai rfl; (first | assumption | exact zq0 | exact zq1 | rfl | exact (Int.toNat_of_nonneg (by omega)).symm); omega) | (apply zap; rfl; rfl; rfl; rfl; exact zaB rfl; (focus repeat' first | assumption); (first | rfl | assumption)) | fail))
      exact zba (ih (1, 0 + a) _ (by dsimp only; omega) ⟨.inr (.inl rfl), rfl⟩) (by (focus repeat' first | rfl | exact trivial | apply And.intro))
    · (repeat' (first | apply zao | apply zad | (apply O_at; rfl) | (apply zal; rfl) | apply zam | (apply za6; rfl) | apply zav | apply zay | apply zaO | ((first | apply zae | apply zac); rfl; rfl; rfl; rfl) | (apply zbP; rfl; rfl; rfl; rfl; rfl; omega) | (apply zbK; rfl; rfl; rfl; rfl; rfl; (unfold fit; omega)) | (apply zbz; rfl; rfl; rfl; rfl; rfl; exact zar rfl; exact zai rfl; (first | assumption | exact zq0 | exact zq1 | rfl | exact (Int.toNat_of_nonneg (by omega)).symm); omega) | (apply zap; rfl; rfl; rfl; rfl; exact zaB rfl; (focus repeat' first | assumption); (first | rfl | assumption)) | fail))
      exact zba (ih (2, 0 + a + b) _ (by dsimp only; omega) ⟨.inr (.inr rfl), rfl⟩) (by (focus repeat' first | rfl | exact trivial | apply And.intro))
    · (repeat' (first | apply zao | apply zad | (apply O_at; rfl) | (apply zal; rfl) | apply zam | (apply za3; rfl) | apply zbm | apply zat | apply zbn | apply zaZ | apply za0 | apply zau | ((first | apply zae | apply zac); rfl; rfl; rfl; rfl) | (apply zcn; rfl; rfl; rfl; rfl; rfl; omega) | fail))
      exact ⟨.inr rfl, _, rfl, (by show Value.int .i64 (0 + a + b) = _; rw [Int.zero_add]), by (focus repeat' first | exact Ext.refl _ | assumption)⟩
  · (focus repeat' first | rfl | exact trivial | apply And.intro)
theorem bs_i3 (h : Heap) (a b : Int) : buildSliceB Tryz.prog h 26 2 [(0, .int .i64 a), (1, .int .i64 b)] = some (.slice (some ⟨h.n, 0, none⟩) 2 2, h.push (.cells (ints [a, b]) 3 true)) := by kernel_rfl
section
variable {x : Ctx} {N : Nat} {E : Env} {h : Heap} {ops : Array Oper} {F : Ex → Env → Heap → Prop} {i : Nat} {Hs : List Heap} {L : List Heap → Prop} {nw : List (Nat × Nat × Blk)}
variable {d : Nat} {ty : TypeId} {pos : String} {af : Array Edge} {g : Option (Nat × Bool)} {ps : Array (Nat × Operand)}
theorem P_bs_i3 {a b : Int} (hN : Nat.blt d N = true) (hg : gval ops E g = some true) (hk : opsOK Tryz.prog ⟨some d, .buildSlice 26 2 ps, ty, pos, af, g⟩ = true)
    (hps : E.parts ps.toList = some [(0, .int .i64 a), (1, .int .i64 b)]) (k : R1 Tryz.prog K x N ops F (i + 1) ((d, .slice (some ⟨h.n, 0, none⟩) 2 2) :: E) (h.push (.cells (ints [a, b]) 3 true))) : R2 Tryz.prog K x N ops F i ⟨some d, .buildSlice 26 2 ps, ty, pos, af, g⟩ E h := P_bs hN hg hk hps (bs_i3 h _ _) k
theorem M_bs_i3 {a b : Int} (hN : Nat.blt d N = true) (hg : gval ops E g = some true) (hk : opsOK Tryz.prog ⟨some d, .buildSlice 26 2 ps, ty, pos, af, g⟩ = true)
    (hps : E.parts ps.toList = some [(0, .int .i64 a), (1, .int .i64 b)]) (k : S1 Tryz.prog K x N ops F (i + 1) ((d, .slice (some ⟨h.n, 0, none⟩) 2 2) :: E) (h.push (.cells (ints [a, b]) 3 true)) Hs L ((i, h.n, .cells (ints [a, b]) 3 true) :: nw)) : S2 Tryz.prog K x N ops F i ⟨some d, .buildSlice 26 2 ps, ty, pos, af, g⟩ E h Hs L nw := M_bs hN hg hk hps (bs_i3 h _ _) k
end
/-- A row between two others. -/
def mixv (bef aft row x y : Int) : Int := x * (aft - row) + y * (row - bef)
theorem mix_bd {x d : Int} (hx : -10000 ≤ x ∧ x ≤ 10000) (hd : 0 ≤ d ∧ d ≤ 20) : -200000 ≤ x * d ∧ x * d ≤ 200000 := by
  have h1 : x * d ≤ 10000 * d := Int.mul_le_mul_of_nonneg_right hx.2 hd.1
  have h2 : -10000 * d ≤ x * d := Int.mul_le_mul_of_nonneg_right (by omega) hd.1
  omega
theorem zi9 (hK : NoK K) {bef aft row x y r : Int} {h : Heap} (hx : -10000 ≤ x ∧ x ≤ 10000) (hy : -10000 ≤ y ∧ y ≤ 10000) (hb : 0 ≤ bef) (h1 : bef ≤ row) (h2 : row ≤ aft) (h3 : aft ≤ 20) (h4 : bef < aft) (hr : RuleP r) :
    CallW Tryz.prog K 105 #[.agg #[.int .i64 bef, .int .i64 aft], .int .i64 row, .int .i64 x, .int .i64 y, .int .i64 r] h (IsV (.int .i64 (rnd r (mixv bef aft row x y) (aft - bef))) h) := by
  have m1 := mix_bd hx (d := aft - row) (by omega)
  have m2 := mix_bd hy (d := row - bef) (by omega)
  refine body (N := 32) Tryz.func105 rfl (hK _ _ _ rfl) rfl rfl ?_
  (repeat' (first | apply zao | apply zad | (apply O_at; rfl) | (apply N_at; rfl) | (apply zal; rfl) | apply zam | (apply za4; exact zaA (by decide +kernel)) | apply zat | (apply zbL; rfl; refine .inr ?_; (focus repeat' first | exact trivial | exact Keeps.nil _ _ | apply And.intro | rfl | (apply Keeps.cons; iterate 2 (focus repeat' first | exact zaa | assumption | apply zab | (apply Ext.get; assumption))))) | apply zau | ((first | apply zac | apply zaI | apply zaH); rfl; rfl; rfl; rfl) | (apply za5; rfl; rfl; rfl; rfl; exact zai rfl; rfl; rfl) | (apply M_fa; rfl; rfl; rfl; rfl; exact zaU rfl; (first | exact Nat.zero_add _ | exact Nat.add_zero _ | rfl)) | (apply zdq; rfl; rfl; rfl; rfl; rfl; (unfold fit; omega)) | (apply M_mul; rfl; rfl; rfl; rfl; rfl; (unfold fit; omega)) | (((apply zaV; rfl; rfl; rfl; rfl; exact zaB rfl); (focus repeat' first | exact zaa | assumption | apply zab | (apply Ext.get; assumption)); (first | rfl | assumption)); (first | assumption | exact zaE _ _ | rfl | (focus simp [same, same.all2]; done)); (first | rfl | assumption | exact hwv _ | (simp [within]; omega))) | (apply M_bs_i3; rfl; rfl; rfl; rfl) | (apply zax; rfl; rfl; rfl; rfl; rfl; rfl; rfl; exact sum2_ok hK (by omega) (by omega) zaa; (rintro _ _ ⟨rfl, _⟩)) | (apply zax; rfl; rfl; rfl; rfl; rfl; rfl; rfl; exact zex hK (by omega) (by omega) hr; (rintro _ _ ⟨rfl, _⟩)) | fail))
  exact ⟨.inr rfl, _, rfl, rfl, by (focus repeat' first | exact Ext.refl _ | assumption | apply Ext.push | (refine Ext.trans ?_ (by assumption)))⟩
end Go.AX.Sa
