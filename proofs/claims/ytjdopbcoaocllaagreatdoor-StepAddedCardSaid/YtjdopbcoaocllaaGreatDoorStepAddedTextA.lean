/- The law StepAdded at the reading: what the functions that it calls answer (1). -/
import Derived.Test.YtjdopbcoaocllaaGreatDoorAxY
import Derived.Test.YtjdopbcoaocllaaGreatDoorSwA
namespace Go.AX.Sa
/-! Rounding: numbers. -/
theorem zfW (n u : Int) (hu : 0 < u) : (if n.tmod u < 0 then n.tdiv u - 1 else n.tdiv u) = n / u := by
  have hs : u.sign = 1 := Int.sign_eq_one_of_pos hu
  have h := Int.emod_nonneg n (by omega : u ≠ 0)
  have h2 := Int.emod_lt_of_pos n hu
  by_cases h0 : 0 ≤ n
  · rw [Int.tdiv_eq_ediv_of_nonneg h0, Int.tmod_eq_emod_of_nonneg h0, if_neg (by omega)]
  · by_cases hd : u ∣ n
    · have e1 : n.tmod u = 0 := Int.tmod_eq_zero_of_dvd hd
      have e2 : n.tdiv u = n / u := by rw [Int.tdiv_eq_ediv, if_pos (.inr hd)]; omega
      rw [e1, e2]; simp
    · have e2 : n.tdiv u = n / u + 1 := by rw [Int.tdiv_eq_ediv, if_neg (by simp [hd]; omega), hs]
      have e1 : n.tmod u = n % u - u := by
        have a := Int.tmod_add_mul_tdiv n u
        have b := Int.emod_add_mul_ediv n u
        rw [e2, Int.mul_add] at a
        omega
      rw [e1, if_pos (by omega), e2]; omega
theorem zbx (v u : Int) (hu : 0 < u) : v = u * (v / u) + v % u ∧ 0 ≤ v % u ∧ v % u < u :=
  ⟨(Int.mul_ediv_add_emod v u).symm, Int.emod_nonneg _ (by omega), Int.emod_lt_of_pos _ hu⟩
theorem ziu {v u n r : Int} (hu : 0 < u) (h : v = u * n + r) (h0 : 0 ≤ r) (h1 : r < u) : v / u = n := by
  rw [h, Int.add_comm, Int.add_mul_ediv_left _ _ (by omega), Int.ediv_eq_zero_of_lt h0 h1, Int.zero_add]
/-- A value rounded to units by a rule: 1 down, 2 up, 3 near, 4 even. -/
def upP (rule v u : Int) : Prop := (rule = 2 ∧ 0 < v % u) ∨ (rule = 3 ∧ u ≤ 2 * (v % u)) ∨ (rule = 4 ∧ (u < 2 * (v % u) ∨ (2 * (v % u) = u ∧ (v / u) % 2 ≠ 0)))
instance (rule v u : Int) : Decidable (upP rule v u) := by unfold upP; infer_instance
def rnd (rule v u : Int) : Int := if upP rule v u then v / u + 1 else v / u
theorem zh5 (rule v u : Int) : v / u ≤ rnd rule v u ∧ rnd rule v u ≤ v / u + 1 := by unfold rnd; split <;> omega
theorem zcT {rule v u : Int} (h : upP rule v u) : rnd rule v u = v / u + 1 := if_pos h
theorem zcC {rule v u : Int} (h : ¬ upP rule v u) : rnd rule v u = v / u := if_neg h
theorem up_is (v u : Int) (hu : 0 < u) : -((-v) / u) = rnd 2 v u := by
  obtain ⟨h, h0, h1⟩ := zbx v u hu
  by_cases hr : 0 < v % u
  · rw [zcT (.inl ⟨rfl, hr⟩), ziu (n := -(v / u) - 1) (r := u - v % u) hu (by rw [Int.mul_sub, Int.mul_neg, Int.mul_one]; omega) (by omega) (by omega)]
    omega
  · rw [zcC (by unfold upP; omega), ziu (n := -(v / u)) (r := 0) hu (by rw [Int.mul_neg]; omega) (Int.le_refl 0) hu]
    omega
theorem near_is (v u : Int) (hu : 0 < u) : (2 * v + u) / (2 * u) = rnd 3 v u := by
  obtain ⟨h, h0, h1⟩ := zbx v u hu
  by_cases hr : u ≤ 2 * (v % u)
  · rw [zcT (.inr (.inl ⟨rfl, hr⟩)), ziu (n := v / u + 1) (r := 2 * (v % u) - u) (by omega) (by rw [Int.mul_add, Int.mul_assoc, Int.mul_one]; omega) (by omega) (by omega)]
  · rw [zcC (by unfold upP; omega), ziu (n := v / u) (r := 2 * (v % u) + u) (by omega) (by rw [Int.mul_assoc]; omega) (by omega) (by omega)]
theorem half_is (v u : Int) (hu : 0 < u) : 2 * v = (2 * rnd 3 v u - 1) * u ↔ 2 * (v % u) = u := by
  obtain ⟨h, h0, h1⟩ := zbx v u hu
  have e1 : ∀ n : Int, (2 * n - 1) * u = 2 * (u * n) - u := fun n => by rw [Int.sub_mul, Int.one_mul, Int.mul_assoc, Int.mul_comm n u]
  rw [e1]
  by_cases hr : u ≤ 2 * (v % u)
  · rw [zcT (.inr (.inl ⟨rfl, hr⟩)), Int.mul_add, Int.mul_one]; omega
  · rw [zcC (by unfold upP; omega)]; omega
theorem zia (n : Int) : n.tmod 2 ≠ 0 ↔ n % 2 ≠ 0 := by
  have := Int.dvd_iff_tmod_eq_zero (a := 2) (b := n)
  have := Int.dvd_iff_emod_eq_zero (a := 2) (b := n)
  omega
theorem even_is (v u : Int) (hu : 0 < u) : (if 2 * (v % u) = u ∧ (rnd 3 v u).tmod 2 ≠ 0 then rnd 3 v u - 1 else rnd 3 v u) = rnd 4 v u := by
  obtain ⟨h, h0, h1⟩ := zbx v u hu
  by_cases hr : u ≤ 2 * (v % u)
  · rw [zcT (rule := 3) (.inr (.inl ⟨rfl, hr⟩))]
    by_cases he : 2 * (v % u) = u
    · by_cases hp : (v / u) % 2 = 0
      · rw [if_pos ⟨he, (zia _).2 (by omega)⟩, zcC (by unfold upP; omega)]; omega
      · rw [if_neg (fun w => (zia _).1 w.2 (by omega)), zcT (.inr (.inr ⟨rfl, .inr ⟨he, hp⟩⟩))]
    · rw [if_neg (fun w => he w.1), zcT (.inr (.inr ⟨rfl, .inl (by omega)⟩))]
  · rw [zcC (rule := 3) (by unfold upP; omega), if_neg (fun w => by omega), zcC (by unfold upP; omega)]
theorem zh4 {rule v v' u : Int} (hu : 0 < u) (h : v ≤ v') : rnd rule v u ≤ rnd rule v' u := by
  obtain ⟨h1, h2, h3⟩ := zbx v u hu
  obtain ⟨k1, k2, k3⟩ := zbx v' u hu
  have hd : v / u ≤ v' / u := Int.ediv_le_ediv hu h
  by_cases he : v / u = v' / u
  · have hr : v % u ≤ v' % u := by rw [he] at h1; omega
    by_cases hup : upP rule v u
    · have : upP rule v' u := by unfold upP at hup ⊢; rw [← he]; omega
      rw [zcT hup, zcT this, he]; exact Int.le_refl _
    · rw [zcC hup]
      have := (zh5 rule v' u).1
      omega
  · have a := (zh5 rule v u).2
    have b := (zh5 rule v' u).1
    omega
theorem zg5 {rule n u : Int} (hu : 0 < u) : rnd rule (n * u) u = n := by
  have e1 : n * u / u = n := Int.mul_ediv_cancel _ (by omega)
  have e2 : n * u % u = 0 := Int.mul_emod_left ..
  rw [zcC (by unfold upP; omega), e1]
/-- Between two numbers: its figure lies between them. -/
def mix (a b r x y : Int) : Int := x * (b - r) + y * (r - a)
theorem zib {a b r x y x' y' : Int} (h1 : a ≤ r) (h2 : r ≤ b) (hx : x ≤ x') (hy : y ≤ y') : mix a b r x y ≤ mix a b r x' y' := by
  unfold mix
  exact Int.add_le_add (Int.mul_le_mul_of_nonneg_right hx (by omega)) (Int.mul_le_mul_of_nonneg_right hy (by omega))
theorem mix_same (a b r x : Int) : mix a b r x x = x * (b - a) := by
  unfold mix
  rw [← Int.mul_add]
  congr 1
  omega
theorem zhm {rule a b r x y lo hi : Int} (h1 : a ≤ r) (h2 : r ≤ b) (hab : a < b) (x1 : lo ≤ x) (x2 : x ≤ hi) (y1 : lo ≤ y) (y2 : y ≤ hi) : lo ≤ rnd rule (mix a b r x y) (b - a) ∧ rnd rule (mix a b r x y) (b - a) ≤ hi := by
  have e1 := zh4 (rule := rule) (u := b - a) (by omega) (zib h1 h2 x1 y1)
  have e2 := zh4 (rule := rule) (u := b - a) (by omega) (zib h1 h2 x2 y2)
  rw [mix_same, zg5 (by omega)] at e1 e2
  exact ⟨e1, e2⟩
/-! Kept rows. -/
def Grow (kp : List Int) : Prop := ∀ i, i + 1 < kp.length → kp.getD i 0 < kp.getD (i + 1) 0
/-- Between which kept rows a row stands. -/
def At (kp : List Int) (r : Int) (i : Nat) : Prop := i < kp.length ∧ kp.getD i 0 ≤ r ∧ (i + 1 < kp.length → r < kp.getD (i + 1) 0)
end Go.AX.Sa

namespace Go.AX.Sa
open Go.Proofs
set_option maxRecDepth 100000
variable {K : Known}
/-! Rounding: what layer 4 does. -/
theorem zfu {n u : Int} (hu : 1 ≤ u) : (0 ≤ n → 0 ≤ n / u ∧ n / u ≤ n) ∧ (n ≤ 0 → n ≤ n / u ∧ n / u ≤ 0) := by
  refine ⟨fun h => ⟨Int.ediv_nonneg h (by omega), Int.ediv_le_self _ h⟩, fun h => ⟨?_, ?_⟩⟩
  · refine Int.le_ediv_of_mul_le (by omega) ?_
    have := Int.mul_le_mul_of_nonpos_left h hu
    omega
  · have := Int.ediv_le_ediv (c := u) (by omega) h
    simpa using this
theorem zcG (hK : NoK K) {n u : Int} {h : Heap} (hu : 1 ≤ u ∧ u ≤ 4194304) (hn : -4611686018427387904 ≤ n ∧ n ≤ 4611686018427387904) :
    CallW Tryz.prog K 142 #[.int .i64 n, .int .i64 u] h (IsV (.int .i64 (n / u)) h) := by
  have hu0 : 0 < u := by omega
  have hq := zfW n u hu0
  obtain ⟨d1, d2⟩ := zfu (n := n) hu.1
  have hb : -4611686018427387904 ≤ n / u ∧ n / u ≤ 4611686018427387904 := by omega
  refine body (N := 16) Tryz.func142 rfl (hK _ _ _ rfl) rfl rfl ?_
  by_cases hm : n.tmod u < 0
  · rw [if_pos hm] at hq
    (repeat' (first | apply zah | apply zad | (apply O_at; rfl) | (apply zag; rfl) | apply zaf | ((first | apply zae | apply zac); rfl; rfl; rfl; rfl) | fail))
    apply P_quo; rfl; rfl; rfl; rfl; rfl; omega
    · unfold fit; omega
    (repeat' (first | apply zah | apply zad | (apply O_at; rfl) | (apply zag; rfl) | apply zaf | ((first | apply zae | apply zac); rfl; rfl; rfl; rfl) | fail))
    apply zjI; rfl; rfl; rfl; rfl; rfl; omega
    (repeat' (first | apply zah | apply zad | (apply O_at; rfl) | (apply zag; rfl) | apply zaf | (apply zaE; rfl) | apply zav | apply zaw | ((first | apply zae | apply zac); rfl; rfl; rfl; rfl) | (apply zaA; rfl; rfl; rfl; rfl; rfl; omega) | (apply zc8; rfl; rfl; rfl; rfl; rfl; (unfold fit; omega)) | fail))
    refine ⟨.inr rfl, _, rfl, ?_, Ext.refl _⟩
    rw [← hq]; rfl
  · rw [if_neg hm] at hq
    (repeat' (first | apply zah | apply zad | (apply O_at; rfl) | (apply zag; rfl) | apply zaf | ((first | apply zae | apply zac); rfl; rfl; rfl; rfl) | fail))
    apply P_quo; rfl; rfl; rfl; rfl; rfl; omega
    · unfold fit; omega
    (repeat' (first | apply zah | apply zad | (apply O_at; rfl) | (apply zag; rfl) | apply zaf | ((first | apply zae | apply zac); rfl; rfl; rfl; rfl) | fail))
    apply zjI; rfl; rfl; rfl; rfl; rfl; omega
    (repeat' (first | apply zah | apply zad | (apply O_at; rfl) | (apply zag; rfl) | apply zaf | (apply zaG; rfl) | apply zat | apply zav | apply zaw | ((first | apply zae | apply zac); rfl; rfl; rfl; rfl) | (apply zaR; rfl; rfl; rfl; rfl; rfl; omega) | fail))
    refine ⟨.inr rfl, _, rfl, ?_, Ext.refl _⟩
    rw [← hq]; rfl
def dv (v u : Int) : Value := .agg #[.int .i64 v, .int .i64 u]
theorem down_ok (hK : NoK K) {v u : Int} {h : Heap} (hu : 1 ≤ u ∧ u ≤ 1048576) (hv : -1099511627776 ≤ v ∧ v ≤ 1099511627776) :
    CallW Tryz.prog K 108 #[dv v u] h (IsV (.int .i64 (v / u)) h) := by
  refine body (N := 8) Tryz.func108 rfl (hK _ _ _ rfl) rfl rfl ?_
  (repeat' (first | apply zah | apply zad | (apply O_at; rfl) | (apply zag; rfl) | apply zaf | apply zav | apply zaw | (apply zac; rfl; rfl; rfl; rfl) | (apply P_fa; rfl; rfl; rfl; rfl; exact zaU rfl; (first | exact Nat.zero_add _ | exact Nat.add_zero _ | rfl)) | (apply zan; rfl; rfl; rfl; rfl; exact zay rfl; (focus repeat' first | exact zaa | assumption); (first | rfl | assumption)) | (apply za4; rfl; rfl; rfl; rfl; exact zak rfl; rfl; rfl) | (apply zaj; rfl; rfl; rfl; rfl; rfl; rfl; exact zcG hK (by omega) (by omega); (rintro _ _ ⟨rfl, _⟩)) | fail))
  exact ⟨.inr rfl, _, rfl, rfl, by (focus repeat' first | exact Ext.refl _ | assumption | apply Ext.push | (refine Ext.trans ?_ (by assumption)))⟩
theorem up_ok (hK : NoK K) {v u : Int} {h : Heap} (hu : 1 ≤ u ∧ u ≤ 1048576) (hv : -1099511627776 ≤ v ∧ v ≤ 1099511627776) :
    CallW Tryz.prog K 109 #[dv v u] h (IsV (.int .i64 (rnd 2 v u)) h) := by
  have he := up_is v u (by omega)
  obtain ⟨d1, d2⟩ := zfu (n := -v) hu.1
  refine body (N := 10) Tryz.func109 rfl (hK _ _ _ rfl) rfl rfl ?_
  (repeat' (first | apply zah | apply zad | (apply O_at; rfl) | (apply zag; rfl) | apply zaf | (apply zac; rfl; rfl; rfl; rfl) | (apply P_fa; rfl; rfl; rfl; rfl; exact zaU rfl; (first | exact Nat.zero_add _ | exact Nat.add_zero _ | rfl)) | (apply P_neg; rfl; rfl; rfl; rfl; (unfold fit; omega)) | (apply zan; rfl; rfl; rfl; rfl; exact zay rfl; (focus repeat' first | exact zaa | assumption); (first | rfl | assumption)) | (apply za4; rfl; rfl; rfl; rfl; exact zak rfl; rfl; rfl) | fail))
  rw [Int.zero_sub]
  (repeat' (first | (apply O_at; rfl) | (apply zag; rfl) | apply zaf | apply zav | apply zaw | (apply zac; rfl; rfl; rfl; rfl) | (apply P_neg; rfl; rfl; rfl; rfl; (unfold fit; omega)) | (apply zaj; rfl; rfl; rfl; rfl; rfl; rfl; exact zcG hK (by omega) (by omega); (rintro _ _ ⟨rfl, _⟩)) | fail))
  refine ⟨.inr rfl, _, rfl, ?_, by (focus repeat' first | exact Ext.refl _ | assumption | apply Ext.push | (refine Ext.trans ?_ (by assumption)))⟩
  rw [← he, Int.zero_sub]; rfl
theorem zfl (hK : NoK K) {v u : Int} {h : Heap} (hu : 1 ≤ u ∧ u ≤ 1048576) (hv : -1099511627776 ≤ v ∧ v ≤ 1099511627776) :
    CallW Tryz.prog K 110 #[dv v u] h (IsV (.int .i64 (rnd 3 v u)) h) := by
  have he := near_is v u (by omega)
  refine body (N := 13) Tryz.func110 rfl (hK _ _ _ rfl) rfl rfl ?_
  (repeat' (first | apply zah | apply zad | (apply O_at; rfl) | (apply zag; rfl) | apply zaf | apply zav | apply zaw | (apply zac; rfl; rfl; rfl; rfl) | (apply P_fa; rfl; rfl; rfl; rfl; exact zaU rfl; (first | exact Nat.zero_add _ | exact Nat.add_zero _ | rfl)) | (apply zaV; rfl; rfl; rfl; rfl; rfl; (unfold fit; omega)) | (apply zhN; rfl; rfl; rfl; rfl; rfl; (unfold fit; omega)) | (apply zan; rfl; rfl; rfl; rfl; exact zay rfl; (focus repeat' first | exact zaa | assumption); (first | rfl | assumption)) | (apply za4; rfl; rfl; rfl; rfl; exact zak rfl; rfl; rfl) | (apply zaj; rfl; rfl; rfl; rfl; rfl; rfl; exact zcG hK (by omega) (by omega); (rintro _ _ ⟨rfl, _⟩)) | fail))
  refine ⟨.inr rfl, _, rfl, ?_, by (focus repeat' first | exact Ext.refl _ | assumption | apply Ext.push | (refine Ext.trans ?_ (by assumption)))⟩
  rw [← he]; rfl
theorem rnd_bd {r v u : Int} (hu : 1 ≤ u) (hv : -1099511627776 ≤ v ∧ v ≤ 1099511627776) : -1099511627777 ≤ rnd r v u ∧ rnd r v u ≤ 1099511627777 := by
  obtain ⟨d1, d2⟩ := zfu (n := v) hu
  have := zh5 r v u
  omega
theorem even_ok (hK : NoK K) {v u : Int} {h : Heap} (hu : 1 ≤ u ∧ u ≤ 1048576) (hv : -1099511627776 ≤ v ∧ v ≤ 1099511627776) :
    CallW Tryz.prog K 111 #[dv v u] h (IsV (.int .i64 (rnd 4 v u)) h) := by
  have he := even_is v u (by omega)
  have hh := half_is v u (by omega)
  have hb := rnd_bd (r := 3) hu.1 hv
  have hm : -2000000000000000000 ≤ (2 * rnd 3 v u - 1) * u ∧ (2 * rnd 3 v u - 1) * u ≤ 2000000000000000000 := by
    obtain ⟨s1, s2, s3⟩ := zbx v u (by omega)
    have e1 : (2 * rnd 3 v u - 1) * u = 2 * (u * rnd 3 v u) - u := by rw [Int.sub_mul, Int.one_mul, Int.mul_assoc, Int.mul_comm _ u]
    have e2 : u * rnd 3 v u = u * (v / u) ∨ u * rnd 3 v u = u * (v / u) + u := by
      unfold rnd; split
      · right; rw [Int.mul_add, Int.mul_one]
      · left; rfl
    omega
  generalize hr : rnd 3 v u = r at he hh hb hm
  refine body (N := 26) Tryz.func111 rfl (hK _ _ _ rfl) rfl rfl ?_
  by_cases h1 : 2 * v = (2 * r - 1) * u
  · have h1' := hh.1 h1
    by_cases h2 : r.tmod 2 = 0
    · rw [if_neg (fun w => w.2 h2)] at he
      (repeat' (first | apply zah | apply zad | (apply O_at; rfl) | (apply zag; rfl) | apply zaf | ((first | apply zae | apply zac); rfl; rfl; rfl; rfl) | (apply P_fa; rfl; rfl; rfl; rfl; exact zaU rfl; (first | exact Nat.zero_add _ | exact Nat.add_zero _ | rfl)) | (apply zbC; rfl; rfl; rfl; rfl; rfl; omega) | (apply zc8; rfl; rfl; rfl; rfl; rfl; (unfold fit; omega)) | (apply zhN; rfl; rfl; rfl; rfl; rfl; (unfold fit; omega)) | (apply zan; rfl; rfl; rfl; rfl; exact zay rfl; (focus repeat' first | exact zaa | assumption | (apply Ext.get; assumption)); (first | rfl | assumption)) | (apply zaF; rfl; rfl; rfl; rfl; exact za6 rfl; (focus repeat' first | exact zaa | assumption | (apply Ext.get; assumption)); (first | exact Nat.le_of_ble_eq_true rfl | (simp; done) | (simp; omega)); rfl) | (apply za4; rfl; rfl; rfl; rfl; exact zak rfl; rfl; rfl) | (apply zaj; rfl; rfl; rfl; rfl; rfl; rfl; exact hr ▸ zfl hK hu hv; (rintro _ _ ⟨rfl, _⟩)) | fail))
      apply zjI; rfl; rfl; rfl; rfl; rfl; omega
      (repeat' (first | apply zah | apply zad | (apply O_at; rfl) | (apply zag; rfl) | apply zaf | (apply zaG; rfl) | apply zat | apply zav | apply zaw | ((first | apply zae | apply zac); rfl; rfl; rfl; rfl) | (apply zaJ; rfl; rfl; rfl; rfl; rfl; rfl) | (apply ziF; rfl; rfl; rfl; rfl; rfl; omega) | fail))
      · exact ⟨.inr rfl, _, rfl, (by rw [← he]; rfl), by (focus repeat' first | exact Ext.refl _ | assumption | apply Ext.push | (refine Ext.trans ?_ (by assumption)))⟩
    · rw [if_pos ⟨h1', h2⟩] at he
      (repeat' (first | apply zah | apply zad | (apply O_at; rfl) | (apply zag; rfl) | apply zaf | ((first | apply zae | apply zac); rfl; rfl; rfl; rfl) | (apply P_fa; rfl; rfl; rfl; rfl; exact zaU rfl; (first | exact Nat.zero_add _ | exact Nat.add_zero _ | rfl)) | (apply zbC; rfl; rfl; rfl; rfl; rfl; omega) | (apply zc8; rfl; rfl; rfl; rfl; rfl; (unfold fit; omega)) | (apply zhN; rfl; rfl; rfl; rfl; rfl; (unfold fit; omega)) | (apply zan; rfl; rfl; rfl; rfl; exact zay rfl; (focus repeat' first | exact zaa | assumption | (apply Ext.get; assumption)); (first | rfl | assumption)) | (apply zaF; rfl; rfl; rfl; rfl; exact za6 rfl; (focus repeat' first | exact zaa | assumption | (apply Ext.get; assumption)); (first | exact Nat.le_of_ble_eq_true rfl | (simp; done) | (simp; omega)); rfl) | (apply za4; rfl; rfl; rfl; rfl; exact zak rfl; rfl; rfl) | (apply zaj; rfl; rfl; rfl; rfl; rfl; rfl; exact hr ▸ zfl hK hu hv; (rintro _ _ ⟨rfl, _⟩)) | fail))
      apply zjI; rfl; rfl; rfl; rfl; rfl; omega
      (repeat' (first | apply zah | apply zad | (apply O_at; rfl) | (apply zag; rfl) | apply zaf | (apply zaE; rfl) | apply zav | apply zbq | apply zaw | ((first | apply zae | apply zac); rfl; rfl; rfl; rfl) | (apply zaJ; rfl; rfl; rfl; rfl; rfl; rfl) | (apply P_neqT; rfl; rfl; rfl; rfl; rfl; omega) | (apply zc8; rfl; rfl; rfl; rfl; rfl; (unfold fit; omega)) | fail))
      · exact ⟨.inr rfl, _, rfl, (by rw [← he]; rfl), by (focus repeat' first | exact Ext.refl _ | assumption | apply Ext.push | (refine Ext.trans ?_ (by assumption)))⟩
  · have h1' : ¬ 2 * (v % u) = u := fun w => h1 (hh.2 w)
    rw [if_neg (fun w => h1' w.1)] at he
    (repeat' (first | apply zah | apply zad | (apply O_at; rfl) | (apply zag; rfl) | apply zaf | (apply zaG; rfl) | apply zat | apply zav | apply zaw | (apply zbj; rfl; rfl; rfl) | ((first | apply zae | apply zac); rfl; rfl; rfl; rfl) | (apply P_fa; rfl; rfl; rfl; rfl; exact zaU rfl; (first | exact Nat.zero_add _ | exact Nat.add_zero _ | rfl)) | (apply zaJ; rfl; rfl; rfl; rfl; rfl; rfl) | (apply zbR; rfl; rfl; rfl; rfl; rfl; omega) | (apply zc8; rfl; rfl; rfl; rfl; rfl; (unfold fit; omega)) | (apply zhN; rfl; rfl; rfl; rfl; rfl; (unfold fit; omega)) | (apply zan; rfl; rfl; rfl; rfl; exact zay rfl; (focus repeat' first | exact zaa | assumption | (apply Ext.get; assumption)); (first | rfl | assumption)) | (apply zaF; rfl; rfl; rfl; rfl; exact za6 rfl; (focus repeat' first | exact zaa | assumption | (apply Ext.get; assumption)); (first | exact Nat.le_of_ble_eq_true rfl | (simp; done) | (simp; omega)); rfl) | (apply za4; rfl; rfl; rfl; rfl; exact zak rfl; rfl; rfl) | (apply zaj; rfl; rfl; rfl; rfl; rfl; rfl; exact hr ▸ zfl hK hu hv; (rintro _ _ ⟨rfl, _⟩)) | fail))
    · exact ⟨.inr rfl, _, rfl, (by rw [← he]; rfl), by (focus repeat' first | exact Ext.refl _ | assumption | apply Ext.push | (refine Ext.trans ?_ (by assumption)))⟩
def fourV (w : Value) : Array Value := #[.func (.func 108) #[w] #[], .func (.func 109) #[w] #[], .func (.func 110) #[w] #[], .func (.func 111) #[w] #[]]
theorem fill_fn (w : Value) : fillB Tryz.prog 129 [(0, .func (.func 108) #[w] #[]), (1, .func (.func 109) #[w] #[]), (2, .func (.func 110) #[w] #[]), (3, .func (.func 111) #[w] #[])] = some (.agg (fourV w)) := by kernel_rfl
section
variable {x : Ctx} {N : Nat} {E : Env} {h : Heap} {ops : Array Oper} {F : Ex → Env → Heap → Prop} {i : Nat}
variable {d : Nat} {ty : TypeId} {pos : String} {af : Array Edge} {g : Option (Nat × Bool)} {ps : Array (Nat × Operand)}
theorem zjM {w : Value} (hN : Nat.blt d N = true) (hg : gval ops E g = some true) (hk : opsOK Tryz.prog ⟨some d, .build 129 ps, ty, pos, af, g⟩ = true)
    (hps : E.parts ps.toList = some [(0, .func (.func 108) #[w] #[]), (1, .func (.func 109) #[w] #[]), (2, .func (.func 110) #[w] #[]), (3, .func (.func 111) #[w] #[])]) (k : R1 Tryz.prog K x N ops F (i + 1) ((d, .agg (fourV w)) :: E) h) : R2 Tryz.prog K x N ops F i ⟨some d, .build 129 ps, ty, pos, af, g⟩ E h := zdl hN hg hk hps (fill_fn w) k
end
theorem rnd_one {v u : Int} : v / u = rnd 1 v u := by rw [zcC]; unfold upP; omega
theorem by_ok (hK : NoK K) {v u r : Int} {h : Heap} (hu : 1 ≤ u ∧ u ≤ 1048576) (hv : -1099511627776 ≤ v ∧ v ≤ 1099511627776) (hr : 1 ≤ r ∧ r ≤ 4) :
    CallW Tryz.prog K 71 #[dv v u, .int .i64 r] h (IsV (.int .i64 (rnd r v u)) h) := by
  refine body (N := 20) Tryz.func71 rfl (hK _ _ _ rfl) rfl rfl ?_
  rcases (show r = 1 ∨ r = 2 ∨ r = 3 ∨ r = 4 by omega) with rfl | rfl | rfl | rfl
  all_goals (repeat' (first | apply zah | apply zad | (apply O_at; rfl) | (apply zag; rfl) | apply zaf | apply zav | apply zaw | ((first | apply zae | apply zac); rfl; rfl; rfl; rfl) | (apply zc8; rfl; rfl; rfl; rfl; rfl; (unfold fit; omega)) | (apply zan; rfl; rfl; rfl; rfl; exact zay rfl; (focus repeat' first | exact zaa | assumption); (first | rfl | assumption)) | (apply zaF; rfl; rfl; rfl; rfl; exact za6 rfl; (focus repeat' first | exact zaa | assumption); (first | exact Nat.le_of_ble_eq_true rfl | (simp; done) | (simp; omega)); rfl) | (apply zaX; rfl; rfl; rfl; rfl; exact zak rfl; rfl; rfl; rfl) | (apply zjM; rfl; rfl; rfl; rfl) | (apply za4; rfl; rfl; rfl; rfl; exact zak rfl; rfl; rfl) | (apply zbi; rfl; rfl; rfl; rfl; exact zak rfl; rfl; rfl) | (apply P_bound; rfl; rfl; rfl; rfl; rfl) | (apply zlq; rfl; rfl; rfl; rfl; rfl; exact zdy rfl; exact zak rfl; (first | assumption | exact zq0 | exact zq1 | exact zq2 | exact zq3 | rfl | exact (Int.toNat_of_nonneg (by omega)).symm); omega) | (apply zaj; rfl; rfl; rfl; rfl; rfl; rfl; exact down_ok hK hu hv; (rintro _ _ ⟨rfl, _⟩)) | (apply zaj; rfl; rfl; rfl; rfl; rfl; rfl; exact up_ok hK hu hv; (rintro _ _ ⟨rfl, _⟩)) | (apply zaj; rfl; rfl; rfl; rfl; rfl; rfl; exact zfl hK hu hv; (rintro _ _ ⟨rfl, _⟩)) | (apply zaj; rfl; rfl; rfl; rfl; rfl; rfl; exact even_ok hK hu hv; (rintro _ _ ⟨rfl, _⟩)) | fail))
  · exact ⟨.inr rfl, _, rfl, (by rw [← rnd_one]; rfl), by (focus repeat' first | exact Ext.refl _ | assumption | apply Ext.push | (refine Ext.trans ?_ (by assumption)))⟩
  all_goals exact ⟨.inr rfl, _, rfl, rfl, by (focus repeat' first | exact Ext.refl _ | assumption | apply Ext.push | (refine Ext.trans ?_ (by assumption)))⟩
end Go.AX.Sa

namespace Go.AX.Sa
open Go.Proofs
set_option maxRecDepth 100000
variable {K : Known}
/-! Rounding as it is asked for, and the specification's. -/
theorem zb0 (hK : NoK K) {n a b : Int} {h : Heap} : CallW Tryz.prog K 66 #[.int .i64 n, .int .i64 a, .int .i64 b] h (IfB (a ≤ n ∧ n ≤ b) h) := by
  refine body (N := 15) Tryz.func66 rfl (hK _ _ _ rfl) rfl rfl ?_
  (repeat' (first | apply zah | apply zad | (apply O_at; rfl) | (apply zag; rfl) | apply zaf | apply zav | apply zaw | (apply zbj; rfl; rfl; rfl) | ((first | apply zae | apply zac); rfl; rfl; rfl; rfl) | (apply zaJ; rfl; rfl; rfl; rfl; rfl; rfl) | (apply zjJ; rfl; rfl; rfl; rfl; rfl; all_goals intro _) | fail))
  all_goals (refine ⟨.inr rfl, _, rfl, ?_⟩; first | (refine .inl ⟨rfl, by omega, ?_⟩; (focus repeat' first | exact Ext.refl _ | assumption | apply Ext.push | (refine Ext.trans ?_ (by assumption)) | (refine Ext.set ?_ (Nat.le_succ _) (zab zaa) _) | (refine Ext.ofBut ?_ (by assumption) (by first | exact Nat.le_refl _ | omega))); done) | (refine .inr ⟨rfl, by omega, ?_⟩; (focus repeat' first | exact Ext.refl _ | assumption | apply Ext.push | (refine Ext.trans ?_ (by assumption)) | (refine Ext.set ?_ (Nat.le_succ _) (zab zaa) _) | (refine Ext.ofBut ?_ (by assumption) (by first | exact Nat.le_refl _ | omega))); done))
theorem zfc (hK : NoK K) {n a b : Int} {h : Heap} : CallW Tryz.prog K 68 #[.int .i64 n, .int .i64 a, .int .i64 b] h (IfB (a ≤ n ∧ n ≤ b) h) := by
  refine body (N := 15) Tryz.func68 rfl (hK _ _ _ rfl) rfl rfl ?_
  (repeat' (first | apply zah | apply zad | (apply O_at; rfl) | (apply zag; rfl) | apply zaf | apply zav | apply zaw | (apply zbj; rfl; rfl; rfl) | ((first | apply zae | apply zac); rfl; rfl; rfl; rfl) | (apply zaJ; rfl; rfl; rfl; rfl; rfl; rfl) | (apply zjJ; rfl; rfl; rfl; rfl; rfl; all_goals intro _) | (apply zls; rfl; rfl; rfl; rfl; rfl; all_goals intro _) | fail))
  all_goals (refine ⟨.inr rfl, _, rfl, ?_⟩; first | (refine .inl ⟨rfl, by omega, ?_⟩; (focus repeat' first | exact Ext.refl _ | assumption | apply Ext.push | (refine Ext.trans ?_ (by assumption)) | (refine Ext.set ?_ (Nat.le_succ _) (zab zaa) _) | (refine Ext.ofBut ?_ (by assumption) (by first | exact Nat.le_refl _ | omega))); done) | (refine .inr ⟨rfl, by omega, ?_⟩; (focus repeat' first | exact Ext.refl _ | assumption | apply Ext.push | (refine Ext.trans ?_ (by assumption)) | (refine Ext.set ?_ (Nat.le_succ _) (zab zaa) _) | (refine Ext.ofBut ?_ (by assumption) (by first | exact Nat.le_refl _ | omega))); done))
def RuleP (r : Int) : Prop := 1 ≤ r ∧ r ≤ 4
instance (r : Int) : Decidable (RuleP r) := by unfold RuleP; infer_instance
theorem zeP (hK : NoK K) {r : Int} {h : Heap} : CallW Tryz.prog K 70 #[.int .i64 r] h (IfB (RuleP r) h) := by
  refine body (N := 9) Tryz.func70 rfl (hK _ _ _ rfl) rfl rfl ?_
  (repeat' (first | apply zah | apply zad | (apply O_at; rfl) | (apply zag; rfl) | apply zaf | apply zav | apply zaw | (apply zbj; rfl; rfl; rfl) | ((first | apply zae | apply zac); rfl; rfl; rfl; rfl) | (apply zaJ; rfl; rfl; rfl; rfl; rfl; rfl) | (apply zjJ; rfl; rfl; rfl; rfl; rfl; all_goals intro _) | fail))
  all_goals (refine ⟨.inr rfl, _, rfl, ?_⟩; first | (refine .inl ⟨rfl, by unfold RuleP at *; omega, ?_⟩; (focus repeat' first | exact Ext.refl _ | assumption | apply Ext.push | (refine Ext.trans ?_ (by assumption)) | (refine Ext.set ?_ (Nat.le_succ _) (zab zaa) _) | (refine Ext.ofBut ?_ (by assumption) (by first | exact Nat.le_refl _ | omega))); done) | (refine .inr ⟨rfl, by unfold RuleP at *; omega, ?_⟩; (focus repeat' first | exact Ext.refl _ | assumption | apply Ext.push | (refine Ext.trans ?_ (by assumption)) | (refine Ext.set ?_ (Nat.le_succ _) (zab zaa) _) | (refine Ext.ofBut ?_ (by assumption) (by first | exact Nat.le_refl _ | omega))); done))
theorem zjh (hK : NoK K) {r : Int} {h : Heap} : CallW Tryz.prog K 30 #[.int .i64 r] h (IfB (RuleP r) h) := by
  refine body (N := 9) Tryz.func30 rfl (hK _ _ _ rfl) rfl rfl ?_
  (repeat' (first | apply zah | apply zad | (apply O_at; rfl) | (apply zag; rfl) | apply zaf | apply zav | apply zaw | (apply zbj; rfl; rfl; rfl) | ((first | apply zae | apply zac); rfl; rfl; rfl; rfl) | (apply zaJ; rfl; rfl; rfl; rfl; rfl; rfl) | (apply zjJ; rfl; rfl; rfl; rfl; rfl; all_goals intro _) | (apply zls; rfl; rfl; rfl; rfl; rfl; all_goals intro _) | fail))
  all_goals (refine ⟨.inr rfl, _, rfl, ?_⟩; first | (refine .inl ⟨rfl, by unfold RuleP at *; omega, ?_⟩; (focus repeat' first | exact Ext.refl _ | assumption | apply Ext.push | (refine Ext.trans ?_ (by assumption)) | (refine Ext.set ?_ (Nat.le_succ _) (zab zaa) _) | (refine Ext.ofBut ?_ (by assumption) (by first | exact Nat.le_refl _ | omega))); done) | (refine .inr ⟨rfl, by unfold RuleP at *; omega, ?_⟩; (focus repeat' first | exact Ext.refl _ | assumption | apply Ext.push | (refine Ext.trans ?_ (by assumption)) | (refine Ext.set ?_ (Nat.le_succ _) (zab zaa) _) | (refine Ext.ofBut ?_ (by assumption) (by first | exact Nat.le_refl _ | omega))); done))
theorem to_ok (hK : NoK K) {v u r : Int} {h : Heap} (hu : 1 ≤ u ∧ u ≤ 1048576) (hv : -1099511627776 ≤ v ∧ v ≤ 1099511627776) (hr : RuleP r) :
    CallW Tryz.prog K 27 #[.int .i64 v, .int .i64 u, .int .i64 r] h (IsV (.tuple #[.int .i64 (rnd r v u), .int .i64 0]) h) := by
  refine body (N := 26) Tryz.func27 rfl (hK _ _ _ rfl) rfl rfl ?_
  (repeat' (first | apply zah | apply zad | (apply O_at; rfl) | (apply zag; rfl) | apply zaf | (apply zaG; rfl) | apply zat | apply zav | apply zaw | ((first | apply zae | apply zac | apply zbf); rfl; rfl; rfl; rfl) | (apply zaJ; rfl; rfl; rfl; rfl; rfl; rfl) | (apply zjL; rfl; rfl; rfl; rfl) | (apply zaj; rfl; rfl; rfl; rfl; rfl; rfl; exact yes (zb0 hK) hv; (rintro _ _ ⟨rfl, _⟩)) | (apply zaj; rfl; rfl; rfl; rfl; rfl; rfl; exact yes (zb0 hK) hu; (rintro _ _ ⟨rfl, _⟩)) | (apply zaj; rfl; rfl; rfl; rfl; rfl; rfl; exact yes (zeP hK) hr; (rintro _ _ ⟨rfl, _⟩)) | (apply zaj; rfl; rfl; rfl; rfl; rfl; rfl; exact by_ok hK hu hv hr; (rintro _ _ ⟨rfl, _⟩)) | fail))
  exact ⟨.inr rfl, _, rfl, rfl, by (focus repeat' first | assumption | (refine Ext.trans ?_ (by assumption)))⟩
theorem to_bad (hK : NoK K) {v u r : Int} {h : Heap} (hu : 1 ≤ u ∧ u ≤ 1048576) (hv : -1099511627776 ≤ v ∧ v ≤ 1099511627776) (hr : ¬ RuleP r) :
    CallW Tryz.prog K 27 #[.int .i64 v, .int .i64 u, .int .i64 r] h (IsV (.tuple #[.int .i64 0, .int .i64 2]) h) := by
  refine body (N := 26) Tryz.func27 rfl (hK _ _ _ rfl) rfl rfl ?_
  (repeat' (first | apply zah | apply zad | (apply O_at; rfl) | (apply zag; rfl) | apply zaf | (apply zaE; rfl) | apply zav | apply zbq | apply zaw | ((first | apply zae | apply zac | apply zbf); rfl; rfl; rfl; rfl) | (apply zaJ; rfl; rfl; rfl; rfl; rfl; rfl) | (apply zaj; rfl; rfl; rfl; rfl; rfl; rfl; exact yes (zb0 hK) hv; (rintro _ _ ⟨rfl, _⟩)) | (apply zaj; rfl; rfl; rfl; rfl; rfl; rfl; exact yes (zb0 hK) hu; (rintro _ _ ⟨rfl, _⟩)) | (apply zaj; rfl; rfl; rfl; rfl; rfl; rfl; exact no (zeP hK) hr; (rintro _ _ ⟨rfl, _⟩)) | fail))
  exact ⟨.inr rfl, _, rfl, rfl, by (focus repeat' first | assumption | (refine Ext.trans ?_ (by assumption)))⟩
theorem zkQ (hK : NoK K) {r : Int} {h : Heap} : CallW Tryz.prog K 72 #[.int .i64 r] h (IfB (RuleP r) h) := by
  refine body (N := 12) Tryz.func72 rfl (hK _ _ _ rfl) rfl rfl ?_
  by_cases hr : RuleP r
  · (repeat' (first | apply zah | apply zad | (apply O_at; rfl) | (apply zag; rfl) | apply zaf | apply zav | apply zaw | ((first | apply zae | apply zac); rfl; rfl; rfl; rfl) | (apply zba; rfl; rfl; rfl; rfl; rfl) | (apply zbC; rfl; rfl; rfl; rfl; rfl; omega) | (apply zaj; rfl; rfl; rfl; rfl; rfl; rfl; exact to_ok hK (by decide) (by decide) hr; (rintro _ _ ⟨rfl, _⟩)) | fail))
    exact ⟨.inr rfl, _, rfl, .inl ⟨rfl, hr, by (focus repeat' first | assumption)⟩⟩
  · (repeat' (first | apply zah | apply zad | (apply O_at; rfl) | (apply zag; rfl) | apply zaf | apply zav | apply zaw | ((first | apply zae | apply zac); rfl; rfl; rfl; rfl) | (apply zba; rfl; rfl; rfl; rfl; rfl) | (apply zbR; rfl; rfl; rfl; rfl; rfl; omega) | (apply zaj; rfl; rfl; rfl; rfl; rfl; rfl; exact to_bad hK (by decide) (by decide) hr; (rintro _ _ ⟨rfl, _⟩)) | fail))
    exact ⟨.inr rfl, _, rfl, .inr ⟨rfl, hr, by (focus repeat' first | assumption)⟩⟩
theorem zi9 (hK : NoK K) {v u r : Int} {h : Heap} (hu : 1 ≤ u ∧ u ≤ 1048576) (hv : -1099511627776 ≤ v ∧ v ≤ 1099511627776) (hr : RuleP r) :
    CallW Tryz.prog K 73 #[.int .i64 v, .int .i64 u, .int .i64 r] h (IsV (.int .i64 (rnd r v u)) h) := by
  refine body (N := 17) Tryz.func73 rfl (hK _ _ _ rfl) rfl rfl ?_
  (repeat' (first | apply zah | apply zad | (apply O_at; rfl) | (apply zag; rfl) | apply zaf | apply zav | apply zaw | ((first | apply zae | apply zac); rfl; rfl; rfl; rfl) | (apply zba; rfl; rfl; rfl; rfl; rfl) | (apply zaj; rfl; rfl; rfl; rfl; rfl; rfl; exact to_ok hK hu hv hr; (rintro _ _ ⟨rfl, _⟩)) | fail))
  exact ⟨.inr rfl, _, rfl, rfl, by (focus repeat' first | assumption)⟩

end Go.AX.Sa

namespace Go.AX.Sa
open Go.Proofs
set_option maxRecDepth 100000
variable {K : Known}
/-! Tables of proportional parts. -/
def prt (r d p : Int) (k : Nat) : Int := rnd r (d * (k : Nat)) p
def prts (r d p : Int) (k : Nat) : List Int := (List.range k).map (prt r d p)
theorem row_set {l : List Int} {n : Nat} {x : Int} (h : l.length < n) : (l ++ List.replicate (n - l.length) 0).set l.length x = (l ++ [x]) ++ List.replicate (n - (l.length + 1)) 0 := by
  rw [List.set_append_right _ _ (Nat.le_refl _), Nat.sub_self, show n - l.length = (n - (l.length + 1)) + 1 by omega, List.replicate_succ, List.set_cons_zero, List.append_assoc]
  rfl
def OkL (l : List Int) (h : Heap) (v : Value) (h1 : Heap) : Prop := ∃ q cap, v = .tuple #[.slice q l.length cap, .int .i64 0] ∧ Rd h1 q (ints l) ∧ Ext h h1
def PartP (d p : Int) : Prop := (-19998 ≤ d ∧ d ≤ 19998) ∧ 1 ≤ p ∧ p ≤ 13
instance (d p : Int) : Decidable (PartP d p) := by unfold PartP; infer_instance
def nilV : Value := .slice none 0 0
end Go.AX.Sa

namespace Go.AX.Sa
open Go.Proofs
set_option maxRecDepth 100000
variable {K : Known}
/-! Tables, kept lists and truths: which are as defined. -/
def ValP (a b : Int) : Prop := -9999 ≤ a ∧ a ≤ b ∧ b ≤ 9999 ∧ b ≤ a + 4
theorem zkP (hK : NoK K) {a b m w : Int} {h : Heap} (hm : 0 ≤ m ∧ m ≤ 100000) : CallW Tryz.prog K 140 #[.agg #[.int .i64 a, .int .i64 b], .int .i64 m, .int .i64 w] h (IfB ((-m ≤ a ∧ a ≤ m) ∧ (-m ≤ b ∧ b ≤ m) ∧ 0 ≤ b - a ∧ b - a ≤ w) h) := by
  refine body (N := 30) Tryz.func140 rfl (hK _ _ _ rfl) rfl rfl ?_
  (repeat' (first | apply zah | apply zad | (apply O_at; rfl) | (apply zag; rfl) | apply zaf | apply zav | apply zaw | (apply zbj; rfl; rfl; rfl) | ((first | apply zae | apply zac); rfl; rfl; rfl; rfl) | (apply P_fa; rfl; rfl; rfl; rfl; exact zaU rfl; (first | exact Nat.zero_add _ | exact Nat.add_zero _ | rfl)) | (apply zaJ; rfl; rfl; rfl; rfl; rfl; rfl) | (apply P_neg; rfl; rfl; rfl; rfl; (unfold fit; omega)) | (apply zc8; rfl; rfl; rfl; rfl; rfl; (unfold fit; omega)) | (apply zan; rfl; rfl; rfl; rfl; exact zay rfl; (focus repeat' first | exact zaa | assumption | (apply Ext.get; assumption)); (first | rfl | assumption)) | (apply za4; rfl; rfl; rfl; rfl; exact zak rfl; rfl; rfl) | (apply zaj; rfl; rfl; rfl; rfl; rfl; rfl; exact zb0 hK; (rintro _ _ (⟨rfl, _, _⟩ | ⟨rfl, _, _⟩))) | fail))
  all_goals (refine ⟨.inr rfl, _, rfl, ?_⟩; first | (refine .inl ⟨rfl, by omega, ?_⟩; (focus repeat' first | exact Ext.refl _ | assumption | apply Ext.push | (refine Ext.trans ?_ (by assumption)) | (refine Ext.set ?_ (Nat.le_succ _) (zab zaa) _) | (refine Ext.ofBut ?_ (by assumption) (by first | exact Nat.le_refl _ | omega))); done) | (refine .inr ⟨rfl, by omega, ?_⟩; (focus repeat' first | exact Ext.refl _ | assumption | apply Ext.push | (refine Ext.trans ?_ (by assumption)) | (refine Ext.set ?_ (Nat.le_succ _) (zab zaa) _) | (refine Ext.ofBut ?_ (by assumption) (by first | exact Nat.le_refl _ | omega))); done))
theorem zgl (hK : NoK K) {a b : Int} {h : Heap} : CallW Tryz.prog K 101 #[.agg #[.int .i64 a, .int .i64 b]] h (IfB (¬ ValP a b) h) := by
  refine body (N := 6) Tryz.func101 rfl (hK _ _ _ rfl) rfl rfl ?_
  (repeat' (first | apply zah | apply zad | (apply O_at; rfl) | (apply zag; rfl) | apply zaf | apply zav | apply zaw | ((first | apply zac | apply zbf); rfl; rfl; rfl; rfl) | (apply zaF; rfl; rfl; rfl; rfl; exact za6 rfl; (focus repeat' first | exact zaa | assumption); (first | exact Nat.le_of_ble_eq_true rfl | (simp; done) | (simp; omega)); rfl) | (apply za4; rfl; rfl; rfl; rfl; exact zak rfl; rfl; rfl) | (apply zaj; rfl; rfl; rfl; rfl; rfl; rfl; exact zkP hK (by omega); (rintro _ _ (⟨rfl, _, _⟩ | ⟨rfl, _, _⟩))) | fail))
  all_goals (refine ⟨.inr rfl, _, rfl, ?_⟩; first | (refine .inl ⟨rfl, by unfold ValP at *; omega, ?_⟩; (focus repeat' first | exact Ext.refl _ | assumption | apply Ext.push | (refine Ext.trans ?_ (by assumption)) | (refine Ext.set ?_ (Nat.le_succ _) (zab zaa) _) | (refine Ext.ofBut ?_ (by assumption) (by first | exact Nat.le_refl _ | omega))); done) | (refine .inr ⟨rfl, by unfold ValP at *; omega, ?_⟩; (focus repeat' first | exact Ext.refl _ | assumption | apply Ext.push | (refine Ext.trans ?_ (by assumption)) | (refine Ext.set ?_ (Nat.le_succ _) (zab zaa) _) | (refine Ext.ofBut ?_ (by assumption) (by first | exact Nat.le_refl _ | omega))); done))
theorem zg7 (hK : NoK K) {a b : Int} {h : Heap} : CallW Tryz.prog K 67 #[.agg #[.int .i64 a, .int .i64 b]] h (IfB (ValP a b) h) := by
  refine body (N := 17) Tryz.func67 rfl (hK _ _ _ rfl) rfl rfl ?_
  (repeat' (first | apply zah | apply zad | (apply O_at; rfl) | (apply zag; rfl) | apply zaf | apply zav | apply zaw | (apply zbj; rfl; rfl; rfl) | ((first | apply zae | apply zac); rfl; rfl; rfl; rfl) | (apply P_fa; rfl; rfl; rfl; rfl; exact zaU rfl; (first | exact Nat.zero_add _ | exact Nat.add_zero _ | rfl)) | (apply zaJ; rfl; rfl; rfl; rfl; rfl; rfl) | (apply zaV; rfl; rfl; rfl; rfl; rfl; (unfold fit; omega)) | (apply zan; rfl; rfl; rfl; rfl; exact zay rfl; (focus repeat' first | exact zaa | assumption | (apply Ext.get; assumption)); (first | rfl | assumption)) | (apply za4; rfl; rfl; rfl; rfl; exact zak rfl; rfl; rfl) | (apply P_min; rfl; rfl; rfl; rfl; rfl; rfl) | (apply zaj; rfl; rfl; rfl; rfl; rfl; rfl; exact zfc hK; (rintro _ _ (⟨rfl, _, _⟩ | ⟨rfl, _, _⟩))) | fail))
  all_goals (refine ⟨.inr rfl, _, rfl, ?_⟩; first | (refine .inl ⟨rfl, by unfold ValP at *; omega, ?_⟩; (focus repeat' first | exact Ext.refl _ | assumption | apply Ext.push | (refine Ext.trans ?_ (by assumption)) | (refine Ext.set ?_ (Nat.le_succ _) (zab zaa) _) | (refine Ext.ofBut ?_ (by assumption) (by first | exact Nat.le_refl _ | omega))); done) | (refine .inr ⟨rfl, by unfold ValP at *; omega, ?_⟩; (focus repeat' first | exact Ext.refl _ | assumption | apply Ext.push | (refine Ext.trans ?_ (by assumption)) | (refine Ext.set ?_ (Nat.le_succ _) (zab zaa) _) | (refine Ext.ofBut ?_ (by assumption) (by first | exact Nat.le_refl _ | omega))); done))
/-- IndexFunc(s, isNoValue) -/
def Vals (l : List (Int × Int)) : Prop := ∀ k, k < l.length → ValP (l.getD k (0, 0)).1 (l.getD k (0, 0)).2
theorem zgq (hK : NoK K) {l : List (Int × Int)} {p : Option Addr} {cap : Nat} {h : Heap} (hl : l.length ≤ 1000) (hr : Rd h p (spanCells l)) :
    CallW Tryz.prog K 139 #[.slice p l.length cap, .func (.func 101) #[] #[]] h fun v h1 => ∃ n : Int, v = .int .i64 n ∧ (0 ≤ n ↔ ¬ Vals l) ∧ Ext h h1 := by
  refine body (N := 19) Tryz.func139 rfl (hK _ _ _ rfl) rfl rfl ?_
  (repeat' (first | apply zah | apply zad | (apply O_at; rfl) | (apply zag; rfl) | apply zaf | apply zal | ((first | apply zae | apply zac); rfl; rfl; rfl; rfl) | (apply zaN; rfl; rfl; rfl; rfl; rfl; rfl; exact zao rfl) | fail))
  refine zaT (fun k : Nat => [(0, .slice p l.length cap), (1, .func (.func 101) #[] #[]), (7, .int .i64 (l.length : Nat)), (8, .int .i64 (k : Nat))])
    (fun k h' => k ≤ l.length ∧ Ext h h' ∧ ∀ j, j < k → ValP (l.getD j (0, 0)).1 (l.getD j (0, 0)).2) (fun k => l.length - k) ?_ 0 ?_ ?_
  · intro k h' ⟨hk, hx, hj⟩ ih
    by_cases hlt : k < l.length
    · obtain ⟨b, e, own, rfl, hg⟩ := hr.at (by rw [zai]; omega)
      (repeat' (first | apply zah | apply zad | (apply O_at; rfl) | (apply zag; rfl) | apply zaf | (apply zaE; rfl) | (apply zaG; rfl) | apply zal | apply zat | apply za2 | apply zav | apply zbq | apply zeZ | apply ze0 | apply za3 | apply zaI | apply zaM | apply zap | apply zaw | ((first | apply zae | apply zac); rfl; rfl; rfl; rfl) | (apply P_lss; rfl; rfl; rfl; rfl; rfl; all_goals intro _) | (apply zaV; rfl; rfl; rfl; rfl; rfl; (unfold fit; omega)) | (apply zch; rfl; rfl; rfl; rfl; rfl; exact zao rfl; exact zak rfl; (first | assumption | rfl | exact (Int.toNat_of_nonneg (by omega)).symm); omega) | (apply zaF; rfl; rfl; rfl; rfl; exact za6 rfl; (focus repeat' first | assumption | (apply Ext.get; assumption)); (first | exact Nat.le_of_ble_eq_true rfl | (simp; done) | (simp; omega) | (rw [zai]; omega)); (first | exact zaB (by omega) | rfl)) | (apply zaj; rfl; rfl; rfl; rfl; rfl; rfl; exact zgl hK; (rintro _ _ (⟨rfl, _, _⟩ | ⟨rfl, _, _⟩))) | fail))
      · refine ⟨.inr rfl, _, rfl, (k : Int), rfl, ⟨fun _ q => ?_, fun _ => by omega⟩, by (focus repeat' first | exact Ext.refl _ | assumption | (refine Ext.trans ?_ (by assumption)))⟩
        rename_i hns _ _; exact hns (q k hlt)
      · rename_i hns _
        refine zax (ih (k + 1) _ ?_ ⟨hlt, ?_, fun j hj' => ?_⟩) ?_
        · omega
        · (focus repeat' first | exact Ext.refl _ | assumption | (refine Ext.trans ?_ (by assumption)))
        · by_cases hjk : j = k
          · subst hjk; exact Classical.not_not.1 hns
          · exact hj j (by omega)
        · (focus repeat' first | rfl | exact trivial | apply And.intro)
      · omega
    · (repeat' (first | apply zah | apply zad | (apply O_at; rfl) | (apply zag; rfl) | apply zaf | (apply zaE; rfl) | (apply zaG; rfl) | apply zal | apply zat | apply za2 | apply zav | apply za3 | apply zaI | apply zaM | apply zaw | ((first | apply zae | apply zac); rfl; rfl; rfl; rfl) | (apply P_lss; rfl; rfl; rfl; rfl; rfl; all_goals intro _) | fail))
      · omega
      · refine ⟨.inr rfl, _, rfl, -1, rfl, ⟨fun q => by omega, fun q => absurd (fun j hj' => hj j (by omega)) q⟩, by (focus repeat' first | exact Ext.refl _ | assumption | (refine Ext.trans ?_ (by assumption)))⟩
  · exact ⟨Nat.zero_le _, Ext.refl _, fun j hj => by omega⟩
  · (focus repeat' first | rfl | exact trivial | apply And.intro)
/-- ContainsFunc(s, isNoValue) -/
theorem zek (hK : NoK K) {l : List (Int × Int)} {p : Option Addr} {cap : Nat} {h : Heap} (hl : l.length ≤ 1000) (hr : Rd h p (spanCells l)) :
    CallW Tryz.prog K 100 #[.slice p l.length cap, .func (.func 101) #[] #[]] h (IfB (¬ Vals l) h) := by
  refine body (N := 9) Tryz.func100 rfl (hK _ _ _ rfl) rfl rfl ?_
  (repeat' (first | apply zah | apply zad | (apply O_at; rfl) | (apply zag; rfl) | apply zaf | ((first | apply zae | apply zac); rfl; rfl; rfl; rfl) | fail))
  apply zaj; rfl; rfl; rfl; rfl; rfl; rfl; exact zgq hK hl hr
  rintro _ _ ⟨n, rfl, hn, hx⟩
  (repeat' (first | (apply O_at; rfl) | (apply zag; rfl) | apply zaf | apply zav | apply zaw | ((first | apply zae | apply zac); rfl; rfl; rfl; rfl) | (apply zls; rfl; rfl; rfl; rfl; rfl; all_goals intro _) | fail))
  · refine ⟨.inr rfl, _, rfl, .inl ⟨rfl, hn.1 (by assumption), by (focus repeat' first | assumption)⟩⟩
  · rename_i hc; refine ⟨.inr rfl, _, rfl, .inr ⟨rfl, fun q => hc (hn.2 q), by (focus repeat' first | assumption)⟩⟩
structure Tb where
  q : Option Addr
  k : Nat
  s : List (Int × Int)
  r : Int
  o : Int
def tbV (T : Tb) : Value := .agg #[.slice T.q T.s.length T.k, .int .i64 T.r, .int .i64 T.o]
structure TbAt (T : Tb) (h : Heap) : Prop where
  rd : Rd h T.q (spanCells T.s)
  b : ∀ a, T.q = some a → a.block < h.n
theorem TbAt.ext {T : Tb} {h h1 : Heap} (x : TbAt T h) (e : Ext h h1) : TbAt T h1 := ⟨x.rd.ext e, fun a q => Nat.lt_of_lt_of_le (x.b a q) e.n⟩
def OffP (o : Int) : Prop := 0 ≤ o ∧ o ≤ 100
def TbP (T : Tb) : Prop := (2 ≤ T.s.length ∧ T.s.length ≤ 13) ∧ Vals T.s ∧ RuleP T.r ∧ OffP T.o
theorem zjq (hK : NoK K) {T : Tb} {h : Heap} (hl : T.s.length ≤ 1000) (hT : TbAt T h) : CallW Tryz.prog K 62 #[tbV T] h (IfB (TbP T) h) := by
  obtain ⟨q, k, s, r, o⟩ := T
  have hr := hT.rd
  dsimp only [tbV] at hl hr ⊢
  refine body (N := 23) Tryz.func62 rfl (hK _ _ _ rfl) rfl rfl ?_
  (repeat' (first | apply zah | apply zad | (apply O_at; rfl) | (apply zag; rfl) | apply zaf | apply zav | apply zaw | (apply zbj; rfl; rfl; rfl) | ((first | apply zae | apply zac | apply zbf); rfl; rfl; rfl; rfl) | (apply P_fa; rfl; rfl; rfl; rfl; exact zaU rfl; (first | exact Nat.zero_add _ | exact Nat.add_zero _ | rfl)) | (apply zaN; rfl; rfl; rfl; rfl; rfl; rfl; exact zao rfl) | (apply zaJ; rfl; rfl; rfl; rfl; rfl; rfl) | (apply zan; rfl; rfl; rfl; rfl; exact zay rfl; (focus repeat' first | exact zaa | assumption | (apply Ext.get; assumption)); (first | rfl | assumption)) | (apply za4; rfl; rfl; rfl; rfl; exact zak rfl; rfl; rfl) | (apply zaj; rfl; rfl; rfl; rfl; rfl; rfl; exact zb0 hK; (rintro _ _ (⟨rfl, _, _⟩ | ⟨rfl, _, _⟩))) | (apply zaj; rfl; rfl; rfl; rfl; rfl; rfl; exact zek hK hl (hr.ext (by (focus repeat' first | exact Ext.refl _ | assumption | apply Ext.push | (refine Ext.trans ?_ (by assumption))))); (rintro _ _ (⟨rfl, _, _⟩ | ⟨rfl, _, _⟩))) | (apply zaj; rfl; rfl; rfl; rfl; rfl; rfl; exact zkQ hK; (rintro _ _ (⟨rfl, _, _⟩ | ⟨rfl, _, _⟩))) | fail))
  all_goals (refine ⟨.inr rfl, _, rfl, ?_⟩; first | (refine .inl ⟨rfl, by grind [TbP, OffP], ?_⟩; (focus repeat' first | exact Ext.refl _ | assumption | apply Ext.push | (refine Ext.trans ?_ (by assumption)) | (refine Ext.set ?_ (Nat.le_succ _) (zab zaa) _) | (refine Ext.ofBut ?_ (by assumption) (by first | exact Nat.le_refl _ | omega))); done) | (refine .inr ⟨rfl, by grind [TbP, OffP], ?_⟩; (focus repeat' first | exact Ext.refl _ | assumption | apply Ext.push | (refine Ext.trans ?_ (by assumption)) | (refine Ext.set ?_ (Nat.le_succ _) (zab zaa) _) | (refine Ext.ofBut ?_ (by assumption) (by first | exact Nat.le_refl _ | omega))); done))
theorem zkp (hK : NoK K) {o : Int} {h : Heap} : CallW Tryz.prog K 42 #[.int .i64 o] h (IfB (OffP o) h) := by
  refine body (N := 5) Tryz.func42 rfl (hK _ _ _ rfl) rfl rfl ?_
  (repeat' (first | apply zah | apply zad | (apply O_at; rfl) | (apply zag; rfl) | apply zaf | apply zav | apply zaw | ((first | apply zae | apply zac); rfl; rfl; rfl; rfl) | (apply zaj; rfl; rfl; rfl; rfl; rfl; rfl; exact zfc hK; (rintro _ _ (⟨rfl, _, _⟩ | ⟨rfl, _, _⟩))) | fail))
  all_goals (refine ⟨.inr rfl, _, rfl, ?_⟩; first | (refine .inl ⟨rfl, by unfold OffP at *; omega, ?_⟩; (focus repeat' first | exact Ext.refl _ | assumption | apply Ext.push | (refine Ext.trans ?_ (by assumption)) | (refine Ext.set ?_ (Nat.le_succ _) (zab zaa) _) | (refine Ext.ofBut ?_ (by assumption) (by first | exact Nat.le_refl _ | omega))); done) | (refine .inr ⟨rfl, by unfold OffP at *; omega, ?_⟩; (focus repeat' first | exact Ext.refl _ | assumption | apply Ext.push | (refine Ext.trans ?_ (by assumption)) | (refine Ext.set ?_ (Nat.le_succ _) (zab zaa) _) | (refine Ext.ofBut ?_ (by assumption) (by first | exact Nat.le_refl _ | omega))); done))
theorem zg8 (hK : NoK K) {T : Tb} {h : Heap} (hl : T.s.length ≤ 1000) (hT : TbAt T h) : CallW Tryz.prog K 20 #[tbV T] h (IfB (TbP T) h) := by
  obtain ⟨q, kq, s, r, o⟩ := T
  have hr := hT.rd
  dsimp only [tbV] at hl hr ⊢
  refine body (N := 32) Tryz.func20 rfl (hK _ _ _ rfl) rfl rfl ?_
  (repeat' (first | apply zah | apply zad | (apply O_at; rfl) | (apply zag; rfl) | apply zaf | apply zal | ((first | apply zae | apply zac | apply zbf); rfl; rfl; rfl; rfl) | (apply za4; rfl; rfl; rfl; rfl; exact zak rfl; rfl; rfl) | fail))
  refine zaT (fun k : Nat => [(3, .int .i64 (k : Nat)), (1, .pointer (some ⟨h.n, 0, none⟩))])
    (fun k h' => k ≤ s.length ∧ Ext (h.push (.cells [.slice q s.length kq, .int .i64 r, .int .i64 o] 25 true)) h' ∧ ∀ j, j < k → ValP (s.getD j (0, 0)).1 (s.getD j (0, 0)).2) (fun k => s.length - k) ?_ 0 ?_ ?_
  · intro k h' ⟨hk, hx, hj⟩ ih
    have hb : h'.get? h.n = some (.cells [.slice q s.length kq, .int .i64 r, .int .i64 o] 25 true) := hx.get zaa
    by_cases hlt : k < s.length
    · obtain ⟨b, e, own, rfl, hg⟩ := hr.at (by rw [zai]; omega)
      have hg' := hx.get (zab hg)
      (repeat' (first | apply zah | apply zad | (apply O_at; rfl) | (apply zag; rfl) | apply zaf | (apply zaE; rfl) | (apply zaG; rfl) | apply zal | apply zat | apply zav | apply zbq | apply zeZ | apply ze0 | apply zap | apply zaw | ((first | apply zae | apply zac | apply zbf); rfl; rfl; rfl; rfl) | (apply P_fa; rfl; rfl; rfl; rfl; exact zaU rfl; (first | exact Nat.zero_add _ | exact Nat.add_zero _ | rfl)) | (apply zaN; rfl; rfl; rfl; rfl; rfl; rfl; exact zao rfl) | (apply zaA; rfl; rfl; rfl; rfl; rfl; omega) | (apply zaV; rfl; rfl; rfl; rfl; rfl; (unfold fit; omega)) | (apply zch; rfl; rfl; rfl; rfl; rfl; exact zao rfl; exact zak rfl; (first | assumption | rfl | exact (Int.toNat_of_nonneg (by omega)).symm); omega) | (apply zan; rfl; rfl; rfl; rfl; exact zay rfl; (focus repeat' first | exact zaa | assumption | apply zab | (apply Ext.get; assumption)); (first | rfl | assumption)) | (apply zaF; rfl; rfl; rfl; rfl; exact za6 rfl; (focus repeat' first | exact zaa | assumption | apply zab | (apply Ext.get; assumption)); (first | exact Nat.le_of_ble_eq_true rfl | (simp; done) | (simp; omega) | (rw [zai]; omega)); (first | exact zaB (by omega) | rfl)) | (apply zaj; rfl; rfl; rfl; rfl; rfl; rfl; exact zg7 hK; (rintro _ _ (⟨rfl, _, _⟩ | ⟨rfl, _, _⟩))) | fail))
      · rename_i w _
        refine zax (ih (k + 1) _ (by omega) ⟨hlt, by (focus repeat' first | exact Ext.refl _ | assumption | apply Ext.push | (refine Ext.trans ?_ (by assumption))), fun j hj' => ?_⟩) (by (focus repeat' first | rfl | exact trivial | apply And.intro))
        by_cases hjk : j = k
        · subst hjk; exact w
        · exact hj j (by omega)
      · rename_i w _
        exact ⟨.inr rfl, _, rfl, .inr ⟨rfl, fun z => w (z.2.1 k hlt), by (focus repeat' first | exact Ext.refl _ | assumption | apply Ext.push | (refine Ext.trans ?_ (by assumption)))⟩⟩
    · have hv : Vals s := fun j hj' => hj j (by omega)
      (repeat' (first | apply zah | apply zad | (apply O_at; rfl) | (apply zag; rfl) | apply zaf | (apply zaG; rfl) | apply za2 | apply zav | apply za3 | apply zaI | apply zaM | apply zaw | (apply zbj; rfl; rfl; rfl) | ((first | apply zae | apply zac | apply zbf); rfl; rfl; rfl; rfl) | (apply P_fa; rfl; rfl; rfl; rfl; exact zaU rfl; (first | exact Nat.zero_add _ | exact Nat.add_zero _ | rfl)) | (apply zaN; rfl; rfl; rfl; rfl; rfl; rfl; exact zao rfl) | (apply zaJ; rfl; rfl; rfl; rfl; rfl; rfl) | (apply zaR; rfl; rfl; rfl; rfl; rfl; omega) | (apply zan; rfl; rfl; rfl; rfl; exact zay rfl; (focus repeat' first | exact zaa | assumption | apply zab | (apply Ext.get; assumption)); (first | rfl | assumption)) | (apply zaj; rfl; rfl; rfl; rfl; rfl; rfl; exact zfc hK; (rintro _ _ (⟨rfl, _, _⟩ | ⟨rfl, _, _⟩))) | (apply zaj; rfl; rfl; rfl; rfl; rfl; rfl; exact zjh hK; (rintro _ _ (⟨rfl, _, _⟩ | ⟨rfl, _, _⟩))) | (apply zaj; rfl; rfl; rfl; rfl; rfl; rfl; exact zkp hK; (rintro _ _ (⟨rfl, _, _⟩ | ⟨rfl, _, _⟩))) | fail))
      all_goals (refine ⟨.inr rfl, _, rfl, ?_⟩; first | (refine .inl ⟨rfl, by grind [TbP], ?_⟩; (focus repeat' first | exact Ext.refl _ | assumption | apply Ext.push | (refine Ext.trans ?_ (by assumption)) | (refine Ext.set ?_ (Nat.le_succ _) (zab zaa) _) | (refine Ext.ofBut ?_ (by assumption) (by first | exact Nat.le_refl _ | omega))); done) | (refine .inr ⟨rfl, by grind [TbP], ?_⟩; (focus repeat' first | exact Ext.refl _ | assumption | apply Ext.push | (refine Ext.trans ?_ (by assumption)) | (refine Ext.set ?_ (Nat.le_succ _) (zab zaa) _) | (refine Ext.ofBut ?_ (by assumption) (by first | exact Nat.le_refl _ | omega))); done))
  · exact ⟨Nat.zero_le _, Ext.refl _, fun j hj => by omega⟩
  · (focus repeat' first | rfl | exact trivial | apply And.intro)
end Go.AX.Sa

namespace Go.AX.Sa
open Go.Proofs
set_option maxRecDepth 100000
variable {K : Known}
theorem zdd (p : Option Addr) (n c : Nat) (r o : Int) : same 20 (.agg [Value.slice p n c, .int .i64 r, .int .i64 o].toArray) (.agg [Value.slice p n c, .int .i64 r, .int .i64 o].toArray) = true := by simp [same, same.all2]
theorem zbF {h0 h : Heap} {p : Option Addr} {n c : Nat} {r o : Int} (hp : ∀ a, p = some a → a.block < h0.n) (e : Ext h0 h) : within 20 h.n (.agg [Value.slice p n c, .int .i64 r, .int .i64 o].toArray) = true := by
  have := e.n
  cases p with
  | none => simp [within]
  | some a => have := hp a rfl; simp [within]; omega
theorem zbE {h0 h : Heap} {p : Option Addr} {m c : Nat} (hp : ∀ a, p = some a → a.block < h0.n) (e : Ext h0 h) : within 20 h.n (.slice p m c) = true := by
  have := e.n
  cases p with
  | none => simp [within]
  | some a => have := hp a rfl; simp [within]; omega
/-! Kept lists. -/
def GrowP (l : List Int) : Prop := ∀ i, i + 1 < l.length → l.getD i 0 < l.getD (i + 1) 0
theorem zeh (hK : NoK K) {l : List Int} {p : Option Addr} {cap : Nat} {h : Heap} (hl : l.length ≤ 1000) (hr : Rd h p (ints l)) :
    CallW Tryz.prog K 102 #[.slice p l.length cap] h (IfB (GrowP l) h) := by
  refine body (N := 24) Tryz.func102 rfl (hK _ _ _ rfl) rfl rfl ?_
  (repeat' (first | apply zah | apply zad | (apply O_at; rfl) | (apply zag; rfl) | apply zaf | apply zal | ((first | apply zae | apply zac); rfl; rfl; rfl; rfl) | (apply zaN; rfl; rfl; rfl; rfl; rfl; rfl; exact zao rfl) | fail))
  refine zaT (fun k : Nat => [(7, .int .i64 (k : Nat)), (6, .int .i64 (l.length : Nat)), (5, .slice p l.length cap), (0, .slice p l.length cap)])
    (fun k h' => k ≤ l.length ∧ Ext h h' ∧ ∀ i, i + 1 < k → l.getD i 0 < l.getD (i + 1) 0) (fun k => l.length - k) ?_ 0 ?_ ?_
  · intro k h' ⟨hk, hx, hj⟩ ih
    by_cases hlt : k < l.length
    · obtain ⟨b, e, own, rfl, hg⟩ := hr.at (by rw [zau]; omega)
      cases k with
      | zero =>
        (repeat' (first | apply zah | apply zad | (apply O_at; rfl) | (apply zag; rfl) | apply zaf | (apply zaE; rfl) | (apply zaG; rfl) | apply zal | apply zat | apply zap | (apply zbj; rfl; rfl; rfl) | ((first | apply zae | apply zac); rfl; rfl; rfl; rfl) | (apply zaJ; rfl; rfl; rfl; rfl; rfl; rfl) | (apply zaA; rfl; rfl; rfl; rfl; rfl; omega) | (apply zda; rfl; rfl; rfl; rfl; rfl; omega) | (apply zaV; rfl; rfl; rfl; rfl; rfl; (unfold fit; omega)) | (apply zbh; rfl; rfl; rfl; rfl; rfl; exact zao rfl; exact zak rfl; (first | assumption | exact zq0 | exact zqs _ | rfl | exact (Int.toNat_of_nonneg (by omega)).symm); omega) | (apply zan; rfl; rfl; rfl; rfl; exact zay rfl; (focus repeat' first | assumption | (apply Ext.get; assumption)); (first | exact zar (by omega) | rfl | assumption)) | fail))
        exact zax (ih 1 _ (by omega) ⟨hlt, by (focus repeat' first | exact Ext.refl _ | assumption), fun i hi => by omega⟩) (by (focus repeat' first | rfl | exact trivial | apply And.intro))
      | succ k =>
        have hz : (((k + 1 : Nat) : Int)) - 1 = (k : Nat) := by omega
        by_cases hc : l.getD (k + 1) 0 ≤ l.getD k 0
        · (repeat' (first | apply zah | apply zad | (apply O_at; rfl) | (apply zag; rfl) | apply zaf | (apply zaE; rfl) | apply zal | apply zat | apply zav | apply zbq | apply zeZ | apply ze0 | apply zaw | ((first | apply zae | apply zac); rfl; rfl; rfl; rfl) | (apply zaJ; rfl; rfl; rfl; rfl; rfl; rfl) | (apply zaA; rfl; rfl; rfl; rfl; rfl; omega) | (apply ziG; rfl; rfl; rfl; rfl; rfl; omega) | (apply zes; rfl; rfl; rfl; rfl; rfl; omega) | (apply zc8; rfl; rfl; rfl; rfl; rfl; (unfold fit; omega)) | (apply zbh; rfl; rfl; rfl; rfl; rfl; exact zao rfl; exact zak rfl; (first | assumption | exact zq0 | exact zqs _ | rfl | exact (Int.toNat_of_nonneg (by omega)).symm); omega) | (apply zan; rfl; rfl; rfl; rfl; exact zay rfl; (focus repeat' first | assumption | (apply Ext.get; assumption)); (first | exact zar (by omega) | rfl | assumption)) | fail))
          exact ⟨.inr rfl, _, rfl, .inr ⟨rfl, fun z => by have := z k hlt; omega, by (focus repeat' first | exact Ext.refl _ | assumption)⟩⟩
        · (repeat' (first | apply zah | apply zad | (apply O_at; rfl) | (apply zag; rfl) | apply zaf | (apply zaE; rfl) | (apply zaG; rfl) | apply zal | apply zat | apply zap | ((first | apply zae | apply zac); rfl; rfl; rfl; rfl) | (apply zaJ; rfl; rfl; rfl; rfl; rfl; rfl) | (apply zaA; rfl; rfl; rfl; rfl; rfl; omega) | (apply zlp; rfl; rfl; rfl; rfl; rfl; omega) | (apply zes; rfl; rfl; rfl; rfl; rfl; omega) | (apply zaV; rfl; rfl; rfl; rfl; rfl; (unfold fit; omega)) | (apply zc8; rfl; rfl; rfl; rfl; rfl; (unfold fit; omega)) | (apply zbh; rfl; rfl; rfl; rfl; rfl; exact zao rfl; exact zak rfl; (first | assumption | exact zq0 | exact zqs _ | rfl | exact (Int.toNat_of_nonneg (by omega)).symm); omega) | (apply zan; rfl; rfl; rfl; rfl; exact zay rfl; (focus repeat' first | assumption | (apply Ext.get; assumption)); (first | exact zar (by omega) | rfl | assumption)) | fail))
          refine zax (ih (k + 2) _ (by omega) ⟨hlt, by (focus repeat' first | exact Ext.refl _ | assumption), fun i hi => ?_⟩) (by (focus repeat' first | rfl | exact trivial | apply And.intro))
          by_cases hik : i = k
          · subst hik; omega
          · exact hj i (by omega)
    · (repeat' (first | apply zah | apply zad | (apply O_at; rfl) | (apply zag; rfl) | apply zaf | (apply zaG; rfl) | apply za2 | apply zav | apply za3 | apply zaI | apply zaM | apply zaw | ((first | apply zae | apply zac); rfl; rfl; rfl; rfl) | (apply zaR; rfl; rfl; rfl; rfl; rfl; omega) | fail))
      exact ⟨.inr rfl, _, rfl, .inl ⟨rfl, fun i hi => hj i (by omega), by (focus repeat' first | exact Ext.refl _ | assumption)⟩⟩
  · exact ⟨Nat.zero_le _, Ext.refl _, fun j hj => by omega⟩
  · (focus repeat' first | rfl | exact trivial | apply And.intro)
def KeptP (n : Nat) (l : List Int) : Prop := 2 ≤ l.length ∧ l.getD 0 0 = 0 ∧ l.getD (l.length - 1) 0 = (n : Int) - 1 ∧ GrowP l
def ktV (T : Tb) (p : Option Addr) (n cap : Nat) : Value := .agg #[.slice T.q T.s.length T.k, .int .i64 T.r, .int .i64 T.o, .slice p n cap]
theorem ints_at0 {l : List Int} {p : Option Addr} {h : Heap} (hr : Rd h p (ints l)) (h0 : 0 < l.length) : ∃ b e own, p = some ⟨b, 0, none⟩ ∧ h.get? b = some (.cells (ints l) e own) := hr.at (by rw [zau]; exact h0)
theorem nat_pred {n : Nat} (h : 0 < n) : ((n : Nat) : Int) - 1 = ((n - 1 : Nat) : Int) := by omega
set_option maxHeartbeats 2000000 in
theorem zgn (hK : NoK K) {T : Tb} {l : List Int} {p : Option Addr} {cap : Nat} {h : Heap} (hsl : T.s.length ≤ 1000) (hl : l.length ≤ 1000) (hT : TbAt T h) (hr : Rd h p (ints l)) (hpb : ∀ a, p = some a → a.block < h.n) :
    CallW Tryz.prog K 63 #[ktV T p l.length cap] h (IfB (TbP T ∧ KeptP T.s.length l) h) := by
  obtain ⟨q, kq, s, r, o⟩ := T
  have hqb : ∀ a, q = some a → a.block < h.n := hT.b
  dsimp only at hsl
  have iT : ∀ {h' : Heap}, Ext h h' → CallW Tryz.prog K 62 #[.agg #[.slice q s.length kq, .int .i64 r, .int .i64 o]] h' (IfB (TbP ⟨q, kq, s, r, o⟩) h') := fun x => zjq (T := ⟨q, kq, s, r, o⟩) hK hsl (hT.ext x)
  dsimp only [ktV]
  have hcs : (TbP ⟨q, kq, s, r, o⟩ ∧ GrowP l ∧ 0 < l.length ∧ l.getD 0 0 = 0 ∧ l.getD (l.length - 1) 0 = (s.length : Int) - 1) ∨ (¬ (TbP ⟨q, kq, s, r, o⟩ ∧ KeptP s.length l) ∧ (¬ TbP ⟨q, kq, s, r, o⟩ ∨ (TbP ⟨q, kq, s, r, o⟩ ∧ (¬ GrowP l ∨ (GrowP l ∧ (¬ 0 < l.length ∨ (0 < l.length ∧ (¬ l.getD 0 0 = 0 ∨ (l.getD 0 0 = 0 ∧ ¬ l.getD (l.length - 1) 0 = (s.length : Int) - 1))))))))) := by
    by_cases hP : TbP ⟨q, kq, s, r, o⟩
    · by_cases hG : GrowP l
      · by_cases h0 : 0 < l.length
        · by_cases h1 : l.getD 0 0 = 0
          · by_cases h2 : l.getD (l.length - 1) 0 = (s.length : Int) - 1
            · exact .inl ⟨hP, hG, h0, h1, h2⟩
            · exact .inr ⟨fun z => h2 z.2.2.2.1, .inr ⟨hP, .inr ⟨hG, .inr ⟨h0, .inr ⟨h1, h2⟩⟩⟩⟩⟩
          · exact .inr ⟨fun z => h1 z.2.2.1, .inr ⟨hP, .inr ⟨hG, .inr ⟨h0, .inl h1⟩⟩⟩⟩
        · exact .inr ⟨fun z => by have := z.2.1; omega, .inr ⟨hP, .inr ⟨hG, .inl h0⟩⟩⟩
      · exact .inr ⟨fun z => hG z.2.2.2.2, .inr ⟨hP, .inl hG⟩⟩
    · exact .inr ⟨fun z => hP z.1, .inl hP⟩
  rcases hcs with ⟨hP, hG, h0, h1, h2⟩ | ⟨hno, hP | ⟨hP, hG | ⟨hG, h0 | ⟨h0, h1 | ⟨h1, h2⟩⟩⟩⟩⟩
  all_goals try have hn : 2 ≤ s.length := hP.1.1
  all_goals try (have w := ints_at0 hr h0; obtain ⟨b, e, own, rfl, hg⟩ := w)
  all_goals try have hz := nat_pred h0
  all_goals
    refine body (N := 40) Tryz.func63 rfl (hK _ _ _ rfl) rfl rfl ?_
    (repeat' (first | apply zah | apply zad | (apply O_at; rfl) | (apply N_at; rfl) | (apply zag; rfl) | apply zaf | (apply zbp; exact zaH (by decide +kernel)) | apply zav | (apply zbN; rfl; refine .inr ?_; (focus repeat' first | exact trivial | exact Keeps.nil _ _ | apply And.intro | rfl | (apply Keeps.cons; iterate 2 (focus repeat' first | exact zaa | assumption | apply zab | (apply Ext.get; assumption))))) | apply zaw | ((first | apply zac | apply zaz | apply zaD); rfl; rfl; rfl; rfl) | (apply za4; rfl; rfl; rfl; rfl; exact zak rfl; rfl; rfl) | (apply zlx; rfl; rfl; rfl; rfl) | (apply M_skipA; rfl; rfl; rfl; rfl) | (apply M_fa; rfl; rfl; rfl; rfl; exact zaU rfl; (first | exact Nat.zero_add _ | exact Nat.add_zero _ | rfl)) | (apply zcf; rfl; rfl; rfl; rfl; rfl; rfl; exact zao rfl) | (apply zgJ; rfl; rfl; rfl; rfl; rfl; rfl) | (apply M_gtrF; rfl; rfl; rfl; rfl; rfl; omega) | (apply M_gtrT; rfl; rfl; rfl; rfl; rfl; omega) | (apply M_eqlF; rfl; rfl; rfl; rfl; rfl; omega) | (apply M_eqlT; rfl; rfl; rfl; rfl; rfl; omega) | (apply zeI; rfl; rfl; rfl; rfl; rfl; (unfold fit; omega)) | (apply zbV; rfl; rfl; rfl; rfl; rfl; exact zao rfl; exact zak rfl; (first | assumption | exact zq0 | rfl | exact (Int.toNat_of_nonneg (by omega)).symm); omega) | ((first | ((apply zce; rfl; rfl; rfl; rfl; exact zay rfl); (focus repeat' first | exact zaa | assumption | apply zab | (apply Ext.get; assumption)); (first | exact zar (by omega) | rfl | assumption)) | ((apply zcN; rfl; rfl; rfl; rfl; exact za6 rfl); (focus repeat' first | exact zaa | assumption | apply zab | (apply Ext.get; assumption)); (first | exact Nat.le_of_ble_eq_true rfl | (simp; done) | (simp; omega)); rfl)); (first | assumption | exact za5 _ _ | exact zbc _ _ _ | exact zdd _ _ _ _ _ | rfl | (focus simp [same, same.all2]; done)); (first | rfl | assumption | exact hwv _ | (focus apply zb1; (focus repeat' first | exact zaa | assumption | apply zab | (apply Ext.get; assumption)); done) | exact zbF (by assumption) (by (focus repeat' first | exact Ext.refl _ | assumption | apply Ext.push | (refine Ext.trans ?_ (by assumption)))) | exact zbE (by assumption) (by (focus repeat' first | exact Ext.refl _ | assumption | apply Ext.push | (refine Ext.trans ?_ (by assumption)))) | (simp [within]; omega))) | (apply za8; rfl; rfl; rfl; rfl; rfl; rfl; rfl; exact yes (iT (by (focus repeat' first | exact Ext.refl _ | assumption | apply Ext.push | (refine Ext.trans ?_ (by assumption))))) hP; (rintro _ _ ⟨rfl, _⟩)) | (apply za8; rfl; rfl; rfl; rfl; rfl; rfl; rfl; exact no (iT (by (focus repeat' first | exact Ext.refl _ | assumption | apply Ext.push | (refine Ext.trans ?_ (by assumption))))) hP; (rintro _ _ ⟨rfl, _⟩)) | (apply za8; rfl; rfl; rfl; rfl; rfl; rfl; rfl; exact yes (zeh hK hl (hr.ext (by (focus repeat' first | exact Ext.refl _ | assumption | apply Ext.push | (refine Ext.trans ?_ (by assumption)))))) hG; (rintro _ _ ⟨rfl, _⟩)) | (apply za8; rfl; rfl; rfl; rfl; rfl; rfl; rfl; exact no (zeh hK hl (hr.ext (by (focus repeat' first | exact Ext.refl _ | assumption | apply Ext.push | (refine Ext.trans ?_ (by assumption)))))) hG; (rintro _ _ ⟨rfl, _⟩)) | fail))
    first
      | exact ⟨.inr rfl, _, rfl, .inr ⟨rfl, hno, by (focus repeat' first | exact Ext.refl _ | assumption | apply Ext.push | (refine Ext.trans ?_ (by assumption)))⟩⟩
      | exact ⟨.inr rfl, _, rfl, .inl ⟨rfl, ⟨hP, (by
          rcases (show l.length = 1 ∨ 2 ≤ l.length by omega) with q | q
          · rw [q] at h2; simp only [Nat.sub_self] at h2; omega
          · exact q), h1, h2, hG⟩, by (focus repeat' first | exact Ext.refl _ | assumption | apply Ext.push | (refine Ext.trans ?_ (by assumption)))⟩⟩
set_option maxHeartbeats 1000000 in
theorem zjj (hK : NoK K) {T : Tb} {l : List Int} {p : Option Addr} {cap : Nat} {h : Heap} (hsl : T.s.length ≤ 1000) (hl : l.length ≤ 1000) (hT : TbAt T h) (hr : Rd h p (ints l)) (hpb : ∀ a, p = some a → a.block < h.n) :
    CallW Tryz.prog K 21 #[tbV T, .slice p l.length cap] h (IfB (KeptP T.s.length l) h) := by
  obtain ⟨q, kq, s, r, o⟩ := T
  have hqb : ∀ a, q = some a → a.block < h.n := hT.b
  dsimp only [tbV] at hsl ⊢
  refine body (N := 44) Tryz.func21 rfl (hK _ _ _ rfl) rfl rfl ?_
  by_cases h3 : 2 ≤ l.length
  · obtain ⟨b, e, own, rfl, hg⟩ := hr.at (by rw [zau]; omega)
    have hz : ((l.length : Nat) : Int) - 1 = ((l.length - 1 : Nat) : Int) := by omega
    by_cases h1 : l.getD 0 0 = 0
    · by_cases h2 : l.getD (l.length - 1) 0 = (s.length : Int) - 1
      · (repeat' (first | apply zah | apply zad | (apply O_at; rfl) | (apply N_at; rfl) | (apply zag; rfl) | apply zaf | (apply zaG; rfl) | (apply zbp; exact zaH (by decide +kernel)) | apply zal | apply zat | (apply zbN; rfl; exact (.inl (Nat.le_refl 1))) | ((first | apply zae | apply zac | apply zaz); rfl; rfl; rfl; rfl) | ((first | apply zaN | apply zcf); rfl; rfl; rfl; rfl; rfl; rfl; exact zao rfl) | (apply za4; rfl; rfl; rfl; rfl; exact zak rfl; rfl; rfl) | (apply M_fa; rfl; rfl; rfl; rfl; exact zaU rfl; (first | exact Nat.zero_add _ | exact Nat.add_zero _ | rfl)) | (apply zgJ; rfl; rfl; rfl; rfl; rfl; rfl) | (apply zly; rfl; rfl; rfl; rfl; rfl; omega) | (apply M_neqF; rfl; rfl; rfl; rfl; rfl; omega) | (apply zeI; rfl; rfl; rfl; rfl; rfl; (unfold fit; omega)) | (apply zbV; rfl; rfl; rfl; rfl; rfl; exact zao rfl; exact zak rfl; (first | assumption | exact zq0 | exact zqs _ | rfl | exact (Int.toNat_of_nonneg (by omega)).symm); omega) | (((apply zbU; rfl; rfl; rfl; rfl; exact zay rfl; exact zbe (by decide +kernel)); (focus repeat' first | exact zaa | assumption | apply zab | (apply Ext.get; assumption)); (first | exact zar (by omega) | rfl | assumption)); (first | assumption | exact za5 _ _ | exact zbc _ _ _ | rfl | (focus simp [same, same.all2]; done)); (first | rfl | assumption | exact hwv _ | exact zbE (by assumption) (by (focus repeat' first | exact Ext.refl _ | assumption | apply Ext.push)) | (simp [within]; omega))) | fail))
        refine zaT (fun k : Nat => [(5, .int .i64 ((k + 1 : Nat) : Int)), (1, .slice (some ⟨b, 0, none⟩) l.length cap)])
          (fun k h' => k + 1 ≤ l.length ∧ Ext h h' ∧ ∀ i, i < k → l.getD i 0 < l.getD (i + 1) 0) (fun k => l.length - k) ?_ 0 ?_ ?_
        · intro k h' ⟨hk, hx, hj⟩ ih
          have hg' := hx.get hg
          have hz' : (((k + 1 : Nat) : Int)) - 1 = (k : Nat) := by omega
          by_cases hlt : k + 1 < l.length
          · by_cases hc : l.getD (k + 1) 0 ≤ l.getD k 0
            · (repeat' (first | apply zah | apply zad | (apply O_at; rfl) | (apply N_at; rfl) | (apply zag; rfl) | apply zaf | (apply zaE; rfl) | (apply zbp; exact zaH (by decide +kernel)) | apply zal | apply zat | apply zav | (apply zbN; rfl; exact (.inl (Nat.le_refl 1))) | apply zbq | apply zeZ | apply ze0 | apply zaw | ((first | apply zae | apply zac | apply zaz); rfl; rfl; rfl; rfl) | ((first | apply zaN | apply zcf); rfl; rfl; rfl; rfl; rfl; rfl; exact zao rfl) | (apply zaA; rfl; rfl; rfl; rfl; rfl; omega) | (apply M_leqT; rfl; rfl; rfl; rfl; rfl; omega) | (apply zeI; rfl; rfl; rfl; rfl; rfl; (unfold fit; omega)) | (apply zbV; rfl; rfl; rfl; rfl; rfl; exact zao rfl; exact zak rfl; (first | assumption | exact zq0 | exact zqs _ | rfl | exact (Int.toNat_of_nonneg (by omega)).symm); omega) | (((apply zbU; rfl; rfl; rfl; rfl; exact zay rfl; exact zbe (by decide +kernel)); (focus repeat' first | exact zaa | assumption | apply zab | (apply Ext.get; assumption)); (first | exact zar (by omega) | rfl | assumption)); (first | assumption | exact za5 _ _ | exact zbc _ _ _ | rfl | (focus simp [same, same.all2]; done)); (first | rfl | assumption | exact hwv _ | exact zbE (by assumption) (by (focus repeat' first | exact Ext.refl _ | assumption | apply Ext.push)) | (simp [within]; omega))) | fail))
              exact ⟨.inr rfl, _, rfl, .inr ⟨rfl, fun z => by have := z.2.2.2 k hlt; omega, by (focus repeat' first | exact Ext.refl _ | assumption | apply Ext.push)⟩⟩
            · (repeat' (first | apply zah | apply zad | (apply O_at; rfl) | (apply N_at; rfl) | (apply zag; rfl) | apply zaf | (apply zaE; rfl) | (apply zaG; rfl) | (apply zbp; exact zaH (by decide +kernel)) | apply zal | apply zat | (apply zbN; rfl; exact (.inl (Nat.le_refl 1))) | apply zap | ((first | apply zae | apply zac | apply zaz); rfl; rfl; rfl; rfl) | ((first | apply zaN | apply zcf); rfl; rfl; rfl; rfl; rfl; rfl; exact zao rfl) | (apply zaA; rfl; rfl; rfl; rfl; rfl; omega) | (apply zaV; rfl; rfl; rfl; rfl; rfl; (unfold fit; omega)) | (apply M_leqF; rfl; rfl; rfl; rfl; rfl; omega) | (apply zeI; rfl; rfl; rfl; rfl; rfl; (unfold fit; omega)) | (apply zbV; rfl; rfl; rfl; rfl; rfl; exact zao rfl; exact zak rfl; (first | assumption | exact zq0 | exact zqs _ | rfl | exact (Int.toNat_of_nonneg (by omega)).symm); omega) | (((apply zbU; rfl; rfl; rfl; rfl; exact zay rfl; exact zbe (by decide +kernel)); (focus repeat' first | exact zaa | assumption | apply zab | (apply Ext.get; assumption)); (first | exact zar (by omega) | rfl | assumption)); (first | assumption | exact za5 _ _ | exact zbc _ _ _ | rfl | (focus simp [same, same.all2]; done)); (first | rfl | assumption | exact hwv _ | exact zbE (by assumption) (by (focus repeat' first | exact Ext.refl _ | assumption | apply Ext.push)) | (simp [within]; omega))) | fail))
              refine zax (ih (k + 1) _ (by omega) ⟨hlt, by (focus repeat' first | exact Ext.refl _ | assumption | apply Ext.push), fun i hi => ?_⟩) (by (focus repeat' first | rfl | exact trivial | apply And.intro))
              by_cases hik : i = k
              · subst hik; omega
              · exact hj i (by omega)
          · (repeat' (first | apply zah | apply zad | (apply O_at; rfl) | (apply zag; rfl) | apply zaf | (apply zaG; rfl) | apply za2 | apply zav | apply za3 | apply zaI | apply zaM | apply zaw | ((first | apply zae | apply zac | apply zaz); rfl; rfl; rfl; rfl) | ((first | apply zaN | apply zcf); rfl; rfl; rfl; rfl; rfl; rfl; exact zao rfl) | (apply zaR; rfl; rfl; rfl; rfl; rfl; omega) | fail))
            exact ⟨.inr rfl, _, rfl, .inl ⟨rfl, ⟨h3, h1, h2, fun i hi => hj i (by omega)⟩, by (focus repeat' first | exact Ext.refl _ | assumption | apply Ext.push)⟩⟩
        · exact ⟨by omega, by (focus repeat' first | exact Ext.refl _ | assumption | apply Ext.push), fun j hj => by omega⟩
        · (focus repeat' first | rfl | exact trivial | apply And.intro)
      · (repeat' (first | apply zah | apply zad | (apply O_at; rfl) | (apply N_at; rfl) | (apply zag; rfl) | apply zaf | (apply zaE; rfl) | (apply zbp; exact zaH (by decide +kernel)) | apply zav | (apply zbN; rfl; exact (.inl (Nat.le_refl 1))) | apply zbq | apply zaw | ((first | apply zae | apply zac | apply zaz); rfl; rfl; rfl; rfl) | ((first | apply zaN | apply zcf); rfl; rfl; rfl; rfl; rfl; rfl; exact zao rfl) | (apply za4; rfl; rfl; rfl; rfl; exact zak rfl; rfl; rfl) | (apply M_fa; rfl; rfl; rfl; rfl; exact zaU rfl; (first | exact Nat.zero_add _ | exact Nat.add_zero _ | rfl)) | (apply zgJ; rfl; rfl; rfl; rfl; rfl; rfl) | (apply zly; rfl; rfl; rfl; rfl; rfl; omega) | (apply M_neqF; rfl; rfl; rfl; rfl; rfl; omega) | (apply M_neqT; rfl; rfl; rfl; rfl; rfl; omega) | (apply zeI; rfl; rfl; rfl; rfl; rfl; (unfold fit; omega)) | (apply zbV; rfl; rfl; rfl; rfl; rfl; exact zao rfl; exact zak rfl; (first | assumption | exact zq0 | exact zqs _ | rfl | exact (Int.toNat_of_nonneg (by omega)).symm); omega) | (((apply zbU; rfl; rfl; rfl; rfl; exact zay rfl; exact zbe (by decide +kernel)); (focus repeat' first | exact zaa | assumption | apply zab | (apply Ext.get; assumption)); (first | exact zar (by omega) | rfl | assumption)); (first | assumption | exact za5 _ _ | exact zbc _ _ _ | rfl | (focus simp [same, same.all2]; done)); (first | rfl | assumption | exact hwv _ | exact zbE (by assumption) (by (focus repeat' first | exact Ext.refl _ | assumption | apply Ext.push)) | (simp [within]; omega))) | fail))
        exact ⟨.inr rfl, _, rfl, .inr ⟨rfl, fun z => h2 z.2.2.1, by (focus repeat' first | exact Ext.refl _ | assumption | apply Ext.push)⟩⟩
    · (repeat' (first | apply zah | apply zad | (apply O_at; rfl) | (apply N_at; rfl) | (apply zag; rfl) | apply zaf | (apply zaE; rfl) | (apply zbp; exact zaH (by decide +kernel)) | apply zav | (apply zbN; rfl; exact (.inl (Nat.le_refl 1))) | apply zbq | apply zaw | ((first | apply zae | apply zac | apply zaz); rfl; rfl; rfl; rfl) | ((first | apply zaN | apply zcf); rfl; rfl; rfl; rfl; rfl; rfl; exact zao rfl) | (apply za4; rfl; rfl; rfl; rfl; exact zak rfl; rfl; rfl) | (apply zlx; rfl; rfl; rfl; rfl) | (apply zgJ; rfl; rfl; rfl; rfl; rfl; rfl) | (apply zly; rfl; rfl; rfl; rfl; rfl; omega) | (apply M_neqT; rfl; rfl; rfl; rfl; rfl; omega) | (apply zbV; rfl; rfl; rfl; rfl; rfl; exact zao rfl; exact zak rfl; (first | assumption | exact zq0 | exact zqs _ | rfl | exact (Int.toNat_of_nonneg (by omega)).symm); omega) | (((apply zbU; rfl; rfl; rfl; rfl; exact zay rfl; exact zbe (by decide +kernel)); (focus repeat' first | exact zaa | assumption | apply zab | (apply Ext.get; assumption)); (first | exact zar (by omega) | rfl | assumption)); (first | assumption | exact za5 _ _ | exact zbc _ _ _ | rfl | (focus simp [same, same.all2]; done)); (first | rfl | assumption | exact hwv _ | exact zbE (by assumption) (by (focus repeat' first | exact Ext.refl _ | assumption | apply Ext.push)) | (simp [within]; omega))) | fail))
      exact ⟨.inr rfl, _, rfl, .inr ⟨rfl, fun z => h1 z.2.1, by (focus repeat' first | exact Ext.refl _ | assumption | apply Ext.push)⟩⟩
  · (repeat' (first | apply zah | apply zad | (apply O_at; rfl) | (apply N_at; rfl) | (apply zag; rfl) | apply zaf | (apply zaE; rfl) | (apply zbp; exact zaH (by decide +kernel)) | apply zav | (apply zbN; rfl; exact (.inl (Nat.le_refl 1))) | apply zbq | apply zaw | ((first | apply zae | apply zac | apply zaz); rfl; rfl; rfl; rfl) | ((first | apply zaN | apply zcf); rfl; rfl; rfl; rfl; rfl; rfl; exact zao rfl) | (apply za4; rfl; rfl; rfl; rfl; exact zak rfl; rfl; rfl) | (apply zlx; rfl; rfl; rfl; rfl) | (apply zgJ; rfl; rfl; rfl; rfl; rfl; rfl) | (apply M_lssT; rfl; rfl; rfl; rfl; rfl; omega) | fail))
    exact ⟨.inr rfl, _, rfl, .inr ⟨rfl, fun z => h3 z.1, by (focus repeat' first | exact Ext.refl _ | assumption | apply Ext.push)⟩⟩
end Go.AX.Sa

namespace Go.AX.Sa
open Go.Proofs
set_option maxRecDepth 100000
variable {K : Known}
/-! Truths, sums, figures. -/
/-- Is it a truth? -/
def TruthP (l : List (Int × Int)) (t : List Int) : Prop := t.length = l.length ∧ ∀ k, k < t.length → (l.getD k (0, 0)).1 ≤ t.getD k 0 ∧ t.getD k 0 ≤ (l.getD k (0, 0)).2
theorem sum2_ok (hK : NoK K) {a b : Int} {h : Heap} (ha : -1000000 ≤ a ∧ a ≤ 1000000) (hb : -1000000 ≤ b ∧ b ≤ 1000000) {blk : Nat} (hg : h.get? blk = some (.cells (ints [a, b]) 3 true)) :
    CallW Tryz.prog K 141 #[.slice (some ⟨blk, 0, none⟩) 2 2] h (IsV (.int .i64 (a + b)) h) := by
  refine body (N := 17) Tryz.func141 rfl (hK _ _ _ rfl) rfl rfl ?_
  (repeat' (first | apply zah | apply zad | (apply O_at; rfl) | (apply zag; rfl) | apply zaf | apply zal | ((first | apply zae | apply zac); rfl; rfl; rfl; rfl) | (apply zaN; rfl; rfl; rfl; rfl; rfl; rfl; exact zao rfl) | fail))
  refine zaT (fun x : Nat × Int => [(8, .int .i64 (x.1 : Nat)), (7, .int .i64 ((2 : Nat) : Int)), (6, .slice (some ⟨blk, 0, none⟩) 2 2), (3, .int .i64 x.2)])
    (fun x h' => (x = (0, 0) ∨ x = (1, 0 + a) ∨ x = (2, 0 + a + b)) ∧ h' = h) (fun x => 2 - x.1) ?_ (0, 0) ⟨.inl rfl, rfl⟩ ?_
  · rintro ⟨k, s⟩ h' ⟨hk, rfl⟩ ih
    rcases hk with q | q | q
    all_goals cases q
    · (repeat' (first | apply zah | apply zad | (apply O_at; rfl) | (apply zag; rfl) | apply zaf | (apply zaE; rfl) | apply zal | apply zat | apply zap | ((first | apply zae | apply zac); rfl; rfl; rfl; rfl) | (apply zaA; rfl; rfl; rfl; rfl; rfl; omega) | (apply zaV; rfl; rfl; rfl; rfl; rfl; (unfold fit; omega)) | (apply zbh; rfl; rfl; rfl; rfl; rfl; exact zao rfl; exact zak rfl; (first | assumption | exact zq0 | exact zq1 | rfl | exact (Int.toNat_of_nonneg (by omega)).symm); omega) | (apply zan; rfl; rfl; rfl; rfl; exact zay rfl; (focus repeat' first | assumption); (first | rfl | assumption)) | fail))
      exact zax (ih (1, 0 + a) _ (by dsimp only; omega) ⟨.inr (.inl rfl), rfl⟩) (by (focus repeat' first | rfl | exact trivial | apply And.intro))
    · (repeat' (first | apply zah | apply zad | (apply O_at; rfl) | (apply zag; rfl) | apply zaf | (apply zaE; rfl) | apply zal | apply zat | apply zap | ((first | apply zae | apply zac); rfl; rfl; rfl; rfl) | (apply zaA; rfl; rfl; rfl; rfl; rfl; omega) | (apply zaV; rfl; rfl; rfl; rfl; rfl; (unfold fit; omega)) | (apply zbh; rfl; rfl; rfl; rfl; rfl; exact zao rfl; exact zak rfl; (first | assumption | exact zq0 | exact zq1 | rfl | exact (Int.toNat_of_nonneg (by omega)).symm); omega) | (apply zan; rfl; rfl; rfl; rfl; exact zay rfl; (focus repeat' first | assumption); (first | rfl | assumption)) | fail))
      exact zax (ih (2, 0 + a + b) _ (by dsimp only; omega) ⟨.inr (.inr rfl), rfl⟩) (by (focus repeat' first | rfl | exact trivial | apply And.intro))
    · (repeat' (first | apply zah | apply zad | (apply O_at; rfl) | (apply zag; rfl) | apply zaf | (apply zaG; rfl) | apply za2 | apply zav | apply za3 | apply zaI | apply zaM | apply zaw | ((first | apply zae | apply zac); rfl; rfl; rfl; rfl) | (apply zaR; rfl; rfl; rfl; rfl; rfl; omega) | fail))
      exact ⟨.inr rfl, _, rfl, (by show Value.int .i64 (0 + a + b) = _; rw [Int.zero_add]), by (focus repeat' first | exact Ext.refl _ | assumption)⟩
  · (focus repeat' first | rfl | exact trivial | apply And.intro)
theorem bs_i3 (h : Heap) (a b : Int) : buildSliceB Tryz.prog h 26 2 [(0, .int .i64 a), (1, .int .i64 b)] = some (.slice (some ⟨h.n, 0, none⟩) 2 2, h.push (.cells (ints [a, b]) 3 true)) := by kernel_rfl
section
variable {x : Ctx} {N : Nat} {E : Env} {h : Heap} {ops : Array Oper} {F : Ex → Env → Heap → Prop} {i : Nat} {Hs : List Heap} {L : List Heap → Prop} {nw : List (Nat × Nat × Blk)}
variable {d : Nat} {ty : TypeId} {pos : String} {af : Array Edge} {g : Option (Nat × Bool)} {ps : Array (Nat × Operand)}
theorem M_bs_i3 {a b : Int} (hN : Nat.blt d N = true) (hg : gval ops E g = some true) (hk : opsOK Tryz.prog ⟨some d, .buildSlice 26 2 ps, ty, pos, af, g⟩ = true)
    (hps : E.parts ps.toList = some [(0, .int .i64 a), (1, .int .i64 b)]) (k : S1 Tryz.prog K x N ops F (i + 1) ((d, .slice (some ⟨h.n, 0, none⟩) 2 2) :: E) (h.push (.cells (ints [a, b]) 3 true)) Hs L ((i, h.n, .cells (ints [a, b]) 3 true) :: nw)) : S2 Tryz.prog K x N ops F i ⟨some d, .buildSlice 26 2 ps, ty, pos, af, g⟩ E h Hs L nw := M_bs hN hg hk hps (bs_i3 h _ _) k
end
/-- A row between two others. -/
def mixv (bef aft row x y : Int) : Int := x * (aft - row) + y * (row - bef)
theorem zic {x d : Int} (hx : -10000 ≤ x ∧ x ≤ 10000) (hd : 0 ≤ d ∧ d ≤ 20) : -200000 ≤ x * d ∧ x * d ≤ 200000 := by
  have h1 : x * d ≤ 10000 * d := Int.mul_le_mul_of_nonneg_right hx.2 hd.1
  have h2 : -10000 * d ≤ x * d := Int.mul_le_mul_of_nonneg_right (by omega) hd.1
  omega
theorem zjG (hK : NoK K) {bef aft row x y r : Int} {h : Heap} (hx : -10000 ≤ x ∧ x ≤ 10000) (hy : -10000 ≤ y ∧ y ≤ 10000) (hb : 0 ≤ bef) (h1 : bef ≤ row) (h2 : row ≤ aft) (h3 : aft ≤ 20) (h4 : bef < aft) (hr : RuleP r) :
    CallW Tryz.prog K 105 #[.agg #[.int .i64 bef, .int .i64 aft], .int .i64 row, .int .i64 x, .int .i64 y, .int .i64 r] h (IsV (.int .i64 (rnd r (mixv bef aft row x y) (aft - bef))) h) := by
  have m1 := zic hx (d := aft - row) (by omega)
  have m2 := zic hy (d := row - bef) (by omega)
  refine body (N := 32) Tryz.func105 rfl (hK _ _ _ rfl) rfl rfl ?_
  (repeat' (first | apply zah | apply zad | (apply O_at; rfl) | (apply N_at; rfl) | (apply zag; rfl) | apply zaf | (apply zbp; exact zaH (by decide +kernel)) | apply zav | (apply zbN; rfl; refine .inr ?_; (focus repeat' first | exact trivial | exact Keeps.nil _ _ | apply And.intro | rfl | (apply Keeps.cons; iterate 2 (focus repeat' first | exact zaa | assumption | apply zab | (apply Ext.get; assumption))))) | apply zaw | ((first | apply zac | apply zaz | apply zaD); rfl; rfl; rfl; rfl) | (apply za4; rfl; rfl; rfl; rfl; exact zak rfl; rfl; rfl) | (apply M_fa; rfl; rfl; rfl; rfl; exact zaU rfl; (first | exact Nat.zero_add _ | exact Nat.add_zero _ | rfl)) | (apply zeI; rfl; rfl; rfl; rfl; rfl; (unfold fit; omega)) | (apply M_mul; rfl; rfl; rfl; rfl; rfl; (unfold fit; omega)) | (((apply zce; rfl; rfl; rfl; rfl; exact zay rfl); (focus repeat' first | exact zaa | assumption | apply zab | (apply Ext.get; assumption)); (first | rfl | assumption)); (first | assumption | exact za5 _ _ | rfl | (focus simp [same, same.all2]; done)); (first | rfl | assumption | exact hwv _ | (simp [within]; omega))) | (apply M_bs_i3; rfl; rfl; rfl; rfl) | (apply za8; rfl; rfl; rfl; rfl; rfl; rfl; rfl; exact sum2_ok hK (by omega) (by omega) zaa; (rintro _ _ ⟨rfl, _⟩)) | (apply za8; rfl; rfl; rfl; rfl; rfl; rfl; rfl; exact zi9 hK (by omega) (by omega) hr; (rintro _ _ ⟨rfl, _⟩)) | fail))
  exact ⟨.inr rfl, _, rfl, rfl, by (focus repeat' first | exact Ext.refl _ | assumption | apply Ext.push | (refine Ext.trans ?_ (by assumption)))⟩
end Go.AX.Sa

namespace Go.AX.Sa
open Go.Proofs
set_option maxRecDepth 100000
variable {K : Known}
/-! Kept rows next to each other. -/
def prs (l : List Int) (k : Nat) : List (Int × Int) := (List.range k).map fun i => (l.getD i 0, l.getD (i + 1) 0)
theorem zhb (l : List Int) (k : Nat) : (prs l k).length = k := by simp [prs]
theorem prs_succ (l : List Int) (k : Nat) : prs l (k + 1) = prs l k ++ [(l.getD k 0, l.getD (k + 1) 0)] := by simp [prs, List.range_succ]
theorem prs_get {l : List Int} {k i : Nat} (h : i < k) : (prs l k).getD i (0, 0) = (l.getD i 0, l.getD (i + 1) 0) := by
  simp [prs, List.getD_eq_getElem?_getD, h]
def IsP (l : List (Int × Int)) (h : Heap) (v : Value) (h1 : Heap) : Prop := ∃ p cap, v = .slice p l.length cap ∧ Rd h1 p (spanCells l) ∧ (∀ a, p = some a → h.n ≤ a.block) ∧ Ext h h1
theorem pairs_ok (hK : NoK K) {T : Tb} {l : List Int} {b cap : Nat} {e : TypeId} {own : Bool} {h : Heap} (hl : 2 ≤ l.length ∧ l.length ≤ 1000) (hcap : l.length ≤ cap) (hg : h.get? b = some (.cells (ints l) e own)) :
    CallW Tryz.prog K 104 #[ktV T (some ⟨b, 0, none⟩) l.length cap] h (IsP (prs l (l.length - 1)) h) := by
  obtain ⟨q, kq, s, r, o⟩ := T
  dsimp only [ktV]
  have hb := Heap.get_lt hg
  refine body (N := 27) Tryz.func104 rfl (hK _ _ _ rfl) rfl rfl ?_
  (repeat' (first | apply zah | apply zad | (apply O_at; rfl) | (apply zag; rfl) | apply zaf | ((first | apply zae | apply zac); rfl; rfl; rfl; rfl) | (apply P_fa; rfl; rfl; rfl; rfl; exact zaU rfl; (first | exact Nat.zero_add _ | exact Nat.add_zero _ | rfl)) | (apply zan; rfl; rfl; rfl; rfl; exact zay rfl; (focus repeat' first | exact zaa | assumption | apply zab | (apply Ext.get; assumption)); (first | exact zar (by omega) | rfl | assumption)) | (apply za4; rfl; rfl; rfl; rfl; exact zak rfl; rfl; rfl) | fail))
  refine zhM rfl rfl rfl rfl rfl (zao rfl) (zak rfl) (q := 1) (by omega) hcap (by omega) (by omega) ?_
  intro off cap' hoff
  have ho1 := hoff (by omega)
  subst ho1
  (repeat' (first | (apply O_at; rfl) | (apply zag; rfl) | apply zaf | apply zal | ((first | apply zae | apply zac); rfl; rfl; rfl; rfl) | (apply zaN; rfl; rfl; rfl; rfl; rfl; rfl; exact zao rfl) | fail))
  refine zaT (fun a : Nat × Value => [(10, .int .i64 (a.1 : Nat)), (9, .int .i64 ((l.length - 1 : Nat) : Int)), (8, .slice (some ⟨b, 1 * 1, none⟩) (l.length - 1) cap'), (3, a.2), (1, .pointer (some ⟨h.n, 0, none⟩))])
    (fun a h' => a.1 ≤ l.length - 1 ∧ Ext (h.push (.cells [.slice q s.length kq, .int .i64 r, .int .i64 o, .slice (some ⟨b, 0, none⟩) l.length cap] 82 true)) h' ∧ OutS 123 (h.push (.cells [.slice q s.length kq, .int .i64 r, .int .i64 o, .slice (some ⟨b, 0, none⟩) l.length cap] 82 true)) h' a.2 (prs l a.1)) (fun a => l.length - 1 - a.1) ?_ (0, nilV) ?_ ?_
  · rintro ⟨k, v⟩ h' ⟨hk, hx, ho⟩ ih
    dsimp only at hk hx ho ih ⊢
    have hbx : h'.get? h.n = some (.cells [.slice q s.length kq, .int .i64 r, .int .i64 o, .slice (some ⟨b, 0, none⟩) l.length cap] 82 true) := hx.get zaa
    have hg' := hx.get (zab hg)
    have hle := zhb l k
    by_cases hlt : k < l.length - 1
    · have hk1 : k + 1 < l.length := by omega
      (repeat' (first | apply zah | apply zad | (apply O_at; rfl) | (apply zag; rfl) | apply zaf | (apply zaE; rfl) | apply zal | apply zat | ((first | apply zae | apply zac); rfl; rfl; rfl; rfl) | (apply zaA; rfl; rfl; rfl; rfl; rfl; omega) | fail))
      refine P_idxO (o := 1) (n := 1) (k := k) rfl rfl rfl rfl rfl (zao rfl) (zak rfl) rfl hlt ?_
      rw [show (1 + k) * 1 = k + 1 by omega]
      (repeat' (first | apply zad | (apply O_at; rfl) | (apply zag; rfl) | apply zaf | apply zap | ((first | apply zae | apply zac); rfl; rfl; rfl; rfl) | (apply P_fa; rfl; rfl; rfl; rfl; exact zaU rfl; (first | exact Nat.zero_add _ | exact Nat.add_zero _ | rfl)) | (apply zaV; rfl; rfl; rfl; rfl; rfl; (unfold fit; omega)) | (apply zbh; rfl; rfl; rfl; rfl; rfl; exact zao rfl; exact zak rfl; (first | assumption | rfl | exact (Int.toNat_of_nonneg (by omega)).symm); omega) | (apply zan; rfl; rfl; rfl; rfl; exact zay rfl; (focus repeat' first | exact zaa | assumption | apply zab | (apply Ext.get; assumption)); (first | exact zar (by omega) | rfl | assumption)) | (apply zjK; rfl; rfl; rfl; rfl) | (apply zgI; rfl; rfl; rfl; rfl; rfl; exact c2_ok rfl) | (apply P_appS; rfl; rfl; rfl; rfl; rfl; rfl; rfl; rfl; exact c2_ok rfl; exact zao rfl; (focus repeat' first | exact zaa | assumption | apply zab | (apply Ext.get; assumption)); (apply OutS.ext; assumption; (focus repeat' first | exact Ext.refl _ | assumption | apply Ext.push | (refine Ext.trans ?_ (by assumption)))); (focus repeat' first | exact Ext.refl _ | assumption | apply Ext.push | (refine Ext.trans ?_ (by assumption))); (first | omega | (simp; omega)); (intro _ _ _ _)) | fail))
      rename_i v1 h2 ho2 hx2
      exact zax (ih (k + 1, v1) _ (by dsimp only; omega) ⟨hlt, by (focus repeat' first | exact Ext.refl _ | assumption | apply Ext.push | (refine Ext.trans ?_ (by assumption))), by rw [prs_succ]; exact ho2⟩) (by (focus repeat' first | rfl | exact trivial | apply And.intro))
    · have : k = l.length - 1 := by omega
      subst this
      (repeat' (first | apply zah | apply zad | (apply O_at; rfl) | (apply zag; rfl) | apply zaf | (apply zaG; rfl) | apply za2 | apply zav | apply za3 | apply zaI | apply zaM | apply zaw | ((first | apply zae | apply zac); rfl; rfl; rfl; rfl) | (apply zaR; rfl; rfl; rfl; rfl; rfl; omega) | fail))
      refine ⟨.inr rfl, _, rfl, ?_⟩
      rcases ho with ⟨q1, rfl⟩ | ⟨q1, b2, rfl, q3, q4⟩
      · have := congrArg List.length q1
        rw [zhb] at this
        simp at this; omega
      · exact ⟨_, _, rfl, .inr ⟨_, _, _, rfl, q3⟩, fun a w => by cases w; exact Nat.le_of_succ_le (show h.n + 1 ≤ b2 from q4), by (focus repeat' first | exact Ext.refl _ | assumption | apply Ext.push | (refine Ext.trans ?_ (by assumption)))⟩
  · exact ⟨Nat.zero_le _, Ext.refl _, OutS.nil _ _ _⟩
  · (focus repeat' first | rfl | exact trivial | apply And.intro)
end Go.AX.Sa

namespace Go.AX.Sa
open Go.Proofs
set_option maxRecDepth 100000
variable {K : Known}
/-! The kept rows around a row, and its figure: numbers. -/
theorem keptLt {l : List Int} (hG : GrowP l) {m : Nat} : ∀ d, m + d + 1 < l.length → l.getD m 0 < l.getD (m + d + 1) 0 := by
  intro d
  induction d with
  | zero => intro h; exact hG m h
  | succ d ih =>
    intro h
    have h1 := ih (by omega)
    have h2 := hG (m + d + 1) (by omega)
    rw [show m + (d + 1) + 1 = m + d + 1 + 1 by omega]
    omega
theorem keptLe {l : List Int} (hG : GrowP l) {m n : Nat} (h : m ≤ n) (hn : n < l.length) : l.getD m 0 ≤ l.getD n 0 := by
  by_cases he : m = n
  · subst he; exact Int.le_refl _
  · have := keptLt hG (m := m) (n - m - 1) (by omega)
    rw [show m + (n - m - 1) + 1 = n by omega] at this
    omega
def befK (l : List Int) (j : Int) : Nat → Int
  | 0 => l.getD 0 0
  | k + 1 => if l.getD k 0 ≤ j then max (befK l j k) (l.getD k 0) else befK l j k
def aftK (l : List Int) (j : Int) : Nat → Int
  | 0 => l.getD (l.length - 1) 0
  | k + 1 => if j ≤ l.getD k 0 then min (aftK l j k) (l.getD k 0) else aftK l j k
theorem befK_is {l : List Int} (hG : GrowP l) {j : Int} {i : Nat} (hi : i < l.length) (h1 : l.getD i 0 ≤ j) (h2 : i + 1 < l.length → j < l.getD (i + 1) 0) : ∀ k, k ≤ l.length → befK l j k = l.getD (min (k - 1) i) 0 := by
  intro k
  induction k with
  | zero => intro _; show l.getD 0 0 = _; rw [show min (0 - 1) i = 0 by omega]
  | succ k ih =>
    intro hk
    have ih := ih (by omega)
    unfold befK
    by_cases hki : k ≤ i
    · have a := keptLe hG hki hi
      have b := keptLe hG (show min (k - 1) i ≤ k by omega) (by omega)
      rw [if_pos (by omega), ih, show min (k + 1 - 1) i = k by omega]
      omega
    · have a := h2 (by omega)
      have b := keptLe hG (show i + 1 ≤ k by omega) (by omega)
      rw [if_neg (by omega), ih, show min (k - 1) i = i by omega, show min (k + 1 - 1) i = i by omega]
theorem aftK_is {l : List Int} (hG : GrowP l) {j : Int} {i : Nat} (hi : i < l.length) (h1 : j ≤ l.getD i 0) (h2 : ∀ m, m + 1 = i → l.getD m 0 < j) : ∀ k, k ≤ l.length → aftK l j k = if k ≤ i then l.getD (l.length - 1) 0 else l.getD i 0 := by
  intro k
  induction k with
  | zero => intro _; rw [if_pos (Nat.zero_le _)]; rfl
  | succ k ih =>
    intro hk
    have ih := ih (by omega)
    unfold aftK
    by_cases hki : k < i
    · have a := h2 (i - 1) (by omega)
      have b := keptLe hG (show k ≤ i - 1 by omega) (by omega)
      rw [if_neg (by omega), ih, if_pos (by omega), if_pos (by omega)]
    · have a := keptLe hG (show i ≤ k by omega) (by omega)
      have c := keptLe hG (show k ≤ l.length - 1 by omega) (by omega)
      rw [if_pos (by omega), if_neg (by omega), ih]
      by_cases hke : k = i
      · subst hke; rw [if_pos (Nat.le_refl _)]; omega
      · rw [if_neg (by omega)]; omega
def bef (l : List Int) (j : Int) : Int := befK l j l.length
def aft (l : List Int) (j : Int) : Int := aftK l j l.length
theorem zeU {l : List Int} (hG : GrowP l) {j : Int} {i : Nat} (hi : i < l.length) (h1 : l.getD i 0 ≤ j) (h2 : i + 1 < l.length → j < l.getD (i + 1) 0) : bef l j = l.getD i 0 := by
  unfold bef; rw [befK_is hG hi h1 h2 _ (Nat.le_refl _), show min (l.length - 1) i = i by omega]
theorem zeW {l : List Int} (hG : GrowP l) {j : Int} {i : Nat} (hi : i < l.length) (h1 : j ≤ l.getD i 0) (h2 : ∀ m, m + 1 = i → l.getD m 0 < j) : aft l j = l.getD i 0 := by
  unfold aft; rw [aftK_is hG hi h1 h2 _ (Nat.le_refl _), if_neg (by omega)]
def figv (l t : List Int) (r : Int) (j : Nat) : Int :=
  if bef l j = aft l j then t.getD (bef l j).toNat 0 else rnd r (mixv (bef l j) (aft l j) j (t.getD (bef l j).toNat 0) (t.getD (aft l j).toNat 0)) (aft l j - bef l j)
theorem zb5 {l t : List Int} {r : Int} {i j : Nat} (hG : GrowP l) (hi : i < l.length) (hj : l.getD i 0 = (j : Nat)) : figv l t r j = t.getD j 0 := by
  have e1 := zeU hG (j := (j : Nat)) hi (by omega) (fun w => by have := hG i w; omega)
  have e2 := zeW hG (j := (j : Nat)) hi (by omega) (fun m w => by have := hG m (by omega); rw [w] at this; omega)
  unfold figv
  rw [e1, e2, if_pos rfl, hj, Int.toNat_natCast]
theorem zfq {l t : List Int} {r : Int} {i j : Nat} (hG : GrowP l) (hi : i + 1 < l.length) (h1 : l.getD i 0 < (j : Nat)) (h2 : ((j : Nat) : Int) < l.getD (i + 1) 0) :
    figv l t r j = rnd r (mixv (l.getD i 0) (l.getD (i + 1) 0) j (t.getD (l.getD i 0).toNat 0) (t.getD (l.getD (i + 1) 0).toNat 0)) (l.getD (i + 1) 0 - l.getD i 0) := by
  have e1 := zeU hG (j := (j : Nat)) (i := i) (by omega) (by omega) (fun _ => h2)
  have e2 := zeW hG (j := (j : Nat)) (i := i + 1) hi (by omega) (fun m w => by rw [show m = i by omega]; exact h1)
  unfold figv
  rw [e1, e2, if_neg (by omega)]
def figs (l t : List Int) (r : Int) (k : Nat) : List Int := (List.range k).map (figv l t r)
theorem zdJ (l t : List Int) (r : Int) (k : Nat) : (figs l t r k).length = k := by simp [figs]
theorem zc1 {l t : List Int} {r : Int} {k j : Nat} (h : j < k) : (figs l t r k).getD j 0 = figv l t r j := by
  simp [figs, List.getD_eq_getElem?_getD, h]
/-- Every row is kept, or lies between two kept ones. -/
theorem zkg {n : Nat} {l : List Int} (hP : KeptP n l) {j : Nat} (hj : j < n) : (∃ i, i < l.length ∧ l.getD i 0 = (j : Nat)) ∨ ∃ i, i + 1 < l.length ∧ l.getD i 0 < (j : Nat) ∧ ((j : Nat) : Int) < l.getD (i + 1) 0 := by
  obtain ⟨h2, h0, h1, hG⟩ := hP
  have key : ∀ m, m < l.length → ((j : Nat) : Int) ≤ l.getD m 0 → (∃ i, i < l.length ∧ l.getD i 0 = (j : Nat)) ∨ ∃ i, i + 1 < l.length ∧ l.getD i 0 < (j : Nat) ∧ ((j : Nat) : Int) < l.getD (i + 1) 0 := by
    intro m
    induction m with
    | zero => intro hm hle; exact .inl ⟨0, hm, by omega⟩
    | succ m ih =>
      intro hm hle
      by_cases he : l.getD (m + 1) 0 = (j : Nat)
      · exact .inl ⟨m + 1, hm, he⟩
      · by_cases hl : ((j : Nat) : Int) ≤ l.getD m 0
        · exact ih (by omega) hl
        · exact .inr ⟨m, hm, by omega, by omega⟩
  exact key (l.length - 1) (by omega) (by omega)
end Go.AX.Sa

namespace Go.AX.Sa
open Go.Proofs
set_option maxRecDepth 100000
variable {K : Known}
/-! The figures of all rows. -/
theorem getD_set {l : List Int} {k j : Nat} {n : Int} (h : k < l.length) : (l.set k n).getD j 0 = if j = k then n else l.getD j 0 := by
  simp only [List.getD_eq_getElem?_getD, List.getElem?_set]
  by_cases hj : k = j
  · subst hj; simp [h]
  · rw [if_neg hj, if_neg (fun q => hj q.symm)]
theorem list_eq {a b : List Int} (hl : a.length = b.length) (h : ∀ j, j < a.length → a.getD j 0 = b.getD j 0) : a = b := by
  apply List.ext_getElem hl
  intro j h1 h2
  have := h j h1
  simpa [List.getD_eq_getElem?_getD, h1, h2] using this
/-- slices.Clone of a list that is not empty. -/
theorem zix (hK : NoK K) {t : List Int} {q : Option Addr} {cap : Nat} {h : Heap} (hp : 0 < t.length) (hl : t.length ≤ 1000) (hr : Rd h q (ints t)) :
    CallW Tryz.prog K 103 #[.slice q t.length cap] h fun v h1 => Ext h h1 ∧ ∃ b, v = .slice (some ⟨b, 0, none⟩) t.length unk ∧ h1.get? b = some (.cells (ints t) 3 true) ∧ h.n ≤ b := by
  obtain ⟨b, e, own, rfl, hg⟩ := hr.at (by rw [zau]; omega)
  refine body (N := 8) Tryz.func103 rfl (hK _ _ _ rfl) rfl rfl ?_
  (repeat' (first | apply zah | apply zad | (apply O_at; rfl) | (apply zag; rfl) | apply zaf | (apply zaG; rfl) | apply zat | apply zav | apply zaw | ((first | apply zae | apply zac); rfl; rfl; rfl; rfl) | (apply P_nilF; rfl; rfl; rfl; rfl; rfl; exact zao rfl) | (apply P_build0; rfl; rfl; rfl; rfl; exact zbM rfl) | (apply zdb; rfl; rfl; rfl; rfl; rfl; rfl; (apply app_full; rfl; rfl; exact zbM rfl; exact zao rfl; (focus repeat' first | exact zaa | assumption | apply zab); (first | rfl | exact zau _); (first | decide | omega); (first | decide | omega); (first | rfl | exact ints_one _); (focus repeat' first | exact zaa | assumption | apply zab); (first | rfl | exact zau _); omega; omega)) | fail))
  refine ⟨.inr rfl, _, rfl, ?_, (h.push (.cells [] 3 true)).n, ?_, ?_, ?_⟩
  · (focus repeat' first | exact Ext.refl _ | assumption | apply Ext.push)
  · simp [resV]
  · exact zaa
  · exact Nat.le_succ _


theorem zhV {s : List (Int × Int)} {t : List Int} (hV : Vals s) (hT : TruthP s t) {j : Nat} (hj : j < s.length) : -10000 ≤ t.getD j 0 ∧ t.getD j 0 ≤ 10000 := by
  have h1 := hV j hj
  have h2 := hT.2 j (by rw [hT.1]; exact hj)
  unfold ValP at h1
  omega
set_option maxHeartbeats 2000000 in
theorem zju (hK : NoK K) {T : Tb} {l t : List Int} {b bt cap ct : Nat} {e et : TypeId} {own ownt : Bool} {h : Heap} (hP : TbP T) (hKp : KeptP T.s.length l) (hT : TruthP T.s t) (hcap : l.length ≤ cap) (hll : l.length ≤ 1000)
    (hg : h.get? b = some (.cells (ints l) e own)) (hgt : h.get? bt = some (.cells (ints t) et ownt)) :
    CallW Tryz.prog K 65 #[ktV T (some ⟨b, 0, none⟩) l.length cap, .slice (some ⟨bt, 0, none⟩) t.length ct] h (IsL (figs l t T.r T.s.length) h) := by
  obtain ⟨q, kq, s, r, o⟩ := T
  dsimp only at hP hKp hT ⊢
  have htl := hT.1
  have hn := hP.1
  dsimp only at hn
  have hr := hP.2.2.1
  have hG := hKp.2.2.2
  have hl2 := hKp.1
  have h0 := hKp.2.1
  have h1 := hKp.2.2.1
  have hbd : ∀ j, j < s.length → -10000 ≤ t.getD j 0 ∧ t.getD j 0 ≤ 10000 := fun j hj => zhV hP.2.1 hT hj
  have hlk : ∀ i, i < l.length → 0 ≤ l.getD i 0 ∧ l.getD i 0 ≤ (s.length : Int) - 1 := fun i hi => by
    have a := keptLe hG (Nat.zero_le i) hi
    have c := keptLe hG (show i ≤ l.length - 1 by omega) (by omega)
    omega
  have hb0 := Heap.get_lt hg
  have hbt0 := Heap.get_lt hgt
  refine body (N := 48) Tryz.func65 rfl (hK _ _ _ rfl) rfl rfl ?_
  (repeat' (first | apply zah | apply zad | (apply O_at; rfl) | (apply zag; rfl) | apply zaf | ((first | apply zae | apply zac | apply zaz); rfl; rfl; rfl; rfl) | (apply za4; rfl; rfl; rfl; rfl; exact zak rfl; rfl; rfl) | fail))
  apply zaj; rfl; rfl; rfl; rfl; rfl; rfl
  exact zix hK (by omega) (by omega) (.inr ⟨_, _, _, rfl, zab hgt⟩)
  rintro _ h2 ⟨x2, bc, rfl, gc, hbc⟩
  have hk2 : h2.get? h.n = some (.cells [.slice q s.length kq, .int .i64 r, .int .i64 o, .slice (some ⟨b, 0, none⟩) l.length cap] 82 true) := x2.get zaa
  have hg2 := x2.get (zab hg)
  have hgt2 := x2.get (zab hgt)
  (repeat' (first | apply zah | apply zad | (apply O_at; rfl) | (apply zag; rfl) | apply zaf | ((first | apply zae | apply zac | apply zaz); rfl; rfl; rfl; rfl) | (apply zaF; rfl; rfl; rfl; rfl; exact za6 rfl; (focus repeat' first | exact zaa | assumption | apply zab | (apply Ext.get; assumption) | (apply ExtBut.get; assumption; (first | assumption | omega | (simp only [Heap.push]; omega)))); (first | exact Nat.le_of_ble_eq_true rfl | (simp; done) | (simp; omega) | (rw [zai]; omega)); (first | exact zaB (by omega) | rfl)) | fail))
  apply zaj; rfl; rfl; rfl; rfl; rfl; rfl
  exact pairs_ok (T := ⟨q, kq, s, r, o⟩) hK ⟨hl2, hll⟩ hcap hg2
  rintro _ h3 ⟨pp, cp, rfl, rp, fp, x3⟩
  have hpl := zhb l (l.length - 1)
  obtain ⟨bp, ep, ownp, rfl, gp⟩ := rp.at (by rw [zai]; omega)
  have gc3 := x3.get gc
  have hk3 := x3.get hk2
  have hgt3 := x3.get hgt2
  have hbp := Heap.get_lt gp
  have hn3 := Heap.get_lt gc3
  have hn2 := Heap.get_lt gc
  have fp' := fp _ rfl
  dsimp only at fp'
  simp only [Heap.push] at hbc
  rw [hpl]
  (repeat' (first | (apply O_at; rfl) | (apply zag; rfl) | apply zaf | apply zal | ((first | apply zae | apply zac | apply zaz); rfl; rfl; rfl; rfl) | (apply zaN; rfl; rfl; rfl; rfl; rfl; rfl; exact zao rfl) | fail))
  refine zaT (fun a : Nat × List Int => [(14, .int .i64 (a.1 : Nat)), (13, .int .i64 ((l.length - 1 : Nat) : Int)), (12, .slice (some ⟨bp, 0, none⟩) (l.length - 1) cp), (5, .slice (some ⟨bc, 0, none⟩) t.length unk), (2, .pointer (some ⟨h.n, 0, none⟩)), (1, .slice (some ⟨bt, 0, none⟩) t.length ct)])
    (fun a h' => a.1 ≤ l.length - 1 ∧ ExtBut bc h3 h' ∧ h'.get? bc = some (.cells (ints a.2) 3 true) ∧ a.2.length = t.length ∧ ∀ j, j < t.length → a.2.getD j 0 = if ((j : Nat) : Int) < l.getD a.1 0 then figv l t r j else t.getD j 0) (fun a => l.length - 1 - a.1) ?_ (0, t) ?_ ?_
  · rintro ⟨i, F⟩ h' ⟨hi, hx, hb, hF, hj⟩ ih
    dsimp only at hi hb hF hj ih ⊢
    have hne : bp ≠ bc := by omega
    have hne2 : h.n ≠ bc := by omega
    have hne3 : bt ≠ bc := by omega
    have gp' := hx.get hne gp
    have hk' := hx.get hne2 hk3
    have hgt' := hx.get hne3 hgt3
    by_cases hlt : i < l.length - 1
    · have hpi : i < (prs l (l.length - 1)).length := by omega
      have hpg := prs_get (l := l) (k := l.length - 1) hlt
      have a1 := hlk i (by omega)
      have a2 := hlk (i + 1) (by omega)
      have a3 := hG i (by omega)
      have e1 : ((prs l (l.length - 1)).getD i (0, 0)).1 = l.getD i 0 := by rw [hpg]
      have e2 : ((prs l (l.length - 1)).getD i (0, 0)).2 = l.getD (i + 1) 0 := by rw [hpg]
      obtain ⟨A, hA⟩ : ∃ A : Nat, l.getD i 0 = (A : Nat) := ⟨(l.getD i 0).toNat, by omega⟩
      obtain ⟨C, hC⟩ : ∃ C : Nat, l.getD (i + 1) 0 = (C : Nat) := ⟨(l.getD (i + 1) 0).toNat, by omega⟩
      have hn' := hx.n
      (repeat' (first | apply zah | apply zad | (apply O_at; rfl) | (apply zag; rfl) | apply zaf | (apply zaE; rfl) | apply zal | apply zat | ((first | apply zae | apply zac | apply zaz); rfl; rfl; rfl; rfl) | ((first | apply P_fa | apply M_fa); rfl; rfl; rfl; rfl; exact zaU rfl; (first | exact Nat.zero_add _ | exact Nat.add_zero _ | rfl)) | (apply zaA; rfl; rfl; rfl; rfl; rfl; omega) | (apply zaV; rfl; rfl; rfl; rfl; rfl; (unfold fit; omega)) | (apply zch; rfl; rfl; rfl; rfl; rfl; exact zao rfl; exact zak rfl; (first | assumption | rfl | exact (Int.toNat_of_nonneg (by omega)).symm); omega) | (apply zan; rfl; rfl; rfl; rfl; exact zay rfl; (focus repeat' first | exact zaa | assumption | apply zab | (apply Ext.get; assumption) | (apply ExtBut.get; assumption; (first | assumption | omega | (simp only [Heap.push]; omega)))); (first | exact zar (by omega) | rfl | assumption)) | (apply zaF; rfl; rfl; rfl; rfl; exact za6 rfl; (focus repeat' first | exact zaa | assumption | apply zab | (apply Ext.get; assumption) | (apply ExtBut.get; assumption; (first | assumption | omega | (simp only [Heap.push]; omega)))); (first | exact Nat.le_of_ble_eq_true rfl | (simp; done) | (simp; omega) | (rw [zai]; omega)); (first | exact zaB (by omega) | rfl)) | (apply zaX; rfl; rfl; rfl; rfl; exact zak rfl; rfl; rfl; rfl) | (apply zbi; rfl; rfl; rfl; rfl; exact zak rfl; rfl; rfl) | fail))
      simp only [e1, e2, hA, hC]
      refine zaT (fun a : Nat × List Int => [(8, .int .i64 (a.1 : Nat)), (14, .int .i64 (i : Nat)), (13, .int .i64 ((l.length - 1 : Nat) : Int)), (12, .slice (some ⟨bp, 0, none⟩) (l.length - 1) cp), (7, .pointer (some ⟨h'.n, 0, none⟩)), (5, .slice (some ⟨bc, 0, none⟩) t.length unk), (2, .pointer (some ⟨h.n, 0, none⟩)), (1, .slice (some ⟨bt, 0, none⟩) t.length ct)])
        (fun a g => A + 1 ≤ a.1 ∧ a.1 ≤ C ∧ ExtBut bc (h'.push (.cells [.int .i64 (A : Nat), .int .i64 (C : Nat)] 123 true)) g ∧ g.get? bc = some (.cells (ints a.2) 3 true) ∧ a.2.length = t.length ∧ ∀ j, j < t.length → a.2.getD j 0 = if j < a.1 then figv l t r j else t.getD j 0) (fun a => C - a.1) ?_ (A + 1, F) ?_ ?_
      · rintro ⟨row, G⟩ g ⟨hr1, hr2, hxg, hbg, hGl, hGj⟩ ih2
        dsimp only at hr1 hr2 hbg hGl hGj ih2 ⊢
        have q1 : g.get? h'.n = some (.cells [.int .i64 (A : Nat), .int .i64 (C : Nat)] 123 true) := hxg.get (by omega) zaa
        have q2 := hxg.get hne2 (zab hk')
        have q3 := hxg.get hne3 (zab hgt')
        by_cases hrow : row < C
        · have hm := zfq (l := l) (t := t) (r := r) (i := i) (j := row) hG (by omega) (by omega) (by omega)
          rw [hA, hC, Int.toNat_natCast, Int.toNat_natCast] at hm
          have hA1 := hbd A (by omega)
          have hC1 := hbd C (by omega)
          have hlr : row < G.length := by omega
          (repeat' (first | apply zah | apply zad | (apply O_at; rfl) | (apply N_at; rfl) | (apply zag; rfl) | apply zaf | (apply zaE; rfl) | (apply zbp; exact zaH (by decide +kernel)) | apply zal | apply zat | (apply zbN; rfl; refine .inr ?_; (focus repeat' first | exact trivial | exact Keeps.nil _ _ | apply And.intro | rfl | (apply Keeps.cons; iterate 2 (focus repeat' first | exact zaa | assumption | apply zab | (apply Ext.get; assumption) | (apply ExtBut.get; assumption; (first | assumption | omega | (simp only [Heap.push]; omega))))))) | apply zap | ((first | apply zae | apply zac | apply zaz); rfl; rfl; rfl; rfl) | ((first | apply P_fa | apply M_fa); rfl; rfl; rfl; rfl; exact zaU rfl; (first | exact Nat.zero_add _ | exact Nat.add_zero _ | rfl)) | (apply zaA; rfl; rfl; rfl; rfl; rfl; omega) | (apply zaV; rfl; rfl; rfl; rfl; rfl; (unfold fit; omega)) | (apply zan; rfl; rfl; rfl; rfl; exact zay rfl; (focus repeat' first | exact zaa | assumption | apply zab | (apply Ext.get; assumption) | (apply ExtBut.get; assumption; (first | assumption | omega | (simp only [Heap.push]; omega)))); (first | exact zar (by omega) | rfl | assumption)) | (apply zbV; rfl; rfl; rfl; rfl; rfl; exact zao rfl; exact zak rfl; (first | assumption | rfl | exact (Int.toNat_of_nonneg (by omega)).symm); omega) | ((first | ((apply zce; rfl; rfl; rfl; rfl; exact zay rfl); (focus repeat' first | exact zaa | assumption | apply zab | (apply Ext.get; assumption) | (apply ExtBut.get; assumption; (first | assumption | omega | (simp only [Heap.push]; omega)))); (first | exact zar (by omega) | rfl | assumption)) | ((apply zcN; rfl; rfl; rfl; rfl; exact za6 rfl); (focus repeat' first | exact zaa | assumption | apply zab | (apply Ext.get; assumption) | (apply ExtBut.get; assumption; (first | assumption | omega | (simp only [Heap.push]; omega)))); (first | exact Nat.le_of_ble_eq_true rfl | (simp; done) | (simp; omega) | (rw [zai]; omega)); (first | exact zaB (by omega) | rfl))); (first | assumption | exact za5 _ _ | exact zdS _ _ | rfl | (focus simp [same, same.all2]; done)); (first | rfl | assumption | exact hwv _ | (simp [within]; omega))) | (apply ziJ; rfl; rfl; rfl; rfl; (focus repeat' first | exact zaa | assumption | apply zab | (apply Ext.get; assumption) | (apply ExtBut.get; assumption; (first | assumption | omega | (simp only [Heap.push]; omega)))); exact zak rfl; (first | omega | (focus simp; done)); rfl; (intro _ _ _)) | ((first | (apply zaj; rfl; rfl; rfl; rfl; rfl; rfl) | (apply za8; rfl; rfl; rfl; rfl; rfl; rfl; rfl)); exact zjG hK hA1 hC1 (by omega) (by omega) (by omega) (by omega) (by omega) hr; (rintro _ _ ⟨rfl, _⟩)) | fail))
          rename_i g1 xg1 g2 qg2 xg2
          rw [← hm] at qg2
          refine zax (ih2 (row + 1, G.set row (figv l t r row)) _ (by dsimp only; omega) ⟨by dsimp only; omega, by dsimp only; omega, (hxg.trans (Ext.but xg1 _)).trans xg2, qg2, by simpa using hGl, fun j hj' => ?_⟩) (by (focus repeat' first | rfl | exact trivial | apply And.intro))
          dsimp only
          rw [getD_set hlr]
          by_cases w : j = row
          · subst w; rw [if_pos rfl, if_pos (by omega)]
          · rw [if_neg w, hGj j hj']
            by_cases w2 : j < row
            · rw [if_pos w2, if_pos (by omega)]
            · rw [if_neg w2, if_neg (by omega)]
        · have : row = C := by omega
          subst this
          (repeat' (first | apply zah | apply zad | (apply O_at; rfl) | (apply zag; rfl) | apply zaf | (apply zaG; rfl) | apply za2 | apply za3 | apply zaI | apply zaM | apply zap | ((first | apply zae | apply zac | apply zaz); rfl; rfl; rfl; rfl) | ((first | apply P_fa | apply M_fa); rfl; rfl; rfl; rfl; exact zaU rfl; (first | exact Nat.zero_add _ | exact Nat.add_zero _ | rfl)) | (apply zaR; rfl; rfl; rfl; rfl; rfl; omega) | (apply zaV; rfl; rfl; rfl; rfl; rfl; (unfold fit; omega)) | (apply zan; rfl; rfl; rfl; rfl; exact zay rfl; (focus repeat' first | exact zaa | assumption | apply zab | (apply Ext.get; assumption) | (apply ExtBut.get; assumption; (first | assumption | omega | (simp only [Heap.push]; omega)))); (first | exact zar (by omega) | rfl | assumption)) | fail))
          refine zax (ih (i + 1, G) _ (by dsimp only; omega) ⟨by dsimp only; omega, (hx.trans (Ext.but (Ext.push (Ext.refl _) _) _)).trans hxg, hbg, hGl, fun j hj' => ?_⟩) (by (focus repeat' first | rfl | exact trivial | apply And.intro))
          dsimp only
          rw [hGj j hj', hC]
          by_cases w : j < row
          · rw [if_pos w, if_pos (by omega)]
          · rw [if_neg w, if_neg (by omega)]
      · refine ⟨Nat.le_refl _, by omega, ExtBut.refl _ _, zab hb, hF, fun j hj' => ?_⟩
        dsimp only
        rw [hj j hj', hA]
        by_cases w : j < A
        · rw [if_pos (by omega), if_pos (by omega)]
        · by_cases w2 : j = A
          · subst w2
            rw [if_neg (by omega), if_pos (by omega), zb5 hG (by omega) hA]
          · rw [if_neg (by omega), if_neg (by omega)]
      · (focus repeat' first | rfl | exact trivial | apply And.intro)
    · have : i = l.length - 1 := by omega
      subst this
      (repeat' (first | apply zah | apply zad | (apply O_at; rfl) | (apply zag; rfl) | apply zaf | (apply zaG; rfl) | apply za2 | apply zav | apply za3 | apply zaI | apply zaM | apply zaw | ((first | apply zae | apply zac | apply zaz); rfl; rfl; rfl; rfl) | (apply zaR; rfl; rfl; rfl; rfl; rfl; omega) | fail))
      have hfin : F = figs l t r s.length := by
        refine list_eq (by rw [hF, zdJ, htl]) fun j hj' => ?_
        rw [hj j (by omega), zc1 (by omega)]
        by_cases w : ((j : Nat) : Int) < l.getD (l.length - 1) 0
        · rw [if_pos w]
        · rw [if_neg w, zb5 hG (show l.length - 1 < l.length by omega) (by omega)]
      refine ⟨.inr rfl, _, rfl, some ⟨bc, 0, none⟩, unk, ?_, .inr ⟨_, _, _, rfl, hfin ▸ hb⟩, ?_⟩
      · rw [zdJ, ← htl]; rfl
      · exact Ext.ofBut (((Ext.push (Ext.refl h) _).trans x2).trans x3) hx (by omega)
  · exact ⟨Nat.zero_le _, ExtBut.refl _ _, gc3, rfl, fun j hj => by dsimp only; rw [h0, if_neg (by omega)]⟩
  · (focus repeat' first | rfl | exact trivial | apply And.intro)
end Go.AX.Sa

namespace Go.AX.Sa
open Go.Proofs
set_option maxRecDepth 100000
variable {K : Known}
/-! The specification's figures; what is asked for. -/
end Go.AX.Sa

namespace Go.AX.Sa
open Go.Proofs
set_option maxRecDepth 100000
variable {K : Known}
/-! All figures, and whether they are right. -/
def RightP (s : List (Int × Int)) (l t : List Int) (r o : Int) : Prop := ∀ j, j < s.length → t.getD j 0 - o ≤ figv l t r j ∧ figv l t r j ≤ t.getD j 0 + o
end Go.AX.Sa

namespace Go.AX.Sa
open Go.Proofs
set_option maxRecDepth 100000
variable {K : Known}
/-! Check, Figures, Right. -/
theorem fill_st (q p : Option Addr) (n k m j : Nat) (r o : Int) : fillB Tryz.prog 82 [(0, .agg #[.slice q n k, .int .i64 r, .int .i64 o]), (1, .slice p m j)] = some (.agg #[.slice q n k, .int .i64 r, .int .i64 o, .slice p m j]) := by kernel_rfl
section
variable {x : Ctx} {N : Nat} {E : Env} {h : Heap} {ops : Array Oper} {F : Ex → Env → Heap → Prop} {i : Nat}
variable {d : Nat} {ty : TypeId} {pos : String} {af : Array Edge} {g : Option (Nat × Bool)} {ps : Array (Nat × Operand)}
theorem zeY {q p : Option Addr} {n k1 m j : Nat} {r o : Int} (hN : Nat.blt d N = true) (hg : gval ops E g = some true) (hk : opsOK Tryz.prog ⟨some d, .build 82 ps, ty, pos, af, g⟩ = true)
    (hps : E.parts ps.toList = some [(0, .agg #[.slice q n k1, .int .i64 r, .int .i64 o]), (1, .slice p m j)]) (k : R1 Tryz.prog K x N ops F (i + 1) ((d, .agg #[.slice q n k1, .int .i64 r, .int .i64 o, .slice p m j]) :: E) h) : R2 Tryz.prog K x N ops F i ⟨some d, .build 82 ps, ty, pos, af, g⟩ E h := zdl hN hg hk hps (fill_st q p n k1 m j r o) k
end
end Go.AX.Sa

namespace Go.AX.Sa
open Go.Proofs
set_option maxRecDepth 100000
variable {K : Known}
/-! Right; the law. -/
theorem short_ok (hK : NoK K) {T : Tb} {h : Heap} : CallW Tryz.prog K 15 #[tbV T] h (IfB (T.s.length ≤ 16) h) := by
  obtain ⟨q, kq, s, r, o⟩ := T
  dsimp only [tbV]
  refine body (N := 7) Tryz.func15 rfl (hK _ _ _ rfl) rfl rfl ?_
  by_cases hs : s.length ≤ 16
  · (repeat' (first | apply zah | apply zad | (apply O_at; rfl) | (apply zag; rfl) | apply zaf | apply zav | apply zaw | (apply zac; rfl; rfl; rfl; rfl) | (apply P_fa; rfl; rfl; rfl; rfl; exact zaU rfl; (first | exact Nat.zero_add _ | exact Nat.add_zero _ | rfl)) | (apply zaN; rfl; rfl; rfl; rfl; rfl; rfl; exact zao rfl) | (apply ziG; rfl; rfl; rfl; rfl; rfl; omega) | (apply zan; rfl; rfl; rfl; rfl; exact zay rfl; (focus repeat' first | exact zaa | assumption); (first | rfl | assumption)) | (apply za4; rfl; rfl; rfl; rfl; exact zak rfl; rfl; rfl) | fail))
    exact ⟨.inr rfl, _, rfl, .inl ⟨rfl, hs, by (focus repeat' first | exact Ext.refl _ | assumption | apply Ext.push)⟩⟩
  · (repeat' (first | apply zah | apply zad | (apply O_at; rfl) | (apply zag; rfl) | apply zaf | apply zav | apply zaw | (apply zac; rfl; rfl; rfl; rfl) | (apply P_fa; rfl; rfl; rfl; rfl; exact zaU rfl; (first | exact Nat.zero_add _ | exact Nat.add_zero _ | rfl)) | (apply zaN; rfl; rfl; rfl; rfl; rfl; rfl; exact zao rfl) | (apply zlp; rfl; rfl; rfl; rfl; rfl; omega) | (apply zan; rfl; rfl; rfl; rfl; exact zay rfl; (focus repeat' first | exact zaa | assumption); (first | rfl | assumption)) | (apply za4; rfl; rfl; rfl; rfl; exact zak rfl; rfl; rfl) | fail))
    exact ⟨.inr rfl, _, rfl, .inr ⟨rfl, hs, by (focus repeat' first | exact Ext.refl _ | assumption | apply Ext.push)⟩⟩
end Go.AX.Sa

namespace Go.AX.Sa
open Go.Proofs
set_option maxRecDepth 100000
variable {K : Known}
/-- A list in memory, as an argument. -/
structure RowAt (p : Option Addr) (l : List Int) (cap : Nat) (h : Heap) : Prop where
  rd : Rd h p (ints l)
  b : ∀ a, p = some a → a.block < h.n
  cap : l.length ≤ 1000000 → l.length ≤ cap
theorem RowAt.ext {p : Option Addr} {l : List Int} {cap : Nat} {h h1 : Heap} (x : RowAt p l cap h) (e : Ext h h1) : RowAt p l cap h1 := ⟨x.rd.ext e, fun a q => Nat.lt_of_lt_of_le (x.b a q) e.n, x.cap⟩
end Go.AX.Sa
