/- The law PayMore at the reading: what the functions that it calls answer (3). -/
import Derived.Test.YtbjagnifnbmpeaaGreatDoorPayMoreTextB
namespace Go.AX.Sa
open Go.Proofs
set_option maxRecDepth 100000
variable {K : Known}
/-! What is paid to a hand in all of its lines. -/
def tt (B : Bk) (t : List Int) (q : Int) : Nat → Int
  | 0 => 0
  | j + 1 => tt B t q j + if handOf B j = q then pd B t j else 0
theorem pd_b {B : Bk} (hP : BkP B) {t : List Int} (hT : TruP B t) {j : Nat} (hj : j < B.n) : 0 ≤ pd B t j ∧ pd B t j ≤ 32047 := by
  have h1 := due_b hP hT hj
  have hu := hP.unit
  have h2 := Int.emod_nonneg (due B t j) (show B.unit ≠ 0 by omega)
  have h3 := Int.emod_lt_of_pos (due B t j) (show 0 < B.unit by omega)
  have h4 : due B t j % B.unit + B.unit * (due B t j / B.unit) = due B t j := Int.emod_add_mul_ediv _ _
  have h5 : 0 ≤ B.unit * (due B t j / B.unit) := Int.mul_nonneg (by omega) (Int.ediv_nonneg h1.1 (by omega))
  unfold pd
  omega
theorem tt_b {B : Bk} (hP : BkP B) {t : List Int} (hT : TruP B t) (q : Int) : ∀ j, j ≤ B.n → 0 ≤ tt B t q j ∧ tt B t q j ≤ j * 32047 := by
  intro j
  induction j with
  | zero => intro _; exact ⟨Int.le_refl _, by simp [tt]⟩
  | succ j ih =>
    intro hj
    have h1 := ih (by omega)
    have h2 := pd_b hP hT (show j < B.n by omega)
    simp only [tt]
    by_cases hq : handOf B j = q
    · rw [if_pos hq]; omega
    · rw [if_neg hq]; omega
theorem paidTo_ok (hK : NoK K) {B : Bk} {q : Option Addr} {t : List Int} {kt : Nat} {n : Int} {h : Heap} (hB : BkAt B h) (hP : BkP B) (rt : Rd h q (ints t)) (hT : TruP B t) :
    CallW Tryz.prog K 105 #[btV B q t.length kt, .int .i64 n] h (IsV (.int .i64 (tt B t n B.n)) h) := by
  have hn := hP.n
  have hpl := pds_len B t B.n
  obtain ⟨b, e, own', hp, hg⟩ := hB.rd.at (by rw [ints_len, hB.len]; omega)
  refine body (N := 36) Tryz.func105 rfl (hK _ _ _ rfl) rfl rfl ?_
  (repeat' (first | (apply K_seq) | (apply K_region) | (apply O_at; rfl) | (apply O_fin; rfl) | (apply C_seq) | (apply K_ifT; rfl) | (apply K_ifF; rfl) | (apply K_block) | (apply K_skip) | (apply K_exit) | (apply K_ret) | (apply C_exit) | (apply C_exitS) | (apply C_exitL) | (apply C_blockN) | (apply C_nil) | (apply P_move; rfl; rfl; rfl; rfl) | (apply P_assign; rfl; rfl; rfl; rfl) | (apply P_fa; rfl; rfl; rfl; rfl; exact fo_ok rfl; (first | exact Nat.zero_add _ | exact Nat.add_zero _ | rfl)) | (apply P_len; rfl; rfl; rfl; rfl; rfl; rfl; exact un_ok rfl) | (apply P_extract; rfl; rfl; rfl; rfl; rfl) | (apply P_lssF; rfl; rfl; rfl; rfl; rfl; omega) | (apply P_lssT; rfl; rfl; rfl; rfl; rfl; omega) | (apply P_eqlF; rfl; rfl; rfl; rfl; rfl; omega) | (apply P_eqlT; rfl; rfl; rfl; rfl; rfl; omega) | (apply P_add; rfl; rfl; rfl; rfl; rfl; (unfold fit; omega)) | (apply P_idxA; rfl; rfl; rfl; rfl; rfl; exact un_ok rfl; exact sz_ok rfl; (first | rfl | exact (Int.toNat_of_nonneg (by omega)).symm); omega) | (apply P_idxB; rfl; rfl; rfl; rfl; rfl; exact un_ok rfl; exact sz_ok rfl; (first | rfl | exact (Int.toNat_of_nonneg (by omega)).symm); omega) | (apply P_load1; rfl; rfl; rfl; rfl; exact on_ok rfl; (focus repeat' first | exact get_push_same | assumption | apply get_push_old | (apply Ext.get; assumption)); (first | exact ints_get (by omega) | rfl | assumption)) | (apply P_loadA; rfl; rfl; rfl; rfl; exact ag_ok rfl; (focus repeat' first | exact get_push_same | assumption | apply get_push_old | (apply Ext.get; assumption)); (first | exact Nat.le_of_ble_eq_true rfl | (simp; done) | (simp; omega) | (rw [ints_len]; omega)); rfl) | (apply P_box; rfl; rfl; rfl; rfl; exact sz_ok rfl; rfl; rfl) | (apply P_call; rfl; rfl; rfl; rfl; rfl; rfl; exact settle_ok hK (hB.ext (by (focus repeat' first | exact Ext.refl _ | assumption | apply Ext.push | (refine Ext.trans ?_ (by assumption))))) hP (rt.ext (by (focus repeat' first | exact Ext.refl _ | assumption | apply Ext.push | (refine Ext.trans ?_ (by assumption))))) hT; (rintro _ _ ⟨_, _, rfl, _, _, _⟩)) | fail))
  rename_i h5 v r o5 m5 x5
  have o5' := o5
  obtain ⟨p5, c5, rfl, rd5⟩ := OutI.sl (e := 3) o5'
  obtain ⟨b5, e5, w5, rfl, g5⟩ := rd5.at (by rw [ints_len]; omega)
  (repeat' (first | (apply K_seq) | (apply K_region) | (apply O_at; rfl) | (apply O_fin; rfl) | (apply C_seq) | (apply K_ifT; rfl) | (apply K_ifF; rfl) | (apply K_block) | (apply K_skip) | (apply K_exit) | (apply K_ret) | (apply C_exit) | (apply C_exitS) | (apply C_exitL) | (apply C_blockN) | (apply C_nil) | (apply P_move; rfl; rfl; rfl; rfl) | (apply P_assign; rfl; rfl; rfl; rfl) | (apply P_fa; rfl; rfl; rfl; rfl; exact fo_ok rfl; (first | exact Nat.zero_add _ | exact Nat.add_zero _ | rfl)) | (apply P_len; rfl; rfl; rfl; rfl; rfl; rfl; exact un_ok rfl) | (apply P_extract; rfl; rfl; rfl; rfl; rfl) | (apply P_lssF; rfl; rfl; rfl; rfl; rfl; omega) | (apply P_lssT; rfl; rfl; rfl; rfl; rfl; omega) | (apply P_eqlF; rfl; rfl; rfl; rfl; rfl; omega) | (apply P_eqlT; rfl; rfl; rfl; rfl; rfl; omega) | (apply P_add; rfl; rfl; rfl; rfl; rfl; (unfold fit; omega)) | (apply P_idxA; rfl; rfl; rfl; rfl; rfl; exact un_ok rfl; exact sz_ok rfl; (first | rfl | exact (Int.toNat_of_nonneg (by omega)).symm); omega) | (apply P_idxB; rfl; rfl; rfl; rfl; rfl; exact un_ok rfl; exact sz_ok rfl; (first | rfl | exact (Int.toNat_of_nonneg (by omega)).symm); omega) | (apply P_load1; rfl; rfl; rfl; rfl; exact on_ok rfl; (focus repeat' first | exact get_push_same | assumption | apply get_push_old | (apply Ext.get; assumption)); (first | exact ints_get (by omega) | rfl | assumption)) | (apply P_loadA; rfl; rfl; rfl; rfl; exact ag_ok rfl; (focus repeat' first | exact get_push_same | assumption | apply get_push_old | (apply Ext.get; assumption)); (first | exact Nat.le_of_ble_eq_true rfl | (simp; done) | (simp; omega) | (rw [ints_len]; omega)); rfl) | (apply P_box; rfl; rfl; rfl; rfl; exact sz_ok rfl; rfl; rfl) | fail))
  refine K_loopE (fun k : Nat => [(17, .int .i64 (k : Nat)), (16, .int .i64 ((pds B t B.n).length : Nat)), (15, .slice (some ⟨b5, 0, none⟩) (pds B t B.n).length c5), (5, .int .i64 (tt B t n k)), (2, .pointer (some ⟨h.n, 0, none⟩)), (1, .int .i64 n)])
    (fun k h' => k ≤ B.n ∧ Ext h5 h') (fun k => B.n - k) ?_ 0 ?_ ?_
  · intro k h' ⟨hk, hx⟩ ih
    have hgb : h'.get? h.n = some (.cells (btV B q t.length kt).cells.toList 90 true) := hx.get (x5.get get_push_same)
    have hg' := hx.get (x5.get (get_push_old hg))
    have g5' := hx.get g5
    have hlen := hB.len
    by_cases hlt : k < B.n
    · have hline := (hP.line k hlt).1
      have hpg := pds_get (B := B) (t := t) hlt
      have hpb := pd_b hP hT hlt
      have htb := tt_b hP hT n k (by omega)
      have hkb : (k : Int) * 32047 ≤ 5 * 32047 := by omega
      by_cases hh : handOf B k = n
      · have e1 : tt B t n (k + 1) = tt B t n k + (pds B t B.n).getD k 0 := by simp only [tt]; rw [if_pos hh, hpg]
        unfold handOf at hh
        (repeat' (first | (apply K_seq) | (apply K_region) | (apply O_at; rfl) | (apply O_fin; rfl) | (apply C_seq) | (apply K_ifT; rfl) | (apply K_ifF; rfl) | (apply K_block) | (apply K_skip) | (apply K_exit) | (apply K_ret) | (apply C_exit) | (apply C_exitS) | (apply C_exitL) | (apply C_blockN) | (apply C_nil) | (apply P_move; rfl; rfl; rfl; rfl) | (apply P_assign; rfl; rfl; rfl; rfl) | (apply P_fa; rfl; rfl; rfl; rfl; exact fo_ok rfl; (first | exact Nat.zero_add _ | exact Nat.add_zero _ | rfl)) | (apply P_len; rfl; rfl; rfl; rfl; rfl; rfl; exact un_ok rfl) | (apply P_extract; rfl; rfl; rfl; rfl; rfl) | (apply P_lssF; rfl; rfl; rfl; rfl; rfl; omega) | (apply P_lssT; rfl; rfl; rfl; rfl; rfl; omega) | (apply P_eqlF; rfl; rfl; rfl; rfl; rfl; omega) | (apply P_eqlT; rfl; rfl; rfl; rfl; rfl; omega) | (apply P_add; rfl; rfl; rfl; rfl; rfl; (unfold fit; omega)) | (apply P_idxA; rfl; rfl; rfl; rfl; rfl; exact un_ok rfl; exact sz_ok rfl; (first | rfl | exact (Int.toNat_of_nonneg (by omega)).symm); omega) | (apply P_idxB; rfl; rfl; rfl; rfl; rfl; exact un_ok rfl; exact sz_ok rfl; (first | rfl | exact (Int.toNat_of_nonneg (by omega)).symm); omega) | (apply P_load1; rfl; rfl; rfl; rfl; exact on_ok rfl; (focus repeat' first | exact get_push_same | assumption | apply get_push_old | (apply Ext.get; assumption)); (first | exact ints_get (by omega) | rfl | assumption)) | (apply P_loadA; rfl; rfl; rfl; rfl; exact ag_ok rfl; (focus repeat' first | exact get_push_same | assumption | apply get_push_old | (apply Ext.get; assumption)); (first | exact Nat.le_of_ble_eq_true rfl | (simp; done) | (simp; omega) | (rw [ints_len]; omega)); rfl) | (apply P_box; rfl; rfl; rfl; rfl; exact sz_ok rfl; rfl; rfl) | fail))
        rw [hp]
        (repeat' (first | (apply K_seq) | (apply K_region) | (apply O_at; rfl) | (apply O_fin; rfl) | (apply C_seq) | (apply K_ifT; rfl) | (apply K_ifF; rfl) | (apply K_block) | (apply K_skip) | (apply K_exit) | (apply K_ret) | (apply C_exit) | (apply C_exitS) | (apply C_exitL) | (apply C_blockN) | (apply C_nil) | (apply P_move; rfl; rfl; rfl; rfl) | (apply P_assign; rfl; rfl; rfl; rfl) | (apply P_fa; rfl; rfl; rfl; rfl; exact fo_ok rfl; (first | exact Nat.zero_add _ | exact Nat.add_zero _ | rfl)) | (apply P_len; rfl; rfl; rfl; rfl; rfl; rfl; exact un_ok rfl) | (apply P_extract; rfl; rfl; rfl; rfl; rfl) | (apply P_lssF; rfl; rfl; rfl; rfl; rfl; omega) | (apply P_lssT; rfl; rfl; rfl; rfl; rfl; omega) | (apply P_eqlF; rfl; rfl; rfl; rfl; rfl; omega) | (apply P_eqlT; rfl; rfl; rfl; rfl; rfl; omega) | (apply P_add; rfl; rfl; rfl; rfl; rfl; (unfold fit; omega)) | (apply P_idxA; rfl; rfl; rfl; rfl; rfl; exact un_ok rfl; exact sz_ok rfl; (first | rfl | exact (Int.toNat_of_nonneg (by omega)).symm); omega) | (apply P_idxB; rfl; rfl; rfl; rfl; rfl; exact un_ok rfl; exact sz_ok rfl; (first | rfl | exact (Int.toNat_of_nonneg (by omega)).symm); omega) | (apply P_load1; rfl; rfl; rfl; rfl; exact on_ok rfl; (focus repeat' first | exact get_push_same | assumption | apply get_push_old | (apply Ext.get; assumption)); (first | exact ints_get (by omega) | rfl | assumption)) | (apply P_loadA; rfl; rfl; rfl; rfl; exact ag_ok rfl; (focus repeat' first | exact get_push_same | assumption | apply get_push_old | (apply Ext.get; assumption)); (first | exact Nat.le_of_ble_eq_true rfl | (simp; done) | (simp; omega) | (rw [ints_len]; omega)); rfl) | (apply P_box; rfl; rfl; rfl; rfl; exact sz_ok rfl; rfl; rfl) | fail))
        exact C_again (ih (k + 1) _ (by omega) ⟨hlt, by (focus repeat' first | exact Ext.refl _ | assumption | apply Ext.push | (refine Ext.trans ?_ (by assumption)))⟩) ⟨rfl, rfl, rfl, (by rw [e1]; rfl), rfl, rfl, trivial⟩
      · have e1 : tt B t n (k + 1) = tt B t n k := by simp only [tt]; rw [if_neg hh]; omega
        unfold handOf at hh
        (repeat' (first | (apply K_seq) | (apply K_region) | (apply O_at; rfl) | (apply O_fin; rfl) | (apply C_seq) | (apply K_ifT; rfl) | (apply K_ifF; rfl) | (apply K_block) | (apply K_skip) | (apply K_exit) | (apply K_ret) | (apply C_exit) | (apply C_exitS) | (apply C_exitL) | (apply C_blockN) | (apply C_nil) | (apply P_move; rfl; rfl; rfl; rfl) | (apply P_assign; rfl; rfl; rfl; rfl) | (apply P_fa; rfl; rfl; rfl; rfl; exact fo_ok rfl; (first | exact Nat.zero_add _ | exact Nat.add_zero _ | rfl)) | (apply P_len; rfl; rfl; rfl; rfl; rfl; rfl; exact un_ok rfl) | (apply P_extract; rfl; rfl; rfl; rfl; rfl) | (apply P_lssF; rfl; rfl; rfl; rfl; rfl; omega) | (apply P_lssT; rfl; rfl; rfl; rfl; rfl; omega) | (apply P_eqlF; rfl; rfl; rfl; rfl; rfl; omega) | (apply P_eqlT; rfl; rfl; rfl; rfl; rfl; omega) | (apply P_add; rfl; rfl; rfl; rfl; rfl; (unfold fit; omega)) | (apply P_idxA; rfl; rfl; rfl; rfl; rfl; exact un_ok rfl; exact sz_ok rfl; (first | rfl | exact (Int.toNat_of_nonneg (by omega)).symm); omega) | (apply P_idxB; rfl; rfl; rfl; rfl; rfl; exact un_ok rfl; exact sz_ok rfl; (first | rfl | exact (Int.toNat_of_nonneg (by omega)).symm); omega) | (apply P_load1; rfl; rfl; rfl; rfl; exact on_ok rfl; (focus repeat' first | exact get_push_same | assumption | apply get_push_old | (apply Ext.get; assumption)); (first | exact ints_get (by omega) | rfl | assumption)) | (apply P_loadA; rfl; rfl; rfl; rfl; exact ag_ok rfl; (focus repeat' first | exact get_push_same | assumption | apply get_push_old | (apply Ext.get; assumption)); (first | exact Nat.le_of_ble_eq_true rfl | (simp; done) | (simp; omega) | (rw [ints_len]; omega)); rfl) | (apply P_box; rfl; rfl; rfl; rfl; exact sz_ok rfl; rfl; rfl) | fail))
        rw [hp]
        (repeat' (first | (apply K_seq) | (apply K_region) | (apply O_at; rfl) | (apply O_fin; rfl) | (apply C_seq) | (apply K_ifT; rfl) | (apply K_ifF; rfl) | (apply K_block) | (apply K_skip) | (apply K_exit) | (apply K_ret) | (apply C_exit) | (apply C_exitS) | (apply C_exitL) | (apply C_blockN) | (apply C_nil) | (apply P_move; rfl; rfl; rfl; rfl) | (apply P_assign; rfl; rfl; rfl; rfl) | (apply P_fa; rfl; rfl; rfl; rfl; exact fo_ok rfl; (first | exact Nat.zero_add _ | exact Nat.add_zero _ | rfl)) | (apply P_len; rfl; rfl; rfl; rfl; rfl; rfl; exact un_ok rfl) | (apply P_extract; rfl; rfl; rfl; rfl; rfl) | (apply P_lssF; rfl; rfl; rfl; rfl; rfl; omega) | (apply P_lssT; rfl; rfl; rfl; rfl; rfl; omega) | (apply P_eqlF; rfl; rfl; rfl; rfl; rfl; omega) | (apply P_eqlT; rfl; rfl; rfl; rfl; rfl; omega) | (apply P_add; rfl; rfl; rfl; rfl; rfl; (unfold fit; omega)) | (apply P_idxA; rfl; rfl; rfl; rfl; rfl; exact un_ok rfl; exact sz_ok rfl; (first | rfl | exact (Int.toNat_of_nonneg (by omega)).symm); omega) | (apply P_idxB; rfl; rfl; rfl; rfl; rfl; exact un_ok rfl; exact sz_ok rfl; (first | rfl | exact (Int.toNat_of_nonneg (by omega)).symm); omega) | (apply P_load1; rfl; rfl; rfl; rfl; exact on_ok rfl; (focus repeat' first | exact get_push_same | assumption | apply get_push_old | (apply Ext.get; assumption)); (first | exact ints_get (by omega) | rfl | assumption)) | (apply P_loadA; rfl; rfl; rfl; rfl; exact ag_ok rfl; (focus repeat' first | exact get_push_same | assumption | apply get_push_old | (apply Ext.get; assumption)); (first | exact Nat.le_of_ble_eq_true rfl | (simp; done) | (simp; omega) | (rw [ints_len]; omega)); rfl) | (apply P_box; rfl; rfl; rfl; rfl; exact sz_ok rfl; rfl; rfl) | fail))
        exact C_again (ih (k + 1) _ (by omega) ⟨hlt, by (focus repeat' first | exact Ext.refl _ | assumption | apply Ext.push | (refine Ext.trans ?_ (by assumption)))⟩) ⟨rfl, rfl, rfl, (by rw [e1]; rfl), rfl, rfl, trivial⟩
    · have : k = B.n := by omega
      subst this
      (repeat' (first | (apply K_seq) | (apply K_region) | (apply O_at; rfl) | (apply O_fin; rfl) | (apply C_seq) | (apply K_ifT; rfl) | (apply K_ifF; rfl) | (apply K_block) | (apply K_skip) | (apply K_exit) | (apply K_ret) | (apply C_exit) | (apply C_exitS) | (apply C_exitL) | (apply C_blockN) | (apply C_nil) | (apply P_move; rfl; rfl; rfl; rfl) | (apply P_assign; rfl; rfl; rfl; rfl) | (apply P_fa; rfl; rfl; rfl; rfl; exact fo_ok rfl; (first | exact Nat.zero_add _ | exact Nat.add_zero _ | rfl)) | (apply P_len; rfl; rfl; rfl; rfl; rfl; rfl; exact un_ok rfl) | (apply P_extract; rfl; rfl; rfl; rfl; rfl) | (apply P_lssF; rfl; rfl; rfl; rfl; rfl; omega) | (apply P_lssT; rfl; rfl; rfl; rfl; rfl; omega) | (apply P_eqlF; rfl; rfl; rfl; rfl; rfl; omega) | (apply P_eqlT; rfl; rfl; rfl; rfl; rfl; omega) | (apply P_add; rfl; rfl; rfl; rfl; rfl; (unfold fit; omega)) | (apply P_idxA; rfl; rfl; rfl; rfl; rfl; exact un_ok rfl; exact sz_ok rfl; (first | rfl | exact (Int.toNat_of_nonneg (by omega)).symm); omega) | (apply P_idxB; rfl; rfl; rfl; rfl; rfl; exact un_ok rfl; exact sz_ok rfl; (first | rfl | exact (Int.toNat_of_nonneg (by omega)).symm); omega) | (apply P_load1; rfl; rfl; rfl; rfl; exact on_ok rfl; (focus repeat' first | exact get_push_same | assumption | apply get_push_old | (apply Ext.get; assumption)); (first | exact ints_get (by omega) | rfl | assumption)) | (apply P_loadA; rfl; rfl; rfl; rfl; exact ag_ok rfl; (focus repeat' first | exact get_push_same | assumption | apply get_push_old | (apply Ext.get; assumption)); (first | exact Nat.le_of_ble_eq_true rfl | (simp; done) | (simp; omega) | (rw [ints_len]; omega)); rfl) | (apply P_box; rfl; rfl; rfl; rfl; exact sz_ok rfl; rfl; rfl) | fail))
      exact ⟨.inr rfl, _, rfl, rfl, by (focus repeat' first | exact Ext.refl _ | assumption | apply Ext.push | (refine Ext.trans ?_ (by assumption)))⟩
  · exact ⟨Nat.zero_le _, by (focus repeat' first | exact Ext.refl _ | assumption | apply Ext.push | (refine Ext.trans ?_ (by assumption)))⟩
  · (focus repeat' first | rfl | exact trivial | apply And.intro)
theorem totalIn_ok (hK : NoK K) {B : Bk} {n : Int} {bl : Nat} {h : Heap} (hB : BkAt B h) (hP : BkP B) {e : TypeId} {o : Bool} (hb : h.get? bl = some (.cells [.int .i64 n] e o)) :
    Tells K B 104 #[.pointer (some ⟨bl, 0, none⟩)] (fun t => tt B t n B.n) h := by
  intro h' hx q t kt rt hT
  refine body (N := 7) Tryz.func104 rfl (hK _ _ _ rfl) rfl rfl ?_
  have hb' := hx.get hb
  (repeat' (first | (apply K_seq) | (apply K_region) | (apply O_at; rfl) | (apply O_fin; rfl) | (apply C_seq) | (apply K_ret) | (apply C_nil) | (apply P_assign; rfl; rfl; rfl; rfl) | (apply P_load1; rfl; rfl; rfl; rfl; exact on_ok rfl; (focus repeat' first | exact get_push_same | assumption | apply get_push_old | (apply Ext.get; assumption)); (first | rfl | assumption)) | (apply P_loadA; rfl; rfl; rfl; rfl; exact ag_ok rfl; (focus repeat' first | exact get_push_same | assumption | apply get_push_old | (apply Ext.get; assumption)); (first | exact Nat.le_of_ble_eq_true rfl | (simp; done) | (simp; omega)); rfl) | (apply P_box; rfl; rfl; rfl; rfl; exact sz_ok rfl; rfl; rfl) | (apply P_call; rfl; rfl; rfl; rfl; rfl; rfl; exact paidTo_ok hK (hB.ext (by (focus repeat' first | exact Ext.refl _ | assumption | apply Ext.push | (refine Ext.trans ?_ (by assumption))))) hP (rt.ext (by (focus repeat' first | exact Ext.refl _ | assumption | apply Ext.push | (refine Ext.trans ?_ (by assumption))))) hT; (rintro _ _ ⟨rfl, _⟩)) | fail))
  exact ⟨.inr rfl, _, rfl, rfl, by (focus repeat' first | exact Ext.refl _ | assumption | apply Ext.push | (refine Ext.trans ?_ (by assumption)))⟩
theorem total_ok (hK : NoK K) {B : Bk} {n : Int} {h : Heap} (hB : BkAt B h) (hP : BkP B) : CallW Tryz.prog K 77 #[bkV B, .int .i64 n] h (IsV (.agg #[.int .i64 (tt B (mostT B) n B.n), .int .i64 (tt B (leastT B) n B.n)]) h) := by
  have hbb := hB.b
  refine body (N := 8) Tryz.func77 rfl (hK _ _ _ rfl) rfl rfl ?_
  (repeat' (first | (apply K_seq) | (apply K_region) | (apply O_at; rfl) | (apply O_fin; rfl) | (apply C_seq) | (apply K_ret) | (apply C_nil) | (apply P_makeFunc; rfl; rfl; rfl; rfl; rfl) | (apply P_loadA; rfl; rfl; rfl; rfl; exact ag_ok rfl; (focus repeat' first | exact get_push_same | assumption | apply get_push_old | (apply Ext.get; assumption)); (first | exact Nat.le_of_ble_eq_true rfl | (simp; done) | (simp; omega)); rfl) | (apply P_box; rfl; rfl; rfl; rfl; exact sz_ok rfl; rfl; rfl) | (apply P_alloc; rfl; rfl; rfl; rfl; exact sz_ok rfl; rfl; rfl) | (apply P_storeW; rfl; rfl; rfl; rfl; (focus repeat' first | exact get_push_same | assumption | apply get_push_old | (apply Ext.get; assumption)); exact sz_ok rfl; rfl; (first | rfl | exact ints_len _); rfl; (intro _ _ _)) | (apply P_call; rfl; rfl; rfl; rfl; rfl; rfl; exact between_ok hK (hB.ext (by (focus repeat' first | exact Ext.refl _ | assumption | apply Ext.push | (refine Ext.trans ?_ (by assumption)) | (refine Ext.ofBut ?_ (by assumption) (by first | exact Nat.le_refl _ | omega))))) hP rfl (totalIn_ok hK (hB.ext (by (focus repeat' first | exact Ext.refl _ | assumption | apply Ext.push | (refine Ext.trans ?_ (by assumption)) | (refine Ext.ofBut ?_ (by assumption) (by first | exact Nat.le_refl _ | omega))))) hP (by (focus repeat' first | exact get_push_same | assumption | apply get_push_old | (apply Ext.get; assumption)))); (rintro _ _ ⟨rfl, _⟩)) | fail))
  rename_i h5 q5 x5
  refine ⟨.inr rfl, _, resE_c rfl (readA (ag_ok rfl) q5 (Nat.le_of_ble_eq_true rfl) rfl) rfl, rfl, ?_⟩
  refine Ext.ofBut ?_ x5 (by (first | omega | (simp only [Heap.push]; omega)))
  (focus repeat' first | exact Ext.refl _ | assumption | apply Ext.push | (refine Ext.trans ?_ (by assumption)) | (refine Ext.ofBut ?_ (by assumption) (by first | exact Nat.le_refl _ | omega)))
end Go.AX.Sa

namespace Go.AX.Sa
open Go.Proofs
set_option maxRecDepth 100000
variable {K : Known}
/-! The ends of the errors, a book with another rate, and what is paid to a hand: the other way. -/
def endT (B : Bk) (m : Bool) : List Int := bif m then mostT B else leastT B
def endP (B : Bk) (m : Bool) (k : Nat) : List Int := (List.range k).map fun j => bif m then B.l.getD (j * 10 + 3) 0 else B.l.getD (j * 10 + 2) 0
def withB (B : Bk) (r : Int) : Bk := { B with sheet := r }
theorem BkAt.withB {B : Bk} {h : Heap} (hB : BkAt B h) (r : Int) : BkAt (withB B r) h := ⟨hB.g, hB.len, hB.rd, hB.b⟩
end Go.AX.Sa

namespace Go.AX.Sa
open Go.Proofs
set_option maxRecDepth 100000
variable {K : Known}
/-! The least rate with which a hand surely is paid a sum. -/
def enough (B : Bk) (n s : Int) (k : Nat) : Bool := decide (s ≤ tt (withB B (k : Nat)) (mostT B) n B.n)
def lr (B : Bk) (n s : Int) : Option Nat := (List.range 801).find? (enough B n s)
def rateV : Option Nat → Value
  | some k => .tuple #[.int .i64 (k : Nat), .int .i64 0]
  | none => .tuple #[.int .i64 0, .int .i64 5]
def needV : Option Nat → Value
  | some k => .tuple #[.int .i64 (k : Nat), .bool true]
  | none => .tuple #[.int .i64 0, .bool false]
def shC (B : Bk) (s : Int) : List Value := (bkV (withB B s)).cells.toList
section
variable {f : FuncId} {us : Array Value} {B : Bk} {n s : Int} {h : Heap} {k : Nat}
end
end Go.AX.Sa

namespace Go.AX.Sa
open Go.Proofs
set_option maxRecDepth 100000
variable {K : Known}
/-! What is paid to a hand is what is owed to it, rounded down. -/
def sm (B : Bk) (t : List Int) (q : Int) : Nat → Int
  | 0 => 0
  | j + 1 => sm B t q j + if handOf B j = q then owes B j (t.getD j 0) else 0
theorem rst_sm (B : Bk) (t : List Int) (q : Int) : ∀ j, rst B t j q = sm B t q j % B.unit := by
  intro j
  induction j with
  | zero => simp [rst, sm]
  | succ j ih =>
    simp only [rst, sm]
    by_cases hq : handOf B j = q
    · subst hq
      rw [if_pos rfl, if_pos rfl, ih, Int.emod_add_emod]
    · rw [if_neg (fun w => hq w.symm), if_neg hq, ih, Int.add_zero]
theorem tt_sm (B : Bk) (t : List Int) (q : Int) : ∀ j, tt B t q j = sm B t q j - sm B t q j % B.unit := by
  intro j
  induction j with
  | zero => simp [tt, sm]
  | succ j ih =>
    simp only [tt, sm]
    by_cases hq : handOf B j = q
    · subst hq
      rw [if_pos rfl, if_pos rfl, ih]
      unfold pd due
      rw [rst_sm, Int.emod_add_emod]
      omega
    · rw [if_neg hq, if_neg hq, ih, Int.add_zero, Int.add_zero]
theorem down_mono {u a b : Int} (hu : 0 < u) (h : a ≤ b) : a - a % u ≤ b - b % u := by
  have h1 : a % u + u * (a / u) = a := Int.emod_add_mul_ediv _ _
  have h2 : b % u + u * (b / u) = b := Int.emod_add_mul_ediv _ _
  have h3 : u * (a / u) ≤ u * (b / u) := Int.mul_le_mul_of_nonneg_left (Int.ediv_le_ediv hu h) (Int.le_of_lt hu)
  omega
theorem sm_mono {B B' : Bk} {t t' : List Int} {q : Int} (hl : ∀ j, handOf B' j = handOf B j) : ∀ n, (∀ j, j < n → owes B j (t.getD j 0) ≤ owes B' j (t'.getD j 0)) → sm B t q n ≤ sm B' t' q n := by
  intro n
  induction n with
  | zero => intro _; exact Int.le_refl _
  | succ n ih =>
    intro h
    have h1 := ih fun j hj => h j (by omega)
    have h2 := h n (by omega)
    simp only [sm, hl]
    by_cases hq : handOf B n = q
    · rw [if_pos hq, if_pos hq]; omega
    · rw [if_neg hq, if_neg hq]; omega
theorem right_ok (hK : NoK K) {B : Bk} {h : Heap} (hB : BkAt B h) : CallW Tryz.prog K 37 #[bkV B] h (IfB (B.n ≤ 7 ∧ BkP B) h) := by
  refine body (N := 9) Tryz.func37 rfl (hK _ _ _ rfl) rfl rfl ?_
  by_cases hs : B.n ≤ 7
  · (repeat' (first | (apply K_seq) | (apply K_region) | (apply O_at; rfl) | (apply O_fin; rfl) | (apply C_seq) | (apply K_ret) | (apply C_nil) | (apply P_skip; rfl; rfl; rfl) | (apply P_move; rfl; rfl; rfl; rfl) | (apply P_assign; rfl; rfl; rfl; rfl) | (apply P_pick; rfl; rfl; rfl; rfl; rfl; rfl) | (apply P_loadA; rfl; rfl; rfl; rfl; exact ag_ok rfl; (focus repeat' first | exact get_push_same | assumption | (apply Ext.get; assumption)); (first | exact Nat.le_of_ble_eq_true rfl | (simp; done) | (simp; omega)); rfl) | (apply P_box; rfl; rfl; rfl; rfl; exact sz_ok rfl; rfl; rfl) | (apply P_call; rfl; rfl; rfl; rfl; rfl; rfl; exact yes (short_ok hK) hs; (rintro _ _ ⟨rfl, _⟩)) | (apply P_call; rfl; rfl; rfl; rfl; rfl; rfl; exact refBook_ok hK (by omega) (hB.ext (by (focus repeat' first | exact Ext.refl _ | assumption | apply Ext.push | (refine Ext.trans ?_ (by assumption))))); (rintro _ _ (⟨rfl, _, _⟩ | ⟨rfl, _, _⟩))) | fail))
    · exact ⟨.inr rfl, _, rfl, .inl ⟨rfl, ⟨hs, by assumption⟩, by (focus repeat' first | exact Ext.refl _ | assumption | apply Ext.push | (refine Ext.trans ?_ (by assumption)))⟩⟩
    · rename_i w _
      exact ⟨.inr rfl, _, rfl, .inr ⟨rfl, fun q => w q.2, by (focus repeat' first | exact Ext.refl _ | assumption | apply Ext.push | (refine Ext.trans ?_ (by assumption)))⟩⟩
  · (repeat' (first | (apply K_seq) | (apply K_region) | (apply O_at; rfl) | (apply O_fin; rfl) | (apply C_seq) | (apply K_ret) | (apply C_nil) | (apply P_skip; rfl; rfl; rfl) | (apply P_move; rfl; rfl; rfl; rfl) | (apply P_assign; rfl; rfl; rfl; rfl) | (apply P_pick; rfl; rfl; rfl; rfl; rfl; rfl) | (apply P_loadA; rfl; rfl; rfl; rfl; exact ag_ok rfl; (focus repeat' first | exact get_push_same | assumption | (apply Ext.get; assumption)); (first | exact Nat.le_of_ble_eq_true rfl | (simp; done) | (simp; omega)); rfl) | (apply P_box; rfl; rfl; rfl; rfl; exact sz_ok rfl; rfl; rfl) | (apply P_call; rfl; rfl; rfl; rfl; rfl; rfl; exact no (short_ok hK) hs; (rintro _ _ ⟨rfl, _⟩)) | fail))
    exact ⟨.inr rfl, _, rfl, .inr ⟨rfl, fun q => hs q.1, by (focus repeat' first | exact Ext.refl _ | assumption | apply Ext.push | (refine Ext.trans ?_ (by assumption)))⟩⟩
theorem span_ok (hK : NoK K) {a b : Int} {h : Heap} : CallW Tryz.prog K 45 #[.int .i64 a, .int .i64 b] h (IsV (.agg #[.int .i64 a, .int .i64 b]) h) := by
  refine body (N := 8) Tryz.func45 rfl (hK _ _ _ rfl) rfl rfl ?_
  (repeat' (first | (apply K_seq) | (apply K_region) | (apply O_at; rfl) | (apply O_fin; rfl) | (apply C_seq) | (apply K_ret) | (apply C_nil) | (apply P_move; rfl; rfl; rfl; rfl) | (apply P_storeTop; rfl; rfl; rfl; rfl; exact sz_ok rfl; rfl; rfl; rfl) | (apply P_build44; rfl; rfl; rfl; rfl) | (apply P_alloc; rfl; rfl; rfl; rfl; exact sz_ok rfl; rfl; rfl) | fail))
  refine ⟨.inr rfl, _, resE_c rfl (readA (ag_ok rfl) get_push_same (Nat.le_of_ble_eq_true rfl) rfl) rfl, rfl, ?_⟩
  (focus repeat' first | exact Ext.refl _ | assumption | apply Ext.push)
theorem totalY_ok (hK : NoK K) {B : Bk} {n : Int} {h : Heap} (hB : BkAt B h) (hP : BkP B) (hh : 0 ≤ n ∧ n ≤ B.hands - 1) : CallW Tryz.prog K 39 #[bkV B, .int .i64 n] h (IsV (.tuple #[.agg #[.int .i64 (tt B (mostT B) n B.n), .int .i64 (tt B (leastT B) n B.n)], .int .i64 0]) h) := by
  have hn := hP.n
  refine body (N := 19) Tryz.func39 rfl (hK _ _ _ rfl) rfl rfl ?_
  (repeat' (first | (apply K_seq) | (apply K_region) | (apply O_at; rfl) | (apply O_fin; rfl) | (apply C_seq) | (apply K_ifF; rfl) | (apply K_skip) | (apply K_ret) | (apply C_nil) | (apply P_move; rfl; rfl; rfl; rfl) | (apply P_assign; rfl; rfl; rfl; rfl) | (apply P_pick; rfl; rfl; rfl; rfl; rfl; rfl) | (apply P_not; rfl; rfl; rfl; rfl) | (apply P_loadA; rfl; rfl; rfl; rfl; exact ag_ok rfl; (focus repeat' first | exact get_push_same | assumption | apply get_push_old | (apply Ext.get; assumption)); (first | exact Nat.le_of_ble_eq_true rfl | (simp; done) | (simp; omega)); rfl) | (apply P_box; rfl; rfl; rfl; rfl; exact sz_ok rfl; rfl; rfl) | (apply P_alloc; rfl; rfl; rfl; rfl; exact sz_ok rfl; rfl; rfl) | (apply P_storeW; rfl; rfl; rfl; rfl; (focus repeat' first | exact get_push_same | assumption | apply get_push_old | (apply Ext.get; assumption)); exact sz_ok rfl; rfl; (first | rfl | exact ints_len _); rfl; (intro _ _ _)) | (apply P_call; rfl; rfl; rfl; rfl; rfl; rfl; exact yes (isBook_ok hK (by omega) (hB.ext (by (focus repeat' first | exact Ext.refl _ | assumption | apply Ext.push | (refine Ext.trans ?_ (by assumption)) | (refine Ext.ofBut ?_ (by assumption) (by first | exact Nat.le_refl _ | omega)))))) hP; (rintro _ _ ⟨rfl, _⟩)) | (apply P_call; rfl; rfl; rfl; rfl; rfl; rfl; exact yes (isHand_ok hK hP.hands) hh; (rintro _ _ ⟨rfl, _⟩)) | (apply P_call; rfl; rfl; rfl; rfl; rfl; rfl; exact total_ok hK (hB.ext (by (focus repeat' first | exact Ext.refl _ | assumption | apply Ext.push | (refine Ext.trans ?_ (by assumption)) | (refine Ext.ofBut ?_ (by assumption) (by first | exact Nat.le_refl _ | omega))))) hP; (rintro _ _ ⟨rfl, _⟩)) | fail))
  rename_i h5 q5 x5
  refine ⟨.inr rfl, _, resE_c rfl (readA (ag_ok rfl) q5 (Nat.le_of_ble_eq_true rfl) rfl) rfl, rfl, ?_⟩
  refine Ext.ofBut ?_ x5 (by (first | omega | (simp only [Heap.push]; omega)))
  (focus repeat' first | exact Ext.refl _ | assumption | apply Ext.push | (refine Ext.trans ?_ (by assumption)) | (refine Ext.ofBut ?_ (by assumption) (by first | exact Nat.le_refl _ | omega)))
end Go.AX.Sa

namespace Go.AX.Sa
open Go.Proofs
set_option maxRecDepth 100000
variable {K : Known}
/-! The law of the rate with which a hand surely is paid enough. -/
end Go.AX.Sa

namespace Go.AX.Sa
open Go.Proofs
set_option maxRecDepth 100000
variable {K : Known}
/-! A book with another line. -/
def spl (l : List Int) (o : Nat) (vs : List Int) : List Int := l.take o ++ vs ++ l.drop (o + vs.length)
theorem spl_len {l : List Int} {o : Nat} {vs : List Int} (h : o + vs.length ≤ l.length) : (spl l o vs).length = l.length := by
  simp only [spl, List.length_append, List.length_take, List.length_drop]; omega
theorem spl_ints (l : List Int) (o : Nat) (vs : List Int) : splice (ints l) o (ints vs) = ints (spl l o vs) := by
  simp [splice, spl, ints, List.map_append, List.map_take, List.map_drop]
theorem spl_in {l : List Int} {o : Nat} {vs : List Int} (h : o + vs.length ≤ l.length) {k : Nat} (hk : k < vs.length) : (spl l o vs).getD (o + k) 0 = vs.getD k 0 := by
  have ho : (l.take o).length = o := by rw [List.length_take]; omega
  simp only [List.getD_eq_getElem?_getD, spl]
  rw [List.getElem?_append_left (by rw [List.length_append, ho]; omega), List.getElem?_append_right (by omega), ho]
  congr 2; omega
theorem spl_out {l : List Int} {o : Nat} {vs : List Int} (h : o + vs.length ≤ l.length) {k : Nat} (hk : k < o ∨ o + vs.length ≤ k) : (spl l o vs).getD k 0 = l.getD k 0 := by
  have ho : (l.take o).length = o := by rw [List.length_take]; omega
  simp only [List.getD_eq_getElem?_getD, spl]
  rcases hk with hk | hk
  · rw [List.getElem?_append_left (by rw [List.length_append, ho]; omega), List.getElem?_append_left (by omega), List.getElem?_take, if_pos hk]
  · rw [List.getElem?_append_right (by rw [List.length_append, ho]; omega), List.getElem?_drop, List.length_append, ho]
    congr 2; omega
/-- The line with more done and fewer errors. -/
def newL (B : Bk) (j : Nat) (m f : Int) : List Int := [B.l.getD (j * 10) 0, min 20 (B.l.getD (j * 10 + 1) 0 + m), B.l.getD (j * 10 + 2) 0 - min f (B.l.getD (j * 10 + 2) 0), B.l.getD (j * 10 + 3) 0 - min f (B.l.getD (j * 10 + 2) 0), min 10 (B.l.getD (j * 10 + 4) 0 + m), min 10 (B.l.getD (j * 10 + 5) 0 + m), B.l.getD (j * 10 + 6) 0, B.l.getD (j * 10 + 7) 0, B.l.getD (j * 10 + 8) 0, B.l.getD (j * 10 + 9) 0]
def moreB (B : Bk) (j : Nat) (m f : Int) (p : Option Addr) (k : Nat) : Bk := { B with p := p, k := k, l := spl B.l (j * 10) (newL B j m f) }
section
variable {B : Bk} {j : Nat} {m f : Int} {p : Option Addr} {kc : Nat}
theorem more_len (hl : B.l.length = B.n * 10) (hj : j < B.n) : (moreB B j m f p kc).l.length = B.l.length := spl_len (show j * 10 + 10 ≤ _ by omega)
theorem more_out (hl : B.l.length = B.n * 10) (hj : j < B.n) {i q : Nat} (hi : i ≠ j) (hq : q < 10) : (moreB B j m f p kc).l.getD (i * 10 + q) 0 = B.l.getD (i * 10 + q) 0 :=
  spl_out (show j * 10 + 10 ≤ _ by omega) (show i * 10 + q < j * 10 ∨ j * 10 + 10 ≤ i * 10 + q by omega)
theorem more_in (hl : B.l.length = B.n * 10) (hj : j < B.n) {q : Nat} (hq : q < 10) : (moreB B j m f p kc).l.getD (j * 10 + q) 0 = (newL B j m f).getD q 0 := spl_in (show j * 10 + 10 ≤ _ by omega) hq
theorem more_line (hP : BkP B) (hl : B.l.length = B.n * 10) (hj : j < B.n) (hm : 0 ≤ m) (hf : 0 ≤ f) : LineP B.hands (moreB B j m f p kc).l j := by
  have h0 := hP.line j hj
  have i0 : (moreB B j m f p kc).l.getD (j * 10) 0 = B.l.getD (j * 10) 0 := more_in hl hj (q := 0) (by decide)
  have i1 : (moreB B j m f p kc).l.getD (j * 10 + 1) 0 = min 20 (B.l.getD (j * 10 + 1) 0 + m) := more_in hl hj (q := 1) (by decide)
  have i2 : (moreB B j m f p kc).l.getD (j * 10 + 2) 0 = B.l.getD (j * 10 + 2) 0 - min f (B.l.getD (j * 10 + 2) 0) := more_in hl hj (q := 2) (by decide)
  have i3 : (moreB B j m f p kc).l.getD (j * 10 + 3) 0 = B.l.getD (j * 10 + 3) 0 - min f (B.l.getD (j * 10 + 2) 0) := more_in hl hj (q := 3) (by decide)
  have i4 : (moreB B j m f p kc).l.getD (j * 10 + 4) 0 = min 10 (B.l.getD (j * 10 + 4) 0 + m) := more_in hl hj (q := 4) (by decide)
  have i5 : (moreB B j m f p kc).l.getD (j * 10 + 5) 0 = min 10 (B.l.getD (j * 10 + 5) 0 + m) := more_in hl hj (q := 5) (by decide)
  have i6 : (moreB B j m f p kc).l.getD (j * 10 + 6) 0 = B.l.getD (j * 10 + 6) 0 := more_in hl hj (q := 6) (by decide)
  have i7 : (moreB B j m f p kc).l.getD (j * 10 + 7) 0 = B.l.getD (j * 10 + 7) 0 := more_in hl hj (q := 7) (by decide)
  have i8 : (moreB B j m f p kc).l.getD (j * 10 + 8) 0 = B.l.getD (j * 10 + 8) 0 := more_in hl hj (q := 8) (by decide)
  have i9 : (moreB B j m f p kc).l.getD (j * 10 + 9) 0 = B.l.getD (j * 10 + 9) 0 := more_in hl hj (q := 9) (by decide)
  unfold LineP DoneP at *
  rw [i0, i1, i2, i3, i4, i5, i6, i7, i8, i9]
  refine ⟨h0.1, ?_, h0.2.2⟩
  omega
theorem more_p (hP : BkP B) (hl : B.l.length = B.n * 10) (hj : j < B.n) (hm : 0 ≤ m) (hf : 0 ≤ f) : BkP (moreB B j m f p kc) := by
  refine ⟨hP.hands, hP.unit, hP.sheet, hP.error, hP.morning, hP.post, hP.n, fun i hi => ?_⟩
  by_cases hij : i = j
  · subst hij; exact more_line hP hl hj hm hf
  · have h0 := hP.line i hi
    have o := fun q (hq : q < 10) => more_out (m := m) (f := f) (p := p) (kc := kc) hl hj hij hq
    show LineP B.hands _ i
    unfold LineP DoneP at *
    rw [show (moreB B j m f p kc).l.getD (i * 10) 0 = _ from o 0 (by decide), o 1 (by decide), o 2 (by decide), o 3 (by decide), o 4 (by decide), o 5 (by decide), o 6 (by decide), o 7 (by decide), o 8 (by decide), o 9 (by decide)]
    exact h0
theorem more_hand (hl : B.l.length = B.n * 10) (hj : j < B.n) (i : Nat) : handOf (moreB B j m f p kc) i = handOf B i := by
  by_cases hij : i = j
  · subst hij; exact more_in hl hj (q := 0) (by decide)
  · exact more_out hl hj hij (q := 0) (by decide)
theorem more_owes (hl : B.l.length = B.n * 10) (hj : j < B.n) {i : Nat} (hi : i ≠ j) (e : Int) : owes (moreB B j m f p kc) i e = owes B i e := by
  have o := fun q (hq : q < 10) => more_out (m := m) (f := f) (p := p) (kc := kc) hl hj hi hq
  unfold owes
  rw [o 1 (by decide), o 4 (by decide), o 5 (by decide)]
  rfl
theorem more_ge (hP : BkP B) (hl : B.l.length = B.n * 10) (hj : j < B.n) (hm : 0 ≤ m) {e e' : Int} (he : e' ≤ e) : owes B j e ≤ owes (moreB B j m f p kc) j e' := by
  have i1 : (moreB B j m f p kc).l.getD (j * 10 + 1) 0 = min 20 (B.l.getD (j * 10 + 1) 0 + m) := more_in hl hj (q := 1) (by decide)
  have i4 : (moreB B j m f p kc).l.getD (j * 10 + 4) 0 = min 10 (B.l.getD (j * 10 + 4) 0 + m) := more_in hl hj (q := 4) (by decide)
  have i5 : (moreB B j m f p kc).l.getD (j * 10 + 5) 0 = min 10 (B.l.getD (j * 10 + 5) 0 + m) := more_in hl hj (q := 5) (by decide)
  have h0 := (hP.line j hj).2.1
  unfold DoneP at h0
  unfold owes
  rw [i1, i4, i5]
  show max 0 (B.sheet * B.l.getD (j * 10 + 1) 0 - B.error * e) + B.morning * B.l.getD (j * 10 + 4) 0 + B.post * B.l.getD (j * 10 + 5) 0 ≤ max 0 (B.sheet * min 20 (B.l.getD (j * 10 + 1) 0 + m) - B.error * e') + B.morning * min 10 (B.l.getD (j * 10 + 4) 0 + m) + B.post * min 10 (B.l.getD (j * 10 + 5) 0 + m)
  have a1 := Int.mul_le_mul_of_nonneg_left (show B.l.getD (j * 10 + 1) 0 ≤ min 20 (B.l.getD (j * 10 + 1) 0 + m) by omega) hP.sheet.1
  have a2 := Int.mul_le_mul_of_nonneg_left he hP.error.1
  have a3 := Int.mul_le_mul_of_nonneg_left (show B.l.getD (j * 10 + 4) 0 ≤ min 10 (B.l.getD (j * 10 + 4) 0 + m) by omega) hP.morning.1
  have a4 := Int.mul_le_mul_of_nonneg_left (show B.l.getD (j * 10 + 5) 0 ≤ min 10 (B.l.getD (j * 10 + 5) 0 + m) by omega) hP.post.1
  omega
theorem more_most (hP : BkP B) (hl : B.l.length = B.n * 10) (hj : j < B.n) (hf : 0 ≤ f) {i : Nat} (hi : i < B.n) : (mostT (moreB B j m f p kc)).getD i 0 ≤ (mostT B).getD i 0 ∧ (i ≠ j → (mostT (moreB B j m f p kc)).getD i 0 = (mostT B).getD i 0) := by
  rw [mostT_get hi, mostT_get (B := moreB B j m f p kc) hi]
  by_cases hij : i = j
  · subst hij
    have i3 : (moreB B i m f p kc).l.getD (i * 10 + 3) 0 = B.l.getD (i * 10 + 3) 0 - min f (B.l.getD (i * 10 + 2) 0) := more_in hl hj (q := 3) (by decide)
    have h0 := (hP.line i hi).2.1.2.1
    exact ⟨by rw [i3]; omega, fun q => absurd rfl q⟩
  · rw [more_out hl hj hij (by decide)]
    exact ⟨Int.le_refl _, fun _ => rfl⟩
theorem more_least (hP : BkP B) (hl : B.l.length = B.n * 10) (hj : j < B.n) (hf : 0 ≤ f) {i : Nat} (hi : i < B.n) : (leastT (moreB B j m f p kc)).getD i 0 ≤ (leastT B).getD i 0 ∧ (i ≠ j → (leastT (moreB B j m f p kc)).getD i 0 = (leastT B).getD i 0) := by
  rw [leastT_get hi, leastT_get (B := moreB B j m f p kc) hi]
  by_cases hij : i = j
  · subst hij
    have i3 : (moreB B i m f p kc).l.getD (i * 10 + 2) 0 = B.l.getD (i * 10 + 2) 0 - min f (B.l.getD (i * 10 + 2) 0) := more_in hl hj (q := 2) (by decide)
    have h0 := (hP.line i hi).2.1.2.1
    exact ⟨by rw [i3]; omega, fun q => absurd rfl q⟩
  · rw [more_out hl hj hij (by decide)]
    exact ⟨Int.le_refl _, fun _ => rfl⟩
theorem more_tt (hP : BkP B) (hl : B.l.length = B.n * 10) (hj : j < B.n) (hm : 0 ≤ m) (q : Int) {t t' : List Int} (ht : ∀ i, i < B.n → t'.getD i 0 ≤ t.getD i 0 ∧ (i ≠ j → t'.getD i 0 = t.getD i 0)) : tt B t q B.n ≤ tt (moreB B j m f p kc) t' q B.n := by
  rw [tt_sm, tt_sm]
  refine down_mono (u := B.unit) (by have := hP.unit; omega) (sm_mono (more_hand hl hj) B.n fun i hi => ?_)
  by_cases hij : i = j
  · subst hij; exact more_ge hP hl hj hm (ht i hi).1
  · rw [more_owes hl hj hij, (ht i hi).2 hij]; exact Int.le_refl _
theorem sm_same {B' : Bk} {t t' : List Int} {q : Int} (hl : ∀ i, handOf B' i = handOf B i) : ∀ n, (∀ i, i < n → handOf B i = q → owes B' i (t'.getD i 0) = owes B i (t.getD i 0)) → sm B' t' q n = sm B t q n := by
  intro n
  induction n with
  | zero => intro _; rfl
  | succ n ih =>
    intro h
    have h1 := ih fun i hi => h i (by omega)
    simp only [sm, hl]
    by_cases hq : handOf B n = q
    · rw [if_pos hq, if_pos hq, h1, h n (by omega) hq]
    · rw [if_neg hq, if_neg hq, h1]
theorem more_other (hl : B.l.length = B.n * 10) (hj : j < B.n) {q : Int} (hq : q ≠ handOf B j) {t t' : List Int} (ht : ∀ i, i < B.n → t'.getD i 0 ≤ t.getD i 0 ∧ (i ≠ j → t'.getD i 0 = t.getD i 0)) : tt (moreB B j m f p kc) t' q B.n = tt B t q B.n := by
  rw [tt_sm, tt_sm]
  rw [sm_same (more_hand hl hj) B.n fun i hi hh => ?_]
  · rfl
  · have hij : i ≠ j := by rintro rfl; exact hq hh.symm
    rw [more_owes hl hj hij, (ht i hi).2 hij]
end
end Go.AX.Sa
