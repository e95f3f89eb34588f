/- The law PayJust at the reading: what the functions that it calls answer (1). -/
import Derived.Test.YtbjagnifnbmpeaaGreatDoorSwA
namespace Go.AX.Sa
open Go.Proofs
set_option maxRecDepth 100000
variable {K : Known}
/-! Money. -/
theorem in_ok (hK : NoK K) {n low high : Int} {h : Heap} : CallW Tryz.prog K 57 #[.int .i64 n, .int .i64 low, .int .i64 high] h (IfB (low ≤ n ∧ n ≤ high) h) := by
  refine body (N := 15) Tryz.func57 rfl (hK _ _ _ rfl) rfl rfl ?_
  (repeat' (first | (apply K_seq) | (apply K_region) | (apply O_at; rfl) | (apply O_fin; rfl) | (apply C_seq) | (apply K_ret) | (apply C_nil) | (apply P_skip; rfl; rfl; rfl) | (apply P_move; rfl; rfl; rfl; rfl) | (apply P_assign; rfl; rfl; rfl; rfl) | (apply P_pick; rfl; rfl; rfl; rfl; rfl; rfl) | (apply P_leq; rfl; rfl; rfl; rfl; rfl; all_goals intro _) | (apply P_geq; rfl; rfl; rfl; rfl; rfl; all_goals intro _) | fail))
  all_goals (refine ⟨.inr rfl, _, rfl, ?_⟩; first | (refine .inl ⟨rfl, by omega, ?_⟩; (focus repeat' first | exact Ext.refl _ | assumption | apply Ext.push | (refine Ext.trans ?_ (by assumption)) | (refine Ext.set ?_ (Nat.le_succ _) (get_push_old get_push_same) _) | (refine Ext.ofBut ?_ (by assumption) (by first | exact Nat.le_refl _ | omega))); done) | (refine .inr ⟨rfl, by omega, ?_⟩; (focus repeat' first | exact Ext.refl _ | assumption | apply Ext.push | (refine Ext.trans ?_ (by assumption)) | (refine Ext.set ?_ (Nat.le_succ _) (get_push_old get_push_same) _) | (refine Ext.ofBut ?_ (by assumption) (by first | exact Nat.le_refl _ | omega))); done))
theorem within_ok (hK : NoK K) {n low high : Int} {h : Heap} : CallW Tryz.prog K 84 #[.int .i64 n, .int .i64 low, .int .i64 high] h (IfB (low ≤ n ∧ n ≤ high) h) := by
  refine body (N := 15) Tryz.func84 rfl (hK _ _ _ rfl) rfl rfl ?_
  (repeat' (first | (apply K_seq) | (apply K_region) | (apply O_at; rfl) | (apply O_fin; rfl) | (apply C_seq) | (apply K_ret) | (apply C_nil) | (apply P_skip; rfl; rfl; rfl) | (apply P_move; rfl; rfl; rfl; rfl) | (apply P_assign; rfl; rfl; rfl; rfl) | (apply P_pick; rfl; rfl; rfl; rfl; rfl; rfl) | (apply P_leq; rfl; rfl; rfl; rfl; rfl; all_goals intro _) | fail))
  all_goals (refine ⟨.inr rfl, _, rfl, ?_⟩; first | (refine .inl ⟨rfl, by omega, ?_⟩; (focus repeat' first | exact Ext.refl _ | assumption | apply Ext.push | (refine Ext.trans ?_ (by assumption)) | (refine Ext.set ?_ (Nat.le_succ _) (get_push_old get_push_same) _) | (refine Ext.ofBut ?_ (by assumption) (by first | exact Nat.le_refl _ | omega))); done) | (refine .inr ⟨rfl, by omega, ?_⟩; (focus repeat' first | exact Ext.refl _ | assumption | apply Ext.push | (refine Ext.trans ?_ (by assumption)) | (refine Ext.set ?_ (Nat.le_succ _) (get_push_old get_push_same) _) | (refine Ext.ofBut ?_ (by assumption) (by first | exact Nat.le_refl _ | omega))); done))
def moneyV (a b c d : Int) : Value := .agg #[.int .i64 a, .int .i64 b, .int .i64 c, .int .i64 d]
def MoneyP (a b c d : Int) : Prop := (0 ≤ a ∧ a ≤ 999) ∧ (0 ≤ b ∧ b ≤ 19) ∧ (0 ≤ c ∧ c ≤ 11) ∧ 0 ≤ d ∧ d ≤ 3
def far (a b c d : Int) : Int := 960 * a + 48 * b + 4 * c + d
theorem partsOf_ok (hK : NoK K) {a b c d : Int} {h : Heap} : CallW Tryz.prog K 83 #[.agg #[.int .i64 a, .int .i64 b, .int .i64 c, .int .i64 d]] h (IsV (.agg #[.int .i64 a, .int .i64 b, .int .i64 c, .int .i64 d]) h) := by
  refine body (N := 12) Tryz.func83 rfl (hK _ _ _ rfl) rfl rfl ?_
  (repeat' (first | (apply K_seq) | (apply K_region) | (apply O_at; rfl) | (apply O_fin; rfl) | (apply C_seq) | (apply K_ret) | (apply C_nil) | (apply P_fa; rfl; rfl; rfl; rfl; exact fo_ok rfl; (first | exact Nat.zero_add _ | exact Nat.add_zero _ | rfl)) | (apply P_load1; rfl; rfl; rfl; rfl; exact on_ok rfl; (focus repeat' first | exact get_push_same | assumption | apply get_push_old); (first | rfl | assumption)) | (apply P_storeTop; rfl; rfl; rfl; rfl; exact sz_ok rfl; rfl; rfl; rfl) | (apply P_box; rfl; rfl; rfl; rfl; exact sz_ok rfl; rfl; rfl) | (apply P_alloc; rfl; rfl; rfl; rfl; exact sz_ok rfl; rfl; rfl) | (apply P_build79; rfl; rfl; rfl; rfl) | fail))
  exact ⟨.inr rfl, _, resE_c rfl (readA (ag_ok rfl) get_push_same (Nat.le_of_ble_eq_true rfl) rfl) rfl, rfl, by (focus repeat' first | exact Ext.refl _ | assumption | apply Ext.push)⟩
theorem moneyOf_ok (hK : NoK K) {a b c d : Int} {h : Heap} : CallW Tryz.prog K 56 #[.agg #[.int .i64 a, .int .i64 b, .int .i64 c, .int .i64 d]] h (IsV (.agg #[.int .i64 a, .int .i64 b, .int .i64 c, .int .i64 d]) h) := by
  refine body (N := 12) Tryz.func56 rfl (hK _ _ _ rfl) rfl rfl ?_
  (repeat' (first | (apply K_seq) | (apply K_region) | (apply O_at; rfl) | (apply O_fin; rfl) | (apply C_seq) | (apply K_ret) | (apply C_nil) | (apply P_load1; rfl; rfl; rfl; rfl; exact on_ok rfl; (focus repeat' first | exact get_push_same | assumption | apply get_push_old); (first | rfl | assumption)) | (apply P_storeTop; rfl; rfl; rfl; rfl; exact sz_ok rfl; rfl; rfl; rfl) | (apply P_box; rfl; rfl; rfl; rfl; exact sz_ok rfl; rfl; rfl) | (apply P_alloc; rfl; rfl; rfl; rfl; exact sz_ok rfl; rfl; rfl) | (apply P_idxQ; rfl; rfl; rfl; rfl; rfl; exact ar_ok rfl; exact sz_ok rfl; (first | exact zq0 | exact zq1 | exact zq2 | exact zq3 | rfl | exact (Int.toNat_of_nonneg (by omega)).symm); omega) | (apply P_build23; rfl; rfl; rfl; rfl) | fail))
  exact ⟨.inr rfl, _, resE_c rfl (readA (ag_ok rfl) get_push_same (Nat.le_of_ble_eq_true rfl) rfl) rfl, rfl, by (focus repeat' first | exact Ext.refl _ | assumption | apply Ext.push)⟩
theorem isMoney_ok (hK : NoK K) {a b c d : Int} {h : Heap} (hG : Glob h) : CallW Tryz.prog K 53 #[.agg #[.int .i64 a, .int .i64 b, .int .i64 c, .int .i64 d]] h (IfB (MoneyP a b c d) h) := by
  refine body (N := 18) Tryz.func53 rfl (hK _ _ _ rfl) rfl rfl ?_
  (repeat' (first | (apply K_seq) | (apply K_region) | (apply O_at; rfl) | (apply O_fin; rfl) | (apply C_seq) | (apply K_ifT; rfl) | (apply K_ifF; rfl) | (apply K_block) | (apply K_skip) | (apply K_exit) | (apply K_ret) | (apply C_retS) | (apply C_retL) | (apply C_retB) | (apply C_exit) | (apply C_exitS) | (apply C_exitL) | (apply C_blockN) | (apply C_nil) | (apply P_move; rfl; rfl; rfl; rfl) | (apply P_assign; rfl; rfl; rfl; rfl) | (apply P_not; rfl; rfl; rfl; rfl) | (apply P_lssF; rfl; rfl; rfl; rfl; rfl; omega) | (apply P_lssT; rfl; rfl; rfl; rfl; rfl; omega) | (apply P_add; rfl; rfl; rfl; rfl; rfl; (unfold fit; omega)) | (apply P_load1; rfl; rfl; rfl; rfl; exact on_ok rfl; (focus repeat' first | exact get_push_same | assumption | (apply Ext.get; assumption)); (first | rfl | assumption)) | (apply P_loadA; rfl; rfl; rfl; rfl; exact ag_ok rfl; (focus repeat' first | exact get_push_same | assumption | (apply Ext.get; assumption)); (first | exact Nat.le_of_ble_eq_true rfl | (simp; done) | (simp; omega)); rfl) | (apply P_box; rfl; rfl; rfl; rfl; exact sz_ok rfl; rfl; rfl) | (apply P_idxQ; rfl; rfl; rfl; rfl; rfl; exact ar_ok rfl; exact sz_ok rfl; (first | exact zq0 | exact zq1 | exact zq2 | exact zq3 | rfl | exact (Int.toNat_of_nonneg (by omega)).symm); omega) | (apply P_indexG; rfl; rfl; rfl; rfl; rfl; (first | exact zq0 | exact zq1 | exact zq2 | exact zq3 | rfl | exact (Int.toNat_of_nonneg (by omega)).symm); exact ar_ok rfl; exact on_ok rfl; (first | decide | omega); rfl) | (apply P_call; rfl; rfl; rfl; rfl; rfl; rfl; exact partsOf_ok hK; (rintro _ _ ⟨rfl, _⟩)) | fail))
  refine K_loopE (fun k : Nat => [(7, .int .i64 (k : Nat)), (6, .agg #[.int .i64 a, .int .i64 b, .int .i64 c, .int .i64 d])])
    (fun k h' => k ≤ 4 ∧ Ext h h' ∧ (0 < k → 0 ≤ a ∧ a ≤ 999) ∧ (1 < k → 0 ≤ b ∧ b ≤ 19) ∧ (2 < k → 0 ≤ c ∧ c ≤ 11) ∧ (3 < k → 0 ≤ d ∧ d ≤ 3)) (fun k => 4 - k) ?_ 0 ?_ ?_
  · intro k h' ⟨hk, hx, p0, p1, p2, p3⟩ ih
    have g1 := hx.get hG.highest
    by_cases h4 : k = 4
    · subst h4
      (repeat' (first | (apply K_seq) | (apply K_region) | (apply O_at; rfl) | (apply O_fin; rfl) | (apply C_seq) | (apply K_ifT; rfl) | (apply K_ifF; rfl) | (apply K_block) | (apply K_skip) | (apply K_exit) | (apply K_ret) | (apply C_retS) | (apply C_retL) | (apply C_retB) | (apply C_exit) | (apply C_exitS) | (apply C_exitL) | (apply C_blockN) | (apply C_nil) | (apply P_move; rfl; rfl; rfl; rfl) | (apply P_assign; rfl; rfl; rfl; rfl) | (apply P_not; rfl; rfl; rfl; rfl) | (apply P_lssF; rfl; rfl; rfl; rfl; rfl; omega) | (apply P_lssT; rfl; rfl; rfl; rfl; rfl; omega) | (apply P_add; rfl; rfl; rfl; rfl; rfl; (unfold fit; omega)) | (apply P_load1; rfl; rfl; rfl; rfl; exact on_ok rfl; (focus repeat' first | exact get_push_same | assumption | (apply Ext.get; assumption)); (first | rfl | assumption)) | (apply P_loadA; rfl; rfl; rfl; rfl; exact ag_ok rfl; (focus repeat' first | exact get_push_same | assumption | (apply Ext.get; assumption)); (first | exact Nat.le_of_ble_eq_true rfl | (simp; done) | (simp; omega)); rfl) | (apply P_box; rfl; rfl; rfl; rfl; exact sz_ok rfl; rfl; rfl) | (apply P_idxQ; rfl; rfl; rfl; rfl; rfl; exact ar_ok rfl; exact sz_ok rfl; (first | exact zq0 | exact zq1 | exact zq2 | exact zq3 | rfl | exact (Int.toNat_of_nonneg (by omega)).symm); omega) | (apply P_indexG; rfl; rfl; rfl; rfl; rfl; (first | exact zq0 | exact zq1 | exact zq2 | exact zq3 | rfl | exact (Int.toNat_of_nonneg (by omega)).symm); exact ar_ok rfl; exact on_ok rfl; (first | decide | omega); rfl) | fail))
      exact ⟨.inr rfl, _, rfl, .inl ⟨rfl, ⟨p0 (by omega), p1 (by omega), p2 (by omega), p3 (by omega)⟩, by (focus repeat' first | exact Ext.refl _ | assumption | apply Ext.push | (refine Ext.trans ?_ (by assumption)))⟩⟩
    · have hlt : (k : Int) < 4 := by omega
      rcases (show k = 0 ∨ k = 1 ∨ k = 2 ∨ k = 3 by omega) with rfl | rfl | rfl | rfl
      all_goals ((repeat' (first | (apply K_seq) | (apply K_region) | (apply O_at; rfl) | (apply O_fin; rfl) | (apply C_seq) | (apply K_ifT; rfl) | (apply K_ifF; rfl) | (apply K_block) | (apply K_skip) | (apply K_exit) | (apply K_ret) | (apply C_retS) | (apply C_retL) | (apply C_retB) | (apply C_exit) | (apply C_exitS) | (apply C_exitL) | (apply C_blockN) | (apply C_nil) | (apply P_move; rfl; rfl; rfl; rfl) | (apply P_assign; rfl; rfl; rfl; rfl) | (apply P_not; rfl; rfl; rfl; rfl) | (apply P_lssF; rfl; rfl; rfl; rfl; rfl; omega) | (apply P_lssT; rfl; rfl; rfl; rfl; rfl; omega) | (apply P_add; rfl; rfl; rfl; rfl; rfl; (unfold fit; omega)) | (apply P_load1; rfl; rfl; rfl; rfl; exact on_ok rfl; (focus repeat' first | exact get_push_same | assumption | (apply Ext.get; assumption)); (first | rfl | assumption)) | (apply P_loadA; rfl; rfl; rfl; rfl; exact ag_ok rfl; (focus repeat' first | exact get_push_same | assumption | (apply Ext.get; assumption)); (first | exact Nat.le_of_ble_eq_true rfl | (simp; done) | (simp; omega)); rfl) | (apply P_box; rfl; rfl; rfl; rfl; exact sz_ok rfl; rfl; rfl) | (apply P_idxQ; rfl; rfl; rfl; rfl; rfl; exact ar_ok rfl; exact sz_ok rfl; (first | exact zq0 | exact zq1 | exact zq2 | exact zq3 | rfl | exact (Int.toNat_of_nonneg (by omega)).symm); omega) | (apply P_indexG; rfl; rfl; rfl; rfl; rfl; (first | exact zq0 | exact zq1 | exact zq2 | exact zq3 | rfl | exact (Int.toNat_of_nonneg (by omega)).symm); exact ar_ok rfl; exact on_ok rfl; (first | decide | omega); rfl) | (apply P_call; rfl; rfl; rfl; rfl; rfl; rfl; exact within_ok hK; (rintro _ _ (⟨rfl, _, _⟩ | ⟨rfl, _, _⟩))) | fail)))
      all_goals rename_i hw hy
      all_goals first
        | exact ⟨.inr rfl, _, rfl, .inr ⟨rfl, fun q => hw (by first | exact q.1 | exact q.2.1 | exact q.2.2.1 | exact q.2.2.2), by (focus repeat' first | exact Ext.refl _ | assumption | apply Ext.push | (refine Ext.trans ?_ (by assumption)))⟩⟩
        | exact C_again (ih 1 _ (by decide) ⟨by decide, by (focus repeat' first | exact Ext.refl _ | assumption | apply Ext.push | (refine Ext.trans ?_ (by assumption))), fun _ => hw, by omega, by omega, by omega⟩) (by (focus repeat' first | rfl | exact trivial | apply And.intro))
        | exact C_again (ih 2 _ (by decide) ⟨by decide, by (focus repeat' first | exact Ext.refl _ | assumption | apply Ext.push | (refine Ext.trans ?_ (by assumption))), fun _ => p0 (by decide), fun _ => hw, by omega, by omega⟩) (by (focus repeat' first | rfl | exact trivial | apply And.intro))
        | exact C_again (ih 3 _ (by decide) ⟨by decide, by (focus repeat' first | exact Ext.refl _ | assumption | apply Ext.push | (refine Ext.trans ?_ (by assumption))), fun _ => p0 (by decide), fun _ => p1 (by decide), fun _ => hw, by omega⟩) (by (focus repeat' first | rfl | exact trivial | apply And.intro))
        | exact C_again (ih 4 _ (by decide) ⟨by decide, by (focus repeat' first | exact Ext.refl _ | assumption | apply Ext.push | (refine Ext.trans ?_ (by assumption))), fun _ => p0 (by decide), fun _ => p1 (by decide), fun _ => p2 (by decide), fun _ => hw⟩) (by (focus repeat' first | rfl | exact trivial | apply And.intro))
  · exact ⟨by decide, by (focus repeat' first | exact Ext.refl _ | assumption | apply Ext.push | (refine Ext.trans ?_ (by assumption))), by omega, by omega, by omega, by omega⟩
  · (focus repeat' first | rfl | exact trivial | apply And.intro)
theorem farthingsOf_ok (hK : NoK K) {a b c d : Int} {h : Heap} (hG : Glob h) (hM : MoneyP a b c d) : CallW Tryz.prog K 54 #[.agg #[.int .i64 a, .int .i64 b, .int .i64 c, .int .i64 d]] h (IsV (.int .i64 (far a b c d)) h) := by
  refine body (N := 21) Tryz.func54 rfl (hK _ _ _ rfl) rfl rfl ?_
  obtain ⟨m0, m1, m2, m3⟩ := hM
  (repeat' (first | (apply K_seq) | (apply K_region) | (apply O_at; rfl) | (apply O_fin; rfl) | (apply C_seq) | (apply K_ifT; rfl) | (apply K_ifF; rfl) | (apply K_block) | (apply K_skip) | (apply K_exit) | (apply K_ret) | (apply C_exit) | (apply C_exitS) | (apply C_exitL) | (apply C_blockN) | (apply C_nil) | (apply P_move; rfl; rfl; rfl; rfl) | (apply P_assign; rfl; rfl; rfl; rfl) | (apply P_lssF; rfl; rfl; rfl; rfl; rfl; omega) | (apply P_lssT; rfl; rfl; rfl; rfl; rfl; omega) | (apply P_add; rfl; rfl; rfl; rfl; rfl; (unfold fit; omega)) | (apply P_mul; rfl; rfl; rfl; rfl; rfl; (unfold fit; omega)) | (apply P_load1; rfl; rfl; rfl; rfl; exact on_ok rfl; (focus repeat' first | exact get_push_same | assumption | (apply Ext.get; assumption)); (first | rfl | assumption)) | (apply P_loadA; rfl; rfl; rfl; rfl; exact ag_ok rfl; (focus repeat' first | exact get_push_same | assumption | (apply Ext.get; assumption)); (first | exact Nat.le_of_ble_eq_true rfl | (simp; done) | (simp; omega)); rfl) | (apply P_box; rfl; rfl; rfl; rfl; exact sz_ok rfl; rfl; rfl) | (apply P_idxQ; rfl; rfl; rfl; rfl; rfl; exact ar_ok rfl; exact sz_ok rfl; (first | exact zq0 | exact zq1 | exact zq2 | exact zq3 | rfl | exact (Int.toNat_of_nonneg (by omega)).symm); omega) | (apply P_indexG; rfl; rfl; rfl; rfl; rfl; (first | exact zq0 | exact zq1 | exact zq2 | exact zq3 | rfl | exact (Int.toNat_of_nonneg (by omega)).symm); exact ar_ok rfl; exact on_ok rfl; (first | decide | omega); rfl) | (apply P_call; rfl; rfl; rfl; rfl; rfl; rfl; exact partsOf_ok hK; (rintro _ _ ⟨rfl, _⟩)) | fail))
  refine K_loopE (fun k : Nat => [(8, .int .i64 (k : Nat)), (7, .agg #[.int .i64 a, .int .i64 b, .int .i64 c, .int .i64 d]), (3, .int .i64 (if k = 0 then 0 else if k = 1 then 0 + a * 960 else if k = 2 then 0 + a * 960 + b * 48 else if k = 3 then 0 + a * 960 + b * 48 + c * 4 else 0 + a * 960 + b * 48 + c * 4 + d * 1))])
    (fun k h' => k ≤ 4 ∧ Ext h h') (fun k => 4 - k) ?_ 0 ?_ ?_
  · intro k h' ⟨hk, hx⟩ ih
    have g1 := hx.get hG.worth
    by_cases h4 : k = 4
    · subst h4
      (repeat' (first | (apply K_seq) | (apply K_region) | (apply O_at; rfl) | (apply O_fin; rfl) | (apply C_seq) | (apply K_ifT; rfl) | (apply K_ifF; rfl) | (apply K_block) | (apply K_skip) | (apply K_exit) | (apply K_ret) | (apply C_exit) | (apply C_exitS) | (apply C_exitL) | (apply C_blockN) | (apply C_nil) | (apply P_move; rfl; rfl; rfl; rfl) | (apply P_assign; rfl; rfl; rfl; rfl) | (apply P_lssF; rfl; rfl; rfl; rfl; rfl; omega) | (apply P_lssT; rfl; rfl; rfl; rfl; rfl; omega) | (apply P_add; rfl; rfl; rfl; rfl; rfl; (unfold fit; omega)) | (apply P_mul; rfl; rfl; rfl; rfl; rfl; (unfold fit; omega)) | (apply P_load1; rfl; rfl; rfl; rfl; exact on_ok rfl; (focus repeat' first | exact get_push_same | assumption | (apply Ext.get; assumption)); (first | rfl | assumption)) | (apply P_loadA; rfl; rfl; rfl; rfl; exact ag_ok rfl; (focus repeat' first | exact get_push_same | assumption | (apply Ext.get; assumption)); (first | exact Nat.le_of_ble_eq_true rfl | (simp; done) | (simp; omega)); rfl) | (apply P_box; rfl; rfl; rfl; rfl; exact sz_ok rfl; rfl; rfl) | (apply P_idxQ; rfl; rfl; rfl; rfl; rfl; exact ar_ok rfl; exact sz_ok rfl; (first | exact zq0 | exact zq1 | exact zq2 | exact zq3 | rfl | exact (Int.toNat_of_nonneg (by omega)).symm); omega) | (apply P_indexG; rfl; rfl; rfl; rfl; rfl; (first | exact zq0 | exact zq1 | exact zq2 | exact zq3 | rfl | exact (Int.toNat_of_nonneg (by omega)).symm); exact ar_ok rfl; exact on_ok rfl; (first | decide | omega); rfl) | fail))
      exact ⟨.inr rfl, _, rfl, (by unfold far; show Value.int .i64 _ = _; congr 1; simp; omega), by (focus repeat' first | exact Ext.refl _ | assumption | apply Ext.push | (refine Ext.trans ?_ (by assumption)))⟩
    · have hlt : (k : Int) < 4 := by omega
      rcases (show k = 0 ∨ k = 1 ∨ k = 2 ∨ k = 3 by omega) with rfl | rfl | rfl | rfl
      all_goals simp only [if_true, if_false, Nat.succ_ne_self]
      all_goals ((repeat' (first | (apply K_seq) | (apply K_region) | (apply O_at; rfl) | (apply O_fin; rfl) | (apply C_seq) | (apply K_ifT; rfl) | (apply K_ifF; rfl) | (apply K_block) | (apply K_skip) | (apply K_exit) | (apply K_ret) | (apply C_exit) | (apply C_exitS) | (apply C_exitL) | (apply C_blockN) | (apply C_nil) | (apply P_move; rfl; rfl; rfl; rfl) | (apply P_assign; rfl; rfl; rfl; rfl) | (apply P_lssF; rfl; rfl; rfl; rfl; rfl; omega) | (apply P_lssT; rfl; rfl; rfl; rfl; rfl; omega) | (apply P_add; rfl; rfl; rfl; rfl; rfl; (unfold fit; omega)) | (apply P_mul; rfl; rfl; rfl; rfl; rfl; (unfold fit; omega)) | (apply P_load1; rfl; rfl; rfl; rfl; exact on_ok rfl; (focus repeat' first | exact get_push_same | assumption | (apply Ext.get; assumption)); (first | rfl | assumption)) | (apply P_loadA; rfl; rfl; rfl; rfl; exact ag_ok rfl; (focus repeat' first | exact get_push_same | assumption | (apply Ext.get; assumption)); (first | exact Nat.le_of_ble_eq_true rfl | (simp; done) | (simp; omega)); rfl) | (apply P_box; rfl; rfl; rfl; rfl; exact sz_ok rfl; rfl; rfl) | (apply P_idxQ; rfl; rfl; rfl; rfl; rfl; exact ar_ok rfl; exact sz_ok rfl; (first | exact zq0 | exact zq1 | exact zq2 | exact zq3 | rfl | exact (Int.toNat_of_nonneg (by omega)).symm); omega) | (apply P_indexG; rfl; rfl; rfl; rfl; rfl; (first | exact zq0 | exact zq1 | exact zq2 | exact zq3 | rfl | exact (Int.toNat_of_nonneg (by omega)).symm); exact ar_ok rfl; exact on_ok rfl; (first | decide | omega); rfl) | fail)))
      · exact C_again (ih 1 _ (by decide) ⟨by decide, by (focus repeat' first | exact Ext.refl _ | assumption | apply Ext.push | (refine Ext.trans ?_ (by assumption)))⟩) (by (focus repeat' first | rfl | exact trivial | apply And.intro))
      · exact C_again (ih 2 _ (by decide) ⟨by decide, by (focus repeat' first | exact Ext.refl _ | assumption | apply Ext.push | (refine Ext.trans ?_ (by assumption)))⟩) (by (focus repeat' first | rfl | exact trivial | apply And.intro))
      · exact C_again (ih 3 _ (by decide) ⟨by decide, by (focus repeat' first | exact Ext.refl _ | assumption | apply Ext.push | (refine Ext.trans ?_ (by assumption)))⟩) (by (focus repeat' first | rfl | exact trivial | apply And.intro))
      · exact C_again (ih 4 _ (by decide) ⟨by decide, by (focus repeat' first | exact Ext.refl _ | assumption | apply Ext.push | (refine Ext.trans ?_ (by assumption)))⟩) (by (focus repeat' first | rfl | exact trivial | apply And.intro))
  · exact ⟨by decide, by (focus repeat' first | exact Ext.refl _ | assumption | apply Ext.push | (refine Ext.trans ?_ (by assumption)))⟩
  · (focus repeat' first | rfl | exact trivial | apply And.intro)
theorem refMoney_ok (hK : NoK K) {a b c d : Int} {h : Heap} : CallW Tryz.prog K 17 #[.agg #[.int .i64 a, .int .i64 b, .int .i64 c, .int .i64 d]] h (IfB (MoneyP a b c d) h) := by
  refine body (N := 21) Tryz.func17 rfl (hK _ _ _ rfl) rfl rfl ?_
  (repeat' (first | (apply K_seq) | (apply K_region) | (apply O_at; rfl) | (apply O_fin; rfl) | (apply C_seq) | (apply K_ret) | (apply C_nil) | (apply P_skip; rfl; rfl; rfl) | (apply P_move; rfl; rfl; rfl; rfl) | (apply P_assign; rfl; rfl; rfl; rfl) | (apply P_fa; rfl; rfl; rfl; rfl; exact fo_ok rfl; (first | exact Nat.zero_add _ | exact Nat.add_zero _ | rfl)) | (apply P_pick; rfl; rfl; rfl; rfl; rfl; rfl) | (apply P_load1; rfl; rfl; rfl; rfl; exact on_ok rfl; (focus repeat' first | exact get_push_same | assumption | (apply Ext.get; assumption)); (first | rfl | assumption)) | (apply P_box; rfl; rfl; rfl; rfl; exact sz_ok rfl; rfl; rfl) | (apply P_call; rfl; rfl; rfl; rfl; rfl; rfl; exact in_ok hK; (rintro _ _ (⟨rfl, _, _⟩ | ⟨rfl, _, _⟩))) | fail))
  all_goals (refine ⟨.inr rfl, _, rfl, ?_⟩; first | (refine .inl ⟨rfl, by unfold MoneyP at *; omega, ?_⟩; (focus repeat' first | exact Ext.refl _ | assumption | apply Ext.push | (refine Ext.trans ?_ (by assumption)) | (refine Ext.set ?_ (Nat.le_succ _) (get_push_old get_push_same) _) | (refine Ext.ofBut ?_ (by assumption) (by first | exact Nat.le_refl _ | omega))); done) | (refine .inr ⟨rfl, by unfold MoneyP at *; omega, ?_⟩; (focus repeat' first | exact Ext.refl _ | assumption | apply Ext.push | (refine Ext.trans ?_ (by assumption)) | (refine Ext.set ?_ (Nat.le_succ _) (get_push_old get_push_same) _) | (refine Ext.ofBut ?_ (by assumption) (by first | exact Nat.le_refl _ | omega))); done))
def SumP (n : Int) : Prop := 0 ≤ n ∧ n ≤ 959999
theorem refSum_ok (hK : NoK K) {n : Int} {h : Heap} : CallW Tryz.prog K 19 #[.int .i64 n] h (IfB (SumP n) h) := by
  refine body (N := 5) Tryz.func19 rfl (hK _ _ _ rfl) rfl rfl ?_
  (repeat' (first | (apply K_seq) | (apply K_region) | (apply O_at; rfl) | (apply O_fin; rfl) | (apply C_seq) | (apply K_ret) | (apply C_nil) | (apply P_move; rfl; rfl; rfl; rfl) | (apply P_assign; rfl; rfl; rfl; rfl) | (apply P_call; rfl; rfl; rfl; rfl; rfl; rfl; exact in_ok hK; (rintro _ _ (⟨rfl, _, _⟩ | ⟨rfl, _, _⟩))) | fail))
  all_goals (refine ⟨.inr rfl, _, rfl, ?_⟩; first | (refine .inl ⟨rfl, by unfold SumP at *; omega, ?_⟩; (focus repeat' first | exact Ext.refl _ | assumption | apply Ext.push | (refine Ext.trans ?_ (by assumption)) | (refine Ext.set ?_ (Nat.le_succ _) (get_push_old get_push_same) _) | (refine Ext.ofBut ?_ (by assumption) (by first | exact Nat.le_refl _ | omega))); done) | (refine .inr ⟨rfl, by unfold SumP at *; omega, ?_⟩; (focus repeat' first | exact Ext.refl _ | assumption | apply Ext.push | (refine Ext.trans ?_ (by assumption)) | (refine Ext.set ?_ (Nat.le_succ _) (get_push_old get_push_same) _) | (refine Ext.ofBut ?_ (by assumption) (by first | exact Nat.le_refl _ | omega))); done))
theorem isSum_ok (hK : NoK K) {n : Int} {h : Heap} (hG : Glob h) : CallW Tryz.prog K 55 #[.int .i64 n] h (IfB (SumP n) h) := by
  refine body (N := 8) Tryz.func55 rfl (hK _ _ _ rfl) rfl rfl ?_
  have g1 := hG.highest
  (repeat' (first | (apply K_seq) | (apply K_region) | (apply O_at; rfl) | (apply O_fin; rfl) | (apply C_seq) | (apply K_ret) | (apply C_nil) | (apply P_move; rfl; rfl; rfl; rfl) | (apply P_assign; rfl; rfl; rfl; rfl) | (apply P_loadA; rfl; rfl; rfl; rfl; exact ag_ok rfl; (focus repeat' first | assumption); (first | exact Nat.le_of_ble_eq_true rfl | (simp; done) | (simp; omega)); rfl) | (apply P_call; rfl; rfl; rfl; rfl; rfl; rfl; exact moneyOf_ok hK; (rintro _ _ ⟨rfl, _⟩)) | (apply P_call; rfl; rfl; rfl; rfl; rfl; rfl; exact farthingsOf_ok (a := 999) (b := 19) (c := 11) (d := 3) hK (hG.ext (by (focus repeat' first | assumption | (refine Ext.trans ?_ (by assumption))))) (by unfold MoneyP; omega); (rintro _ _ ⟨rfl, _⟩)) | (apply P_call; rfl; rfl; rfl; rfl; rfl; rfl; exact within_ok hK; (rintro _ _ (⟨rfl, _, _⟩ | ⟨rfl, _, _⟩))) | fail))
  all_goals rename_i hw hy
  all_goals unfold far at hw
  all_goals (refine ⟨.inr rfl, _, rfl, ?_⟩; first | (refine .inl ⟨rfl, by unfold SumP at *; omega, ?_⟩; (focus repeat' first | exact Ext.refl _ | assumption | apply Ext.push | (refine Ext.trans ?_ (by assumption)) | (refine Ext.set ?_ (Nat.le_succ _) (get_push_old get_push_same) _) | (refine Ext.ofBut ?_ (by assumption) (by first | exact Nat.le_refl _ | omega))); done) | (refine .inr ⟨rfl, by unfold SumP at *; omega, ?_⟩; (focus repeat' first | exact Ext.refl _ | assumption | apply Ext.push | (refine Ext.trans ?_ (by assumption)) | (refine Ext.set ?_ (Nat.le_succ _) (get_push_old get_push_same) _) | (refine Ext.ofBut ?_ (by assumption) (by first | exact Nat.le_refl _ | omega))); done))
/-- How a sum is told. -/
def ofM (x : Int) : Value := .agg #[.int .i64 (x / 960), .int .i64 (x / 48 % 20), .int .i64 (x / 4 % 12), .int .i64 (x % 4)]
end Go.AX.Sa

namespace Go.AX.Sa
open Go.Proofs
set_option maxRecDepth 100000
variable {K : Known}
/-! An amount of money out of farthings. -/
def cut1 (x : Int) (k : Nat) : Int := if k = 0 then x else if k = 1 then x % 960 else if k = 2 then x % 960 % 48 else if k = 3 then x % 960 % 48 % 4 else x % 960 % 48 % 4 % 1
def got1 (x : Int) (k : Nat) : List Int := if k = 0 then [0, 0, 0, 0] else if k = 1 then [x / 960, 0, 0, 0] else if k = 2 then [x / 960, x % 960 / 48, 0, 0] else if k = 3 then [x / 960, x % 960 / 48, x % 960 % 48 / 4, 0] else [x / 960, x % 960 / 48, x % 960 % 48 / 4, x % 960 % 48 % 4 / 1]
end Go.AX.Sa

namespace Go.AX.Sa
open Go.Proofs
set_option maxRecDepth 100000
variable {K : Known}
/-! The law of money. -/
def TrueB (v : Value) (_ : Heap) : Prop := v = .bool true
end Go.AX.Sa

namespace Go.AX.Sa
open Go.Proofs
set_option maxRecDepth 100000
variable {K : Known}
/-! Books: which are as defined. -/
structure Bk where
  hands : Int
  unit : Int
  sheet : Int
  error : Int
  morning : Int
  post : Int
  p : Option Addr
  k : Nat
  n : Nat
  l : List Int
def bkV (B : Bk) : Value := .agg #[.int .i64 B.hands, .int .i64 B.unit, .int .i64 B.sheet, .int .i64 B.error, .int .i64 B.morning, .int .i64 B.post, .slice B.p B.n B.k]
structure BkAt (B : Bk) (h : Heap) : Prop where
  g : Glob h
  len : B.l.length = B.n * 10
  rd : Rd h B.p (ints B.l)
  b : ∀ a, B.p = some a → a.block < h.n
theorem BkAt.ext {B : Bk} {h h1 : Heap} (x : BkAt B h) (e : Ext h h1) : BkAt B h1 := ⟨x.g.ext e, x.len, x.rd.ext e, fun a q => Nat.lt_of_lt_of_le (x.b a q) e.n⟩
/-- A line as it is defined, but for its hand and what is paid. -/
def DoneP (l : List Int) (j : Nat) : Prop := (0 ≤ l.getD (j * 10 + 1) 0 ∧ l.getD (j * 10 + 1) 0 ≤ 20) ∧ (0 ≤ l.getD (j * 10 + 2) 0 ∧ l.getD (j * 10 + 2) 0 ≤ 20 ∧ l.getD (j * 10 + 2) 0 ≤ l.getD (j * 10 + 3) 0 ∧ l.getD (j * 10 + 3) 0 ≤ 20 ∧ l.getD (j * 10 + 3) 0 - l.getD (j * 10 + 2) 0 ≤ 3) ∧ (0 ≤ l.getD (j * 10 + 4) 0 ∧ l.getD (j * 10 + 4) 0 ≤ 10) ∧ 0 ≤ l.getD (j * 10 + 5) 0 ∧ l.getD (j * 10 + 5) 0 ≤ 10
def LineP (hands : Int) (l : List Int) (j : Nat) : Prop := (0 ≤ l.getD (j * 10) 0 ∧ l.getD (j * 10) 0 ≤ hands - 1) ∧ DoneP l j ∧ MoneyP (l.getD (j * 10 + 6) 0) (l.getD (j * 10 + 7) 0) (l.getD (j * 10 + 8) 0) (l.getD (j * 10 + 9) 0)
structure BkP (B : Bk) : Prop where
  hands : 1 ≤ B.hands ∧ B.hands ≤ 3
  unit : 1 ≤ B.unit ∧ B.unit ≤ 48
  sheet : 0 ≤ B.sheet ∧ B.sheet ≤ 800
  error : 0 ≤ B.error ∧ B.error ≤ 800
  morning : 0 ≤ B.morning ∧ B.morning ≤ 800
  post : 0 ≤ B.post ∧ B.post ≤ 800
  n : 1 ≤ B.n ∧ B.n ≤ 5
  line : ∀ j, j < B.n → LineP B.hands B.l j
theorem isSpan_ok (hK : NoK K) {a b m w : Int} {h : Heap} (hm : 0 ≤ m ∧ m ≤ 1000) : CallW Tryz.prog K 125 #[.agg #[.int .i64 a, .int .i64 b], .int .i64 m, .int .i64 w] h (IfB ((-m ≤ a ∧ a ≤ m) ∧ (-m ≤ b ∧ b ≤ m) ∧ 0 ≤ b - a ∧ b - a ≤ w) h) := by
  refine body (N := 30) Tryz.func125 rfl (hK _ _ _ rfl) rfl rfl ?_
  (repeat' (first | (apply K_seq) | (apply K_region) | (apply O_at; rfl) | (apply O_fin; rfl) | (apply C_seq) | (apply K_ret) | (apply C_nil) | (apply P_skip; rfl; rfl; rfl) | (apply P_move; rfl; rfl; rfl; rfl) | (apply P_assign; rfl; rfl; rfl; rfl) | (apply P_fa; rfl; rfl; rfl; rfl; exact fo_ok rfl; (first | exact Nat.zero_add _ | exact Nat.add_zero _ | rfl)) | (apply P_pick; rfl; rfl; rfl; rfl; rfl; rfl) | (apply P_neg; rfl; rfl; rfl; rfl; (unfold fit; omega)) | (apply P_sub; rfl; rfl; rfl; rfl; rfl; (unfold fit; omega)) | (apply P_load1; rfl; rfl; rfl; rfl; exact on_ok rfl; (focus repeat' first | exact get_push_same | assumption | (apply Ext.get; assumption)); (first | rfl | assumption)) | (apply P_box; rfl; rfl; rfl; rfl; exact sz_ok rfl; rfl; rfl) | (apply P_call; rfl; rfl; rfl; rfl; rfl; rfl; exact within_ok hK; (rintro _ _ (⟨rfl, _, _⟩ | ⟨rfl, _, _⟩))) | fail))
  all_goals (refine ⟨.inr rfl, _, rfl, ?_⟩; first | (refine .inl ⟨rfl, by omega, ?_⟩; (focus repeat' first | exact Ext.refl _ | assumption | apply Ext.push | (refine Ext.trans ?_ (by assumption)) | (refine Ext.set ?_ (Nat.le_succ _) (get_push_old get_push_same) _) | (refine Ext.ofBut ?_ (by assumption) (by first | exact Nat.le_refl _ | omega))); done) | (refine .inr ⟨rfl, by omega, ?_⟩; (focus repeat' first | exact Ext.refl _ | assumption | apply Ext.push | (refine Ext.trans ?_ (by assumption)) | (refine Ext.set ?_ (Nat.le_succ _) (get_push_old get_push_same) _) | (refine Ext.ofBut ?_ (by assumption) (by first | exact Nat.le_refl _ | omega))); done))
theorem isErrors_ok (hK : NoK K) {a b : Int} {h : Heap} : CallW Tryz.prog K 114 #[.agg #[.int .i64 a, .int .i64 b]] h (IfB (0 ≤ a ∧ a ≤ 20 ∧ a ≤ b ∧ b ≤ 20 ∧ b - a ≤ 3) h) := by
  refine body (N := 10) Tryz.func114 rfl (hK _ _ _ rfl) rfl rfl ?_
  (repeat' (first | (apply K_seq) | (apply K_region) | (apply O_at; rfl) | (apply O_fin; rfl) | (apply C_seq) | (apply K_ret) | (apply C_nil) | (apply P_skip; rfl; rfl; rfl) | (apply P_move; rfl; rfl; rfl; rfl) | (apply P_assign; rfl; rfl; rfl; rfl) | (apply P_fa; rfl; rfl; rfl; rfl; exact fo_ok rfl; (first | exact Nat.zero_add _ | exact Nat.add_zero _ | rfl)) | (apply P_pick; rfl; rfl; rfl; rfl; rfl; rfl) | (apply P_geq; rfl; rfl; rfl; rfl; rfl; all_goals intro _) | (apply P_load1; rfl; rfl; rfl; rfl; exact on_ok rfl; (focus repeat' first | exact get_push_same | assumption); (first | rfl | assumption)) | (apply P_loadA; rfl; rfl; rfl; rfl; exact ag_ok rfl; (focus repeat' first | exact get_push_same | assumption); (first | exact Nat.le_of_ble_eq_true rfl | (simp; done) | (simp; omega)); rfl) | (apply P_box; rfl; rfl; rfl; rfl; exact sz_ok rfl; rfl; rfl) | (apply P_call; rfl; rfl; rfl; rfl; rfl; rfl; exact isSpan_ok hK (by decide); (rintro _ _ (⟨rfl, _, _⟩ | ⟨rfl, _, _⟩))) | fail))
  all_goals (refine ⟨.inr rfl, _, rfl, ?_⟩; first | (refine .inl ⟨rfl, by omega, ?_⟩; (focus repeat' first | exact Ext.refl _ | assumption | apply Ext.push | (refine Ext.trans ?_ (by assumption)) | (refine Ext.set ?_ (Nat.le_succ _) (get_push_old get_push_same) _) | (refine Ext.ofBut ?_ (by assumption) (by first | exact Nat.le_refl _ | omega))); done) | (refine .inr ⟨rfl, by omega, ?_⟩; (focus repeat' first | exact Ext.refl _ | assumption | apply Ext.push | (refine Ext.trans ?_ (by assumption)) | (refine Ext.set ?_ (Nat.le_succ _) (get_push_old get_push_same) _) | (refine Ext.ofBut ?_ (by assumption) (by first | exact Nat.le_refl _ | omega))); done))
theorem isDone_ok (hK : NoK K) {l : List Int} {j : Nat} {v0 v6 v7 v8 v9 : Int} {h : Heap} : CallW Tryz.prog K 91 #[.agg #[.int .i64 v0, .int .i64 (l.getD (j * 10 + 1) 0), .int .i64 (l.getD (j * 10 + 2) 0), .int .i64 (l.getD (j * 10 + 3) 0), .int .i64 (l.getD (j * 10 + 4) 0), .int .i64 (l.getD (j * 10 + 5) 0), .int .i64 v6, .int .i64 v7, .int .i64 v8, .int .i64 v9]] h (IfB (DoneP l j) h) := by
  refine body (N := 21) Tryz.func91 rfl (hK _ _ _ rfl) rfl rfl ?_
  (repeat' (first | (apply K_seq) | (apply K_region) | (apply O_at; rfl) | (apply O_fin; rfl) | (apply C_seq) | (apply K_ret) | (apply C_nil) | (apply P_skip; rfl; rfl; rfl) | (apply P_move; rfl; rfl; rfl; rfl) | (apply P_assign; rfl; rfl; rfl; rfl) | (apply P_fa; rfl; rfl; rfl; rfl; exact fo_ok rfl; (first | exact Nat.zero_add _ | exact Nat.add_zero _ | rfl)) | (apply P_pick; rfl; rfl; rfl; rfl; rfl; rfl) | (apply P_load1; rfl; rfl; rfl; rfl; exact on_ok rfl; (focus repeat' first | exact get_push_same | assumption | (apply Ext.get; assumption)); (first | rfl | assumption)) | (apply P_loadA; rfl; rfl; rfl; rfl; exact ag_ok rfl; (focus repeat' first | exact get_push_same | assumption | (apply Ext.get; assumption)); (first | exact Nat.le_of_ble_eq_true rfl | (simp; done) | (simp; omega)); rfl) | (apply P_box; rfl; rfl; rfl; rfl; exact sz_ok rfl; rfl; rfl) | (apply P_call; rfl; rfl; rfl; rfl; rfl; rfl; exact within_ok hK; (rintro _ _ (⟨rfl, _, _⟩ | ⟨rfl, _, _⟩))) | (apply P_call; rfl; rfl; rfl; rfl; rfl; rfl; exact isErrors_ok hK; (rintro _ _ (⟨rfl, _, _⟩ | ⟨rfl, _, _⟩))) | fail))
  all_goals (refine ⟨.inr rfl, _, rfl, ?_⟩; first | (refine .inl ⟨rfl, by unfold DoneP at *; omega, ?_⟩; (focus repeat' first | exact Ext.refl _ | assumption | apply Ext.push | (refine Ext.trans ?_ (by assumption)) | (refine Ext.set ?_ (Nat.le_succ _) (get_push_old get_push_same) _) | (refine Ext.ofBut ?_ (by assumption) (by first | exact Nat.le_refl _ | omega))); done) | (refine .inr ⟨rfl, by unfold DoneP at *; omega, ?_⟩; (focus repeat' first | exact Ext.refl _ | assumption | apply Ext.push | (refine Ext.trans ?_ (by assumption)) | (refine Ext.set ?_ (Nat.le_succ _) (get_push_old get_push_same) _) | (refine Ext.ofBut ?_ (by assumption) (by first | exact Nat.le_refl _ | omega))); done))
theorem isHand_ok (hK : NoK K) {B : Bk} {n : Int} {h : Heap} (hh : 1 ≤ B.hands ∧ B.hands ≤ 3) : CallW Tryz.prog K 73 #[bkV B, .int .i64 n] h (IfB (0 ≤ n ∧ n ≤ B.hands - 1) h) := by
  obtain ⟨hands, unit, sheet, error, morning, post, p, k, c, l⟩ := B
  dsimp only [bkV] at hh ⊢
  refine body (N := 10) Tryz.func73 rfl (hK _ _ _ rfl) rfl rfl ?_
  (repeat' (first | (apply K_seq) | (apply K_region) | (apply O_at; rfl) | (apply O_fin; rfl) | (apply C_seq) | (apply K_ret) | (apply C_nil) | (apply P_move; rfl; rfl; rfl; rfl) | (apply P_assign; rfl; rfl; rfl; rfl) | (apply P_fa; rfl; rfl; rfl; rfl; exact fo_ok rfl; (first | exact Nat.zero_add _ | exact Nat.add_zero _ | rfl)) | (apply P_sub; rfl; rfl; rfl; rfl; rfl; (unfold fit; omega)) | (apply P_load1; rfl; rfl; rfl; rfl; exact on_ok rfl; (focus repeat' first | exact get_push_same | assumption); (first | rfl | assumption)) | (apply P_box; rfl; rfl; rfl; rfl; exact sz_ok rfl; rfl; rfl) | (apply P_call; rfl; rfl; rfl; rfl; rfl; rfl; exact within_ok hK; (rintro _ _ (⟨rfl, _, _⟩ | ⟨rfl, _, _⟩))) | fail))
  all_goals (refine ⟨.inr rfl, _, rfl, ?_⟩; first | (refine .inl ⟨rfl, by omega, ?_⟩; (focus repeat' first | exact Ext.refl _ | assumption | apply Ext.push | (refine Ext.trans ?_ (by assumption)) | (refine Ext.set ?_ (Nat.le_succ _) (get_push_old get_push_same) _) | (refine Ext.ofBut ?_ (by assumption) (by first | exact Nat.le_refl _ | omega))); done) | (refine .inr ⟨rfl, by omega, ?_⟩; (focus repeat' first | exact Ext.refl _ | assumption | apply Ext.push | (refine Ext.trans ?_ (by assumption)) | (refine Ext.set ?_ (Nat.le_succ _) (get_push_old get_push_same) _) | (refine Ext.ofBut ?_ (by assumption) (by first | exact Nat.le_refl _ | omega))); done))
theorem refHand_ok (hK : NoK K) {B : Bk} {n : Int} {h : Heap} (hh : 1 ≤ B.hands ∧ B.hands ≤ 3) : CallW Tryz.prog K 35 #[bkV B, .int .i64 n] h (IfB (0 ≤ n ∧ n ≤ B.hands - 1) h) := by
  obtain ⟨hands, unit, sheet, error, morning, post, p, k, c, l⟩ := B
  dsimp only [bkV] at hh ⊢
  refine body (N := 10) Tryz.func35 rfl (hK _ _ _ rfl) rfl rfl ?_
  (repeat' (first | (apply K_seq) | (apply K_region) | (apply O_at; rfl) | (apply O_fin; rfl) | (apply C_seq) | (apply K_ret) | (apply C_nil) | (apply P_move; rfl; rfl; rfl; rfl) | (apply P_assign; rfl; rfl; rfl; rfl) | (apply P_fa; rfl; rfl; rfl; rfl; exact fo_ok rfl; (first | exact Nat.zero_add _ | exact Nat.add_zero _ | rfl)) | (apply P_sub; rfl; rfl; rfl; rfl; rfl; (unfold fit; omega)) | (apply P_load1; rfl; rfl; rfl; rfl; exact on_ok rfl; (focus repeat' first | exact get_push_same | assumption); (first | rfl | assumption)) | (apply P_box; rfl; rfl; rfl; rfl; exact sz_ok rfl; rfl; rfl) | (apply P_call; rfl; rfl; rfl; rfl; rfl; rfl; exact in_ok hK; (rintro _ _ (⟨rfl, _, _⟩ | ⟨rfl, _, _⟩))) | fail))
  all_goals (refine ⟨.inr rfl, _, rfl, ?_⟩; first | (refine .inl ⟨rfl, by omega, ?_⟩; (focus repeat' first | exact Ext.refl _ | assumption | apply Ext.push | (refine Ext.trans ?_ (by assumption)) | (refine Ext.set ?_ (Nat.le_succ _) (get_push_old get_push_same) _) | (refine Ext.ofBut ?_ (by assumption) (by first | exact Nat.le_refl _ | omega))); done) | (refine .inr ⟨rfl, by omega, ?_⟩; (focus repeat' first | exact Ext.refl _ | assumption | apply Ext.push | (refine Ext.trans ?_ (by assumption)) | (refine Ext.set ?_ (Nat.le_succ _) (get_push_old get_push_same) _) | (refine Ext.ofBut ?_ (by assumption) (by first | exact Nat.le_refl _ | omega))); done))
theorem refRate_ok (hK : NoK K) {n : Int} {h : Heap} : CallW Tryz.prog K 51 #[.int .i64 n] h (IfB (0 ≤ n ∧ n ≤ 800) h) := by
  refine body (N := 5) Tryz.func51 rfl (hK _ _ _ rfl) rfl rfl ?_
  (repeat' (first | (apply K_seq) | (apply K_region) | (apply O_at; rfl) | (apply O_fin; rfl) | (apply C_seq) | (apply K_ret) | (apply C_nil) | (apply P_move; rfl; rfl; rfl; rfl) | (apply P_assign; rfl; rfl; rfl; rfl) | (apply P_call; rfl; rfl; rfl; rfl; rfl; rfl; exact in_ok hK; (rintro _ _ (⟨rfl, _, _⟩ | ⟨rfl, _, _⟩))) | fail))
  all_goals (refine ⟨.inr rfl, _, rfl, ?_⟩; first | (refine .inl ⟨rfl, by omega, ?_⟩; (focus repeat' first | exact Ext.refl _ | assumption | apply Ext.push | (refine Ext.trans ?_ (by assumption)) | (refine Ext.set ?_ (Nat.le_succ _) (get_push_old get_push_same) _) | (refine Ext.ofBut ?_ (by assumption) (by first | exact Nat.le_refl _ | omega))); done) | (refine .inr ⟨rfl, by omega, ?_⟩; (focus repeat' first | exact Ext.refl _ | assumption | apply Ext.push | (refine Ext.trans ?_ (by assumption)) | (refine Ext.set ?_ (Nat.le_succ _) (get_push_old get_push_same) _) | (refine Ext.ofBut ?_ (by assumption) (by first | exact Nat.le_refl _ | omega))); done))
theorem short_ok (hK : NoK K) {B : Bk} {h : Heap} : CallW Tryz.prog K 23 #[bkV B] h (IfB (B.n ≤ 7) h) := by
  obtain ⟨hands, unit, sheet, error, morning, post, p, k, c, l⟩ := B
  dsimp only [bkV]
  refine body (N := 7) Tryz.func23 rfl (hK _ _ _ rfl) rfl rfl ?_
  (repeat' (first | (apply K_seq) | (apply K_region) | (apply O_at; rfl) | (apply O_fin; rfl) | (apply C_seq) | (apply K_ret) | (apply C_nil) | (apply P_assign; rfl; rfl; rfl; rfl) | (apply P_fa; rfl; rfl; rfl; rfl; exact fo_ok rfl; (first | exact Nat.zero_add _ | exact Nat.add_zero _ | rfl)) | (apply P_len; rfl; rfl; rfl; rfl; rfl; rfl; exact un_ok rfl) | (apply P_leq; rfl; rfl; rfl; rfl; rfl; all_goals intro _) | (apply P_load1; rfl; rfl; rfl; rfl; exact on_ok rfl; (focus repeat' first | exact get_push_same | assumption); (first | rfl | assumption)) | (apply P_box; rfl; rfl; rfl; rfl; exact sz_ok rfl; rfl; rfl) | fail))
  all_goals (refine ⟨.inr rfl, _, rfl, ?_⟩; first | (refine .inl ⟨rfl, by omega, ?_⟩; (focus repeat' first | exact Ext.refl _ | assumption | apply Ext.push | (refine Ext.trans ?_ (by assumption)) | (refine Ext.set ?_ (Nat.le_succ _) (get_push_old get_push_same) _) | (refine Ext.ofBut ?_ (by assumption) (by first | exact Nat.le_refl _ | omega))); done) | (refine .inr ⟨rfl, by omega, ?_⟩; (focus repeat' first | exact Ext.refl _ | assumption | apply Ext.push | (refine Ext.trans ?_ (by assumption)) | (refine Ext.set ?_ (Nat.le_succ _) (get_push_old get_push_same) _) | (refine Ext.ofBut ?_ (by assumption) (by first | exact Nat.le_refl _ | omega))); done))
end Go.AX.Sa

namespace Go.AX.Sa
open Go.Proofs
set_option maxRecDepth 100000
variable {K : Known}
theorem refLine_ok (hK : NoK K) {B : Bk} {j : Nat} {h : Heap} (hh : 1 ≤ B.hands ∧ B.hands ≤ 3) : CallW Tryz.prog K 70 #[bkV B, .agg #[.int .i64 (B.l.getD (j * 10) 0), .int .i64 (B.l.getD (j * 10 + 1) 0), .int .i64 (B.l.getD (j * 10 + 2) 0), .int .i64 (B.l.getD (j * 10 + 3) 0), .int .i64 (B.l.getD (j * 10 + 4) 0), .int .i64 (B.l.getD (j * 10 + 5) 0), .int .i64 (B.l.getD (j * 10 + 6) 0), .int .i64 (B.l.getD (j * 10 + 7) 0), .int .i64 (B.l.getD (j * 10 + 8) 0), .int .i64 (B.l.getD (j * 10 + 9) 0)]] h (IfB (LineP B.hands B.l j) h) := by
  refine body (N := 49) Tryz.func70 rfl (hK _ _ _ rfl) rfl rfl ?_
  have hh' := hh
  obtain ⟨hands, unit, sheet, error, morning, post, p, k, c, l⟩ := B
  dsimp only [bkV] at hh' ⊢
  (repeat' (first | (apply K_seq) | (apply K_region) | (apply O_at; rfl) | (apply O_fin; rfl) | (apply C_seq) | (apply K_ret) | (apply C_nil) | (apply P_skip; rfl; rfl; rfl) | (apply P_move; rfl; rfl; rfl; rfl) | (apply P_assign; rfl; rfl; rfl; rfl) | (apply P_fa; rfl; rfl; rfl; rfl; exact fo_ok rfl; (first | exact Nat.zero_add _ | exact Nat.add_zero _ | rfl)) | (apply P_pick; rfl; rfl; rfl; rfl; rfl; rfl) | (apply P_add; rfl; rfl; rfl; rfl; rfl; (unfold fit; omega)) | (apply P_load1; rfl; rfl; rfl; rfl; exact on_ok rfl; (focus repeat' first | exact get_push_same | assumption | apply get_push_old | (apply Ext.get; assumption)); (first | rfl | assumption)) | (apply P_loadA; rfl; rfl; rfl; rfl; exact ag_ok rfl; (focus repeat' first | exact get_push_same | assumption | apply get_push_old | (apply Ext.get; assumption)); (first | exact Nat.le_of_ble_eq_true rfl | (simp; done) | (simp; omega)); rfl) | (apply P_box; rfl; rfl; rfl; rfl; exact sz_ok rfl; rfl; rfl) | (apply P_min; rfl; rfl; rfl; rfl; rfl; rfl) | (apply P_call; rfl; rfl; rfl; rfl; rfl; rfl; exact refHand_ok (B := ⟨hands, unit, sheet, error, morning, post, p, k, c, l⟩) hK hh; (rintro _ _ (⟨rfl, _, _⟩ | ⟨rfl, _, _⟩))) | (apply P_call; rfl; rfl; rfl; rfl; rfl; rfl; exact in_ok hK; (rintro _ _ (⟨rfl, _, _⟩ | ⟨rfl, _, _⟩))) | (apply P_call; rfl; rfl; rfl; rfl; rfl; rfl; exact refMoney_ok hK; (rintro _ _ (⟨rfl, _, _⟩ | ⟨rfl, _, _⟩))) | fail))
  all_goals try dsimp only at *
  all_goals (refine ⟨.inr rfl, _, rfl, ?_⟩; first | (refine .inl ⟨rfl, by unfold LineP DoneP MoneyP at *; omega, ?_⟩; (focus repeat' first | exact Ext.refl _ | assumption | apply Ext.push | (refine Ext.trans ?_ (by assumption)) | (refine Ext.set ?_ (Nat.le_succ _) (get_push_old get_push_same) _) | (refine Ext.ofBut ?_ (by assumption) (by first | exact Nat.le_refl _ | omega))); done) | (refine .inr ⟨rfl, by unfold LineP DoneP MoneyP at *; omega, ?_⟩; (focus repeat' first | exact Ext.refl _ | assumption | apply Ext.push | (refine Ext.trans ?_ (by assumption)) | (refine Ext.set ?_ (Nat.le_succ _) (get_push_old get_push_same) _) | (refine Ext.ofBut ?_ (by assumption) (by first | exact Nat.le_refl _ | omega))); done))
theorem isBook_ok (hK : NoK K) {B : Bk} {h : Heap} (hn : B.n ≤ 1000) (hB : BkAt B h) : CallW Tryz.prog K 65 #[bkV B] h (IfB (BkP B) h) := by
  have hB' := hB
  obtain ⟨hands, unit, sheet, error, morning, post, p, kc, n, l⟩ := B
  obtain ⟨hG, hlen, rd, hb⟩ := hB'
  dsimp only [bkV] at hn hlen rd hb ⊢
  refine body (N := 64) Tryz.func65 rfl (hK _ _ _ rfl) rfl rfl ?_
  by_cases h1 : (1 ≤ hands ∧ hands ≤ 3) ∧ (1 ≤ unit ∧ unit ≤ 48) ∧ 1 ≤ n ∧ n ≤ 5
  · have hn' : (1 : Int) ≤ (n : Nat) ∧ ((n : Nat) : Int) ≤ 5 := by omega
    (repeat' (first | (apply K_seq) | (apply K_region) | (apply O_at; rfl) | (apply O_fin; rfl) | (apply C_seq) | (apply K_ifT; rfl) | (apply K_ifF; rfl) | (apply K_block) | (apply K_skip) | (apply K_exit) | (apply K_ret) | (apply C_retS) | (apply C_retL) | (apply C_retB) | (apply C_exit) | (apply C_exitS) | (apply C_exitL) | (apply C_blockN) | (apply C_nil) | (apply P_skip; rfl; rfl; rfl) | (apply P_move; rfl; rfl; rfl; rfl) | (apply P_assign; rfl; rfl; rfl; rfl) | (apply P_fa; rfl; rfl; rfl; rfl; exact fo_ok rfl; (first | exact Nat.zero_add _ | exact Nat.add_zero _ | rfl)) | (apply P_len; rfl; rfl; rfl; rfl; rfl; rfl; exact un_ok rfl) | (apply P_pick; rfl; rfl; rfl; rfl; rfl; rfl) | (apply P_not; rfl; rfl; rfl; rfl) | (apply P_lssF; rfl; rfl; rfl; rfl; rfl; omega) | (apply P_lssT; rfl; rfl; rfl; rfl; rfl; omega) | (apply P_add; rfl; rfl; rfl; rfl; rfl; (unfold fit; omega)) | (apply P_idxB; rfl; rfl; rfl; rfl; rfl; exact un_ok rfl; exact sz_ok rfl; (first | exact zq0 | exact zq1 | exact zq2 | exact zq3 | rfl | exact (Int.toNat_of_nonneg (by omega)).symm); omega) | (apply P_load1; rfl; rfl; rfl; rfl; exact on_ok rfl; (focus repeat' first | exact get_push_same | assumption | apply get_push_old | (apply Ext.get; assumption)); (first | rfl | assumption)) | (apply P_loadA; rfl; rfl; rfl; rfl; exact ag_ok rfl; (focus repeat' first | exact get_push_same | assumption | apply get_push_old | (apply Ext.get; assumption)); (first | exact Nat.le_of_ble_eq_true rfl | (simp; done) | (simp; omega) | (rw [ints_len]; omega)); (first | exact line_take (by omega) | rfl)) | (apply P_storeTop; rfl; rfl; rfl; rfl; exact sz_ok rfl; rfl; rfl; rfl) | (apply P_box; rfl; rfl; rfl; rfl; exact sz_ok rfl; rfl; rfl) | (apply P_alloc; rfl; rfl; rfl; rfl; exact sz_ok rfl; rfl; rfl) | (apply P_indexG; rfl; rfl; rfl; rfl; rfl; (first | exact zq0 | exact zq1 | exact zq2 | exact zq3 | rfl | exact (Int.toNat_of_nonneg (by omega)).symm); exact ar_ok rfl; exact on_ok rfl; (first | decide | omega); rfl) | (apply P_build79; rfl; rfl; rfl; rfl) | (apply P_call; rfl; rfl; rfl; rfl; rfl; rfl; exact yes (within_ok hK) h1.1; (rintro _ _ ⟨rfl, _⟩)) | (apply P_call; rfl; rfl; rfl; rfl; rfl; rfl; exact yes (within_ok hK) h1.2.1; (rintro _ _ ⟨rfl, _⟩)) | (apply P_call; rfl; rfl; rfl; rfl; rfl; rfl; exact yes (within_ok hK) hn'; (rintro _ _ ⟨rfl, _⟩)) | fail))
    rename_i h0 hx0
    refine K_loopE (fun k : Nat => [(33, .int .i64 (k : Nat)), (32, .agg #[.int .i64 sheet, .int .i64 error, .int .i64 morning, .int .i64 post]), (1, .pointer (some ⟨h.n, 0, none⟩))])
      (fun k h' => k ≤ 4 ∧ Ext (h.push (.cells [.int .i64 hands, .int .i64 unit, .int .i64 sheet, .int .i64 error, .int .i64 morning, .int .i64 post, .slice p n kc] 40 true)) h' ∧ (0 < k → 0 ≤ sheet ∧ sheet ≤ 800) ∧ (1 < k → 0 ≤ error ∧ error ≤ 800) ∧ (2 < k → 0 ≤ morning ∧ morning ≤ 800) ∧ (3 < k → 0 ≤ post ∧ post ≤ 800)) (fun k => 4 - k) ?_ 0 ?_ ?_
    · intro k h' ⟨hk, hx, p0, p1, p2, p3⟩ ih
      have hg1 := hx.get get_push_same
      by_cases h4 : k = 4
      · subst h4
        (repeat' (first | (apply K_seq) | (apply K_region) | (apply O_at; rfl) | (apply O_fin; rfl) | (apply C_seq) | (apply K_ifT; rfl) | (apply K_ifF; rfl) | (apply K_block) | (apply K_skip) | (apply K_exit) | (apply K_ret) | (apply C_retS) | (apply C_retL) | (apply C_retB) | (apply C_exit) | (apply C_exitS) | (apply C_exitL) | (apply C_blockN) | (apply C_nil) | (apply P_skip; rfl; rfl; rfl) | (apply P_move; rfl; rfl; rfl; rfl) | (apply P_assign; rfl; rfl; rfl; rfl) | (apply P_fa; rfl; rfl; rfl; rfl; exact fo_ok rfl; (first | exact Nat.zero_add _ | exact Nat.add_zero _ | rfl)) | (apply P_len; rfl; rfl; rfl; rfl; rfl; rfl; exact un_ok rfl) | (apply P_pick; rfl; rfl; rfl; rfl; rfl; rfl) | (apply P_not; rfl; rfl; rfl; rfl) | (apply P_lssF; rfl; rfl; rfl; rfl; rfl; omega) | (apply P_lssT; rfl; rfl; rfl; rfl; rfl; omega) | (apply P_add; rfl; rfl; rfl; rfl; rfl; (unfold fit; omega)) | (apply P_idxB; rfl; rfl; rfl; rfl; rfl; exact un_ok rfl; exact sz_ok rfl; (first | exact zq0 | exact zq1 | exact zq2 | exact zq3 | rfl | exact (Int.toNat_of_nonneg (by omega)).symm); omega) | (apply P_load1; rfl; rfl; rfl; rfl; exact on_ok rfl; (focus repeat' first | exact get_push_same | assumption | apply get_push_old | (apply Ext.get; assumption)); (first | rfl | assumption)) | (apply P_loadA; rfl; rfl; rfl; rfl; exact ag_ok rfl; (focus repeat' first | exact get_push_same | assumption | apply get_push_old | (apply Ext.get; assumption)); (first | exact Nat.le_of_ble_eq_true rfl | (simp; done) | (simp; omega) | (rw [ints_len]; omega)); (first | exact line_take (by omega) | rfl)) | (apply P_storeTop; rfl; rfl; rfl; rfl; exact sz_ok rfl; rfl; rfl; rfl) | (apply P_box; rfl; rfl; rfl; rfl; exact sz_ok rfl; rfl; rfl) | (apply P_alloc; rfl; rfl; rfl; rfl; exact sz_ok rfl; rfl; rfl) | (apply P_indexG; rfl; rfl; rfl; rfl; rfl; (first | exact zq0 | exact zq1 | exact zq2 | exact zq3 | rfl | exact (Int.toNat_of_nonneg (by omega)).symm); exact ar_ok rfl; exact on_ok rfl; (first | decide | omega); rfl) | (apply P_build79; rfl; rfl; rfl; rfl) | fail))
        refine K_loopE (fun k : Nat => [(43, .int .i64 (k : Nat)), (42, .int .i64 (n : Nat)), (41, .slice p n kc), (1, .pointer (some ⟨h.n, 0, none⟩))])
          (fun k h' => k ≤ n ∧ Ext (h.push (.cells [.int .i64 hands, .int .i64 unit, .int .i64 sheet, .int .i64 error, .int .i64 morning, .int .i64 post, .slice p n kc] 40 true)) h' ∧ ∀ j, j < k → LineP hands l j) (fun k => n - k) ?_ 0 ?_ ?_
        · intro k h2 ⟨hk2, hx2, hj⟩ ih2
          have hg2 := hx2.get get_push_same
          by_cases hlt : k < n
          · obtain ⟨b, e, own', rfl, hg⟩ := rd.at (by rw [ints_len]; omega)
            have hg' := hx2.get (get_push_old hg)
            have hG2 := hG.ext (show Ext h h2 by (focus repeat' first | exact Ext.refl _ | assumption | apply Ext.push | (refine Ext.trans ?_ (by assumption))))
            (repeat' (first | (apply K_seq) | (apply K_region) | (apply O_at; rfl) | (apply O_fin; rfl) | (apply C_seq) | (apply K_ifT; rfl) | (apply K_ifF; rfl) | (apply K_block) | (apply K_skip) | (apply K_exit) | (apply K_ret) | (apply C_retS) | (apply C_retL) | (apply C_retB) | (apply C_exit) | (apply C_exitS) | (apply C_exitL) | (apply C_blockN) | (apply C_nil) | (apply P_skip; rfl; rfl; rfl) | (apply P_move; rfl; rfl; rfl; rfl) | (apply P_assign; rfl; rfl; rfl; rfl) | (apply P_fa; rfl; rfl; rfl; rfl; exact fo_ok rfl; (first | exact Nat.zero_add _ | exact Nat.add_zero _ | rfl)) | (apply P_len; rfl; rfl; rfl; rfl; rfl; rfl; exact un_ok rfl) | (apply P_pick; rfl; rfl; rfl; rfl; rfl; rfl) | (apply P_not; rfl; rfl; rfl; rfl) | (apply P_lssF; rfl; rfl; rfl; rfl; rfl; omega) | (apply P_lssT; rfl; rfl; rfl; rfl; rfl; omega) | (apply P_add; rfl; rfl; rfl; rfl; rfl; (unfold fit; omega)) | (apply P_idxB; rfl; rfl; rfl; rfl; rfl; exact un_ok rfl; exact sz_ok rfl; (first | exact zq0 | exact zq1 | exact zq2 | exact zq3 | rfl | exact (Int.toNat_of_nonneg (by omega)).symm); omega) | (apply P_load1; rfl; rfl; rfl; rfl; exact on_ok rfl; (focus repeat' first | exact get_push_same | assumption | apply get_push_old | (apply Ext.get; assumption)); (first | rfl | assumption)) | (apply P_loadA; rfl; rfl; rfl; rfl; exact ag_ok rfl; (focus repeat' first | exact get_push_same | assumption | apply get_push_old | (apply Ext.get; assumption)); (first | exact Nat.le_of_ble_eq_true rfl | (simp; done) | (simp; omega) | (rw [ints_len]; omega)); (first | exact line_take (by omega) | rfl)) | (apply P_storeTop; rfl; rfl; rfl; rfl; exact sz_ok rfl; rfl; rfl; rfl) | (apply P_box; rfl; rfl; rfl; rfl; exact sz_ok rfl; rfl; rfl) | (apply P_alloc; rfl; rfl; rfl; rfl; exact sz_ok rfl; rfl; rfl) | (apply P_indexG; rfl; rfl; rfl; rfl; rfl; (first | exact zq0 | exact zq1 | exact zq2 | exact zq3 | rfl | exact (Int.toNat_of_nonneg (by omega)).symm); exact ar_ok rfl; exact on_ok rfl; (first | decide | omega); rfl) | (apply P_build79; rfl; rfl; rfl; rfl) | (apply P_call; rfl; rfl; rfl; rfl; rfl; rfl; exact isHand_ok (B := ⟨hands, unit, sheet, error, morning, post, some ⟨b, 0, none⟩, kc, n, l⟩) hK h1.1; (rintro _ _ (⟨rfl, _, _⟩ | ⟨rfl, _, _⟩))) | (apply P_call; rfl; rfl; rfl; rfl; rfl; rfl; exact isDone_ok hK; (rintro _ _ (⟨rfl, _, _⟩ | ⟨rfl, _, _⟩))) | (apply P_call; rfl; rfl; rfl; rfl; rfl; rfl; exact isMoney_ok hK (hG2.ext (by (focus repeat' first | exact Ext.refl _ | assumption | apply Ext.push | (refine Ext.trans ?_ (by assumption))))); (rintro _ _ (⟨rfl, _, _⟩ | ⟨rfl, _, _⟩))) | fail))
            · rename_i h3 w1 x1 h4 w2 x2 h5 w3 x3
              refine C_again (ih2 (k + 1) _ (by omega) ⟨hlt, by (focus repeat' first | exact Ext.refl _ | assumption | apply Ext.push | (refine Ext.trans ?_ (by assumption))), fun j hj' => ?_⟩) (by (focus repeat' first | rfl | exact trivial | apply And.intro))
              by_cases hjk : j = k
              · subst hjk; exact ⟨w1, w2, w3⟩
              · exact hj j (by omega)
            · rename_i h3 w1 x1 h4 w2 x2 h5 w3 x3
              exact ⟨.inr rfl, _, rfl, .inr ⟨rfl, fun q => w3 (q.line k hlt).2.2, by (focus repeat' first | exact Ext.refl _ | assumption | apply Ext.push | (refine Ext.trans ?_ (by assumption)))⟩⟩
            · rename_i h3 w1 x1 h4 w2 x2
              exact ⟨.inr rfl, _, rfl, .inr ⟨rfl, fun q => w2 (q.line k hlt).2.1, by (focus repeat' first | exact Ext.refl _ | assumption | apply Ext.push | (refine Ext.trans ?_ (by assumption)))⟩⟩
            · rename_i h3 w1 x1
              exact ⟨.inr rfl, _, rfl, .inr ⟨rfl, fun q => w1 (q.line k hlt).1, by (focus repeat' first | exact Ext.refl _ | assumption | apply Ext.push | (refine Ext.trans ?_ (by assumption)))⟩⟩
          · (repeat' (first | (apply K_seq) | (apply K_region) | (apply O_at; rfl) | (apply O_fin; rfl) | (apply C_seq) | (apply K_ifT; rfl) | (apply K_ifF; rfl) | (apply K_block) | (apply K_skip) | (apply K_exit) | (apply K_ret) | (apply C_retS) | (apply C_retL) | (apply C_retB) | (apply C_exit) | (apply C_exitS) | (apply C_exitL) | (apply C_blockN) | (apply C_nil) | (apply P_skip; rfl; rfl; rfl) | (apply P_move; rfl; rfl; rfl; rfl) | (apply P_assign; rfl; rfl; rfl; rfl) | (apply P_fa; rfl; rfl; rfl; rfl; exact fo_ok rfl; (first | exact Nat.zero_add _ | exact Nat.add_zero _ | rfl)) | (apply P_len; rfl; rfl; rfl; rfl; rfl; rfl; exact un_ok rfl) | (apply P_pick; rfl; rfl; rfl; rfl; rfl; rfl) | (apply P_not; rfl; rfl; rfl; rfl) | (apply P_lssF; rfl; rfl; rfl; rfl; rfl; omega) | (apply P_lssT; rfl; rfl; rfl; rfl; rfl; omega) | (apply P_add; rfl; rfl; rfl; rfl; rfl; (unfold fit; omega)) | (apply P_idxB; rfl; rfl; rfl; rfl; rfl; exact un_ok rfl; exact sz_ok rfl; (first | exact zq0 | exact zq1 | exact zq2 | exact zq3 | rfl | exact (Int.toNat_of_nonneg (by omega)).symm); omega) | (apply P_load1; rfl; rfl; rfl; rfl; exact on_ok rfl; (focus repeat' first | exact get_push_same | assumption | apply get_push_old | (apply Ext.get; assumption)); (first | rfl | assumption)) | (apply P_loadA; rfl; rfl; rfl; rfl; exact ag_ok rfl; (focus repeat' first | exact get_push_same | assumption | apply get_push_old | (apply Ext.get; assumption)); (first | exact Nat.le_of_ble_eq_true rfl | (simp; done) | (simp; omega) | (rw [ints_len]; omega)); (first | exact line_take (by omega) | rfl)) | (apply P_storeTop; rfl; rfl; rfl; rfl; exact sz_ok rfl; rfl; rfl; rfl) | (apply P_box; rfl; rfl; rfl; rfl; exact sz_ok rfl; rfl; rfl) | (apply P_alloc; rfl; rfl; rfl; rfl; exact sz_ok rfl; rfl; rfl) | (apply P_indexG; rfl; rfl; rfl; rfl; rfl; (first | exact zq0 | exact zq1 | exact zq2 | exact zq3 | rfl | exact (Int.toNat_of_nonneg (by omega)).symm); exact ar_ok rfl; exact on_ok rfl; (first | decide | omega); rfl) | (apply P_build79; rfl; rfl; rfl; rfl) | fail))
            exact ⟨.inr rfl, _, rfl, .inl ⟨rfl, ⟨h1.1, h1.2.1, p0 (by decide), p1 (by decide), p2 (by decide), p3 (by decide), h1.2.2, fun j hj' => hj j (by dsimp only at hj'; omega)⟩, by (focus repeat' first | exact Ext.refl _ | assumption | apply Ext.push | (refine Ext.trans ?_ (by assumption)))⟩⟩
        · exact ⟨Nat.zero_le _, by (focus repeat' first | exact Ext.refl _ | assumption | apply Ext.push | (refine Ext.trans ?_ (by assumption))), fun j q => by omega⟩
        · (focus repeat' first | rfl | exact trivial | apply And.intro)
      · have hlt : (k : Int) < 4 := by omega
        rcases (show k = 0 ∨ k = 1 ∨ k = 2 ∨ k = 3 by omega) with rfl | rfl | rfl | rfl
        all_goals ((repeat' (first | (apply K_seq) | (apply K_region) | (apply O_at; rfl) | (apply O_fin; rfl) | (apply C_seq) | (apply K_ifT; rfl) | (apply K_ifF; rfl) | (apply K_block) | (apply K_skip) | (apply K_exit) | (apply K_ret) | (apply C_retS) | (apply C_retL) | (apply C_retB) | (apply C_exit) | (apply C_exitS) | (apply C_exitL) | (apply C_blockN) | (apply C_nil) | (apply P_skip; rfl; rfl; rfl) | (apply P_move; rfl; rfl; rfl; rfl) | (apply P_assign; rfl; rfl; rfl; rfl) | (apply P_fa; rfl; rfl; rfl; rfl; exact fo_ok rfl; (first | exact Nat.zero_add _ | exact Nat.add_zero _ | rfl)) | (apply P_len; rfl; rfl; rfl; rfl; rfl; rfl; exact un_ok rfl) | (apply P_pick; rfl; rfl; rfl; rfl; rfl; rfl) | (apply P_not; rfl; rfl; rfl; rfl) | (apply P_lssF; rfl; rfl; rfl; rfl; rfl; omega) | (apply P_lssT; rfl; rfl; rfl; rfl; rfl; omega) | (apply P_add; rfl; rfl; rfl; rfl; rfl; (unfold fit; omega)) | (apply P_idxB; rfl; rfl; rfl; rfl; rfl; exact un_ok rfl; exact sz_ok rfl; (first | exact zq0 | exact zq1 | exact zq2 | exact zq3 | rfl | exact (Int.toNat_of_nonneg (by omega)).symm); omega) | (apply P_load1; rfl; rfl; rfl; rfl; exact on_ok rfl; (focus repeat' first | exact get_push_same | assumption | apply get_push_old | (apply Ext.get; assumption)); (first | rfl | assumption)) | (apply P_loadA; rfl; rfl; rfl; rfl; exact ag_ok rfl; (focus repeat' first | exact get_push_same | assumption | apply get_push_old | (apply Ext.get; assumption)); (first | exact Nat.le_of_ble_eq_true rfl | (simp; done) | (simp; omega) | (rw [ints_len]; omega)); (first | exact line_take (by omega) | rfl)) | (apply P_storeTop; rfl; rfl; rfl; rfl; exact sz_ok rfl; rfl; rfl; rfl) | (apply P_box; rfl; rfl; rfl; rfl; exact sz_ok rfl; rfl; rfl) | (apply P_alloc; rfl; rfl; rfl; rfl; exact sz_ok rfl; rfl; rfl) | (apply P_indexG; rfl; rfl; rfl; rfl; rfl; (first | exact zq0 | exact zq1 | exact zq2 | exact zq3 | rfl | exact (Int.toNat_of_nonneg (by omega)).symm); exact ar_ok rfl; exact on_ok rfl; (first | decide | omega); rfl) | (apply P_build79; rfl; rfl; rfl; rfl) | (apply P_call; rfl; rfl; rfl; rfl; rfl; rfl; exact within_ok hK; (rintro _ _ (⟨rfl, _, _⟩ | ⟨rfl, _, _⟩))) | fail)))
        all_goals rename_i hw hy
        all_goals first
          | exact ⟨.inr rfl, _, rfl, .inr ⟨rfl, fun q => hw (by first | exact q.sheet | exact q.error | exact q.morning | exact q.post), by (focus repeat' first | exact Ext.refl _ | assumption | apply Ext.push | (refine Ext.trans ?_ (by assumption)))⟩⟩
          | exact C_again (ih 1 _ (by decide) ⟨by decide, by (focus repeat' first | exact Ext.refl _ | assumption | apply Ext.push | (refine Ext.trans ?_ (by assumption))), fun _ => hw, by omega, by omega, by omega⟩) (by (focus repeat' first | rfl | exact trivial | apply And.intro))
          | exact C_again (ih 2 _ (by decide) ⟨by decide, by (focus repeat' first | exact Ext.refl _ | assumption | apply Ext.push | (refine Ext.trans ?_ (by assumption))), fun _ => p0 (by decide), fun _ => hw, by omega, by omega⟩) (by (focus repeat' first | rfl | exact trivial | apply And.intro))
          | exact C_again (ih 3 _ (by decide) ⟨by decide, by (focus repeat' first | exact Ext.refl _ | assumption | apply Ext.push | (refine Ext.trans ?_ (by assumption))), fun _ => p0 (by decide), fun _ => p1 (by decide), fun _ => hw, by omega⟩) (by (focus repeat' first | rfl | exact trivial | apply And.intro))
          | exact C_again (ih 4 _ (by decide) ⟨by decide, by (focus repeat' first | exact Ext.refl _ | assumption | apply Ext.push | (refine Ext.trans ?_ (by assumption))), fun _ => p0 (by decide), fun _ => p1 (by decide), fun _ => p2 (by decide), fun _ => hw⟩) (by (focus repeat' first | rfl | exact trivial | apply And.intro))
    · exact ⟨by decide, by (focus repeat' first | exact Ext.refl _ | assumption | apply Ext.push | (refine Ext.trans ?_ (by assumption))), by omega, by omega, by omega, by omega⟩
    · (focus repeat' first | rfl | exact trivial | apply And.intro)
  · have hz : ¬ BkP ⟨hands, unit, sheet, error, morning, post, p, kc, n, l⟩ := fun q => h1 ⟨q.hands, q.unit, q.n⟩
    (repeat' (first | (apply K_seq) | (apply K_region) | (apply O_at; rfl) | (apply O_fin; rfl) | (apply C_seq) | (apply K_ifT; rfl) | (apply K_ifF; rfl) | (apply K_block) | (apply K_skip) | (apply K_exit) | (apply K_ret) | (apply C_retS) | (apply C_retL) | (apply C_retB) | (apply C_exit) | (apply C_exitS) | (apply C_exitL) | (apply C_blockN) | (apply C_nil) | (apply P_skip; rfl; rfl; rfl) | (apply P_move; rfl; rfl; rfl; rfl) | (apply P_assign; rfl; rfl; rfl; rfl) | (apply P_fa; rfl; rfl; rfl; rfl; exact fo_ok rfl; (first | exact Nat.zero_add _ | exact Nat.add_zero _ | rfl)) | (apply P_len; rfl; rfl; rfl; rfl; rfl; rfl; exact un_ok rfl) | (apply P_pick; rfl; rfl; rfl; rfl; rfl; rfl) | (apply P_not; rfl; rfl; rfl; rfl) | (apply P_add; rfl; rfl; rfl; rfl; rfl; (unfold fit; omega)) | (apply P_idxB; rfl; rfl; rfl; rfl; rfl; exact un_ok rfl; exact sz_ok rfl; (first | exact zq0 | exact zq1 | exact zq2 | exact zq3 | rfl | exact (Int.toNat_of_nonneg (by omega)).symm); omega) | (apply P_load1; rfl; rfl; rfl; rfl; exact on_ok rfl; (focus repeat' first | exact get_push_same | assumption | apply get_push_old | (apply Ext.get; assumption)); (first | rfl | assumption)) | (apply P_loadA; rfl; rfl; rfl; rfl; exact ag_ok rfl; (focus repeat' first | exact get_push_same | assumption | apply get_push_old | (apply Ext.get; assumption)); (first | exact Nat.le_of_ble_eq_true rfl | (simp; done) | (simp; omega) | (rw [ints_len]; omega)); (first | exact line_take (by omega) | rfl)) | (apply P_storeTop; rfl; rfl; rfl; rfl; exact sz_ok rfl; rfl; rfl; rfl) | (apply P_box; rfl; rfl; rfl; rfl; exact sz_ok rfl; rfl; rfl) | (apply P_alloc; rfl; rfl; rfl; rfl; exact sz_ok rfl; rfl; rfl) | (apply P_indexG; rfl; rfl; rfl; rfl; rfl; (first | exact zq0 | exact zq1 | exact zq2 | exact zq3 | rfl | exact (Int.toNat_of_nonneg (by omega)).symm); exact ar_ok rfl; exact on_ok rfl; (first | decide | omega); rfl) | (apply P_build79; rfl; rfl; rfl; rfl) | (apply P_call; rfl; rfl; rfl; rfl; rfl; rfl; exact within_ok hK; (rintro _ _ (⟨rfl, _, _⟩ | ⟨rfl, _, _⟩))) | fail))
    all_goals first
      | exact ⟨.inr rfl, _, rfl, .inr ⟨rfl, hz, by (focus repeat' first | exact Ext.refl _ | assumption | apply Ext.push | (refine Ext.trans ?_ (by assumption)))⟩⟩
      | (exfalso; omega)
set_option maxHeartbeats 1000000 in
theorem refBook_ok (hK : NoK K) {B : Bk} {h : Heap} (hn : B.n ≤ 1000) (hB : BkAt B h) : CallW Tryz.prog K 26 #[bkV B] h (IfB (BkP B) h) := by
  have hB' := hB
  obtain ⟨hands, unit, sheet, error, morning, post, p, kc, n, l⟩ := B
  obtain ⟨hG, hlen, rd, hb⟩ := hB'
  dsimp only [bkV] at hn hlen rd hb ⊢
  refine body (N := 60) Tryz.func26 rfl (hK _ _ _ rfl) rfl rfl ?_
  by_cases h1 : (1 ≤ hands ∧ hands ≤ 3) ∧ (1 ≤ unit ∧ unit ≤ 48) ∧ (0 ≤ sheet ∧ sheet ≤ 800) ∧ (0 ≤ error ∧ error ≤ 800) ∧ (0 ≤ morning ∧ morning ≤ 800) ∧ (0 ≤ post ∧ post ≤ 800) ∧ 1 ≤ n ∧ n ≤ 5
  · have hn' : (1 : Int) ≤ (n : Nat) ∧ ((n : Nat) : Int) ≤ 5 := by omega
    obtain ⟨q1, q2, q3, q4, q5, q6, q7⟩ := h1
    (repeat' (first | (apply K_seq) | (apply K_region) | (apply O_at; rfl) | (apply N_at; rfl) | (apply O_fin; rfl) | (apply C_seq) | (apply K_ifT; rfl) | (apply K_ifF; rfl) | (apply K_open; exact openOK_of (by decide +kernel)) | (apply K_block) | (apply K_skip) | (apply K_exit) | (apply K_ret) | (apply N_fin; rfl; exact (.inl (Nat.le_refl 1))) | (apply N_fin; rfl; refine .inr ?_; (focus repeat' first | exact trivial | apply And.intro | rfl)) | (apply C_retS) | (apply C_retL) | (apply C_retB) | (apply C_exit) | (apply C_exitS) | (apply C_exitL) | (apply C_blockN) | (apply C_nil) | (apply P_skip; rfl; rfl; rfl) | (apply P_move; rfl; rfl; rfl; rfl) | (apply P_assign; rfl; rfl; rfl; rfl) | (apply P_fa; rfl; rfl; rfl; rfl; exact fo_ok rfl; (first | exact Nat.zero_add _ | exact Nat.add_zero _ | rfl)) | (apply P_len; rfl; rfl; rfl; rfl; rfl; rfl; exact un_ok rfl) | (apply P_pick; rfl; rfl; rfl; rfl; rfl; rfl) | (apply P_not; rfl; rfl; rfl; rfl) | (apply P_lssF; rfl; rfl; rfl; rfl; rfl; omega) | (apply P_lssT; rfl; rfl; rfl; rfl; rfl; omega) | (apply P_add; rfl; rfl; rfl; rfl; rfl; (unfold fit; omega)) | (apply P_load1; rfl; rfl; rfl; rfl; exact on_ok rfl; (focus repeat' first | exact get_push_same | assumption | apply get_push_old | (apply Ext.get; assumption)); (first | rfl | assumption)) | (apply P_box; rfl; rfl; rfl; rfl; exact sz_ok rfl; rfl; rfl) | (apply M_move; rfl; rfl; rfl; rfl) | (apply M_fa; rfl; rfl; rfl; rfl; exact fo_ok rfl; (first | exact Nat.zero_add _ | exact Nat.add_zero _ | rfl)) | (apply M_not; rfl; rfl; rfl; rfl) | (apply M_idxB; rfl; rfl; rfl; rfl; rfl; exact un_ok rfl; exact sz_ok rfl; (first | rfl | exact (Int.toNat_of_nonneg (by omega)).symm); omega) | (apply M_load1E; rfl; rfl; rfl; rfl; exact on_ok rfl; exact actsMost_0 (by decide +kernel); (focus repeat' first | exact get_push_same | assumption | apply get_push_old | (apply Ext.get; assumption)); (first | rfl | assumption); (first | assumption | exact same_slice _ _ _ | exact same_bk _ _ _ _ _ _ _ _ _ | rfl | (focus simp [same, same.all2]; done)); (first | rfl | assumption | exact hwv _ | (focus apply within_get; (focus repeat' first | exact get_push_same | assumption | apply get_push_old | (apply Ext.get; assumption)); done) | exact within_bkO (by assumption) (by (focus repeat' first | exact Ext.refl _ | assumption | apply Ext.push | (refine Ext.trans ?_ (by assumption)))) | (simp [within]; omega))) | (apply M_loadAE; rfl; rfl; rfl; rfl; exact ag_ok rfl; exact actsMost_0 (by decide +kernel); (focus repeat' first | exact get_push_same | assumption | apply get_push_old | (apply Ext.get; assumption)); (first | exact Nat.le_of_ble_eq_true rfl | (simp; done) | (simp; omega) | (rw [ints_len]; omega)); (first | exact line_take (by omega) | rfl); (first | assumption | exact same_slice _ _ _ | exact same_bk _ _ _ _ _ _ _ _ _ | rfl | (focus simp [same, same.all2]; done)); (first | rfl | assumption | exact hwv _ | (focus apply within_get; (focus repeat' first | exact get_push_same | assumption | apply get_push_old | (apply Ext.get; assumption)); done) | exact within_bkO (by assumption) (by (focus repeat' first | exact Ext.refl _ | assumption | apply Ext.push | (refine Ext.trans ?_ (by assumption)))) | (simp [within]; omega))) | (apply P_call; rfl; rfl; rfl; rfl; rfl; rfl; exact yes (in_ok hK) q1; (rintro _ _ ⟨rfl, _⟩)) | (apply M_call; rfl; rfl; rfl; rfl; rfl; rfl; rfl; exact yes (in_ok hK) q1; (rintro _ _ ⟨rfl, _⟩)) | (apply P_call; rfl; rfl; rfl; rfl; rfl; rfl; exact yes (in_ok hK) q2; (rintro _ _ ⟨rfl, _⟩)) | (apply M_call; rfl; rfl; rfl; rfl; rfl; rfl; rfl; exact yes (in_ok hK) q2; (rintro _ _ ⟨rfl, _⟩)) | (apply P_call; rfl; rfl; rfl; rfl; rfl; rfl; exact yes (refRate_ok hK) q3; (rintro _ _ ⟨rfl, _⟩)) | (apply M_call; rfl; rfl; rfl; rfl; rfl; rfl; rfl; exact yes (refRate_ok hK) q3; (rintro _ _ ⟨rfl, _⟩)) | (apply P_call; rfl; rfl; rfl; rfl; rfl; rfl; exact yes (refRate_ok hK) q4; (rintro _ _ ⟨rfl, _⟩)) | (apply M_call; rfl; rfl; rfl; rfl; rfl; rfl; rfl; exact yes (refRate_ok hK) q4; (rintro _ _ ⟨rfl, _⟩)) | (apply P_call; rfl; rfl; rfl; rfl; rfl; rfl; exact yes (refRate_ok hK) q5; (rintro _ _ ⟨rfl, _⟩)) | (apply M_call; rfl; rfl; rfl; rfl; rfl; rfl; rfl; exact yes (refRate_ok hK) q5; (rintro _ _ ⟨rfl, _⟩)) | (apply P_call; rfl; rfl; rfl; rfl; rfl; rfl; exact yes (refRate_ok hK) q6; (rintro _ _ ⟨rfl, _⟩)) | (apply M_call; rfl; rfl; rfl; rfl; rfl; rfl; rfl; exact yes (refRate_ok hK) q6; (rintro _ _ ⟨rfl, _⟩)) | (apply P_call; rfl; rfl; rfl; rfl; rfl; rfl; exact yes (in_ok hK) hn'; (rintro _ _ ⟨rfl, _⟩)) | (apply M_call; rfl; rfl; rfl; rfl; rfl; rfl; rfl; exact yes (in_ok hK) hn'; (rintro _ _ ⟨rfl, _⟩)) | fail))
    refine K_loopE (fun k : Nat => [(3, .int .i64 (k : Nat)), (1, .pointer (some ⟨h.n, 0, none⟩))])
      (fun k h' => k ≤ n ∧ Ext (h.push (.cells [.int .i64 hands, .int .i64 unit, .int .i64 sheet, .int .i64 error, .int .i64 morning, .int .i64 post, .slice p n kc] 40 true)) h' ∧ ∀ j, j < k → LineP hands l j) (fun k => n - k) ?_ 0 ?_ ?_
    · intro k h2 ⟨hk2, hx2, hj⟩ ih2
      have hg2 := hx2.get get_push_same
      by_cases hlt : k < n
      · obtain ⟨b, e, own', rfl, hg⟩ := rd.at (by rw [ints_len]; omega)
        have hg' := hx2.get (get_push_old hg)
        (repeat' (first | (apply K_seq) | (apply K_region) | (apply O_at; rfl) | (apply N_at; rfl) | (apply O_fin; rfl) | (apply C_seq) | (apply K_ifT; rfl) | (apply K_ifF; rfl) | (apply K_open; exact openOK_of (by decide +kernel)) | (apply K_block) | (apply K_skip) | (apply K_exit) | (apply K_ret) | (apply N_fin; rfl; exact (.inl (Nat.le_refl 1))) | (apply N_fin; rfl; refine .inr ?_; (focus repeat' first | exact trivial | apply And.intro | rfl)) | (apply C_retS) | (apply C_retL) | (apply C_retB) | (apply C_exit) | (apply C_exitS) | (apply C_exitL) | (apply C_blockN) | (apply C_nil) | (apply P_skip; rfl; rfl; rfl) | (apply P_move; rfl; rfl; rfl; rfl) | (apply P_assign; rfl; rfl; rfl; rfl) | (apply P_fa; rfl; rfl; rfl; rfl; exact fo_ok rfl; (first | exact Nat.zero_add _ | exact Nat.add_zero _ | rfl)) | (apply P_len; rfl; rfl; rfl; rfl; rfl; rfl; exact un_ok rfl) | (apply P_pick; rfl; rfl; rfl; rfl; rfl; rfl) | (apply P_not; rfl; rfl; rfl; rfl) | (apply P_lssF; rfl; rfl; rfl; rfl; rfl; omega) | (apply P_lssT; rfl; rfl; rfl; rfl; rfl; omega) | (apply P_add; rfl; rfl; rfl; rfl; rfl; (unfold fit; omega)) | (apply P_load1; rfl; rfl; rfl; rfl; exact on_ok rfl; (focus repeat' first | exact get_push_same | assumption | apply get_push_old | (apply Ext.get; assumption)); (first | rfl | assumption)) | (apply P_box; rfl; rfl; rfl; rfl; exact sz_ok rfl; rfl; rfl) | (apply M_move; rfl; rfl; rfl; rfl) | (apply M_fa; rfl; rfl; rfl; rfl; exact fo_ok rfl; (first | exact Nat.zero_add _ | exact Nat.add_zero _ | rfl)) | (apply M_not; rfl; rfl; rfl; rfl) | (apply M_idxB; rfl; rfl; rfl; rfl; rfl; exact un_ok rfl; exact sz_ok rfl; (first | rfl | exact (Int.toNat_of_nonneg (by omega)).symm); omega) | (apply M_load1E; rfl; rfl; rfl; rfl; exact on_ok rfl; exact actsMost_0 (by decide +kernel); (focus repeat' first | exact get_push_same | assumption | apply get_push_old | (apply Ext.get; assumption)); (first | rfl | assumption); (first | assumption | exact same_slice _ _ _ | exact same_bk _ _ _ _ _ _ _ _ _ | rfl | (focus simp [same, same.all2]; done)); (first | rfl | assumption | exact hwv _ | (focus apply within_get; (focus repeat' first | exact get_push_same | assumption | apply get_push_old | (apply Ext.get; assumption)); done) | exact within_bkO (by assumption) (by (focus repeat' first | exact Ext.refl _ | assumption | apply Ext.push | (refine Ext.trans ?_ (by assumption)))) | (simp [within]; omega))) | (apply M_loadAE; rfl; rfl; rfl; rfl; exact ag_ok rfl; exact actsMost_0 (by decide +kernel); (focus repeat' first | exact get_push_same | assumption | apply get_push_old | (apply Ext.get; assumption)); (first | exact Nat.le_of_ble_eq_true rfl | (simp; done) | (simp; omega) | (rw [ints_len]; omega)); (first | exact line_take (by omega) | rfl); (first | assumption | exact same_slice _ _ _ | exact same_bk _ _ _ _ _ _ _ _ _ | rfl | (focus simp [same, same.all2]; done)); (first | rfl | assumption | exact hwv _ | (focus apply within_get; (focus repeat' first | exact get_push_same | assumption | apply get_push_old | (apply Ext.get; assumption)); done) | exact within_bkO (by assumption) (by (focus repeat' first | exact Ext.refl _ | assumption | apply Ext.push | (refine Ext.trans ?_ (by assumption)))) | (simp [within]; omega))) | (apply P_call; rfl; rfl; rfl; rfl; rfl; rfl; exact refLine_ok (B := ⟨hands, unit, sheet, error, morning, post, some ⟨b, 0, none⟩, kc, n, l⟩) hK q1; (rintro _ _ (⟨rfl, _, _⟩ | ⟨rfl, _, _⟩))) | (apply M_call; rfl; rfl; rfl; rfl; rfl; rfl; rfl; exact refLine_ok (B := ⟨hands, unit, sheet, error, morning, post, some ⟨b, 0, none⟩, kc, n, l⟩) hK q1; (rintro _ _ (⟨rfl, _, _⟩ | ⟨rfl, _, _⟩))) | fail))
        · rename_i h3 w1 x1
          refine C_again (ih2 (k + 1) _ (by omega) ⟨hlt, by (focus repeat' first | exact Ext.refl _ | assumption | apply Ext.push | (refine Ext.trans ?_ (by assumption))), fun j hj' => ?_⟩) (by (focus repeat' first | rfl | exact trivial | apply And.intro))
          by_cases hjk : j = k
          · subst hjk; exact w1
          · exact hj j (by omega)
        · rename_i h3 w1 x1
          exact ⟨.inr rfl, _, rfl, .inr ⟨rfl, fun q => w1 (q.line k hlt), by (focus repeat' first | exact Ext.refl _ | assumption | apply Ext.push | (refine Ext.trans ?_ (by assumption)))⟩⟩
      · (repeat' (first | (apply K_seq) | (apply K_region) | (apply O_at; rfl) | (apply N_at; rfl) | (apply O_fin; rfl) | (apply C_seq) | (apply K_ifT; rfl) | (apply K_ifF; rfl) | (apply K_open; exact openOK_of (by decide +kernel)) | (apply K_block) | (apply K_skip) | (apply K_exit) | (apply K_ret) | (apply N_fin; rfl; exact (.inl (Nat.le_refl 1))) | (apply N_fin; rfl; refine .inr ?_; (focus repeat' first | exact trivial | apply And.intro | rfl)) | (apply C_retS) | (apply C_retL) | (apply C_retB) | (apply C_exit) | (apply C_exitS) | (apply C_exitL) | (apply C_blockN) | (apply C_nil) | (apply P_skip; rfl; rfl; rfl) | (apply P_move; rfl; rfl; rfl; rfl) | (apply P_assign; rfl; rfl; rfl; rfl) | (apply P_fa; rfl; rfl; rfl; rfl; exact fo_ok rfl; (first | exact Nat.zero_add _ | exact Nat.add_zero _ | rfl)) | (apply P_len; rfl; rfl; rfl; rfl; rfl; rfl; exact un_ok rfl) | (apply P_pick; rfl; rfl; rfl; rfl; rfl; rfl) | (apply P_not; rfl; rfl; rfl; rfl) | (apply P_lssF; rfl; rfl; rfl; rfl; rfl; omega) | (apply P_lssT; rfl; rfl; rfl; rfl; rfl; omega) | (apply P_add; rfl; rfl; rfl; rfl; rfl; (unfold fit; omega)) | (apply P_load1; rfl; rfl; rfl; rfl; exact on_ok rfl; (focus repeat' first | exact get_push_same | assumption | apply get_push_old | (apply Ext.get; assumption)); (first | rfl | assumption)) | (apply P_box; rfl; rfl; rfl; rfl; exact sz_ok rfl; rfl; rfl) | (apply M_move; rfl; rfl; rfl; rfl) | (apply M_fa; rfl; rfl; rfl; rfl; exact fo_ok rfl; (first | exact Nat.zero_add _ | exact Nat.add_zero _ | rfl)) | (apply M_not; rfl; rfl; rfl; rfl) | (apply M_idxB; rfl; rfl; rfl; rfl; rfl; exact un_ok rfl; exact sz_ok rfl; (first | rfl | exact (Int.toNat_of_nonneg (by omega)).symm); omega) | (apply M_load1E; rfl; rfl; rfl; rfl; exact on_ok rfl; exact actsMost_0 (by decide +kernel); (focus repeat' first | exact get_push_same | assumption | apply get_push_old | (apply Ext.get; assumption)); (first | rfl | assumption); (first | assumption | exact same_slice _ _ _ | exact same_bk _ _ _ _ _ _ _ _ _ | rfl | (focus simp [same, same.all2]; done)); (first | rfl | assumption | exact hwv _ | (focus apply within_get; (focus repeat' first | exact get_push_same | assumption | apply get_push_old | (apply Ext.get; assumption)); done) | exact within_bkO (by assumption) (by (focus repeat' first | exact Ext.refl _ | assumption | apply Ext.push | (refine Ext.trans ?_ (by assumption)))) | (simp [within]; omega))) | (apply M_loadAE; rfl; rfl; rfl; rfl; exact ag_ok rfl; exact actsMost_0 (by decide +kernel); (focus repeat' first | exact get_push_same | assumption | apply get_push_old | (apply Ext.get; assumption)); (first | exact Nat.le_of_ble_eq_true rfl | (simp; done) | (simp; omega) | (rw [ints_len]; omega)); (first | exact line_take (by omega) | rfl); (first | assumption | exact same_slice _ _ _ | exact same_bk _ _ _ _ _ _ _ _ _ | rfl | (focus simp [same, same.all2]; done)); (first | rfl | assumption | exact hwv _ | (focus apply within_get; (focus repeat' first | exact get_push_same | assumption | apply get_push_old | (apply Ext.get; assumption)); done) | exact within_bkO (by assumption) (by (focus repeat' first | exact Ext.refl _ | assumption | apply Ext.push | (refine Ext.trans ?_ (by assumption)))) | (simp [within]; omega))) | fail))
        exact ⟨.inr rfl, _, rfl, .inl ⟨rfl, ⟨q1, q2, q3, q4, q5, q6, q7, fun j hj' => hj j (by dsimp only at hj'; omega)⟩, by (focus repeat' first | exact Ext.refl _ | assumption | apply Ext.push | (refine Ext.trans ?_ (by assumption)))⟩⟩
    · exact ⟨Nat.zero_le _, by (focus repeat' first | exact Ext.refl _ | assumption | apply Ext.push | (refine Ext.trans ?_ (by assumption))), fun j q => by omega⟩
    · (focus repeat' first | rfl | exact trivial | apply And.intro)
  · have hz : ¬ BkP ⟨hands, unit, sheet, error, morning, post, p, kc, n, l⟩ := fun q => h1 ⟨q.hands, q.unit, q.sheet, q.error, q.morning, q.post, q.n⟩
    (repeat' (first | (apply K_seq) | (apply K_region) | (apply O_at; rfl) | (apply N_at; rfl) | (apply O_fin; rfl) | (apply C_seq) | (apply K_ifT; rfl) | (apply K_ifF; rfl) | (apply K_open; kernel_rfl) | (apply K_block) | (apply K_skip) | (apply K_exit) | (apply K_ret) | (apply N_fin; rfl; exact (.inl (Nat.le_refl 1))) | (apply N_fin; rfl; refine .inr ?_; (focus repeat' first | exact trivial | apply And.intro | rfl)) | (apply C_retS) | (apply C_retL) | (apply C_retB) | (apply C_exit) | (apply C_exitS) | (apply C_exitL) | (apply C_blockN) | (apply C_nil) | (apply P_skip; rfl; rfl; rfl) | (apply P_move; rfl; rfl; rfl; rfl) | (apply P_assign; rfl; rfl; rfl; rfl) | (apply P_fa; rfl; rfl; rfl; rfl; exact fo_ok rfl; (first | exact Nat.zero_add _ | exact Nat.add_zero _ | rfl)) | (apply P_len; rfl; rfl; rfl; rfl; rfl; rfl; exact un_ok rfl) | (apply P_pick; rfl; rfl; rfl; rfl; rfl; rfl) | (apply P_not; rfl; rfl; rfl; rfl) | (apply P_add; rfl; rfl; rfl; rfl; rfl; (unfold fit; omega)) | (apply P_load1; rfl; rfl; rfl; rfl; exact on_ok rfl; (focus repeat' first | exact get_push_same | assumption | apply get_push_old | (apply Ext.get; assumption)); (first | rfl | assumption)) | (apply P_box; rfl; rfl; rfl; rfl; exact sz_ok rfl; rfl; rfl) | (apply M_move; rfl; rfl; rfl; rfl) | (apply M_fa; rfl; rfl; rfl; rfl; exact fo_ok rfl; (first | exact Nat.zero_add _ | exact Nat.add_zero _ | rfl)) | (apply M_not; rfl; rfl; rfl; rfl) | (apply M_idxB; rfl; rfl; rfl; rfl; rfl; exact un_ok rfl; exact sz_ok rfl; (first | rfl | exact (Int.toNat_of_nonneg (by omega)).symm); omega) | (apply M_load1E; rfl; rfl; rfl; rfl; exact on_ok rfl; decide +kernel; (focus repeat' first | exact get_push_same | assumption | apply get_push_old | (apply Ext.get; assumption)); (first | rfl | assumption); (first | assumption | exact same_slice _ _ _ | exact same_bk _ _ _ _ _ _ _ _ _ | rfl | (focus simp [same, same.all2]; done)); (first | rfl | assumption | exact hwv _ | (focus apply within_get; (focus repeat' first | exact get_push_same | assumption | apply get_push_old | (apply Ext.get; assumption)); done) | exact within_bkO (by assumption) (by (focus repeat' first | exact Ext.refl _ | assumption | apply Ext.push | (refine Ext.trans ?_ (by assumption)))) | (simp [within]; omega))) | (apply M_loadAE; rfl; rfl; rfl; rfl; exact ag_ok rfl; decide +kernel; (focus repeat' first | exact get_push_same | assumption | apply get_push_old | (apply Ext.get; assumption)); (first | exact Nat.le_of_ble_eq_true rfl | (simp; done) | (simp; omega) | (rw [ints_len]; omega)); (first | exact line_take (by omega) | rfl); (first | assumption | exact same_slice _ _ _ | exact same_bk _ _ _ _ _ _ _ _ _ | rfl | (focus simp [same, same.all2]; done)); (first | rfl | assumption | exact hwv _ | (focus apply within_get; (focus repeat' first | exact get_push_same | assumption | apply get_push_old | (apply Ext.get; assumption)); done) | exact within_bkO (by assumption) (by (focus repeat' first | exact Ext.refl _ | assumption | apply Ext.push | (refine Ext.trans ?_ (by assumption)))) | (simp [within]; omega))) | (apply P_call; rfl; rfl; rfl; rfl; rfl; rfl; exact in_ok hK; (rintro _ _ (⟨rfl, _, _⟩ | ⟨rfl, _, _⟩))) | (apply M_call; rfl; rfl; rfl; rfl; rfl; rfl; rfl; exact in_ok hK; (rintro _ _ (⟨rfl, _, _⟩ | ⟨rfl, _, _⟩))) | (apply P_call; rfl; rfl; rfl; rfl; rfl; rfl; exact refRate_ok hK; (rintro _ _ (⟨rfl, _, _⟩ | ⟨rfl, _, _⟩))) | (apply M_call; rfl; rfl; rfl; rfl; rfl; rfl; rfl; exact refRate_ok hK; (rintro _ _ (⟨rfl, _, _⟩ | ⟨rfl, _, _⟩))) | fail))
    all_goals first
      | exact ⟨.inr rfl, _, rfl, .inr ⟨rfl, hz, by (focus repeat' first | exact Ext.refl _ | assumption | apply Ext.push | (refine Ext.trans ?_ (by assumption)))⟩⟩
      | (exfalso; omega)
end Go.AX.Sa

namespace Go.AX.Sa
open Go.Proofs
set_option maxRecDepth 100000
variable {K : Known}
/-! Truths: how many errors each line has. -/
def errs (l : List Int) (n : Nat) : List (Int × Int) := (List.range n).map fun j => (l.getD (j * 10 + 2) 0, l.getD (j * 10 + 3) 0)
/-- A list with a number for each line. -/
def TruP (B : Bk) (t : List Int) : Prop := t.length = B.n ∧ ∀ j, j < B.n → B.l.getD (j * 10 + 2) 0 ≤ t.getD j 0 ∧ t.getD j 0 ≤ B.l.getD (j * 10 + 3) 0
end Go.AX.Sa

namespace Go.AX.Sa
open Go.Proofs
set_option maxRecDepth 100000
variable {K : Known}
/-! What is owed for a line. -/
def btV (B : Bk) (q : Option Addr) (n k : Nat) : Value := .agg #[.int .i64 B.hands, .int .i64 B.unit, .int .i64 B.sheet, .int .i64 B.error, .int .i64 B.morning, .int .i64 B.post, .slice B.p B.n B.k, .slice q n k]
def owes (B : Bk) (j : Nat) (e : Int) : Int := max 0 (B.sheet * B.l.getD (j * 10 + 1) 0 - B.error * e) + B.morning * B.l.getD (j * 10 + 4) 0 + B.post * B.l.getD (j * 10 + 5) 0
theorem mul_le {a b m n : Int} (ha : 0 ≤ a ∧ a ≤ m) (hb : 0 ≤ b ∧ b ≤ n) : 0 ≤ a * b ∧ a * b ≤ m * n :=
  ⟨Int.mul_nonneg ha.1 hb.1, Int.mul_le_mul ha.2 hb.2 hb.1 (Int.le_trans ha.1 ha.2)⟩
/-! Sums. -/
/-- A value that reads as a list. -/
def RdV (h : Heap) (v : Value) (l : List Int) : Prop := ∃ p cap, v = .slice p l.length cap ∧ Rd h p (ints l)
theorem RdV.ext {h h1 : Heap} {v : Value} {l : List Int} (r : RdV h v l) (x : Ext h h1) : RdV h1 v l := by
  obtain ⟨p, c, rfl, r⟩ := r
  exact ⟨p, c, rfl, r.ext x⟩
theorem take_sum {l : List Int} {k : Nat} (h : k < l.length) : (l.take (k + 1)).sum = (l.take k).sum + l.getD k 0 := by
  rw [List.take_succ_eq_append_getElem h, List.sum_append]
  simp [List.getD_eq_getElem?_getD, h]
theorem sum_le {l : List Int} {m : Int} (h : ∀ k, k < l.length → 0 ≤ l.getD k 0 ∧ l.getD k 0 ≤ m) : ∀ k, k ≤ l.length → 0 ≤ (l.take k).sum ∧ (l.take k).sum ≤ k * m := by
  intro k
  induction k with
  | zero => intro _; simp
  | succ k ih =>
    intro hk
    have := ih (by omega)
    have h1 := h k (by omega)
    rw [take_sum (by omega)]
    have e : ((k + 1 : Nat) : Int) * m = k * m + m := by rw [Int.natCast_add, Int.add_mul]; simp
    omega
theorem sum_ok (hK : NoK K) {v : Value} {l : List Int} {h : Heap} (hv : RdV h v l) (hl : l.length ≤ 1000) (hb : ∀ k, k < l.length → 0 ≤ l.getD k 0 ∧ l.getD k 0 ≤ 1000000000) :
    CallW Tryz.prog K 80 #[v] h (IsV (.int .i64 l.sum) h) := by
  obtain ⟨p, cap, rfl, rl⟩ := hv
  have hs := sum_le hb
  refine body (N := 17) Tryz.func80 rfl (hK _ _ _ rfl) rfl rfl ?_
  (repeat' (first | (apply K_seq) | (apply K_region) | (apply O_at; rfl) | (apply O_fin; rfl) | (apply C_seq) | (apply K_ifT; rfl) | (apply K_ifF; rfl) | (apply K_block) | (apply K_skip) | (apply K_exit) | (apply K_ret) | (apply C_exit) | (apply C_exitS) | (apply C_exitL) | (apply C_blockN) | (apply C_nil) | (apply P_move; rfl; rfl; rfl; rfl) | (apply P_assign; rfl; rfl; rfl; rfl) | (apply P_len; rfl; rfl; rfl; rfl; rfl; rfl; exact un_ok rfl) | (apply P_lssF; rfl; rfl; rfl; rfl; rfl; omega) | (apply P_lssT; rfl; rfl; rfl; rfl; rfl; omega) | (apply P_add; rfl; rfl; rfl; rfl; rfl; (unfold fit; omega)) | (apply P_idxA; rfl; rfl; rfl; rfl; rfl; exact un_ok rfl; exact sz_ok rfl; (first | rfl | exact (Int.toNat_of_nonneg (by omega)).symm); omega) | (apply P_load1; rfl; rfl; rfl; rfl; exact on_ok rfl; (focus repeat' first | assumption | (apply Ext.get; assumption)); (first | exact ints_get (by omega) | rfl | assumption)) | fail))
  refine K_loopE (fun k : Nat => [(8, .int .i64 (k : Nat)), (7, .int .i64 (l.length : Nat)), (6, .slice p l.length cap), (3, .int .i64 (l.take k).sum)])
    (fun k h' => k ≤ l.length ∧ Ext h h') (fun k => l.length - k) ?_ 0 ?_ ?_
  · intro k h' ⟨hk, hx⟩ ih
    by_cases hlt : k < l.length
    · obtain ⟨b, e, own', rfl, hg⟩ := rl.at (by rw [ints_len]; omega)
      have hg' := hx.get hg
      have h1 := hs k hk
      have h2 := hb k hlt
      have h3 : (k : Int) * 1000000000 ≤ 1000 * 1000000000 := Int.mul_le_mul_of_nonneg_right (by omega) (by omega)
      have h4 := take_sum hlt
      (repeat' (first | (apply K_seq) | (apply K_region) | (apply O_at; rfl) | (apply O_fin; rfl) | (apply C_seq) | (apply K_ifT; rfl) | (apply K_ifF; rfl) | (apply K_block) | (apply K_skip) | (apply K_exit) | (apply K_ret) | (apply C_exit) | (apply C_exitS) | (apply C_exitL) | (apply C_blockN) | (apply C_nil) | (apply P_move; rfl; rfl; rfl; rfl) | (apply P_assign; rfl; rfl; rfl; rfl) | (apply P_len; rfl; rfl; rfl; rfl; rfl; rfl; exact un_ok rfl) | (apply P_lssF; rfl; rfl; rfl; rfl; rfl; omega) | (apply P_lssT; rfl; rfl; rfl; rfl; rfl; omega) | (apply P_add; rfl; rfl; rfl; rfl; rfl; (unfold fit; omega)) | (apply P_idxA; rfl; rfl; rfl; rfl; rfl; exact un_ok rfl; exact sz_ok rfl; (first | rfl | exact (Int.toNat_of_nonneg (by omega)).symm); omega) | (apply P_load1; rfl; rfl; rfl; rfl; exact on_ok rfl; (focus repeat' first | assumption | (apply Ext.get; assumption)); (first | exact ints_get (by omega) | rfl | assumption)) | fail))
      exact C_again (ih (k + 1) _ (by omega) ⟨hlt, by (focus repeat' first | exact Ext.refl _ | assumption)⟩) ⟨rfl, rfl, rfl, (by rw [h4]; rfl), trivial⟩
    · have : k = l.length := by omega
      subst this
      (repeat' (first | (apply K_seq) | (apply K_region) | (apply O_at; rfl) | (apply O_fin; rfl) | (apply C_seq) | (apply K_ifT; rfl) | (apply K_ifF; rfl) | (apply K_block) | (apply K_skip) | (apply K_exit) | (apply K_ret) | (apply C_exit) | (apply C_exitS) | (apply C_exitL) | (apply C_blockN) | (apply C_nil) | (apply P_move; rfl; rfl; rfl; rfl) | (apply P_assign; rfl; rfl; rfl; rfl) | (apply P_len; rfl; rfl; rfl; rfl; rfl; rfl; exact un_ok rfl) | (apply P_lssF; rfl; rfl; rfl; rfl; rfl; omega) | (apply P_lssT; rfl; rfl; rfl; rfl; rfl; omega) | (apply P_add; rfl; rfl; rfl; rfl; rfl; (unfold fit; omega)) | (apply P_idxA; rfl; rfl; rfl; rfl; rfl; exact un_ok rfl; exact sz_ok rfl; (first | rfl | exact (Int.toNat_of_nonneg (by omega)).symm); omega) | (apply P_load1; rfl; rfl; rfl; rfl; exact on_ok rfl; (focus repeat' first | assumption | (apply Ext.get; assumption)); (first | exact ints_get (by omega) | rfl | assumption)) | fail))
      exact ⟨.inr rfl, _, rfl, (by rw [List.take_length]; rfl), by (focus repeat' first | exact Ext.refl _ | assumption)⟩
  · exact ⟨Nat.zero_le _, by (focus repeat' first | exact Ext.refl _ | assumption)⟩
  · (focus repeat' first | rfl | exact trivial | apply And.intro)
end Go.AX.Sa

namespace Go.AX.Sa
open Go.Proofs
set_option maxRecDepth 100000
variable {K : Known}
def parts3 (B : Bk) (j : Nat) (e : Int) : List Int := [max 0 (B.sheet * B.l.getD (j * 10 + 1) 0 - B.error * e), B.morning * B.l.getD (j * 10 + 4) 0, B.post * B.l.getD (j * 10 + 5) 0]
def asksV (w : Value) : Array Value := #[.func (.func 94) #[w] #[], .func (.func 95) #[w] #[], .func (.func 96) #[w] #[]]
end Go.AX.Sa

namespace Go.AX.Sa
open Go.Proofs
set_option maxRecDepth 100000
variable {K : Known}
/-! The least ends of spans, and the greatest ones. -/
def twoF : Array Value := #[.func (.func 115) #[] #[], .func (.func 116) #[] #[]]
def nilV : Value := .slice none 0 0
def lows (s : List (Int × Int)) : List Int := s.map (·.1)
def highs (s : List (Int × Int)) : List Int := s.map (·.2)
theorem OutI.one {e : TypeId} {h0 h : Heap} {v : Value} {l : List Int} (o : OutI e h0 h v l) : oneB v = true ∧ v.cells = #[v] := by
  rcases o with ⟨_, rfl⟩ | ⟨_, b, rfl, _⟩ <;> exact ⟨rfl, rfl⟩
end Go.AX.Sa

namespace Go.AX.Sa
open Go.Proofs
set_option maxRecDepth 100000
variable {K : Known}
/-! The least and the greatest of what a book tells. -/
def leastT (B : Bk) : List Int := lows (errs B.l B.n)
def mostT (B : Bk) : List Int := highs (errs B.l B.n)
/-- What a function value tells of a book with a truth. -/
def Tells (K : Known) (B : Bk) (g : FuncId) (ca : Array Value) (val : List Int → Int) (h : Heap) : Prop :=
  ∀ h', Ext h h' → ∀ (q : Option Addr) (t : List Int) (kt : Nat), Rd h' q (ints t) → TruP B t → CallW Tryz.prog K g (#[btV B q t.length kt] ++ ca) h' (IsV (.int .i64 (val t)) h')
end Go.AX.Sa

namespace Go.AX.Sa
open Go.Proofs
set_option maxRecDepth 100000
variable {K : Known}
/-! The law of what is owed. -/
end Go.AX.Sa

namespace Go.AX.Sa
open Go.Proofs
set_option maxRecDepth 100000
variable {K : Known}
/-! What is paid in each line, and what is carried. -/
def handOf (B : Bk) (j : Nat) : Int := B.l.getD (j * 10) 0
def rst (B : Bk) (t : List Int) : Nat → Int → Int
  | 0 => fun _ => 0
  | j + 1 => fun q => if q = handOf B j then (rst B t j (handOf B j) + owes B j (t.getD j 0)) % B.unit else rst B t j q
def due (B : Bk) (t : List Int) (j : Nat) : Int := rst B t j (handOf B j) + owes B j (t.getD j 0)
def pd (B : Bk) (t : List Int) (j : Nat) : Int := due B t j - due B t j % B.unit
def pds (B : Bk) (t : List Int) (n : Nat) : List Int := (List.range n).map (pd B t)
theorem MapI.keep {h h1 : Heap} {r b : Nat} {z : Blk} {f : Int → Int} (m : MapI h r f) (k : KeepB b z h h1) (hr : r < b) : MapI h1 r f := by
  obtain ⟨es, c, l, a, e, d⟩ := m
  exact ⟨es, c, l, k.lo hr a, e, d⟩
end Go.AX.Sa

namespace Go.AX.Sa
open Go.Proofs
set_option maxRecDepth 100000
variable {K : Known}
/-! What is paid and carried, as it is written in the other way. -/
def rl (B : Bk) (t : List Int) (k : Nat) : List Int := (List.range B.hands.toNat).map fun i => rst B t k (i : Nat)
end Go.AX.Sa

namespace Go.AX.Sa
open Go.Proofs
set_option maxRecDepth 100000
variable {K : Known}
/-! What is paid and what is left in a truth: the law. -/
def PayR (l : List Int) (h : Heap) (u : Value) (h1 : Heap) : Prop := ∃ p cap, u = .tuple #[.slice p l.length cap, .int .i64 0] ∧ Rd h1 p (ints l) ∧ Ext h h1
theorem OutI.sl {e : TypeId} {h0 h : Heap} {v : Value} {l : List Int} (o : OutI e h0 h v l) : ∃ p cap, v = .slice p l.length cap ∧ Rd h p (ints l) := by
  rcases o with ⟨rfl, rfl⟩ | ⟨_, b, h1, h2, _⟩
  · exact ⟨none, 0, rfl, .inl rfl⟩
  · exact ⟨_, _, h1, .inr ⟨b, e, true, rfl, h2⟩⟩
end Go.AX.Sa

namespace Go.AX.Sa
open Go.Proofs
set_option maxRecDepth 100000
variable {K : Known}
/-! What is paid to a hand in all of its lines. -/
def tt (B : Bk) (t : List Int) (q : Int) : Nat → Int
  | 0 => 0
  | j + 1 => tt B t q j + if handOf B j = q then pd B t j else 0
end Go.AX.Sa

namespace Go.AX.Sa
open Go.Proofs
set_option maxRecDepth 100000
variable {K : Known}
/-! The ends of the errors, a book with another rate, and what is paid to a hand: the other way. -/
def endT (B : Bk) (m : Bool) : List Int := bif m then mostT B else leastT B
def endP (B : Bk) (m : Bool) (k : Nat) : List Int := (List.range k).map fun j => bif m then B.l.getD (j * 10 + 3) 0 else B.l.getD (j * 10 + 2) 0
def withB (B : Bk) (r : Int) : Bk := { B with sheet := r }
theorem BkAt.withB {B : Bk} {h : Heap} (hB : BkAt B h) (r : Int) : BkAt (withB B r) h := ⟨hB.g, hB.len, hB.rd, hB.b⟩
end Go.AX.Sa

namespace Go.AX.Sa
open Go.Proofs
set_option maxRecDepth 100000
variable {K : Known}
/-! The least rate with which a hand surely is paid a sum. -/
def enough (B : Bk) (n s : Int) (k : Nat) : Bool := decide (s ≤ tt (withB B (k : Nat)) (mostT B) n B.n)
def lr (B : Bk) (n s : Int) : Option Nat := (List.range 801).find? (enough B n s)
def rateV : Option Nat → Value
  | some k => .tuple #[.int .i64 (k : Nat), .int .i64 0]
  | none => .tuple #[.int .i64 0, .int .i64 5]
def needV : Option Nat → Value
  | some k => .tuple #[.int .i64 (k : Nat), .bool true]
  | none => .tuple #[.int .i64 0, .bool false]
def shC (B : Bk) (s : Int) : List Value := (bkV (withB B s)).cells.toList
section
variable {f : FuncId} {us : Array Value} {B : Bk} {n s : Int} {h : Heap} {k : Nat}
end
end Go.AX.Sa

namespace Go.AX.Sa
open Go.Proofs
set_option maxRecDepth 100000
variable {K : Known}
/-! What is paid to a hand is what is owed to it, rounded down. -/
def sm (B : Bk) (t : List Int) (q : Int) : Nat → Int
  | 0 => 0
  | j + 1 => sm B t q j + if handOf B j = q then owes B j (t.getD j 0) else 0
theorem right_ok (hK : NoK K) {B : Bk} {h : Heap} (hB : BkAt B h) : CallW Tryz.prog K 37 #[bkV B] h (IfB (B.n ≤ 7 ∧ BkP B) h) := by
  refine body (N := 9) Tryz.func37 rfl (hK _ _ _ rfl) rfl rfl ?_
  by_cases hs : B.n ≤ 7
  · (repeat' (first | (apply K_seq) | (apply K_region) | (apply O_at; rfl) | (apply O_fin; rfl) | (apply C_seq) | (apply K_ret) | (apply C_nil) | (apply P_skip; rfl; rfl; rfl) | (apply P_move; rfl; rfl; rfl; rfl) | (apply P_assign; rfl; rfl; rfl; rfl) | (apply P_pick; rfl; rfl; rfl; rfl; rfl; rfl) | (apply P_loadA; rfl; rfl; rfl; rfl; exact ag_ok rfl; (focus repeat' first | exact get_push_same | assumption | (apply Ext.get; assumption)); (first | exact Nat.le_of_ble_eq_true rfl | (simp; done) | (simp; omega)); rfl) | (apply P_box; rfl; rfl; rfl; rfl; exact sz_ok rfl; rfl; rfl) | (apply P_call; rfl; rfl; rfl; rfl; rfl; rfl; exact yes (short_ok hK) hs; (rintro _ _ ⟨rfl, _⟩)) | (apply P_call; rfl; rfl; rfl; rfl; rfl; rfl; exact refBook_ok hK (by omega) (hB.ext (by (focus repeat' first | exact Ext.refl _ | assumption | apply Ext.push | (refine Ext.trans ?_ (by assumption))))); (rintro _ _ (⟨rfl, _, _⟩ | ⟨rfl, _, _⟩))) | fail))
    · exact ⟨.inr rfl, _, rfl, .inl ⟨rfl, ⟨hs, by assumption⟩, by (focus repeat' first | exact Ext.refl _ | assumption | apply Ext.push | (refine Ext.trans ?_ (by assumption)))⟩⟩
    · rename_i w _
      exact ⟨.inr rfl, _, rfl, .inr ⟨rfl, fun q => w q.2, by (focus repeat' first | exact Ext.refl _ | assumption | apply Ext.push | (refine Ext.trans ?_ (by assumption)))⟩⟩
  · (repeat' (first | (apply K_seq) | (apply K_region) | (apply O_at; rfl) | (apply O_fin; rfl) | (apply C_seq) | (apply K_ret) | (apply C_nil) | (apply P_skip; rfl; rfl; rfl) | (apply P_move; rfl; rfl; rfl; rfl) | (apply P_assign; rfl; rfl; rfl; rfl) | (apply P_pick; rfl; rfl; rfl; rfl; rfl; rfl) | (apply P_loadA; rfl; rfl; rfl; rfl; exact ag_ok rfl; (focus repeat' first | exact get_push_same | assumption | (apply Ext.get; assumption)); (first | exact Nat.le_of_ble_eq_true rfl | (simp; done) | (simp; omega)); rfl) | (apply P_box; rfl; rfl; rfl; rfl; exact sz_ok rfl; rfl; rfl) | (apply P_call; rfl; rfl; rfl; rfl; rfl; rfl; exact no (short_ok hK) hs; (rintro _ _ ⟨rfl, _⟩)) | fail))
    exact ⟨.inr rfl, _, rfl, .inr ⟨rfl, fun q => hs q.1, by (focus repeat' first | exact Ext.refl _ | assumption | apply Ext.push | (refine Ext.trans ?_ (by assumption)))⟩⟩
end Go.AX.Sa

namespace Go.AX.Sa
open Go.Proofs
set_option maxRecDepth 100000
variable {K : Known}
/-! How many sheets each hand has. -/
def sh (B : Bk) (q : Int) : Nat → Int
  | 0 => 0
  | j + 1 => sh B q j + if handOf B j = q then B.l.getD (j * 10 + 1) 0 else 0
theorem sh_b {B : Bk} (hP : BkP B) (q : Int) : ∀ j, j ≤ B.n → 0 ≤ sh B q j ∧ sh B q j ≤ j * 20 := by
  intro j
  induction j with
  | zero => intro _; exact ⟨Int.le_refl _, by simp [sh]⟩
  | succ j ih =>
    intro hj
    have h1 := ih (by omega)
    have h2 := (hP.line j (by omega)).2.1.1
    simp only [sh]
    by_cases hq : handOf B j = q
    · rw [if_pos hq]; omega
    · rw [if_neg hq]; omega
theorem refSheets_ok (hK : NoK K) {B : Bk} {n : Int} {h : Heap} (hB : BkAt B h) (hP : BkP B) : CallW Tryz.prog K 48 #[bkV B, .int .i64 n] h (IsV (.int .i64 (sh B n B.n)) h) := by
  have hn := hP.n
  obtain ⟨b, e, own', hp, hg⟩ := hB.rd.at (by rw [ints_len, hB.len]; omega)
  refine body (N := 31) Tryz.func48 rfl (hK _ _ _ rfl) rfl rfl ?_
  (repeat' (first | (apply K_seq) | (apply K_region) | (apply O_at; rfl) | (apply O_fin; rfl) | (apply C_seq) | (apply K_ifT; rfl) | (apply K_ifF; rfl) | (apply K_block) | (apply K_skip) | (apply K_exit) | (apply K_ret) | (apply C_exit) | (apply C_exitS) | (apply C_exitL) | (apply C_blockN) | (apply C_nil) | (apply P_move; rfl; rfl; rfl; rfl) | (apply P_assign; rfl; rfl; rfl; rfl) | (apply P_fa; rfl; rfl; rfl; rfl; exact fo_ok rfl; (first | exact Nat.zero_add _ | exact Nat.add_zero _ | rfl)) | (apply P_len; rfl; rfl; rfl; rfl; rfl; rfl; exact un_ok rfl) | (apply P_lssF; rfl; rfl; rfl; rfl; rfl; omega) | (apply P_lssT; rfl; rfl; rfl; rfl; rfl; omega) | (apply P_eqlF; rfl; rfl; rfl; rfl; rfl; omega) | (apply P_eqlT; rfl; rfl; rfl; rfl; rfl; omega) | (apply P_add; rfl; rfl; rfl; rfl; rfl; (unfold fit; omega)) | (apply P_idxB; rfl; rfl; rfl; rfl; rfl; exact un_ok rfl; exact sz_ok rfl; (first | rfl | exact (Int.toNat_of_nonneg (by omega)).symm); omega) | (apply P_load1; rfl; rfl; rfl; rfl; exact on_ok rfl; (focus repeat' first | exact get_push_same | assumption | apply get_push_old | (apply Ext.get; assumption)); (first | exact ints_get (by omega) | rfl | assumption)) | (apply P_box; rfl; rfl; rfl; rfl; exact sz_ok rfl; rfl; rfl) | fail))
  refine K_loopE (fun k : Nat => [(6, .int .i64 (k : Nat)), (5, .int .i64 (sh B n k)), (2, .pointer (some ⟨h.n, 0, none⟩)), (1, .int .i64 n)])
    (fun k h' => k ≤ B.n ∧ Ext (h.push (.cells (bkV B).cells.toList 40 true)) h') (fun k => B.n - k) ?_ 0 ?_ ?_
  · intro k h' ⟨hk, hx⟩ ih
    have hgb : h'.get? h.n = some (.cells [.int .i64 B.hands, .int .i64 B.unit, .int .i64 B.sheet, .int .i64 B.error, .int .i64 B.morning, .int .i64 B.post, .slice B.p B.n B.k] 40 true) := hx.get get_push_same
    have hg' := hx.get (get_push_old hg)
    have hlen := hB.len
    by_cases hlt : k < B.n
    · have hline := (hP.line k hlt).2.1.1
      have hb := sh_b hP n k (by omega)
      have hkb : (k : Int) * 20 ≤ 5 * 20 := by omega
      by_cases hh : handOf B k = n
      · have e1 : sh B n (k + 1) = sh B n k + B.l.getD (k * 10 + 1) 0 := by simp only [sh]; rw [if_pos hh]
        unfold handOf at hh
        (repeat' (first | (apply K_seq) | (apply K_region) | (apply O_at; rfl) | (apply O_fin; rfl) | (apply C_seq) | (apply K_ifT; rfl) | (apply K_ifF; rfl) | (apply K_block) | (apply K_skip) | (apply K_exit) | (apply K_ret) | (apply C_exit) | (apply C_exitS) | (apply C_exitL) | (apply C_blockN) | (apply C_nil) | (apply P_move; rfl; rfl; rfl; rfl) | (apply P_assign; rfl; rfl; rfl; rfl) | (apply P_fa; rfl; rfl; rfl; rfl; exact fo_ok rfl; (first | exact Nat.zero_add _ | exact Nat.add_zero _ | rfl)) | (apply P_len; rfl; rfl; rfl; rfl; rfl; rfl; exact un_ok rfl) | (apply P_lssF; rfl; rfl; rfl; rfl; rfl; omega) | (apply P_lssT; rfl; rfl; rfl; rfl; rfl; omega) | (apply P_eqlF; rfl; rfl; rfl; rfl; rfl; omega) | (apply P_eqlT; rfl; rfl; rfl; rfl; rfl; omega) | (apply P_add; rfl; rfl; rfl; rfl; rfl; (unfold fit; omega)) | (apply P_idxB; rfl; rfl; rfl; rfl; rfl; exact un_ok rfl; exact sz_ok rfl; (first | rfl | exact (Int.toNat_of_nonneg (by omega)).symm); omega) | (apply P_load1; rfl; rfl; rfl; rfl; exact on_ok rfl; (focus repeat' first | exact get_push_same | assumption | apply get_push_old | (apply Ext.get; assumption)); (first | exact ints_get (by omega) | rfl | assumption)) | (apply P_box; rfl; rfl; rfl; rfl; exact sz_ok rfl; rfl; rfl) | fail))
        rw [hp]
        (repeat' (first | (apply K_seq) | (apply K_region) | (apply O_at; rfl) | (apply O_fin; rfl) | (apply C_seq) | (apply K_ifT; rfl) | (apply K_ifF; rfl) | (apply K_block) | (apply K_skip) | (apply K_exit) | (apply K_ret) | (apply C_exit) | (apply C_exitS) | (apply C_exitL) | (apply C_blockN) | (apply C_nil) | (apply P_move; rfl; rfl; rfl; rfl) | (apply P_assign; rfl; rfl; rfl; rfl) | (apply P_fa; rfl; rfl; rfl; rfl; exact fo_ok rfl; (first | exact Nat.zero_add _ | exact Nat.add_zero _ | rfl)) | (apply P_len; rfl; rfl; rfl; rfl; rfl; rfl; exact un_ok rfl) | (apply P_lssF; rfl; rfl; rfl; rfl; rfl; omega) | (apply P_lssT; rfl; rfl; rfl; rfl; rfl; omega) | (apply P_eqlF; rfl; rfl; rfl; rfl; rfl; omega) | (apply P_eqlT; rfl; rfl; rfl; rfl; rfl; omega) | (apply P_add; rfl; rfl; rfl; rfl; rfl; (unfold fit; omega)) | (apply P_idxB; rfl; rfl; rfl; rfl; rfl; exact un_ok rfl; exact sz_ok rfl; (first | rfl | exact (Int.toNat_of_nonneg (by omega)).symm); omega) | (apply P_load1; rfl; rfl; rfl; rfl; exact on_ok rfl; (focus repeat' first | exact get_push_same | assumption | apply get_push_old | (apply Ext.get; assumption)); (first | exact ints_get (by omega) | rfl | assumption)) | (apply P_box; rfl; rfl; rfl; rfl; exact sz_ok rfl; rfl; rfl) | fail))
        rw [hp]
        (repeat' (first | (apply K_seq) | (apply K_region) | (apply O_at; rfl) | (apply O_fin; rfl) | (apply C_seq) | (apply K_ifT; rfl) | (apply K_ifF; rfl) | (apply K_block) | (apply K_skip) | (apply K_exit) | (apply K_ret) | (apply C_exit) | (apply C_exitS) | (apply C_exitL) | (apply C_blockN) | (apply C_nil) | (apply P_move; rfl; rfl; rfl; rfl) | (apply P_assign; rfl; rfl; rfl; rfl) | (apply P_fa; rfl; rfl; rfl; rfl; exact fo_ok rfl; (first | exact Nat.zero_add _ | exact Nat.add_zero _ | rfl)) | (apply P_len; rfl; rfl; rfl; rfl; rfl; rfl; exact un_ok rfl) | (apply P_lssF; rfl; rfl; rfl; rfl; rfl; omega) | (apply P_lssT; rfl; rfl; rfl; rfl; rfl; omega) | (apply P_eqlF; rfl; rfl; rfl; rfl; rfl; omega) | (apply P_eqlT; rfl; rfl; rfl; rfl; rfl; omega) | (apply P_add; rfl; rfl; rfl; rfl; rfl; (unfold fit; omega)) | (apply P_idxB; rfl; rfl; rfl; rfl; rfl; exact un_ok rfl; exact sz_ok rfl; (first | rfl | exact (Int.toNat_of_nonneg (by omega)).symm); omega) | (apply P_load1; rfl; rfl; rfl; rfl; exact on_ok rfl; (focus repeat' first | exact get_push_same | assumption | apply get_push_old | (apply Ext.get; assumption)); (first | exact ints_get (by omega) | rfl | assumption)) | (apply P_box; rfl; rfl; rfl; rfl; exact sz_ok rfl; rfl; rfl) | fail))
        exact C_again (ih (k + 1) _ (by omega) ⟨hlt, by (focus repeat' first | exact Ext.refl _ | assumption | apply Ext.push | (refine Ext.trans ?_ (by assumption)))⟩) ⟨rfl, (by rw [e1]; rfl), rfl, rfl, trivial⟩
      · have e1 : sh B n (k + 1) = sh B n k := by simp only [sh]; rw [if_neg hh]; omega
        unfold handOf at hh
        (repeat' (first | (apply K_seq) | (apply K_region) | (apply O_at; rfl) | (apply O_fin; rfl) | (apply C_seq) | (apply K_ifT; rfl) | (apply K_ifF; rfl) | (apply K_block) | (apply K_skip) | (apply K_exit) | (apply K_ret) | (apply C_exit) | (apply C_exitS) | (apply C_exitL) | (apply C_blockN) | (apply C_nil) | (apply P_move; rfl; rfl; rfl; rfl) | (apply P_assign; rfl; rfl; rfl; rfl) | (apply P_fa; rfl; rfl; rfl; rfl; exact fo_ok rfl; (first | exact Nat.zero_add _ | exact Nat.add_zero _ | rfl)) | (apply P_len; rfl; rfl; rfl; rfl; rfl; rfl; exact un_ok rfl) | (apply P_lssF; rfl; rfl; rfl; rfl; rfl; omega) | (apply P_lssT; rfl; rfl; rfl; rfl; rfl; omega) | (apply P_eqlF; rfl; rfl; rfl; rfl; rfl; omega) | (apply P_eqlT; rfl; rfl; rfl; rfl; rfl; omega) | (apply P_add; rfl; rfl; rfl; rfl; rfl; (unfold fit; omega)) | (apply P_idxB; rfl; rfl; rfl; rfl; rfl; exact un_ok rfl; exact sz_ok rfl; (first | rfl | exact (Int.toNat_of_nonneg (by omega)).symm); omega) | (apply P_load1; rfl; rfl; rfl; rfl; exact on_ok rfl; (focus repeat' first | exact get_push_same | assumption | apply get_push_old | (apply Ext.get; assumption)); (first | exact ints_get (by omega) | rfl | assumption)) | (apply P_box; rfl; rfl; rfl; rfl; exact sz_ok rfl; rfl; rfl) | fail))
        rw [hp]
        (repeat' (first | (apply K_seq) | (apply K_region) | (apply O_at; rfl) | (apply O_fin; rfl) | (apply C_seq) | (apply K_ifT; rfl) | (apply K_ifF; rfl) | (apply K_block) | (apply K_skip) | (apply K_exit) | (apply K_ret) | (apply C_exit) | (apply C_exitS) | (apply C_exitL) | (apply C_blockN) | (apply C_nil) | (apply P_move; rfl; rfl; rfl; rfl) | (apply P_assign; rfl; rfl; rfl; rfl) | (apply P_fa; rfl; rfl; rfl; rfl; exact fo_ok rfl; (first | exact Nat.zero_add _ | exact Nat.add_zero _ | rfl)) | (apply P_len; rfl; rfl; rfl; rfl; rfl; rfl; exact un_ok rfl) | (apply P_lssF; rfl; rfl; rfl; rfl; rfl; omega) | (apply P_lssT; rfl; rfl; rfl; rfl; rfl; omega) | (apply P_eqlF; rfl; rfl; rfl; rfl; rfl; omega) | (apply P_eqlT; rfl; rfl; rfl; rfl; rfl; omega) | (apply P_add; rfl; rfl; rfl; rfl; rfl; (unfold fit; omega)) | (apply P_idxB; rfl; rfl; rfl; rfl; rfl; exact un_ok rfl; exact sz_ok rfl; (first | rfl | exact (Int.toNat_of_nonneg (by omega)).symm); omega) | (apply P_load1; rfl; rfl; rfl; rfl; exact on_ok rfl; (focus repeat' first | exact get_push_same | assumption | apply get_push_old | (apply Ext.get; assumption)); (first | exact ints_get (by omega) | rfl | assumption)) | (apply P_box; rfl; rfl; rfl; rfl; exact sz_ok rfl; rfl; rfl) | fail))
        exact C_again (ih (k + 1) _ (by omega) ⟨hlt, by (focus repeat' first | exact Ext.refl _ | assumption | apply Ext.push | (refine Ext.trans ?_ (by assumption)))⟩) ⟨rfl, (by rw [e1]; rfl), rfl, rfl, trivial⟩
    · have : k = B.n := by omega
      subst this
      (repeat' (first | (apply K_seq) | (apply K_region) | (apply O_at; rfl) | (apply O_fin; rfl) | (apply C_seq) | (apply K_ifT; rfl) | (apply K_ifF; rfl) | (apply K_block) | (apply K_skip) | (apply K_exit) | (apply K_ret) | (apply C_exit) | (apply C_exitS) | (apply C_exitL) | (apply C_blockN) | (apply C_nil) | (apply P_move; rfl; rfl; rfl; rfl) | (apply P_assign; rfl; rfl; rfl; rfl) | (apply P_fa; rfl; rfl; rfl; rfl; exact fo_ok rfl; (first | exact Nat.zero_add _ | exact Nat.add_zero _ | rfl)) | (apply P_len; rfl; rfl; rfl; rfl; rfl; rfl; exact un_ok rfl) | (apply P_lssF; rfl; rfl; rfl; rfl; rfl; omega) | (apply P_lssT; rfl; rfl; rfl; rfl; rfl; omega) | (apply P_eqlF; rfl; rfl; rfl; rfl; rfl; omega) | (apply P_eqlT; rfl; rfl; rfl; rfl; rfl; omega) | (apply P_add; rfl; rfl; rfl; rfl; rfl; (unfold fit; omega)) | (apply P_idxB; rfl; rfl; rfl; rfl; rfl; exact un_ok rfl; exact sz_ok rfl; (first | rfl | exact (Int.toNat_of_nonneg (by omega)).symm); omega) | (apply P_load1; rfl; rfl; rfl; rfl; exact on_ok rfl; (focus repeat' first | exact get_push_same | assumption | apply get_push_old | (apply Ext.get; assumption)); (first | exact ints_get (by omega) | rfl | assumption)) | (apply P_box; rfl; rfl; rfl; rfl; exact sz_ok rfl; rfl; rfl) | fail))
      exact ⟨.inr rfl, _, rfl, rfl, by (focus repeat' first | exact Ext.refl _ | assumption | apply Ext.push | (refine Ext.trans ?_ (by assumption)))⟩
  · exact ⟨Nat.zero_le _, by (focus repeat' first | exact Ext.refl _ | assumption | apply Ext.push | (refine Ext.trans ?_ (by assumption)))⟩
  · (focus repeat' first | rfl | exact trivial | apply And.intro)
def shL (B : Bk) (k : Nat) : List Int := (List.range B.hands.toNat).map fun i => sh B (i : Nat) k
theorem shL_len (B : Bk) (k : Nat) : (shL B k).length = B.hands.toNat := by simp [shL]
theorem shL_at {B : Bk} {k i : Nat} (h : i < B.hands.toNat) : (shL B k).getD i 0 = sh B (i : Nat) k := by simp [shL, List.getD_eq_getElem?_getD, h]
theorem shL_get {B : Bk} {k : Nat} {g : Int} (h : 0 ≤ g ∧ g ≤ B.hands - 1) : (shL B k).getD g.toNat 0 = sh B g k := by
  rw [shL_at (by omega), show ((g.toNat : Nat) : Int) = g by omega]
theorem shL_zero (B : Bk) : shL B 0 = List.replicate B.hands.toNat 0 := List.ext_getElem (by simp [shL]) (by intro i h1 h2; simp [shL, sh])
theorem shL_succ {B : Bk} {k : Nat} (h : 0 ≤ handOf B k ∧ handOf B k ≤ B.hands - 1) : (shL B k).set (handOf B k).toNat (sh B (handOf B k) k + B.l.getD (k * 10 + 1) 0) = shL B (k + 1) := by
  apply List.ext_getElem
  · simp [shL]
  · intro i h1 h2
    rw [List.getElem_set]
    simp only [shL, List.getElem_map, List.getElem_range, sh]
    by_cases hi : (handOf B k).toNat = i
    · have hg : ((i : Nat) : Int) = handOf B k := by omega
      rw [if_pos hi, hg, if_pos rfl]
    · rw [if_neg hi, if_neg (by omega)]; omega
theorem sheetsOf_ok (hK : NoK K) {B : Bk} {h : Heap} (hB : BkAt B h) (hP : BkP B) :
    CallW Tryz.prog K 81 #[bkV B] h (fun u h1 => ∃ r, u = .slice (some ⟨r, 0, none⟩) B.hands.toNat B.hands.toNat ∧ h1.get? r = some (.cells (ints (shL B B.n)) 3 true) ∧ Ext h h1) := by
  have hn := hP.n
  have hh := hP.hands
  refine body (N := 27) Tryz.func81 rfl (hK _ _ _ rfl) rfl rfl ?_
  obtain ⟨b, e, own', hp, hg⟩ := hB.rd.at (by rw [ints_len, hB.len]; omega)
  (repeat' (first | (apply K_seq) | (apply K_region) | (apply O_at; rfl) | (apply N_at; rfl) | (apply O_fin; rfl) | (apply C_seq) | (apply K_ifT; rfl) | (apply K_ifF; rfl) | (apply K_open; exact openOK_of (by decide +kernel)) | (apply K_block) | (apply K_skip) | (apply K_exit) | (apply K_ret) | (apply N_fin; rfl; exact (.inl (Nat.le_refl 1))) | (apply N_fin; rfl; refine .inr ?_; (focus repeat' first | exact trivial | apply And.intro | rfl)) | (apply C_exit) | (apply C_exitS) | (apply C_exitL) | (apply C_blockN) | (apply C_nil) | (apply P_move; rfl; rfl; rfl; rfl) | (apply P_assign; rfl; rfl; rfl; rfl) | (apply P_fa; rfl; rfl; rfl; rfl; exact fo_ok rfl; (first | exact Nat.zero_add _ | exact Nat.add_zero _ | rfl)) | (apply P_len; rfl; rfl; rfl; rfl; rfl; rfl; exact un_ok rfl) | (apply P_lssF; rfl; rfl; rfl; rfl; rfl; omega) | (apply P_lssT; rfl; rfl; rfl; rfl; rfl; omega) | (apply P_add; rfl; rfl; rfl; rfl; rfl; (unfold fit; omega)) | (apply P_idxB; rfl; rfl; rfl; rfl; rfl; exact un_ok rfl; exact sz_ok rfl; (first | rfl | exact (Int.toNat_of_nonneg (by omega)).symm); omega) | (apply P_load1; rfl; rfl; rfl; rfl; exact on_ok rfl; (focus repeat' first | exact get_push_same | assumption | apply get_push_old | (apply Ext.get; assumption)); (first | exact ints_get (by omega) | rfl | assumption)) | (apply P_loadA; rfl; rfl; rfl; rfl; exact ag_ok rfl; (focus repeat' first | exact get_push_same | assumption | apply get_push_old | (apply Ext.get; assumption)); (first | exact Nat.le_of_ble_eq_true rfl | (simp; done) | (simp; omega) | (rw [ints_len]; omega)); (first | exact line_take (by omega) | rfl)) | (apply P_makeI; rfl; rfl; rfl; rfl; rfl; exact c1_ok rfl; exact zero3; omega; omega) | (apply P_storeTop; rfl; rfl; rfl; rfl; exact sz_ok rfl; rfl; rfl; rfl) | (apply P_box; rfl; rfl; rfl; rfl; exact sz_ok rfl; rfl; rfl) | (apply P_alloc; rfl; rfl; rfl; rfl; exact sz_ok rfl; rfl; rfl) | (apply M_move; rfl; rfl; rfl; rfl) | (apply M_fa; rfl; rfl; rfl; rfl; exact fo_ok rfl; (first | exact Nat.zero_add _ | exact Nat.add_zero _ | rfl)) | (apply M_add; rfl; rfl; rfl; rfl; rfl; (unfold fit; omega)) | (apply M_idxA; rfl; rfl; rfl; rfl; rfl; exact un_ok rfl; exact sz_ok rfl; (first | rfl | exact (Int.toNat_of_nonneg (by omega)).symm); omega) | (apply M_load1E; rfl; rfl; rfl; rfl; exact on_ok rfl; exact actsMost_0 (by decide +kernel); (focus repeat' first | exact get_push_same | assumption | apply get_push_old | (apply Ext.get; assumption)); (first | exact ints_get (by omega) | rfl | assumption); (first | assumption | exact same_int _ _ | rfl | (focus simp [same, same.all2]; done)); (first | rfl | assumption | exact hwv _ | (simp [within]; omega))) | (apply M_storeI; rfl; rfl; rfl; rfl; (focus repeat' first | exact get_push_same | assumption | apply get_push_old | (apply Ext.get; assumption)); exact sz_ok rfl; (first | omega | (focus simp; done)); rfl; (intro _ _ _)) | fail))
  rw [hp]
  let hb : Heap := h.push (.cells (bkV B).cells.toList 40 true)
  refine K_loopE (fun k : Nat => [(12, .int .i64 (k : Nat)), (11, .int .i64 (B.n : Nat)), (10, .slice (some ⟨b, 0, none⟩) B.n B.k), (3, .slice (some ⟨h.n + 1, 0, none⟩) B.hands.toNat B.hands.toNat)])
    (fun k h' => k ≤ B.n ∧ Ext hb h' ∧ h.n + 2 ≤ h'.n ∧ h'.get? (h.n + 1) = some (.cells (ints (shL B k)) 3 true)) (fun k => B.n - k) ?_ 0 ?_ ?_
  · intro k h' ⟨hk, hx, hn1, hr⟩ ih
    by_cases hlt : k < B.n
    · have hg' := hx.get (get_push_old hg)
      have hlen := hB.len
      have hh1 := (hP.line k hlt).1
      have hline := (hP.line k hlt).2.1.1
      have hrl := shL_len B k
      have hrg := shL_get (k := k) hh1
      have hb1 := sh_b hP (B.l.getD (k * 10) 0) k (by omega)
      have hkb : (k : Int) * 20 ≤ 5 * 20 := by omega
      (repeat' (first | (apply K_seq) | (apply K_region) | (apply O_at; rfl) | (apply N_at; rfl) | (apply O_fin; rfl) | (apply C_seq) | (apply K_ifT; rfl) | (apply K_ifF; rfl) | (apply K_open; exact openOK_of (by decide +kernel)) | (apply K_block) | (apply K_skip) | (apply K_exit) | (apply K_ret) | (apply N_fin; rfl; exact (.inl (Nat.le_refl 1))) | (apply N_fin; rfl; refine .inr ?_; (focus repeat' first | exact trivial | apply And.intro | rfl)) | (apply C_exit) | (apply C_exitS) | (apply C_exitL) | (apply C_blockN) | (apply C_nil) | (apply P_move; rfl; rfl; rfl; rfl) | (apply P_assign; rfl; rfl; rfl; rfl) | (apply P_fa; rfl; rfl; rfl; rfl; exact fo_ok rfl; (first | exact Nat.zero_add _ | exact Nat.add_zero _ | rfl)) | (apply P_len; rfl; rfl; rfl; rfl; rfl; rfl; exact un_ok rfl) | (apply P_lssF; rfl; rfl; rfl; rfl; rfl; omega) | (apply P_lssT; rfl; rfl; rfl; rfl; rfl; omega) | (apply P_add; rfl; rfl; rfl; rfl; rfl; (unfold fit; omega)) | (apply P_idxB; rfl; rfl; rfl; rfl; rfl; exact un_ok rfl; exact sz_ok rfl; (first | rfl | exact (Int.toNat_of_nonneg (by omega)).symm); omega) | (apply P_load1; rfl; rfl; rfl; rfl; exact on_ok rfl; (focus repeat' first | exact get_push_same | assumption | apply get_push_old | (apply Ext.get; assumption)); (first | exact ints_get (by omega) | rfl | assumption)) | (apply P_loadA; rfl; rfl; rfl; rfl; exact ag_ok rfl; (focus repeat' first | exact get_push_same | assumption | apply get_push_old | (apply Ext.get; assumption)); (first | exact Nat.le_of_ble_eq_true rfl | (simp; done) | (simp; omega) | (rw [ints_len]; omega)); (first | exact line_take (by omega) | rfl)) | (apply P_makeI; rfl; rfl; rfl; rfl; rfl; exact c1_ok rfl; exact zero3; omega; omega) | (apply P_storeTop; rfl; rfl; rfl; rfl; exact sz_ok rfl; rfl; rfl; rfl) | (apply P_box; rfl; rfl; rfl; rfl; exact sz_ok rfl; rfl; rfl) | (apply P_alloc; rfl; rfl; rfl; rfl; exact sz_ok rfl; rfl; rfl) | (apply M_move; rfl; rfl; rfl; rfl) | (apply M_fa; rfl; rfl; rfl; rfl; exact fo_ok rfl; (first | exact Nat.zero_add _ | exact Nat.add_zero _ | rfl)) | (apply M_add; rfl; rfl; rfl; rfl; rfl; (unfold fit; omega)) | (apply M_idxA; rfl; rfl; rfl; rfl; rfl; exact un_ok rfl; exact sz_ok rfl; (first | rfl | exact (Int.toNat_of_nonneg (by omega)).symm); omega) | (apply M_load1E; rfl; rfl; rfl; rfl; exact on_ok rfl; exact actsMost_0 (by decide +kernel); (focus repeat' first | exact get_push_same | assumption | apply get_push_old | (apply Ext.get; assumption)); (first | exact ints_get (by omega) | rfl | assumption); (first | assumption | exact same_int _ _ | rfl | (focus simp [same, same.all2]; done)); (first | rfl | assumption | exact hwv _ | (simp [within]; omega))) | (apply M_storeI; rfl; rfl; rfl; rfl; (focus repeat' first | exact get_push_same | assumption | apply get_push_old | (apply Ext.get; assumption)); exact sz_ok rfl; (first | omega | (focus simp; done)); rfl; (intro _ _ _)) | fail))
      rename_i h3 g3 x3
      rw [hrg] at g3
      have g3' : h3.get? (h.n + 1) = some (.cells (ints (shL B (k + 1))) 3 true) := by rw [← shL_succ hh1]; exact g3
      have n3 := x3.n
      simp only [Heap.push] at n3
      have hx3 : Ext hb h3 := Ext.ofBut (hx.push _) x3 (Nat.le_refl _)
      exact C_again (ih (k + 1) _ (by omega) ⟨hlt, hx3, by omega, g3'⟩) (by (focus repeat' first | rfl | exact trivial | apply And.intro))
    · have : k = B.n := by omega
      subst this
      (repeat' (first | (apply K_seq) | (apply K_region) | (apply O_at; rfl) | (apply N_at; rfl) | (apply O_fin; rfl) | (apply C_seq) | (apply K_ifT; rfl) | (apply K_ifF; rfl) | (apply K_open; exact openOK_of (by decide +kernel)) | (apply K_block) | (apply K_skip) | (apply K_exit) | (apply K_ret) | (apply N_fin; rfl; exact (.inl (Nat.le_refl 1))) | (apply N_fin; rfl; refine .inr ?_; (focus repeat' first | exact trivial | apply And.intro | rfl)) | (apply C_exit) | (apply C_exitS) | (apply C_exitL) | (apply C_blockN) | (apply C_nil) | (apply P_move; rfl; rfl; rfl; rfl) | (apply P_assign; rfl; rfl; rfl; rfl) | (apply P_fa; rfl; rfl; rfl; rfl; exact fo_ok rfl; (first | exact Nat.zero_add _ | exact Nat.add_zero _ | rfl)) | (apply P_len; rfl; rfl; rfl; rfl; rfl; rfl; exact un_ok rfl) | (apply P_lssF; rfl; rfl; rfl; rfl; rfl; omega) | (apply P_lssT; rfl; rfl; rfl; rfl; rfl; omega) | (apply P_add; rfl; rfl; rfl; rfl; rfl; (unfold fit; omega)) | (apply P_idxB; rfl; rfl; rfl; rfl; rfl; exact un_ok rfl; exact sz_ok rfl; (first | rfl | exact (Int.toNat_of_nonneg (by omega)).symm); omega) | (apply P_load1; rfl; rfl; rfl; rfl; exact on_ok rfl; (focus repeat' first | exact get_push_same | assumption | apply get_push_old | (apply Ext.get; assumption)); (first | exact ints_get (by omega) | rfl | assumption)) | (apply P_loadA; rfl; rfl; rfl; rfl; exact ag_ok rfl; (focus repeat' first | exact get_push_same | assumption | apply get_push_old | (apply Ext.get; assumption)); (first | exact Nat.le_of_ble_eq_true rfl | (simp; done) | (simp; omega) | (rw [ints_len]; omega)); (first | exact line_take (by omega) | rfl)) | (apply P_makeI; rfl; rfl; rfl; rfl; rfl; exact c1_ok rfl; exact zero3; omega; omega) | (apply P_storeTop; rfl; rfl; rfl; rfl; exact sz_ok rfl; rfl; rfl; rfl) | (apply P_box; rfl; rfl; rfl; rfl; exact sz_ok rfl; rfl; rfl) | (apply P_alloc; rfl; rfl; rfl; rfl; exact sz_ok rfl; rfl; rfl) | (apply M_move; rfl; rfl; rfl; rfl) | (apply M_fa; rfl; rfl; rfl; rfl; exact fo_ok rfl; (first | exact Nat.zero_add _ | exact Nat.add_zero _ | rfl)) | (apply M_add; rfl; rfl; rfl; rfl; rfl; (unfold fit; omega)) | (apply M_idxA; rfl; rfl; rfl; rfl; rfl; exact un_ok rfl; exact sz_ok rfl; (first | rfl | exact (Int.toNat_of_nonneg (by omega)).symm); omega) | (apply M_load1E; rfl; rfl; rfl; rfl; exact on_ok rfl; exact actsMost_0 (by decide +kernel); (focus repeat' first | exact get_push_same | assumption | apply get_push_old | (apply Ext.get; assumption)); (first | exact ints_get (by omega) | rfl | assumption); (first | assumption | exact same_int _ _ | rfl | (focus simp [same, same.all2]; done)); (first | rfl | assumption | exact hwv _ | (simp [within]; omega))) | (apply M_storeI; rfl; rfl; rfl; rfl; (focus repeat' first | exact get_push_same | assumption | apply get_push_old | (apply Ext.get; assumption)); exact sz_ok rfl; (first | omega | (focus simp; done)); rfl; (intro _ _ _)) | fail))
      exact ⟨.inr rfl, _, rfl, _, rfl, hr, Ext.trans ((Ext.refl h).push _) hx⟩
  · exact ⟨Nat.zero_le _, (Ext.refl hb).push _, Nat.le_refl _, (by rw [shL_zero]; exact get_push_same)⟩
  · (focus repeat' first | rfl | exact trivial | apply And.intro)
end Go.AX.Sa
