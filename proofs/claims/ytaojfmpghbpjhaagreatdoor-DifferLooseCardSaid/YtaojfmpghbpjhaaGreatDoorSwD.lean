/- Sure rows and doubts. -/
import Derived.Test.YtaojfmpghbpjhaaGreatDoorSwP
import Derived.Test.YtaojfmpghbpjhaaGreatDoorSwB
namespace Go.AX.Sa
open Go.Proofs
set_option maxRecDepth 100000
variable {K : Known}

theorem isSure_ok (hK : NoK K) {a b : Int} {h : Heap} : CallW Tryz.prog K 63 #[.agg #[.int .i64 a, .int .i64 b]] h (IfB (a = b) h) := by
  refine body (N := 8) Tryz.func63 rfl (hK _ _ _ rfl) rfl rfl ?_
  (repeat' (first | (apply K_seq) | (apply K_region) | (apply O_at; rfl) | (apply O_fin; rfl) | (apply C_seq) | (apply K_ret) | (apply C_nil) | (apply P_assign; rfl; rfl; rfl; rfl) | (apply P_fa; rfl; rfl; rfl; rfl; exact fo_ok rfl; (first | exact Nat.zero_add _ | exact Nat.add_zero _ | rfl)) | (apply P_eql; rfl; rfl; rfl; rfl; rfl; all_goals intro _) | (apply P_load1; rfl; rfl; rfl; rfl; exact on_ok rfl; (focus repeat' first | exact get_push_same | assumption); (first | rfl | assumption)) | (apply P_box; rfl; rfl; rfl; rfl; exact sz_ok rfl; rfl; rfl) | fail))
  all_goals (refine ⟨.inr rfl, _, rfl, ?_⟩; first | (refine .inl ⟨rfl, by omega, ?_⟩; (focus repeat' first | exact Ext.refl _ | assumption | apply Ext.push | (refine Ext.trans ?_ (by assumption)) | (refine Ext.set ?_ (Nat.le_succ _) (get_push_old get_push_same) _)); done) | (refine .inr ⟨rfl, by omega, ?_⟩; (focus repeat' first | exact Ext.refl _ | assumption | apply Ext.push | (refine Ext.trans ?_ (by assumption)) | (refine Ext.set ?_ (Nat.le_succ _) (get_push_old get_push_same) _)); done))
/-- A row's figures are one. -/
def Sur (ps : List (Int × Int)) (k : Nat) : Prop := (ps.getD k (0, 0)).1 = (ps.getD k (0, 0)).2
theorem fill88 (k : Int) : fillB Tryz.prog 88 [(0, .int .i64 k)] = some (.agg #[.int .i64 k]) := by kernel_rfl
def doubtCh (k : Nat) : List PanicEntry := [⟨.iface 88 (.agg #[.int .i64 (k : Nat)]), false, false⟩]
theorem must_ok (hK : NoK K) {ps : List (Int × Int)} {b cap : Nat} {h : Heap} {e : TypeId} {own : Bool} (hl : ps.length ≤ 1000) (hg : h.get? b = some (.cells (spanCells ps) e own)) (hs : ∀ k, k < ps.length → Sur ps k) :
    CallW Tryz.prog K 65 #[.slice (some ⟨b, 0, none⟩) ps.length cap] h (IsV (.tuple #[]) h) := by
  refine body (N := 18) Tryz.func65 rfl (hK _ _ _ rfl) rfl rfl ?_
  (repeat' (first | (apply K_seq) | (apply K_region) | (apply O_at; rfl) | (apply O_fin; rfl) | (apply C_seq) | (apply K_ifT; rfl) | (apply K_ifF; rfl) | (apply K_block) | (apply K_skip) | (apply K_exit) | (apply C_exit) | (apply C_exitS) | (apply C_exitL) | (apply C_blockN) | (apply C_nil) | (apply P_move; rfl; rfl; rfl; rfl) | (apply P_assign; rfl; rfl; rfl; rfl) | (apply P_len; rfl; rfl; rfl; rfl; rfl; rfl; exact un_ok rfl) | (apply P_not; rfl; rfl; rfl; rfl) | (apply P_add; rfl; rfl; rfl; rfl; rfl; (unfold fit; omega)) | (apply P_idxB; rfl; rfl; rfl; rfl; rfl; exact un_ok rfl; exact sz_ok rfl; (first | rfl | exact (Int.toNat_of_nonneg (by omega)).symm); omega) | (apply P_loadA; rfl; rfl; rfl; rfl; exact ag_ok rfl; (focus repeat' first | assumption | (apply Ext.get; assumption)); (first | exact Nat.le_of_ble_eq_true rfl | (simp; done) | (simp; omega) | (rw [spanCells_len]; omega) | (rw [ints_len]; omega)); (first | exact spans_take (by omega) | rfl)) | fail))
  refine K_loopE (fun (k : Nat) => [(5, .int .i64 (k : Nat)), (4, .int .i64 (ps.length : Nat)), (0, .slice (some ⟨b, 0, none⟩) ps.length cap)]) (fun k h' => k ≤ ps.length ∧ Ext h h') (fun k => ps.length - k) ?_ 0 ⟨Nat.zero_le _, Ext.refl h⟩ ?_
  · rintro k h' ⟨hk, hx⟩ ih
    have hg1 := hx.get hg
    by_cases hlt : k < ps.length
    · have hk1 : (ps.getD k (0, 0)).1 = (ps.getD k (0, 0)).2 := hs k hlt
      (repeat' (first | (apply K_seq) | (apply K_region) | (apply O_at; rfl) | (apply O_fin; rfl) | (apply C_seq) | (apply K_ifT; rfl) | (apply K_ifF; rfl) | (apply K_block) | (apply K_skip) | (apply K_exit) | (apply C_exit) | (apply C_exitS) | (apply C_exitL) | (apply C_blockN) | (apply C_nil) | (apply P_move; rfl; rfl; rfl; rfl) | (apply P_assign; rfl; rfl; rfl; rfl) | (apply P_len; rfl; rfl; rfl; rfl; rfl; rfl; exact un_ok rfl) | (apply P_not; rfl; rfl; rfl; rfl) | (apply P_lssF; rfl; rfl; rfl; rfl; rfl; omega) | (apply P_lssT; rfl; rfl; rfl; rfl; rfl; omega) | (apply P_add; rfl; rfl; rfl; rfl; rfl; (unfold fit; omega)) | (apply P_idxB; rfl; rfl; rfl; rfl; rfl; exact un_ok rfl; exact sz_ok rfl; (first | rfl | exact (Int.toNat_of_nonneg (by omega)).symm); omega) | (apply P_loadA; rfl; rfl; rfl; rfl; exact ag_ok rfl; (focus repeat' first | assumption | (apply Ext.get; assumption)); (first | exact Nat.le_of_ble_eq_true rfl | (simp; done) | (simp; omega) | (rw [spanCells_len]; omega) | (rw [ints_len]; omega)); (first | exact spans_take (by omega) | rfl)) | (apply P_call; rfl; rfl; rfl; rfl; rfl; rfl; exact yes (isSure_ok hK) hk1; (rintro _ _ ⟨rfl, _⟩)) | fail))
      refine C_again (ih (k + 1) _ (by omega) ⟨hlt, by (focus repeat' first | exact Ext.refl _ | assumption | apply Ext.push | (refine Ext.trans ?_ (by assumption)) | (refine Ext.set ?_ (Nat.le_succ _) (get_push_old get_push_same) _))⟩) ?_
      (focus repeat' first | rfl | exact trivial | apply And.intro)
    · (repeat' (first | (apply K_seq) | (apply K_region) | (apply O_at; rfl) | (apply O_fin; rfl) | (apply C_seq) | (apply K_ifT; rfl) | (apply K_ifF; rfl) | (apply K_block) | (apply K_skip) | (apply K_exit) | (apply C_exit) | (apply C_exitS) | (apply C_exitL) | (apply C_blockN) | (apply C_nil) | (apply P_move; rfl; rfl; rfl; rfl) | (apply P_assign; rfl; rfl; rfl; rfl) | (apply P_len; rfl; rfl; rfl; rfl; rfl; rfl; exact un_ok rfl) | (apply P_not; rfl; rfl; rfl; rfl) | (apply P_lssF; rfl; rfl; rfl; rfl; rfl; omega) | (apply P_lssT; rfl; rfl; rfl; rfl; rfl; omega) | (apply P_add; rfl; rfl; rfl; rfl; rfl; (unfold fit; omega)) | (apply P_idxB; rfl; rfl; rfl; rfl; rfl; exact un_ok rfl; exact sz_ok rfl; (first | rfl | exact (Int.toNat_of_nonneg (by omega)).symm); omega) | (apply P_loadA; rfl; rfl; rfl; rfl; exact ag_ok rfl; (focus repeat' first | assumption | (apply Ext.get; assumption)); (first | exact Nat.le_of_ble_eq_true rfl | (simp; done) | (simp; omega) | (rw [spanCells_len]; omega) | (rw [ints_len]; omega)); (first | exact spans_take (by omega) | rfl)) | fail))
      exact ⟨.inl rfl, _, rfl, rfl, hx⟩
  · (focus repeat' first | rfl | exact trivial | apply And.intro)
theorem must_no (hK : NoK K) {ps : List (Int × Int)} {b cap k0 : Nat} {h : Heap} {e : TypeId} {own : Bool} (hl : ps.length ≤ 1000) (hg : h.get? b = some (.cells (spanCells ps) e own)) (hk0 : k0 < ps.length) (hs : ∀ k, k < k0 → Sur ps k) (hn : ¬ Sur ps k0) :
    CallP Tryz.prog K 65 #[.slice (some ⟨b, 0, none⟩) ps.length cap] h (doubtCh k0) (Ext h) := by
  refine bodyP (N := 18) Tryz.func65 rfl (hK _ _ _ rfl) rfl rfl ?_
  (repeat' (first | (apply K_seq) | (apply K_region) | (apply O_at; rfl) | (apply O_fin; rfl) | (apply C_seq) | (apply K_ifT; rfl) | (apply K_ifF; rfl) | (apply K_block) | (apply K_skip) | (apply C_blockN) | (apply C_nil) | (apply P_move; rfl; rfl; rfl; rfl) | (apply P_assign; rfl; rfl; rfl; rfl) | (apply P_len; rfl; rfl; rfl; rfl; rfl; rfl; exact un_ok rfl) | (apply P_not; rfl; rfl; rfl; rfl) | (apply P_add; rfl; rfl; rfl; rfl; rfl; (unfold fit; omega)) | (apply P_idxB; rfl; rfl; rfl; rfl; rfl; exact un_ok rfl; exact sz_ok rfl; (first | rfl | exact (Int.toNat_of_nonneg (by omega)).symm); omega) | (apply P_loadA; rfl; rfl; rfl; rfl; exact ag_ok rfl; (focus repeat' first | assumption | (apply Ext.get; assumption)); (first | exact Nat.le_of_ble_eq_true rfl | (simp; done) | (simp; omega) | (rw [spanCells_len]; omega) | (rw [ints_len]; omega)); (first | exact spans_take (by omega) | rfl)) | fail))
  refine K_loopE (fun (k : Nat) => [(5, .int .i64 (k : Nat)), (4, .int .i64 (ps.length : Nat)), (0, .slice (some ⟨b, 0, none⟩) ps.length cap)]) (fun k h' => k ≤ k0 ∧ Ext h h') (fun k => ps.length - k) ?_ 0 ⟨Nat.zero_le _, Ext.refl h⟩ ?_
  · rintro k h' ⟨hk, hx⟩ ih
    have hg1 := hx.get hg
    by_cases hlt : k < k0
    · have hk1 : (ps.getD k (0, 0)).1 = (ps.getD k (0, 0)).2 := hs k hlt
      (repeat' (first | (apply K_seq) | (apply K_region) | (apply O_at; rfl) | (apply O_fin; rfl) | (apply C_seq) | (apply K_ifT; rfl) | (apply K_ifF; rfl) | (apply K_block) | (apply K_skip) | (apply C_blockN) | (apply C_nil) | (apply P_move; rfl; rfl; rfl; rfl) | (apply P_assign; rfl; rfl; rfl; rfl) | (apply P_len; rfl; rfl; rfl; rfl; rfl; rfl; exact un_ok rfl) | (apply P_not; rfl; rfl; rfl; rfl) | (apply P_lssT; rfl; rfl; rfl; rfl; rfl; omega) | (apply P_add; rfl; rfl; rfl; rfl; rfl; (unfold fit; omega)) | (apply P_idxB; rfl; rfl; rfl; rfl; rfl; exact un_ok rfl; exact sz_ok rfl; (first | rfl | exact (Int.toNat_of_nonneg (by omega)).symm); omega) | (apply P_loadA; rfl; rfl; rfl; rfl; exact ag_ok rfl; (focus repeat' first | assumption | (apply Ext.get; assumption)); (first | exact Nat.le_of_ble_eq_true rfl | (simp; done) | (simp; omega) | (rw [spanCells_len]; omega) | (rw [ints_len]; omega)); (first | exact spans_take (by omega) | rfl)) | (apply P_call; rfl; rfl; rfl; rfl; rfl; rfl; exact yes (isSure_ok hK) hk1; (rintro _ _ ⟨rfl, _⟩)) | fail))
      refine C_again (ih (k + 1) _ (by omega) ⟨hlt, by (focus repeat' first | exact Ext.refl _ | assumption | apply Ext.push | (refine Ext.trans ?_ (by assumption)) | (refine Ext.set ?_ (Nat.le_succ _) (get_push_old get_push_same) _))⟩) ?_
      (focus repeat' first | rfl | exact trivial | apply And.intro)
    · have hke : k = k0 := by omega
      subst hke
      have hk1 : ¬ (ps.getD k (0, 0)).1 = (ps.getD k (0, 0)).2 := hn
      (repeat' (first | (apply K_seq) | (apply K_region) | (apply O_at; rfl) | (apply O_fin; rfl) | (apply C_seq) | (apply K_ifT; rfl) | (apply K_ifF; rfl) | (apply K_block) | (apply K_skip) | (apply C_blockN) | (apply C_nil) | (apply P_move; rfl; rfl; rfl; rfl) | (apply P_assign; rfl; rfl; rfl; rfl) | (apply P_len; rfl; rfl; rfl; rfl; rfl; rfl; exact un_ok rfl) | (apply P_not; rfl; rfl; rfl; rfl) | (apply P_lssT; rfl; rfl; rfl; rfl; rfl; omega) | (apply P_add; rfl; rfl; rfl; rfl; rfl; (unfold fit; omega)) | (apply P_idxB; rfl; rfl; rfl; rfl; rfl; exact un_ok rfl; exact sz_ok rfl; (first | rfl | exact (Int.toNat_of_nonneg (by omega)).symm); omega) | (apply P_loadA; rfl; rfl; rfl; rfl; exact ag_ok rfl; (focus repeat' first | assumption | (apply Ext.get; assumption)); (first | exact Nat.le_of_ble_eq_true rfl | (simp; done) | (simp; omega) | (rw [spanCells_len]; omega) | (rw [ints_len]; omega)); (first | exact spans_take (by omega) | rfl)) | (apply P_call; rfl; rfl; rfl; rfl; rfl; rfl; exact no (isSure_ok hK) hk1; (rintro _ _ ⟨rfl, _⟩)) | fail))
      apply P_build; rfl; rfl; rfl; rfl; exact fill88 _
      (repeat' (first | (apply K_seq) | (apply K_region) | (apply O_at; rfl) | (apply O_fin; rfl) | (apply C_seq) | (apply K_ifT; rfl) | (apply K_ifF; rfl) | (apply K_block) | (apply K_skip) | (apply C_blockN) | (apply C_nil) | (apply P_move; rfl; rfl; rfl; rfl) | (apply P_assign; rfl; rfl; rfl; rfl) | (apply P_len; rfl; rfl; rfl; rfl; rfl; rfl; exact un_ok rfl) | (apply P_not; rfl; rfl; rfl; rfl) | (apply P_lssT; rfl; rfl; rfl; rfl; rfl; omega) | (apply P_add; rfl; rfl; rfl; rfl; rfl; (unfold fit; omega)) | (apply P_idxB; rfl; rfl; rfl; rfl; rfl; exact un_ok rfl; exact sz_ok rfl; (first | rfl | exact (Int.toNat_of_nonneg (by omega)).symm); omega) | (apply P_loadA; rfl; rfl; rfl; rfl; exact ag_ok rfl; (focus repeat' first | assumption | (apply Ext.get; assumption)); (first | exact Nat.le_of_ble_eq_true rfl | (simp; done) | (simp; omega) | (rw [spanCells_len]; omega) | (rw [ints_len]; omega)); (first | exact spans_take (by omega) | rfl)) | fail))
      apply P_iface; rfl; rfl; rfl; rfl; kernel_rfl
      (repeat' (first | (apply K_seq) | (apply K_region) | (apply O_at; rfl) | (apply O_fin; rfl) | (apply C_seq) | (apply K_ifT; rfl) | (apply K_ifF; rfl) | (apply K_block) | (apply K_skip) | (apply C_blockN) | (apply C_nil) | (apply P_move; rfl; rfl; rfl; rfl) | (apply P_assign; rfl; rfl; rfl; rfl) | (apply P_len; rfl; rfl; rfl; rfl; rfl; rfl; exact un_ok rfl) | (apply P_not; rfl; rfl; rfl; rfl) | (apply P_lssT; rfl; rfl; rfl; rfl; rfl; omega) | (apply P_add; rfl; rfl; rfl; rfl; rfl; (unfold fit; omega)) | (apply P_idxB; rfl; rfl; rfl; rfl; rfl; exact un_ok rfl; exact sz_ok rfl; (first | rfl | exact (Int.toNat_of_nonneg (by omega)).symm); omega) | (apply P_loadA; rfl; rfl; rfl; rfl; exact ag_ok rfl; (focus repeat' first | assumption | (apply Ext.get; assumption)); (first | exact Nat.le_of_ble_eq_true rfl | (simp; done) | (simp; omega) | (rw [spanCells_len]; omega) | (rw [ints_len]; omega)); (first | exact spans_take (by omega) | rfl)) | fail))
      apply P_panic; rfl; rfl; rfl
      repeat' first | apply C_panS | apply C_panL | apply C_panB
      refine C_nil ⟨rfl, ?_⟩
      (focus repeat' first | exact Ext.refl _ | assumption | apply Ext.push | (refine Ext.trans ?_ (by assumption)) | (refine Ext.set ?_ (Nat.le_succ _) (get_push_old get_push_same) _))
  · (focus repeat' first | rfl | exact trivial | apply And.intro)
end Go.AX.Sa

namespace Go.AX.Sa
open Go.Proofs
set_option maxRecDepth 100000
variable {K : Known}

theorem assert_nil : assertB Tryz.prog .nilIface 88 true = some (.tuple #[.agg #[.int .i64 0], .bool false]) := by kernel_rfl
theorem assert_doubt (k : Int) : assertB Tryz.prog (.iface 88 (.agg #[.int .i64 k])) 88 true = some (.tuple #[.agg #[.int .i64 k], .bool true]) := by kernel_rfl
/-- The deferred call, with nothing to recover. -/
theorem doubt1_no {b2 b3 : Nat} {h : Heap} : ∃ h1, CallD Tryz.prog K 64 #[.pointer (some ⟨b2, 0, none⟩), .pointer (some ⟨b3, 0, none⟩)] .returning h .returning h1 ∧ Ext h h1 := by
  refine bodyD (u := .returning) (N := 12) Tryz.func64 rfl rfl rfl rfl rfl rfl rfl ?_
  show R1 _ _ _ _ _ _ _ ((5, .nilIface) :: _) _
  (repeat' (first | (apply K_seq) | (apply K_region) | (apply O_at; rfl) | (apply O_fin; rfl) | (apply C_seq) | (apply K_ifF; rfl) | (apply K_skip) | (apply C_nil) | (apply P_move; rfl; rfl; rfl; rfl) | (apply P_assign; rfl; rfl; rfl; rfl) | (apply P_extract; rfl; rfl; rfl; rfl; rfl) | (apply P_storeTop; rfl; rfl; rfl; rfl; exact sz_ok rfl; rfl; rfl; rfl) | (apply P_alloc; rfl; rfl; rfl; rfl; exact sz_ok rfl; rfl; rfl) | fail))
  apply P_assert; rfl; rfl; rfl; rfl; exact assert_nil
  (repeat' (first | (apply K_seq) | (apply K_region) | (apply O_at; rfl) | (apply O_fin; rfl) | (apply C_seq) | (apply K_ifF; rfl) | (apply K_skip) | (apply C_nil) | (apply P_move; rfl; rfl; rfl; rfl) | (apply P_assign; rfl; rfl; rfl; rfl) | (apply P_extract; rfl; rfl; rfl; rfl; rfl) | (apply P_storeTop; rfl; rfl; rfl; rfl; exact sz_ok rfl; rfl; rfl; rfl) | (apply P_alloc; rfl; rfl; rfl; rfl; exact sz_ok rfl; rfl; rfl) | fail))
  exact ⟨.inl rfl, by (focus repeat' first | exact Ext.refl _ | assumption | apply Ext.push | (refine Ext.trans ?_ (by assumption)) | (refine Ext.set ?_ (Nat.le_succ _) (get_push_old get_push_same) _))⟩
/-- The deferred call, behind a doubt. -/
theorem doubt1_yes {b2 b3 k : Nat} {x y : Int} {h : Heap} (hg2 : h.get? b2 = some (.cells [.int .i64 x] 3 true)) (hg3 : h.get? b3 = some (.cells [.int .i64 y] 32 true)) (hne : b2 ≠ b3) {h0 : Heap} (h02 : h0.n ≤ b2) (h03 : h0.n ≤ b3) (hx : Ext h0 h) :
    ∃ h1, CallD Tryz.prog K 64 #[.pointer (some ⟨b2, 0, none⟩), .pointer (some ⟨b3, 0, none⟩)] (.panicking (doubtCh k)) h (.panicking [⟨.iface 88 (.agg #[.int .i64 (k : Nat)]), true, false⟩]) h1 ∧ (h1.get? b2 = some (.cells [.int .i64 (k : Nat)] 3 true) ∧ h1.get? b3 = some (.cells [.int .i64 0] 32 true) ∧ Ext h0 h1) := by
  refine bodyD (u := .panicking (doubtCh k)) (N := 12) Tryz.func64 rfl rfl rfl rfl rfl rfl rfl ?_
  show R1 _ _ _ _ _ _ _ ((5, .iface 88 (.agg #[.int .i64 (k : Nat)])) :: _) _
  (repeat' (first | (apply K_seq) | (apply K_region) | (apply O_at; rfl) | (apply O_fin; rfl) | (apply C_seq) | (apply K_ifT; rfl) | (apply C_nil) | (apply P_move; rfl; rfl; rfl; rfl) | (apply P_assign; rfl; rfl; rfl; rfl) | (apply P_fa; rfl; rfl; rfl; rfl; exact fo_ok rfl; (first | exact Nat.zero_add _ | exact Nat.add_zero _ | rfl)) | (apply P_extract; rfl; rfl; rfl; rfl; rfl) | (apply P_load1; rfl; rfl; rfl; rfl; exact on_ok rfl; (focus repeat' first | exact get_push_same | assumption | apply get_push_old | (apply ExtBut.get; assumption; assumption)); (first | rfl | assumption)) | (apply P_storeTop; rfl; rfl; rfl; rfl; exact sz_ok rfl; rfl; rfl; rfl) | (apply P_alloc; rfl; rfl; rfl; rfl; exact sz_ok rfl; rfl; rfl) | fail))
  apply P_assert; rfl; rfl; rfl; rfl; exact assert_doubt _
  (repeat' (first | (apply K_seq) | (apply K_region) | (apply O_at; rfl) | (apply O_fin; rfl) | (apply C_seq) | (apply K_ifT; rfl) | (apply C_nil) | (apply P_move; rfl; rfl; rfl; rfl) | (apply P_assign; rfl; rfl; rfl; rfl) | (apply P_fa; rfl; rfl; rfl; rfl; exact fo_ok rfl; (first | exact Nat.zero_add _ | exact Nat.add_zero _ | rfl)) | (apply P_extract; rfl; rfl; rfl; rfl; rfl) | (apply P_load1; rfl; rfl; rfl; rfl; exact on_ok rfl; (focus repeat' first | exact get_push_same | assumption | apply get_push_old | (apply ExtBut.get; assumption; assumption)); (first | rfl | assumption)) | (apply P_storeTop; rfl; rfl; rfl; rfl; exact sz_ok rfl; rfl; rfl; rfl) | (apply P_alloc; rfl; rfl; rfl; rfl; exact sz_ok rfl; rfl; rfl) | fail))
  have l2 := Heap.get_lt hg2
  have l3 := Heap.get_lt hg3
  refine P_storeC (c' := [.int .i64 (k : Nat)]) rfl rfl rfl rfl (get_push_old hg2) (sz_ok rfl) rfl (Nat.le_of_ble_eq_true rfl) rfl rfl ?_
  intro h1 g2 x1
  have g3 := x1.get (fun q => hne q.symm) (get_push_old hg3)
  have e1 : Ext h0 h1 := Ext.ofBut (by (focus repeat' first | exact Ext.refl _ | assumption | apply Ext.push | (refine Ext.trans ?_ (by assumption)) | (refine Ext.set ?_ (Nat.le_succ _) (get_push_old get_push_same) _))) x1 h02
  (repeat' (first | (apply K_seq) | (apply K_region) | (apply O_at; rfl) | (apply O_fin; rfl) | (apply C_seq) | (apply K_ifT; rfl) | (apply C_nil) | (apply P_move; rfl; rfl; rfl; rfl) | (apply P_assign; rfl; rfl; rfl; rfl) | (apply P_fa; rfl; rfl; rfl; rfl; exact fo_ok rfl; (first | exact Nat.zero_add _ | exact Nat.add_zero _ | rfl)) | (apply P_extract; rfl; rfl; rfl; rfl; rfl) | (apply P_load1; rfl; rfl; rfl; rfl; exact on_ok rfl; (focus repeat' first | exact get_push_same | assumption | apply get_push_old | (apply ExtBut.get; assumption; assumption)); (first | rfl | assumption)) | (apply P_storeTop; rfl; rfl; rfl; rfl; exact sz_ok rfl; rfl; rfl; rfl) | (apply P_alloc; rfl; rfl; rfl; rfl; exact sz_ok rfl; rfl; rfl) | fail))
  refine P_storeC (c' := [.int .i64 0]) rfl rfl rfl rfl g3 (sz_ok rfl) rfl (Nat.le_of_ble_eq_true rfl) rfl rfl ?_
  intro h2 g3' x2
  have g2' := x2.get hne g2
  have e2 : Ext h0 h2 := Ext.ofBut e1 x2 h03
  (repeat' (first | (apply K_seq) | (apply K_region) | (apply O_at; rfl) | (apply O_fin; rfl) | (apply C_seq) | (apply K_ifT; rfl) | (apply C_nil) | (apply P_move; rfl; rfl; rfl; rfl) | (apply P_assign; rfl; rfl; rfl; rfl) | (apply P_fa; rfl; rfl; rfl; rfl; exact fo_ok rfl; (first | exact Nat.zero_add _ | exact Nat.add_zero _ | rfl)) | (apply P_extract; rfl; rfl; rfl; rfl; rfl) | (apply P_load1; rfl; rfl; rfl; rfl; exact on_ok rfl; (focus repeat' first | exact get_push_same | assumption | apply get_push_old | (apply ExtBut.get; assumption; assumption)); (first | rfl | assumption)) | (apply P_storeTop; rfl; rfl; rfl; rfl; exact sz_ok rfl; rfl; rfl; rfl) | (apply P_alloc; rfl; rfl; rfl; rfl; exact sz_ok rfl; rfl; rfl) | fail))
  exact ⟨.inl rfl, g2', g3', e2⟩
end Go.AX.Sa

namespace Go.AX.Sa
open Go.Proofs
set_option maxRecDepth 100000
variable {K : Known}

/-- A number and an error. -/
def Two (a b : Int) (h : Heap) (v : Value) (h1 : Heap) : Prop := v = .tuple #[.int .i64 a, .int .i64 b] ∧ Ext h h1
/-- All rows are sure. -/
theorem doubtF_sure (hK : NoK K) {l : List (Int × Int)} {p : Option Addr} {cap R g : Nat} {h : Heap} (hl : l.length ≤ 1000) (hr : Rd h p (spanCells l)) (hP : PlanP l (R : Nat) (g : Nat)) (hs : ∀ k, k < (printL l R g).length → Sur (printL l R g) k) :
    CallW Tryz.prog K 29 #[.agg #[.slice p l.length cap, .int .i64 (R : Nat), .int .i64 (g : Nat)]] h (Two 0 5 h) := by
  apply body_defer 3 (N := 16) Tryz.func29; rfl; exact hK _ _ _ rfl; rfl; rfl; rfl; rfl; rfl; rfl; rfl; rfl
  (repeat' (first | (apply K_seq) | (apply K_region) | (apply O_at; rfl) | (apply O_fin; rfl) | (apply C_seq) | (apply K_ifF; rfl) | (apply K_skip) | (apply K_ret) | (apply C_nil) | (apply P_move; rfl; rfl; rfl; rfl) | (apply P_assign; rfl; rfl; rfl; rfl) | (apply P_extract; rfl; rfl; rfl; rfl; rfl) | (apply P_neqF; rfl; rfl; rfl; rfl; rfl; omega) | (apply P_load1; rfl; rfl; rfl; rfl; exact on_ok rfl; (focus repeat' first | exact get_push_same | assumption | apply get_push_old | (apply Ext.get; assumption) | (apply ExtBut.get; assumption; assumption)); (first | rfl | assumption)) | (apply P_loadA; rfl; rfl; rfl; rfl; exact ag_ok rfl; (focus repeat' first | exact get_push_same | assumption | apply get_push_old | (apply Ext.get; assumption) | (apply ExtBut.get; assumption; assumption)); (first | exact Nat.le_of_ble_eq_true rfl | (simp; done) | (simp; omega) | (rw [spanCells_len]; omega) | (rw [ints_len]; omega)); rfl) | (apply P_box; rfl; rfl; rfl; rfl; exact sz_ok rfl; rfl; rfl) | (apply P_alloc; rfl; rfl; rfl; rfl; exact sz_ok rfl; rfl; rfl) | (apply P_call; rfl; rfl; rfl; rfl; rfl; rfl; exact printedF_ok hK hl (hr.ext (by (focus repeat' first | exact Ext.refl _ | assumption | apply Ext.push | (refine Ext.trans ?_ (by assumption)) | (refine Ext.set ?_ (Nat.le_succ _) (get_push_old get_push_same) _)))) hP; (rintro _ _ ⟨_, _, rfl, _, _, _⟩)) | fail))
  rename_i ha bf cf gf nf xa
  have g2 := xa.get (b := h.n + 1) (x := .cells [.int .i64 0] 3 true) (get_push_old get_push_same)
  have g3 := xa.get (b := h.n + 1 + 1) (x := .cells [.int .i64 0] 32 true) get_push_same
  have e1 : Ext h ha := by (focus repeat' first | exact Ext.refl _ | assumption | apply Ext.push | (refine Ext.trans ?_ (by assumption)) | (refine Ext.set ?_ (Nat.le_succ _) (get_push_old get_push_same) _))
  clear xa
  refine P_storeC (c' := [.int .i64 0]) rfl rfl rfl rfl g3 (sz_ok rfl) rfl (Nat.le_of_ble_eq_true rfl) rfl rfl ?_
  intro h1 g3' x1
  have g2' := x1.get (by simp only [Heap.push]; omega) g2
  have gf' := x1.get (by simp only [Heap.push] at nf ⊢; omega) gf
  have e2 : Ext h h1 := Ext.ofBut e1 x1 (by simp only [Heap.push]; omega)
  clear x1 e1 g2 g3 gf
  (repeat' (first | (apply K_seq) | (apply K_region) | (apply O_at; rfl) | (apply O_fin; rfl) | (apply C_seq) | (apply K_ifF; rfl) | (apply K_skip) | (apply K_ret) | (apply C_nil) | (apply P_move; rfl; rfl; rfl; rfl) | (apply P_assign; rfl; rfl; rfl; rfl) | (apply P_extract; rfl; rfl; rfl; rfl; rfl) | (apply P_neqF; rfl; rfl; rfl; rfl; rfl; omega) | (apply P_load1; rfl; rfl; rfl; rfl; exact on_ok rfl; (focus repeat' first | exact get_push_same | assumption | apply get_push_old | (apply Ext.get; assumption) | (apply ExtBut.get; assumption; assumption)); (first | rfl | assumption)) | (apply P_loadA; rfl; rfl; rfl; rfl; exact ag_ok rfl; (focus repeat' first | exact get_push_same | assumption | apply get_push_old | (apply Ext.get; assumption) | (apply ExtBut.get; assumption; assumption)); (first | exact Nat.le_of_ble_eq_true rfl | (simp; done) | (simp; omega) | (rw [spanCells_len]; omega) | (rw [ints_len]; omega)); rfl) | (apply P_box; rfl; rfl; rfl; rfl; exact sz_ok rfl; rfl; rfl) | (apply P_alloc; rfl; rfl; rfl; rfl; exact sz_ok rfl; rfl; rfl) | fail))
  refine .inr ⟨rfl, rfl, ?_⟩
  have hpl : (printL l R g).length ≤ 1000 := by rw [printL_len]; have := hP.2.2.1; omega
  (repeat' (first | (apply K_seq) | (apply K_region) | (apply O_at; rfl) | (apply O_fin; rfl) | (apply C_seq) | (apply K_ifF; rfl) | (apply K_skip) | (apply K_ret) | (apply C_nil) | (apply P_move; rfl; rfl; rfl; rfl) | (apply P_assign; rfl; rfl; rfl; rfl) | (apply P_extract; rfl; rfl; rfl; rfl; rfl) | (apply P_neqF; rfl; rfl; rfl; rfl; rfl; omega) | (apply P_load1; rfl; rfl; rfl; rfl; exact on_ok rfl; (focus repeat' first | exact get_push_same | assumption | apply get_push_old | (apply Ext.get; assumption) | (apply ExtBut.get; assumption; assumption)); (first | rfl | assumption)) | (apply P_loadA; rfl; rfl; rfl; rfl; exact ag_ok rfl; (focus repeat' first | exact get_push_same | assumption | apply get_push_old | (apply Ext.get; assumption) | (apply ExtBut.get; assumption; assumption)); (first | exact Nat.le_of_ble_eq_true rfl | (simp; done) | (simp; omega) | (rw [spanCells_len]; omega) | (rw [ints_len]; omega)); rfl) | (apply P_box; rfl; rfl; rfl; rfl; exact sz_ok rfl; rfl; rfl) | (apply P_alloc; rfl; rfl; rfl; rfl; exact sz_ok rfl; rfl; rfl) | (apply P_call; rfl; rfl; rfl; rfl; rfl; rfl; exact must_ok hK hpl gf' hs; (rintro _ _ ⟨rfl, _⟩)) | fail))
  rename_i hm xm
  have g2m := xm.get g2'
  have g3m := xm.get g3'
  have e3 := e2.trans xm
  clear xm
  refine P_storeC (c' := [.int .i64 0]) rfl rfl rfl rfl g2m (sz_ok rfl) rfl (Nat.le_of_ble_eq_true rfl) rfl rfl ?_
  intro h2 g2n x2
  have g3n := x2.get (by simp only [Heap.push]; omega) g3m
  have e4 : Ext h h2 := Ext.ofBut e3 x2 (by simp only [Heap.push]; omega)
  clear x2
  (repeat' (first | (apply K_seq) | (apply K_region) | (apply O_at; rfl) | (apply O_fin; rfl) | (apply C_seq) | (apply K_ifF; rfl) | (apply K_skip) | (apply K_ret) | (apply C_nil) | (apply P_move; rfl; rfl; rfl; rfl) | (apply P_assign; rfl; rfl; rfl; rfl) | (apply P_extract; rfl; rfl; rfl; rfl; rfl) | (apply P_neqF; rfl; rfl; rfl; rfl; rfl; omega) | (apply P_load1; rfl; rfl; rfl; rfl; exact on_ok rfl; (focus repeat' first | exact get_push_same | assumption | apply get_push_old | (apply Ext.get; assumption) | (apply ExtBut.get; assumption; assumption)); (first | rfl | assumption)) | (apply P_loadA; rfl; rfl; rfl; rfl; exact ag_ok rfl; (focus repeat' first | exact get_push_same | assumption | apply get_push_old | (apply Ext.get; assumption) | (apply ExtBut.get; assumption; assumption)); (first | exact Nat.le_of_ble_eq_true rfl | (simp; done) | (simp; omega) | (rw [spanCells_len]; omega) | (rw [ints_len]; omega)); rfl) | (apply P_box; rfl; rfl; rfl; rfl; exact sz_ok rfl; rfl; rfl) | (apply P_alloc; rfl; rfl; rfl; rfl; exact sz_ok rfl; rfl; rfl) | fail))
  refine P_storeC (c' := [.int .i64 5]) rfl rfl rfl rfl g3n (sz_ok rfl) rfl (Nat.le_of_ble_eq_true rfl) rfl rfl ?_
  intro h3 g3o x3
  have g2o := x3.get (by simp only [Heap.push]; omega) g2n
  have e5 : Ext h h3 := Ext.ofBut e4 x3 (by simp only [Heap.push]; omega)
  clear x3
  (repeat' (first | (apply K_seq) | (apply K_region) | (apply O_at; rfl) | (apply O_fin; rfl) | (apply C_seq) | (apply K_ifF; rfl) | (apply K_skip) | (apply K_ret) | (apply C_nil) | (apply P_move; rfl; rfl; rfl; rfl) | (apply P_assign; rfl; rfl; rfl; rfl) | (apply P_extract; rfl; rfl; rfl; rfl; rfl) | (apply P_neqF; rfl; rfl; rfl; rfl; rfl; omega) | (apply P_load1; rfl; rfl; rfl; rfl; exact on_ok rfl; (focus repeat' first | exact get_push_same | assumption | apply get_push_old | (apply Ext.get; assumption) | (apply ExtBut.get; assumption; assumption)); (first | rfl | assumption)) | (apply P_loadA; rfl; rfl; rfl; rfl; exact ag_ok rfl; (focus repeat' first | exact get_push_same | assumption | apply get_push_old | (apply Ext.get; assumption) | (apply ExtBut.get; assumption; assumption)); (first | exact Nat.le_of_ble_eq_true rfl | (simp; done) | (simp; omega) | (rw [spanCells_len]; omega) | (rw [ints_len]; omega)); rfl) | (apply P_box; rfl; rfl; rfl; rfl; exact sz_ok rfl; rfl; rfl) | (apply P_alloc; rfl; rfl; rfl; rfl; exact sz_ok rfl; rfl; rfl) | fail))
  obtain ⟨h5, hD, e6⟩ := doubt1_no (K := K) (b2 := h.n + 1) (b3 := h.n + 1 + 1) (h := h3)
  exact ⟨_, _, h5, rfl, hD, rfl, _, resE_c rfl (read1 (on_ok rfl) (e6.get g2o) rfl) (resE_c rfl (read1 (on_ok rfl) (e6.get g3o) rfl) rfl), rfl, e5.trans e6⟩
/-- A row is not. -/
theorem doubtF_at (hK : NoK K) {l : List (Int × Int)} {p : Option Addr} {cap R g k0 : Nat} {h : Heap} (hl : l.length ≤ 1000) (hr : Rd h p (spanCells l)) (hP : PlanP l (R : Nat) (g : Nat)) (hk0 : k0 < (printL l R g).length) (hs : ∀ k, k < k0 → Sur (printL l R g) k) (hn : ¬ Sur (printL l R g) k0) :
    CallW Tryz.prog K 29 #[.agg #[.slice p l.length cap, .int .i64 (R : Nat), .int .i64 (g : Nat)]] h (Two (k0 : Nat) 0 h) := by
  apply body_defer 3 (N := 16) Tryz.func29; rfl; exact hK _ _ _ rfl; rfl; rfl; rfl; rfl; rfl; rfl; rfl; rfl
  (repeat' (first | (apply K_seq) | (apply K_region) | (apply O_at; rfl) | (apply O_fin; rfl) | (apply C_seq) | (apply K_ifF; rfl) | (apply K_skip) | (apply C_nil) | (apply P_move; rfl; rfl; rfl; rfl) | (apply P_assign; rfl; rfl; rfl; rfl) | (apply P_extract; rfl; rfl; rfl; rfl; rfl) | (apply P_neqF; rfl; rfl; rfl; rfl; rfl; omega) | (apply P_load1; rfl; rfl; rfl; rfl; exact on_ok rfl; (focus repeat' first | exact get_push_same | assumption | apply get_push_old | (apply Ext.get; assumption) | (apply ExtBut.get; assumption; assumption)); (first | rfl | assumption)) | (apply P_loadA; rfl; rfl; rfl; rfl; exact ag_ok rfl; (focus repeat' first | exact get_push_same | assumption | apply get_push_old | (apply Ext.get; assumption) | (apply ExtBut.get; assumption; assumption)); (first | exact Nat.le_of_ble_eq_true rfl | (simp; done) | (simp; omega) | (rw [spanCells_len]; omega) | (rw [ints_len]; omega)); rfl) | (apply P_box; rfl; rfl; rfl; rfl; exact sz_ok rfl; rfl; rfl) | (apply P_alloc; rfl; rfl; rfl; rfl; exact sz_ok rfl; rfl; rfl) | (apply P_call; rfl; rfl; rfl; rfl; rfl; rfl; exact printedF_ok hK hl (hr.ext (by (focus repeat' first | exact Ext.refl _ | assumption | apply Ext.push | (refine Ext.trans ?_ (by assumption)) | (refine Ext.set ?_ (Nat.le_succ _) (get_push_old get_push_same) _)))) hP; (rintro _ _ ⟨_, _, rfl, _, _, _⟩)) | fail))
  rename_i ha bf cf gf nf xa
  have g2 := xa.get (b := h.n + 1) (x := .cells [.int .i64 0] 3 true) (get_push_old get_push_same)
  have g3 := xa.get (b := h.n + 1 + 1) (x := .cells [.int .i64 0] 32 true) get_push_same
  have e1 : Ext h ha := by (focus repeat' first | exact Ext.refl _ | assumption | apply Ext.push | (refine Ext.trans ?_ (by assumption)) | (refine Ext.set ?_ (Nat.le_succ _) (get_push_old get_push_same) _))
  clear xa
  refine P_storeC (c' := [.int .i64 0]) rfl rfl rfl rfl g3 (sz_ok rfl) rfl (Nat.le_of_ble_eq_true rfl) rfl rfl ?_
  intro h1 g3' x1
  have g2' := x1.get (by simp only [Heap.push]; omega) g2
  have gf' := x1.get (by simp only [Heap.push] at nf ⊢; omega) gf
  have e2 : Ext h h1 := Ext.ofBut e1 x1 (by simp only [Heap.push]; omega)
  clear x1 e1 g2 g3 gf
  (repeat' (first | (apply K_seq) | (apply K_region) | (apply O_at; rfl) | (apply O_fin; rfl) | (apply C_seq) | (apply K_ifF; rfl) | (apply K_skip) | (apply C_nil) | (apply P_move; rfl; rfl; rfl; rfl) | (apply P_assign; rfl; rfl; rfl; rfl) | (apply P_extract; rfl; rfl; rfl; rfl; rfl) | (apply P_neqF; rfl; rfl; rfl; rfl; rfl; omega) | (apply P_load1; rfl; rfl; rfl; rfl; exact on_ok rfl; (focus repeat' first | exact get_push_same | assumption | apply get_push_old | (apply Ext.get; assumption) | (apply ExtBut.get; assumption; assumption)); (first | rfl | assumption)) | (apply P_loadA; rfl; rfl; rfl; rfl; exact ag_ok rfl; (focus repeat' first | exact get_push_same | assumption | apply get_push_old | (apply Ext.get; assumption) | (apply ExtBut.get; assumption; assumption)); (first | exact Nat.le_of_ble_eq_true rfl | (simp; done) | (simp; omega) | (rw [spanCells_len]; omega) | (rw [ints_len]; omega)); rfl) | (apply P_box; rfl; rfl; rfl; rfl; exact sz_ok rfl; rfl; rfl) | (apply P_alloc; rfl; rfl; rfl; rfl; exact sz_ok rfl; rfl; rfl) | fail))
  refine .inr ⟨rfl, rfl, ?_⟩
  have hpl : (printL l R g).length ≤ 1000 := by rw [printL_len]; have := hP.2.2.1; omega
  (repeat' (first | (apply K_seq) | (apply K_region) | (apply O_at; rfl) | (apply O_fin; rfl) | (apply C_seq) | (apply K_ifF; rfl) | (apply K_skip) | (apply C_nil) | (apply P_move; rfl; rfl; rfl; rfl) | (apply P_assign; rfl; rfl; rfl; rfl) | (apply P_extract; rfl; rfl; rfl; rfl; rfl) | (apply P_neqF; rfl; rfl; rfl; rfl; rfl; omega) | (apply P_load1; rfl; rfl; rfl; rfl; exact on_ok rfl; (focus repeat' first | exact get_push_same | assumption | apply get_push_old | (apply Ext.get; assumption) | (apply ExtBut.get; assumption; assumption)); (first | rfl | assumption)) | (apply P_loadA; rfl; rfl; rfl; rfl; exact ag_ok rfl; (focus repeat' first | exact get_push_same | assumption | apply get_push_old | (apply Ext.get; assumption) | (apply ExtBut.get; assumption; assumption)); (first | exact Nat.le_of_ble_eq_true rfl | (simp; done) | (simp; omega) | (rw [spanCells_len]; omega) | (rw [ints_len]; omega)); rfl) | (apply P_box; rfl; rfl; rfl; rfl; exact sz_ok rfl; rfl; rfl) | (apply P_alloc; rfl; rfl; rfl; rfl; exact sz_ok rfl; rfl; rfl) | fail))
  apply P_callP; rfl; rfl; rfl; rfl; rfl; exact must_no hK hpl gf' hk0 hs hn
  intro hm xm
  repeat' first | apply C_panS | apply C_panL | apply C_panB
  refine C_nil ?_
  obtain ⟨h5, hD, q2, q3, e5⟩ := doubt1_yes (K := K) (k := k0) (xm.get g2') (xm.get g3') (by first | omega | (simp only [Heap.push]; omega)) (h0 := h) (by first | omega | (simp only [Heap.push]; omega)) (by first | omega | (simp only [Heap.push]; omega)) (e2.trans xm)
  exact ⟨_, _, h5, rfl, hD, rfl, _, resE_c rfl (read1 (on_ok rfl) q2 rfl) (resE_c rfl (read1 (on_ok rfl) q3 rfl) rfl), rfl, e5⟩
end Go.AX.Sa

namespace Go.AX.Sa
open Go.Proofs
set_option maxRecDepth 100000
variable {K : Known}

/-- All rows that are sure, of the first n. -/
def sureN (ps : List (Int × Int)) (n : Nat) : List Int := ((List.range n).filter fun k => (ps.getD k (0, 0)).1 == (ps.getD k (0, 0)).2).map fun k => ((k : Nat) : Int)
end Go.AX.Sa

namespace Go.AX.Sa
open Go.Proofs
set_option maxRecDepth 100000
variable {K : Known}

/-! DifferSures. -/
/-- The first row that is not sure, if there is one. -/
theorem first_not (ps : List (Int × Int)) : ∀ n, (∀ k, k < n → Sur ps k) ∨ ∃ k0, k0 < n ∧ (∀ k, k < k0 → Sur ps k) ∧ ¬ Sur ps k0 := by
  intro n
  induction n with
  | zero => exact .inl fun k hk => absurd hk (Nat.not_lt_zero _)
  | succ n ih =>
    rcases ih with ih | ⟨k0, h1, h2, h3⟩
    · by_cases hs : Sur ps n
      · refine .inl fun k hk => ?_
        by_cases q : k = n
        · subst q; exact hs
        · exact ih k (by omega)
      · exact .inr ⟨n, Nat.lt_succ_self _, ih, hs⟩
    · exact .inr ⟨k0, by omega, h2, h3⟩
end Go.AX.Sa
