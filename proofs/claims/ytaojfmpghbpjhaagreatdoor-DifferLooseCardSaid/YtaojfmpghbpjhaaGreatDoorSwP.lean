/- What is printed of all rows. -/
import Derived.Test.YtaojfmpghbpjhaaGreatDoorAxX
import Derived.Test.YtaojfmpghbpjhaaGreatDoorSwR
namespace Go.AX.Sa
open Go.Proofs
set_option maxRecDepth 100000
variable {K : Known}


theorem quo_floor (n u : Int) (hu : 0 < u) : (if n.tmod u < 0 then n.tdiv u - 1 else n.tdiv u) = n / u := by
  have hs : u.sign = 1 := Int.sign_eq_one_of_pos hu
  have h := Int.emod_nonneg n (by omega : u ≠ 0)
  have h2 := Int.emod_lt_of_pos n hu
  by_cases h0 : 0 ≤ n
  · rw [Int.tdiv_eq_ediv_of_nonneg h0, Int.tmod_eq_emod_of_nonneg h0, if_neg (by omega)]
  · by_cases hd : u ∣ n
    · have e1 : n.tmod u = 0 := Int.tmod_eq_zero_of_dvd hd
      have e2 : n.tdiv u = n / u := by rw [Int.tdiv_eq_ediv, if_pos (.inr hd)]; omega
      rw [e1, e2]; simp
    · have e2 : n.tdiv u = n / u + 1 := by rw [Int.tdiv_eq_ediv, if_neg (by simp [hd]; omega), hs]
      have e1 : n.tmod u = n % u - u := by
        have a := Int.tmod_add_mul_tdiv n u
        have b := Int.emod_add_mul_ediv n u
        rw [e2, Int.mul_add] at a
        omega
      rw [e1, if_pos (by omega), e2]; omega
/-- A quotient, rounded down. -/
theorem quotient_ok (hK : NoK K) {n u : Int} {h : Heap} (hu : u = 1 ∨ u = 10 ∨ u = 100 ∨ u = 1000) (hn : -4611686018427387904 ≤ n ∧ n ≤ 4611686018427387904) :
    CallW Tryz.prog K 94 #[.int .i64 n, .int .i64 u] h (IsV (.int .i64 (n / u)) h) := by
  have hu0 : 0 < u := by omega
  have hq := quo_floor n u hu0
  have hb : -4611686018427387904 ≤ n / u ∧ n / u ≤ 4611686018427387904 := by rcases hu with rfl | rfl | rfl | rfl <;> omega
  refine body (N := 16) Tryz.func94 rfl (hK _ _ _ rfl) rfl rfl ?_
  by_cases hm : n.tmod u < 0
  · rw [if_pos hm] at hq
    (repeat' (first | (apply K_seq) | (apply K_region) | (apply O_at; rfl) | (apply O_fin; rfl) | (apply C_seq) | (apply K_ifT; rfl) | (apply K_ifF; rfl) | (apply K_skip) | (apply K_ret) | (apply C_nil) | (apply P_move; rfl; rfl; rfl; rfl) | (apply P_assign; rfl; rfl; rfl; rfl) | (apply P_lss; rfl; rfl; rfl; rfl; rfl; all_goals intro _) | (apply P_sub; rfl; rfl; rfl; rfl; rfl; (unfold fit; omega)) | fail))
    apply P_quo; rfl; rfl; rfl; rfl; rfl; omega
    · unfold fit; omega
    (repeat' (first | (apply K_seq) | (apply K_region) | (apply O_at; rfl) | (apply O_fin; rfl) | (apply C_seq) | (apply K_ifT; rfl) | (apply K_ifF; rfl) | (apply K_skip) | (apply K_ret) | (apply C_nil) | (apply P_move; rfl; rfl; rfl; rfl) | (apply P_assign; rfl; rfl; rfl; rfl) | (apply P_lss; rfl; rfl; rfl; rfl; rfl; all_goals intro _) | (apply P_sub; rfl; rfl; rfl; rfl; rfl; (unfold fit; omega)) | fail))
    apply P_rem; rfl; rfl; rfl; rfl; rfl; omega
    (repeat' (first | (apply K_seq) | (apply K_region) | (apply O_at; rfl) | (apply O_fin; rfl) | (apply C_seq) | (apply K_ifT; rfl) | (apply K_ifF; rfl) | (apply K_skip) | (apply K_ret) | (apply C_nil) | (apply P_move; rfl; rfl; rfl; rfl) | (apply P_assign; rfl; rfl; rfl; rfl) | (apply P_lss; rfl; rfl; rfl; rfl; rfl; all_goals intro _) | (apply P_sub; rfl; rfl; rfl; rfl; rfl; (unfold fit; omega)) | fail))
    · refine ⟨.inr rfl, _, rfl, ?_, Ext.refl _⟩
      rw [← hq]; rfl
    · omega
  · rw [if_neg hm] at hq
    (repeat' (first | (apply K_seq) | (apply K_region) | (apply O_at; rfl) | (apply O_fin; rfl) | (apply C_seq) | (apply K_ifT; rfl) | (apply K_ifF; rfl) | (apply K_skip) | (apply K_ret) | (apply C_nil) | (apply P_move; rfl; rfl; rfl; rfl) | (apply P_assign; rfl; rfl; rfl; rfl) | (apply P_lss; rfl; rfl; rfl; rfl; rfl; all_goals intro _) | (apply P_sub; rfl; rfl; rfl; rfl; rfl; (unfold fit; omega)) | fail))
    apply P_quo; rfl; rfl; rfl; rfl; rfl; omega
    · unfold fit; omega
    (repeat' (first | (apply K_seq) | (apply K_region) | (apply O_at; rfl) | (apply O_fin; rfl) | (apply C_seq) | (apply K_ifT; rfl) | (apply K_ifF; rfl) | (apply K_skip) | (apply K_ret) | (apply C_nil) | (apply P_move; rfl; rfl; rfl; rfl) | (apply P_assign; rfl; rfl; rfl; rfl) | (apply P_lss; rfl; rfl; rfl; rfl; rfl; all_goals intro _) | (apply P_sub; rfl; rfl; rfl; rfl; rfl; (unfold fit; omega)) | fail))
    apply P_rem; rfl; rfl; rfl; rfl; rfl; omega
    (repeat' (first | (apply K_seq) | (apply K_region) | (apply O_at; rfl) | (apply O_fin; rfl) | (apply C_seq) | (apply K_ifT; rfl) | (apply K_ifF; rfl) | (apply K_skip) | (apply K_ret) | (apply C_nil) | (apply P_move; rfl; rfl; rfl; rfl) | (apply P_assign; rfl; rfl; rfl; rfl) | (apply P_lss; rfl; rfl; rfl; rfl; rfl; all_goals intro _) | (apply P_sub; rfl; rfl; rfl; rfl; rfl; (unfold fit; omega)) | fail))
    · omega
    · refine ⟨.inr rfl, _, rfl, ?_, Ext.refl _⟩
      rw [← hq]; rfl

def unit (g : Nat) : Int := 10 ^ g
theorem unit_cases {g : Nat} (h : g ≤ 3) : unit g = 1 ∨ unit g = 10 ∨ unit g = 100 ∨ unit g = 1000 := by
  have : g = 0 ∨ g = 1 ∨ g = 2 ∨ g = 3 := by omega
  rcases this with rfl | rfl | rfl | rfl <;> simp [unit]
theorem unit_succ (g : Nat) : unit (g + 1) = unit g * 10 := Int.pow_succ ..
/-- A printed figure. -/
def fig (v : Int) (g : Nat) : Int := (v + unit g / 2) / unit g
theorem figure_ok (hK : NoK K) {v : Int} {g : Nat} {h : Heap} (hg : g ≤ 3) (hv : -1000000000000 ≤ v ∧ v ≤ 1000000000000) :
    CallW Tryz.prog K 74 #[.int .i64 v, .int .i64 (g : Nat)] h (IsV (.int .i64 (fig v g)) h) := by
  refine body (N := 18) Tryz.func74 rfl (hK _ _ _ rfl) rfl rfl ?_
  (repeat' (first | (apply K_seq) | (apply K_region) | (apply O_at; rfl) | (apply O_fin; rfl) | (apply C_seq) | (apply K_ifT; rfl) | (apply K_ifF; rfl) | (apply K_block) | (apply K_skip) | (apply K_exit) | (apply K_ret) | (apply C_exit) | (apply C_exitS) | (apply C_exitL) | (apply C_blockN) | (apply C_nil) | (apply P_move; rfl; rfl; rfl; rfl) | (apply P_assign; rfl; rfl; rfl; rfl) | (apply P_lss; rfl; rfl; rfl; rfl; rfl; all_goals intro _) | (apply P_add; rfl; rfl; rfl; rfl; rfl; (unfold fit; omega)) | (apply P_mul; rfl; rfl; rfl; rfl; rfl; (unfold fit; omega)) | fail))
  refine K_loopE (fun (a : Nat × Int) => [(7, .int .i64 (a.1 : Nat)), (6, .int .i64 (g : Nat)), (5, .int .i64 a.2), (0, .int .i64 v)])
    (fun a h' => a.1 ≤ g ∧ h' = h ∧ a.2 = unit a.1) (fun a => g - a.1) ?_ (0, 1) ⟨Nat.zero_le _, rfl, rfl⟩ ?_
  · rintro ⟨k, n⟩ h' ⟨hk, hx, hj⟩ ih
    dsimp only at hk hj ih ⊢
    subst hx
    have hu := unit_cases (g := k) (by omega)
    by_cases hlt : k < g
    · (repeat' (first | (apply K_seq) | (apply K_region) | (apply O_at; rfl) | (apply O_fin; rfl) | (apply C_seq) | (apply K_ifT; rfl) | (apply K_ifF; rfl) | (apply K_block) | (apply K_skip) | (apply K_exit) | (apply K_ret) | (apply C_exit) | (apply C_exitS) | (apply C_exitL) | (apply C_blockN) | (apply C_nil) | (apply P_move; rfl; rfl; rfl; rfl) | (apply P_assign; rfl; rfl; rfl; rfl) | (apply P_lss; rfl; rfl; rfl; rfl; rfl; all_goals intro _) | (apply P_add; rfl; rfl; rfl; rfl; rfl; (unfold fit; omega)) | (apply P_mul; rfl; rfl; rfl; rfl; rfl; (unfold fit; omega)) | fail))
      · refine C_again (ih (k + 1, n * 10) _ ?_ ⟨hlt, rfl, ?_⟩) ?_
        · dsimp only; omega
        · dsimp only; rw [unit_succ, hj]
        · (focus repeat' first | rfl | exact trivial | apply And.intro)
      · omega
    · obtain rfl : k = g := by omega
      have hd : n.tdiv 2 = unit k / 2 := by rw [hj]; rcases hu with e | e | e | e <;> rw [e] <;> rfl
      have hb : 0 ≤ unit k / 2 ∧ unit k / 2 ≤ 1000 := by rcases hu with e | e | e | e <;> rw [e] <;> decide
      (repeat' (first | (apply K_seq) | (apply K_region) | (apply O_at; rfl) | (apply O_fin; rfl) | (apply C_seq) | (apply K_ifT; rfl) | (apply K_ifF; rfl) | (apply K_block) | (apply K_skip) | (apply K_exit) | (apply K_ret) | (apply C_exit) | (apply C_exitS) | (apply C_exitL) | (apply C_blockN) | (apply C_nil) | (apply P_move; rfl; rfl; rfl; rfl) | (apply P_assign; rfl; rfl; rfl; rfl) | (apply P_lss; rfl; rfl; rfl; rfl; rfl; all_goals intro _) | (apply P_add; rfl; rfl; rfl; rfl; rfl; (unfold fit; omega)) | (apply P_mul; rfl; rfl; rfl; rfl; rfl; (unfold fit; omega)) | fail))
      · omega
      · apply P_quo; rfl; rfl; rfl; rfl; rfl; omega
        · unfold fit; rw [hd]; omega
        rw [hd]
        (repeat' (first | (apply K_seq) | (apply K_region) | (apply O_at; rfl) | (apply O_fin; rfl) | (apply C_seq) | (apply K_ifT; rfl) | (apply K_ifF; rfl) | (apply K_block) | (apply K_skip) | (apply K_exit) | (apply K_ret) | (apply C_exit) | (apply C_exitS) | (apply C_exitL) | (apply C_blockN) | (apply C_nil) | (apply P_move; rfl; rfl; rfl; rfl) | (apply P_assign; rfl; rfl; rfl; rfl) | (apply P_lss; rfl; rfl; rfl; rfl; rfl; all_goals intro _) | (apply P_add; rfl; rfl; rfl; rfl; rfl; (unfold fit; omega)) | (apply P_mul; rfl; rfl; rfl; rfl; rfl; (unfold fit; omega)) | (apply P_call; rfl; rfl; rfl; rfl; rfl; rfl; exact quotient_ok hK (hj ▸ hu) (by omega); (rintro _ _ ⟨rfl, _⟩)) | fail))
        refine ⟨.inr rfl, _, rfl, ?_, by (focus repeat' first | exact Ext.refl _ | assumption | apply Ext.push | (refine Ext.trans ?_ (by assumption)) | (refine Ext.set ?_ (Nat.le_succ _) (get_push_old get_push_same) _))⟩
        subst hj; rfl
  · (focus repeat' first | rfl | exact trivial | apply And.intro)

end Go.AX.Sa

namespace Go.AX.Sa
open Go.Proofs
set_option maxRecDepth 100000
variable {K : Known}

theorem rows_bd {l : List (Int × Int)} {R k : Nat} (hA : AllStarts l) (hl : l.length ≤ 4) (hR : R ≤ 12) (hk : k < R) : -1000000000000 ≤ ((rowsL l R).getD k (0, 0)).1 ∧ ((rowsL l R).getD k (0, 0)).1 ≤ 1000000000000 ∧ -1000000000000 ≤ ((rowsL l R).getD k (0, 0)).2 ∧ ((rowsL l R).getD k (0, 0)).2 ≤ 1000000000000 := by
  rw [rowsL_get hk, val_w64 hA hl (lows_truth hA) (by omega), val_w64 hA hl (highs_truth hA) (by omega)]
  have a := val_bd (r := k) hA hl (lows_truth hA) (by omega)
  have b := val_bd (r := k) hA hl (highs_truth hA) (by omega)
  dsimp only
  omega

def figS (g : Nat) (p : Int × Int) : Int × Int := (fig p.1 g, fig p.2 g)
def printL (l : List (Int × Int)) (R g : Nat) : List (Int × Int) := (rowsL l R).map (figS g)
theorem printL_len (l : List (Int × Int)) (R g : Nat) : (printL l R g).length = R := by simp [printL, rowsL_len]
theorem printL_get {l : List (Int × Int)} {R g j : Nat} (h : j < R) : (printL l R g).getD j (0, 0) = figS g ((rowsL l R).getD j (0, 0)) := by
  have h2 : j < (rowsL l R).length := by rw [rowsL_len]; exact h
  simp [printL, List.getD_eq_getElem?_getD, h2]
theorem printedF_ok (hK : NoK K) {l : List (Int × Int)} {p : Option Addr} {cap R g : Nat} {h : Heap} (hl1 : l.length ≤ 1000) (hr : Rd h p (spanCells l)) (hP : PlanP l (R : Nat) (g : Nat)) :
    CallW Tryz.prog K 41 #[.agg #[.slice p l.length cap, .int .i64 (R : Nat), .int .i64 (g : Nat)]] h (OkS (printL l R g) h) := by
  refine body (N := 39) Tryz.func41 rfl (hK _ _ _ rfl) rfl rfl ?_
  have hl : l.length ≤ 4 := by have := hP.1; omega
  have hR : R < 13 := by have := hP.2.2.1; omega
  have hg3 : g ≤ 3 := by have := hP.2.2.2; omega
  (repeat' (first | (apply K_seq) | (apply K_region) | (apply O_at; rfl) | (apply N_at; rfl) | (apply O_fin; rfl) | (apply C_seq) | (apply K_ifT; rfl) | (apply K_ifF; rfl) | (apply K_open; kernel_rfl) | (apply K_block) | (apply K_skip) | (apply K_exit) | (apply K_ret) | (apply N_fin; rfl; exact (.inl (Nat.le_refl 1))) | (apply N_fin; rfl; refine .inr ?_; (focus repeat' first | exact trivial | exact Keeps.nil _ _ | apply And.intro | rfl | (apply Keeps.cons; (focus repeat' first | exact get_push_same | assumption | apply get_push_old | (apply Ext.get; assumption) | (apply ExtBut.get; assumption; assumption)); (focus repeat' first | exact get_push_same | assumption | apply get_push_old | (apply Ext.get; assumption) | (apply ExtBut.get; assumption; assumption))))) | (apply C_retS) | (apply C_exit) | (apply C_exitS) | (apply C_exitL) | (apply C_blockN) | (apply C_nil) | (apply P_move; rfl; rfl; rfl; rfl) | (apply P_assign; rfl; rfl; rfl; rfl) | (apply P_len; rfl; rfl; rfl; rfl; rfl; rfl; exact un_ok rfl) | (apply P_extract; rfl; rfl; rfl; rfl; rfl) | (apply P_lss; rfl; rfl; rfl; rfl; rfl; all_goals intro _) | (apply P_neq; rfl; rfl; rfl; rfl; rfl; all_goals intro _) | (apply P_add; rfl; rfl; rfl; rfl; rfl; (unfold fit; omega)) | (apply P_idxB; rfl; rfl; rfl; rfl; rfl; exact un_ok rfl; exact sz_ok rfl; (first | rfl | exact (Int.toNat_of_nonneg (by omega)).symm); omega) | (apply P_loadA; rfl; rfl; rfl; rfl; exact ag_ok rfl; (focus repeat' first | exact get_push_same | assumption | apply get_push_old | (apply Ext.get; assumption) | (apply ExtBut.get; assumption; assumption)); (first | exact Nat.le_of_ble_eq_true rfl | (simp; done) | (simp; omega) | (rw [spanCells_len]; omega) | (rw [ints_len]; omega)); (first | exact spans_take (by omega) | rfl)) | (apply P_storeTop; rfl; rfl; rfl; rfl; exact sz_ok rfl; rfl; rfl; rfl) | (apply P_box; rfl; rfl; rfl; rfl; exact sz_ok rfl; rfl; rfl) | (apply P_alloc; rfl; rfl; rfl; rfl; exact sz_ok rfl; rfl; rfl) | (apply M_move; rfl; rfl; rfl; rfl) | (apply M_fa; rfl; rfl; rfl; rfl; exact fo_ok rfl; (first | exact Nat.zero_add _ | exact Nat.add_zero _ | rfl)) | (apply M_idxB; rfl; rfl; rfl; rfl; rfl; exact un_ok rfl; exact sz_ok rfl; (first | rfl | exact (Int.toNat_of_nonneg (by omega)).symm); omega) | (apply M_load1E; rfl; rfl; rfl; rfl; exact on_ok rfl; decide +kernel; (focus repeat' first | exact get_push_same | assumption | apply get_push_old | (apply Ext.get; assumption) | (apply ExtBut.get; assumption; assumption)); (first | rfl | assumption); (first | assumption | exact same_int _ _ | rfl | (simp [same, same.all2]; done)); (first | rfl | assumption | exact within_planO hpb (by (focus repeat' first | exact Ext.refl _ | assumption | apply Ext.push | (refine Ext.trans ?_ (by assumption)) | (refine Ext.set ?_ (Nat.le_succ _) (get_push_old get_push_same) _))) | exact within_optO hpb (by (focus repeat' first | exact Ext.refl _ | assumption | apply Ext.push | (refine Ext.trans ?_ (by assumption)) | (refine Ext.set ?_ (Nat.le_succ _) (get_push_old get_push_same) _))) | (simp [within]; omega))) | (apply M_load1H; rfl; rfl; rfl; rfl; exact on_ok rfl; decide +kernel; (focus repeat' first | exact get_push_same | assumption | apply get_push_old | (apply Ext.get; assumption) | (apply ExtBut.get; assumption; assumption)); (first | rfl | assumption); (first | assumption | exact same_int _ _ | rfl | (simp [same, same.all2]; done)); (first | rfl | assumption | exact within_planO hpb (by (focus repeat' first | exact Ext.refl _ | assumption | apply Ext.push | (refine Ext.trans ?_ (by assumption)) | (refine Ext.set ?_ (Nat.le_succ _) (get_push_old get_push_same) _))) | exact within_optO hpb (by (focus repeat' first | exact Ext.refl _ | assumption | apply Ext.push | (refine Ext.trans ?_ (by assumption)) | (refine Ext.set ?_ (Nat.le_succ _) (get_push_old get_push_same) _))) | (simp [within]; omega))) | (apply M_build45; rfl; rfl; rfl; rfl) | (apply M_storeS; rfl; rfl; rfl; rfl; rfl; (focus repeat' first | exact get_push_same | assumption | apply get_push_old | (apply Ext.get; assumption) | (apply ExtBut.get; assumption; assumption)); exact sz_ok rfl; omega; rfl; (intro _ _ _)) | fail))
  apply P_call; rfl; rfl; rfl; rfl; rfl; rfl; exact rowsF_ok hK hl1 (hr.ext (by (focus repeat' first | exact Ext.refl _ | assumption | apply Ext.push | (refine Ext.trans ?_ (by assumption)) | (refine Ext.set ?_ (Nat.le_succ _) (get_push_old get_push_same) _)))) hP
  rintro _ h2 ⟨bt, ct, rfl, hbt, hnt, hx2⟩
  have hb1 : h2.get? h.n = some (.cells [.slice p l.length cap, .int .i64 (R : Nat), .int .i64 (g : Nat)] 24 true) := hx2.get get_push_same
  have hlen := rowsL_len l R
  have hnt' : h.n + 1 ≤ bt := hnt
  have hne : h.n ≠ bt := by omega
  have hx : Ext h h2 := by (focus repeat' first | exact Ext.refl _ | assumption | apply Ext.push | (refine Ext.trans ?_ (by assumption)) | (refine Ext.set ?_ (Nat.le_succ _) (get_push_old get_push_same) _))
  (repeat' (first | (apply K_seq) | (apply K_region) | (apply O_at; rfl) | (apply N_at; rfl) | (apply O_fin; rfl) | (apply C_seq) | (apply K_ifT; rfl) | (apply K_ifF; rfl) | (apply K_open; kernel_rfl) | (apply K_block) | (apply K_skip) | (apply K_exit) | (apply K_ret) | (apply N_fin; rfl; exact (.inl (Nat.le_refl 1))) | (apply N_fin; rfl; refine .inr ?_; (focus repeat' first | exact trivial | exact Keeps.nil _ _ | apply And.intro | rfl | (apply Keeps.cons; (focus repeat' first | exact get_push_same | assumption | apply get_push_old | (apply Ext.get; assumption) | (apply ExtBut.get; assumption; assumption)); (focus repeat' first | exact get_push_same | assumption | apply get_push_old | (apply Ext.get; assumption) | (apply ExtBut.get; assumption; assumption))))) | (apply C_retS) | (apply C_exit) | (apply C_exitS) | (apply C_exitL) | (apply C_blockN) | (apply C_nil) | (apply P_move; rfl; rfl; rfl; rfl) | (apply P_assign; rfl; rfl; rfl; rfl) | (apply P_len; rfl; rfl; rfl; rfl; rfl; rfl; exact un_ok rfl) | (apply P_extract; rfl; rfl; rfl; rfl; rfl) | (apply P_lss; rfl; rfl; rfl; rfl; rfl; all_goals intro _) | (apply P_neq; rfl; rfl; rfl; rfl; rfl; all_goals intro _) | (apply P_add; rfl; rfl; rfl; rfl; rfl; (unfold fit; omega)) | (apply P_idxB; rfl; rfl; rfl; rfl; rfl; exact un_ok rfl; exact sz_ok rfl; (first | rfl | exact (Int.toNat_of_nonneg (by omega)).symm); omega) | (apply P_loadA; rfl; rfl; rfl; rfl; exact ag_ok rfl; (focus repeat' first | exact get_push_same | assumption | apply get_push_old | (apply Ext.get; assumption) | (apply ExtBut.get; assumption; assumption)); (first | exact Nat.le_of_ble_eq_true rfl | (simp; done) | (simp; omega) | (rw [spanCells_len]; omega) | (rw [ints_len]; omega)); (first | exact spans_take (by omega) | rfl)) | (apply P_storeTop; rfl; rfl; rfl; rfl; exact sz_ok rfl; rfl; rfl; rfl) | (apply P_box; rfl; rfl; rfl; rfl; exact sz_ok rfl; rfl; rfl) | (apply P_alloc; rfl; rfl; rfl; rfl; exact sz_ok rfl; rfl; rfl) | (apply M_move; rfl; rfl; rfl; rfl) | (apply M_fa; rfl; rfl; rfl; rfl; exact fo_ok rfl; (first | exact Nat.zero_add _ | exact Nat.add_zero _ | rfl)) | (apply M_idxB; rfl; rfl; rfl; rfl; rfl; exact un_ok rfl; exact sz_ok rfl; (first | rfl | exact (Int.toNat_of_nonneg (by omega)).symm); omega) | (apply M_load1E; rfl; rfl; rfl; rfl; exact on_ok rfl; decide +kernel; (focus repeat' first | exact get_push_same | assumption | apply get_push_old | (apply Ext.get; assumption) | (apply ExtBut.get; assumption; assumption)); (first | rfl | assumption); (first | assumption | exact same_int _ _ | rfl | (simp [same, same.all2]; done)); (first | rfl | assumption | exact within_planO hpb (by (focus repeat' first | exact Ext.refl _ | assumption | apply Ext.push | (refine Ext.trans ?_ (by assumption)) | (refine Ext.set ?_ (Nat.le_succ _) (get_push_old get_push_same) _))) | exact within_optO hpb (by (focus repeat' first | exact Ext.refl _ | assumption | apply Ext.push | (refine Ext.trans ?_ (by assumption)) | (refine Ext.set ?_ (Nat.le_succ _) (get_push_old get_push_same) _))) | (simp [within]; omega))) | (apply M_load1H; rfl; rfl; rfl; rfl; exact on_ok rfl; decide +kernel; (focus repeat' first | exact get_push_same | assumption | apply get_push_old | (apply Ext.get; assumption) | (apply ExtBut.get; assumption; assumption)); (first | rfl | assumption); (first | assumption | exact same_int _ _ | rfl | (simp [same, same.all2]; done)); (first | rfl | assumption | exact within_planO hpb (by (focus repeat' first | exact Ext.refl _ | assumption | apply Ext.push | (refine Ext.trans ?_ (by assumption)) | (refine Ext.set ?_ (Nat.le_succ _) (get_push_old get_push_same) _))) | exact within_optO hpb (by (focus repeat' first | exact Ext.refl _ | assumption | apply Ext.push | (refine Ext.trans ?_ (by assumption)) | (refine Ext.set ?_ (Nat.le_succ _) (get_push_old get_push_same) _))) | (simp [within]; omega))) | (apply M_build45; rfl; rfl; rfl; rfl) | (apply M_storeS; rfl; rfl; rfl; rfl; rfl; (focus repeat' first | exact get_push_same | assumption | apply get_push_old | (apply Ext.get; assumption) | (apply ExtBut.get; assumption; assumption)); exact sz_ok rfl; omega; rfl; (intro _ _ _)) | fail))
  · omega
  refine K_loopE (fun k : Nat => [(18, .int .i64 (k : Nat)), (17, .int .i64 ((rowsL l R).length : Nat)), (16, .slice (some ⟨bt, 0, none⟩) (rowsL l R).length ct), (4, .slice (some ⟨bt, 0, none⟩) (rowsL l R).length ct), (1, .pointer (some ⟨h.n, 0, none⟩))])
    (fun k h' => k ≤ R ∧ Ext h h' ∧ h'.get? h.n = some (.cells [.slice p l.length cap, .int .i64 (R : Nat), .int .i64 (g : Nat)] 24 true) ∧ ∃ c, h'.get? bt = some (.cells (spanCells c) 27 true) ∧ c.length = R ∧ ∀ j, c.getD j (0, 0) = if j < k then figS g ((rowsL l R).getD j (0, 0)) else (rowsL l R).getD j (0, 0)) (fun k => R - k) ?_ 0 ?_ ?_
  · intro k h' ⟨hk, hx', hb', c, hc, hcl, hj⟩ ih
    by_cases hlt : k < R
    · have hck : c.getD k (0, 0) = (rowsL l R).getD k (0, 0) := by rw [hj k, if_neg (by omega)]
      have hbd := rows_bd hP.2.1 hl (by omega) hlt
      rw [← hck] at hbd
      have hne' : bt ≠ h'.n := by have := Heap.get_lt hc; omega
      (repeat' (first | (apply K_seq) | (apply K_region) | (apply O_at; rfl) | (apply N_at; rfl) | (apply O_fin; rfl) | (apply C_seq) | (apply K_ifT; rfl) | (apply K_ifF; rfl) | (apply K_open; kernel_rfl) | (apply K_block) | (apply K_skip) | (apply K_exit) | (apply K_ret) | (apply N_fin; rfl; exact (.inl (Nat.le_refl 1))) | (apply N_fin; rfl; refine .inr ?_; (focus repeat' first | exact trivial | exact Keeps.nil _ _ | apply And.intro | rfl | (apply Keeps.cons; (focus repeat' first | exact get_push_same | assumption | apply get_push_old | (apply Ext.get; assumption) | (apply ExtBut.get; assumption; assumption)); (focus repeat' first | exact get_push_same | assumption | apply get_push_old | (apply Ext.get; assumption) | (apply ExtBut.get; assumption; assumption))))) | (apply C_retS) | (apply C_exit) | (apply C_exitS) | (apply C_exitL) | (apply C_blockN) | (apply C_nil) | (apply P_move; rfl; rfl; rfl; rfl) | (apply P_assign; rfl; rfl; rfl; rfl) | (apply P_len; rfl; rfl; rfl; rfl; rfl; rfl; exact un_ok rfl) | (apply P_extract; rfl; rfl; rfl; rfl; rfl) | (apply P_lss; rfl; rfl; rfl; rfl; rfl; all_goals intro _) | (apply P_neq; rfl; rfl; rfl; rfl; rfl; all_goals intro _) | (apply P_add; rfl; rfl; rfl; rfl; rfl; (unfold fit; omega)) | (apply P_idxB; rfl; rfl; rfl; rfl; rfl; exact un_ok rfl; exact sz_ok rfl; (first | rfl | exact (Int.toNat_of_nonneg (by omega)).symm); omega) | (apply P_loadA; rfl; rfl; rfl; rfl; exact ag_ok rfl; (focus repeat' first | exact get_push_same | assumption | apply get_push_old | (apply Ext.get; assumption) | (apply ExtBut.get; assumption; assumption)); (first | exact Nat.le_of_ble_eq_true rfl | (simp; done) | (simp; omega) | (rw [spanCells_len]; omega) | (rw [ints_len]; omega)); (first | exact spans_take (by omega) | rfl)) | (apply P_storeTop; rfl; rfl; rfl; rfl; exact sz_ok rfl; rfl; rfl; rfl) | (apply P_box; rfl; rfl; rfl; rfl; exact sz_ok rfl; rfl; rfl) | (apply P_alloc; rfl; rfl; rfl; rfl; exact sz_ok rfl; rfl; rfl) | (apply M_move; rfl; rfl; rfl; rfl) | (apply M_fa; rfl; rfl; rfl; rfl; exact fo_ok rfl; (first | exact Nat.zero_add _ | exact Nat.add_zero _ | rfl)) | (apply M_idxB; rfl; rfl; rfl; rfl; rfl; exact un_ok rfl; exact sz_ok rfl; (first | rfl | exact (Int.toNat_of_nonneg (by omega)).symm); omega) | (apply M_load1E; rfl; rfl; rfl; rfl; exact on_ok rfl; decide +kernel; (focus repeat' first | exact get_push_same | assumption | apply get_push_old | (apply Ext.get; assumption) | (apply ExtBut.get; assumption; assumption)); (first | rfl | assumption); (first | assumption | exact same_int _ _ | rfl | (simp [same, same.all2]; done)); (first | rfl | assumption | exact within_planO hpb (by (focus repeat' first | exact Ext.refl _ | assumption | apply Ext.push | (refine Ext.trans ?_ (by assumption)) | (refine Ext.set ?_ (Nat.le_succ _) (get_push_old get_push_same) _))) | exact within_optO hpb (by (focus repeat' first | exact Ext.refl _ | assumption | apply Ext.push | (refine Ext.trans ?_ (by assumption)) | (refine Ext.set ?_ (Nat.le_succ _) (get_push_old get_push_same) _))) | (simp [within]; omega))) | (apply M_load1H; rfl; rfl; rfl; rfl; exact on_ok rfl; decide +kernel; (focus repeat' first | exact get_push_same | assumption | apply get_push_old | (apply Ext.get; assumption) | (apply ExtBut.get; assumption; assumption)); (first | rfl | assumption); (first | assumption | exact same_int _ _ | rfl | (simp [same, same.all2]; done)); (first | rfl | assumption | exact within_planO hpb (by (focus repeat' first | exact Ext.refl _ | assumption | apply Ext.push | (refine Ext.trans ?_ (by assumption)) | (refine Ext.set ?_ (Nat.le_succ _) (get_push_old get_push_same) _))) | exact within_optO hpb (by (focus repeat' first | exact Ext.refl _ | assumption | apply Ext.push | (refine Ext.trans ?_ (by assumption)) | (refine Ext.set ?_ (Nat.le_succ _) (get_push_old get_push_same) _))) | (simp [within]; omega))) | (apply M_build45; rfl; rfl; rfl; rfl) | (apply M_storeS; rfl; rfl; rfl; rfl; rfl; (focus repeat' first | exact get_push_same | assumption | apply get_push_old | (apply Ext.get; assumption) | (apply ExtBut.get; assumption; assumption)); exact sz_ok rfl; omega; rfl; (intro _ _ _)) | (apply P_call; rfl; rfl; rfl; rfl; rfl; rfl; exact figure_ok hK hg3 (by omega); (rintro _ _ ⟨rfl, _⟩)) | (apply M_call; rfl; rfl; rfl; rfl; rfl; rfl; rfl; exact figure_ok hK hg3 (by omega); (rintro _ _ ⟨rfl, _⟩)) | fail))
      · rename_i h5 hc5 hx5
        refine C_again (ih (k + 1) _ ?_ ⟨hlt, ?_, ?_, _, hc5, by simpa using hcl, fun j => ?_⟩) ?_
        · omega
        · refine Ext.ofBut ?_ hx5 (by omega)
          (focus repeat' first | exact Ext.refl _ | assumption | apply Ext.push | (refine Ext.trans ?_ (by assumption)) | (refine Ext.set ?_ (Nat.le_succ _) (get_push_old get_push_same) _))
        · exact hx5.get hne (by (focus repeat' first | exact get_push_same | assumption | apply get_push_old | (apply Ext.get; assumption) | (apply ExtBut.get; assumption; assumption)))
        · rw [getD_setS (by omega)]
          by_cases q : j = k
          · subst q; rw [if_pos rfl, if_pos (by omega), hck]; rfl
          · rw [if_neg q, hj j]
            by_cases q2 : j < k
            · rw [if_pos q2, if_pos (by omega)]
            · rw [if_neg q2, if_neg (by omega)]
        · (focus repeat' first | rfl | exact trivial | apply And.intro)
      · omega
    · (repeat' (first | (apply K_seq) | (apply K_region) | (apply O_at; rfl) | (apply N_at; rfl) | (apply O_fin; rfl) | (apply C_seq) | (apply K_ifT; rfl) | (apply K_ifF; rfl) | (apply K_open; kernel_rfl) | (apply K_block) | (apply K_skip) | (apply K_exit) | (apply K_ret) | (apply N_fin; rfl; exact (.inl (Nat.le_refl 1))) | (apply N_fin; rfl; refine .inr ?_; (focus repeat' first | exact trivial | exact Keeps.nil _ _ | apply And.intro | rfl | (apply Keeps.cons; (focus repeat' first | exact get_push_same | assumption | apply get_push_old | (apply Ext.get; assumption) | (apply ExtBut.get; assumption; assumption)); (focus repeat' first | exact get_push_same | assumption | apply get_push_old | (apply Ext.get; assumption) | (apply ExtBut.get; assumption; assumption))))) | (apply C_retS) | (apply C_exit) | (apply C_exitS) | (apply C_exitL) | (apply C_blockN) | (apply C_nil) | (apply P_move; rfl; rfl; rfl; rfl) | (apply P_assign; rfl; rfl; rfl; rfl) | (apply P_len; rfl; rfl; rfl; rfl; rfl; rfl; exact un_ok rfl) | (apply P_extract; rfl; rfl; rfl; rfl; rfl) | (apply P_lss; rfl; rfl; rfl; rfl; rfl; all_goals intro _) | (apply P_neq; rfl; rfl; rfl; rfl; rfl; all_goals intro _) | (apply P_add; rfl; rfl; rfl; rfl; rfl; (unfold fit; omega)) | (apply P_idxB; rfl; rfl; rfl; rfl; rfl; exact un_ok rfl; exact sz_ok rfl; (first | rfl | exact (Int.toNat_of_nonneg (by omega)).symm); omega) | (apply P_loadA; rfl; rfl; rfl; rfl; exact ag_ok rfl; (focus repeat' first | exact get_push_same | assumption | apply get_push_old | (apply Ext.get; assumption) | (apply ExtBut.get; assumption; assumption)); (first | exact Nat.le_of_ble_eq_true rfl | (simp; done) | (simp; omega) | (rw [spanCells_len]; omega) | (rw [ints_len]; omega)); (first | exact spans_take (by omega) | rfl)) | (apply P_storeTop; rfl; rfl; rfl; rfl; exact sz_ok rfl; rfl; rfl; rfl) | (apply P_box; rfl; rfl; rfl; rfl; exact sz_ok rfl; rfl; rfl) | (apply P_alloc; rfl; rfl; rfl; rfl; exact sz_ok rfl; rfl; rfl) | (apply M_move; rfl; rfl; rfl; rfl) | (apply M_fa; rfl; rfl; rfl; rfl; exact fo_ok rfl; (first | exact Nat.zero_add _ | exact Nat.add_zero _ | rfl)) | (apply M_idxB; rfl; rfl; rfl; rfl; rfl; exact un_ok rfl; exact sz_ok rfl; (first | rfl | exact (Int.toNat_of_nonneg (by omega)).symm); omega) | (apply M_load1E; rfl; rfl; rfl; rfl; exact on_ok rfl; decide +kernel; (focus repeat' first | exact get_push_same | assumption | apply get_push_old | (apply Ext.get; assumption) | (apply ExtBut.get; assumption; assumption)); (first | rfl | assumption); (first | assumption | exact same_int _ _ | rfl | (simp [same, same.all2]; done)); (first | rfl | assumption | exact within_planO hpb (by (focus repeat' first | exact Ext.refl _ | assumption | apply Ext.push | (refine Ext.trans ?_ (by assumption)) | (refine Ext.set ?_ (Nat.le_succ _) (get_push_old get_push_same) _))) | exact within_optO hpb (by (focus repeat' first | exact Ext.refl _ | assumption | apply Ext.push | (refine Ext.trans ?_ (by assumption)) | (refine Ext.set ?_ (Nat.le_succ _) (get_push_old get_push_same) _))) | (simp [within]; omega))) | (apply M_load1H; rfl; rfl; rfl; rfl; exact on_ok rfl; decide +kernel; (focus repeat' first | exact get_push_same | assumption | apply get_push_old | (apply Ext.get; assumption) | (apply ExtBut.get; assumption; assumption)); (first | rfl | assumption); (first | assumption | exact same_int _ _ | rfl | (simp [same, same.all2]; done)); (first | rfl | assumption | exact within_planO hpb (by (focus repeat' first | exact Ext.refl _ | assumption | apply Ext.push | (refine Ext.trans ?_ (by assumption)) | (refine Ext.set ?_ (Nat.le_succ _) (get_push_old get_push_same) _))) | exact within_optO hpb (by (focus repeat' first | exact Ext.refl _ | assumption | apply Ext.push | (refine Ext.trans ?_ (by assumption)) | (refine Ext.set ?_ (Nat.le_succ _) (get_push_old get_push_same) _))) | (simp [within]; omega))) | (apply M_build45; rfl; rfl; rfl; rfl) | (apply M_storeS; rfl; rfl; rfl; rfl; rfl; (focus repeat' first | exact get_push_same | assumption | apply get_push_old | (apply Ext.get; assumption) | (apply ExtBut.get; assumption; assumption)); exact sz_ok rfl; omega; rfl; (intro _ _ _)) | fail))
      · omega
      · have e : c = printL l R g := listS_eq (by rw [hcl, printL_len]) fun j hj' => by rw [hj j, if_pos (by omega), printL_get (by omega)]
        subst e
        refine ⟨.inr rfl, _, rfl, bt, ct, ?_, hc, Nat.le_trans (Nat.le_succ _) hnt', hx'⟩
        rw [printL_len]
        show Value.tuple #[Value.slice _ (rowsL l R).length ct, _] = _
        rw [hlen]
  · exact ⟨Nat.zero_le _, hx, hb1, _, hbt, hlen, fun j => by rw [if_neg (by omega)]⟩
  · (focus repeat' first | rfl | exact trivial | apply And.intro)
end Go.AX.Sa
