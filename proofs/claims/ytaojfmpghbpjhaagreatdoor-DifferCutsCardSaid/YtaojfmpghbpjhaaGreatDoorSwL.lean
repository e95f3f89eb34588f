/- Sheets: Cut, Joins; what one changed number does. -/
import Derived.Test.YtaojfmpghbpjhaaGreatDoorAxX
import Derived.Test.YtaojfmpghbpjhaaGreatDoorSwB
import Derived.Test.YtaojfmpghbpjhaaGreatDoorSwA
namespace Go.AX.Sa
open Go.Proofs
set_option maxRecDepth 100000
variable {K : Known}

theorem zero25 : zeroB Tryz.prog 25 = some (.slice none 0 0) := by kernel_rfl
theorem size_ok (hK : NoK K) {p : Option Addr} {n cap : Nat} {rows guard s : Int} {h : Heap} :
    CallW Tryz.prog K 21 #[.agg #[.slice p n cap, .int .i64 rows, .int .i64 guard], .int .i64 s] h (IfB (1 ≤ s ∧ s ≤ rows) h) := by
  refine body (N := 9) Tryz.func21 rfl (hK _ _ _ rfl) rfl rfl ?_
  (repeat' (first | (apply K_seq) | (apply K_region) | (apply O_at; rfl) | (apply O_fin; rfl) | (apply C_seq) | (apply K_ret) | (apply C_nil) | (apply P_move; rfl; rfl; rfl; rfl) | (apply P_assign; rfl; rfl; rfl; rfl) | (apply P_fa; rfl; rfl; rfl; rfl; exact fo_ok rfl; (first | exact Nat.zero_add _ | exact Nat.add_zero _ | rfl)) | (apply P_load1; rfl; rfl; rfl; rfl; exact on_ok rfl; (focus repeat' first | exact get_push_same | assumption); (first | rfl | assumption)) | (apply P_box; rfl; rfl; rfl; rfl; exact sz_ok rfl; rfl; rfl) | (apply P_call; rfl; rfl; rfl; rfl; rfl; rfl; exact in_ok hK; (rintro _ _ (⟨rfl, _, _⟩ | ⟨rfl, _, _⟩))) | fail))
  all_goals (refine ⟨.inr rfl, _, rfl, ?_⟩; first | (refine .inl ⟨rfl, by omega, ?_⟩; (focus repeat' first | exact Ext.refl _ | assumption | apply Ext.push | (refine Ext.trans ?_ (by assumption)) | (refine Ext.set ?_ (Nat.le_succ _) (get_push_old get_push_same) _)); done) | (refine .inr ⟨rfl, by omega, ?_⟩; (focus repeat' first | exact Ext.refl _ | assumption | apply Ext.push | (refine Ext.trans ?_ (by assumption)) | (refine Ext.set ?_ (Nat.le_succ _) (get_push_old get_push_same) _)); done))
theorem sheets_quo {R s : Nat} (hR : 0 < R) : ((R : Int) - 1).tdiv (s : Int) = ((R - 1) / s : Nat) := by
  rw [Int.tdiv_eq_ediv_of_nonneg (by omega), show (R : Int) - 1 = ((R - 1 : Nat) : Int) from by omega]; rfl
/-- How many sheets there are. -/
def shN (R s : Nat) : Nat := (R - 1) / s + 1
theorem shN_le {R s : Nat} (hR : 1 ≤ R ∧ R ≤ 12) : 1 ≤ shN R s ∧ shN R s ≤ 12 := by
  have := Nat.div_le_self (R - 1) s
  unfold shN
  generalize (R - 1) / s = z at this ⊢
  omega
theorem shN_lt {R s k : Nat} (hs : 0 < s) (hR : 0 < R) (h : k < shN R s) : k * s < R := by
  have h1 : k ≤ (R - 1) / s := by unfold shN at h; omega
  have h2 := (Nat.le_div_iff_mul_le hs).1 h1
  omega
theorem sheets_ok (hK : NoK K) {p : Option Addr} {n cap R s : Nat} {guard : Int} {h : Heap} (hR : 1 ≤ R ∧ R ≤ 12) (hs : 1 ≤ s ∧ s ≤ R) :
    CallW Tryz.prog K 57 #[.agg #[.slice p n cap, .int .i64 (R : Nat), .int .i64 guard], .int .i64 (s : Nat)] h (IsV (.int .i64 (shN R s : Nat)) h) := by
  refine body (N := 11) Tryz.func57 rfl (hK _ _ _ rfl) rfl rfl ?_
  have hb := shN_le (s := s) hR
  have hq := sheets_quo (s := s) (show 0 < R by omega)
  have he : (((R - 1) / s : Nat) : Int) + 1 = (shN R s : Nat) := by unfold shN; omega
  (repeat' (first | (apply K_seq) | (apply K_region) | (apply O_at; rfl) | (apply O_fin; rfl) | (apply C_seq) | (apply K_ret) | (apply C_nil) | (apply P_move; rfl; rfl; rfl; rfl) | (apply P_assign; rfl; rfl; rfl; rfl) | (apply P_fa; rfl; rfl; rfl; rfl; exact fo_ok rfl; (first | exact Nat.zero_add _ | exact Nat.add_zero _ | rfl)) | (apply P_add; rfl; rfl; rfl; rfl; rfl; (unfold fit; omega)) | (apply P_sub; rfl; rfl; rfl; rfl; rfl; (unfold fit; omega)) | (apply P_load1; rfl; rfl; rfl; rfl; exact on_ok rfl; (focus repeat' first | exact get_push_same | assumption); (first | rfl | assumption)) | (apply P_box; rfl; rfl; rfl; rfl; exact sz_ok rfl; rfl; rfl) | fail))
  apply P_quo; rfl; rfl; rfl; rfl; rfl; omega
  · rw [hq]; unfold fit; omega
  rw [hq]
  (repeat' (first | (apply K_seq) | (apply K_region) | (apply O_at; rfl) | (apply O_fin; rfl) | (apply C_seq) | (apply K_ret) | (apply C_nil) | (apply P_move; rfl; rfl; rfl; rfl) | (apply P_assign; rfl; rfl; rfl; rfl) | (apply P_fa; rfl; rfl; rfl; rfl; exact fo_ok rfl; (first | exact Nat.zero_add _ | exact Nat.add_zero _ | rfl)) | (apply P_add; rfl; rfl; rfl; rfl; rfl; (unfold fit; omega)) | (apply P_sub; rfl; rfl; rfl; rfl; rfl; (unfold fit; omega)) | (apply P_load1; rfl; rfl; rfl; rfl; exact on_ok rfl; (focus repeat' first | exact get_push_same | assumption); (first | rfl | assumption)) | (apply P_box; rfl; rfl; rfl; rfl; exact sz_ok rfl; rfl; rfl) | fail))
  rw [he]
  exact ⟨.inr rfl, _, rfl, rfl, by (focus repeat' first | exact Ext.refl _ | assumption | apply Ext.push | (refine Ext.trans ?_ (by assumption)) | (refine Ext.set ?_ (Nat.le_succ _) (get_push_old get_push_same) _))⟩

def IsSlv (v : Value) : Prop := ∃ p n c, v = .slice p n c
/-- The first rows of all sheets. -/
def CutC (t : List Int) (s S : Nat) (h : Heap) (v : Value) (h1 : Heap) : Prop := ∃ b vs, v = .tuple #[.slice (some ⟨b, 0, none⟩) S S, .int .i64 0] ∧ h1.get? b = some (.cells vs 25 true) ∧ vs.length = S ∧
  (∀ j, j < S → ∃ bj cj e own, vs[j]? = some (.slice (some ⟨bj, 0, none⟩) t.length cj) ∧ h1.get? bj = some (.cells (ints (atP t (j * s) t.length)) e own)) ∧ Ext h h1
theorem down_at (hK : NoK K) {t : List Int} {q : Option Addr} {cap r : Nat} {x : Int} {h : Heap} (hp : 0 < t.length) (hl : t.length ≤ 1000) (hr : Rd h q (ints t)) (hn : r ≤ 1000) (hf : ∀ j, w64 (t.getD j 0) = t.getD j 0) (he : x = (r : Nat)) :
    CallW Tryz.prog K 58 #[.slice q t.length cap, .int .i64 x] h (IsL (atP t r t.length) h) := by
  subst he; exact down_ok hK hp hl hr hn hf
set_option maxHeartbeats 1000000 in
theorem cut_ok (hK : NoK K) {l : List (Int × Int)} {p q : Option Addr} {cap cap' R s : Nat} {guard : Int} {t : List Int} {h : Heap} (hl : l.length ≤ 1000) (hr : Rd h p (spanCells l)) (hl' : t.length ≤ 1000) (hr' : Rd h q (ints t)) (hP : PlanP l (R : Nat) guard) (hT : TruthP l t) (hs : 1 ≤ s ∧ s ≤ R) :
    CallW Tryz.prog K 19 #[.agg #[.slice p l.length cap, .int .i64 (R : Nat), .int .i64 guard], .slice q t.length cap', .int .i64 (s : Nat)] h (CutC t s (shN R s) h) := by
  refine body (N := 45) Tryz.func19 rfl (hK _ _ _ rfl) rfl rfl ?_
  have hp : 0 < t.length := by have := hT.1; have := hP.1; omega
  have hR : 1 ≤ R ∧ R ≤ 12 := by have := hP.2.2.1; omega
  have hb := shN_le (s := s) hR
  have hw : (1 : Int) ≤ (s : Nat) ∧ ((s : Nat) : Int) ≤ (R : Nat) := by omega
  (repeat' (first | (apply K_seq) | (apply K_region) | (apply O_at; rfl) | (apply O_fin; rfl) | (apply C_seq) | (apply K_ifT; rfl) | (apply K_ifF; rfl) | (apply K_block) | (apply K_skip) | (apply K_exit) | (apply K_ret) | (apply C_exit) | (apply C_exitS) | (apply C_exitL) | (apply C_blockN) | (apply C_nil) | (apply P_move; rfl; rfl; rfl; rfl) | (apply P_assign; rfl; rfl; rfl; rfl) | (apply P_fa; rfl; rfl; rfl; rfl; exact fo_ok rfl; (first | exact Nat.zero_add _ | exact Nat.add_zero _ | rfl)) | (apply P_len; rfl; rfl; rfl; rfl; rfl; rfl; exact un_ok rfl) | (apply P_pick; rfl; rfl; rfl; rfl; rfl; rfl) | (apply P_not; rfl; rfl; rfl; rfl) | (apply P_lssF; rfl; rfl; rfl; rfl; rfl; omega) | (apply P_lssT; rfl; rfl; rfl; rfl; rfl; omega) | (apply P_add; rfl; rfl; rfl; rfl; rfl; (unfold fit; omega)) | (apply P_mul; rfl; rfl; rfl; rfl; rfl; (unfold fit; omega)) | (apply P_idxA; rfl; rfl; rfl; rfl; rfl; exact un_ok rfl; exact sz_ok rfl; (first | rfl | exact (Int.toNat_of_nonneg (by omega)).symm); omega) | (apply P_load1; rfl; rfl; rfl; rfl; exact on_ok rfl; (focus repeat' first | exact get_push_same | assumption | (apply Ext.get; assumption) | (apply ExtBut.get; assumption; assumption)); (first | exact ints_get (by omega) | rfl | assumption)) | (apply P_loadA; rfl; rfl; rfl; rfl; exact ag_ok rfl; (focus repeat' first | exact get_push_same | assumption | (apply Ext.get; assumption) | (apply ExtBut.get; assumption; assumption)); (first | exact Nat.le_of_ble_eq_true rfl | (simp; done) | (simp; omega) | (rw [spanCells_len]; omega) | (rw [ints_len]; omega)); rfl) | (apply P_makeL; rfl; rfl; rfl; rfl; rfl; exact c1_ok rfl; exact zero25; omega; omega) | (apply P_storeL; rfl; rfl; rfl; rfl; (focus repeat' first | exact get_push_same | assumption | (apply Ext.get; assumption) | (apply ExtBut.get; assumption; assumption)); exact sz_ok rfl; omega; (intro _ _ _)) | (apply P_box; rfl; rfl; rfl; rfl; exact sz_ok rfl; rfl; rfl) | (apply P_call; rfl; rfl; rfl; rfl; rfl; rfl; exact yes (isPlan_ok hK hl (hr.ext (by (focus repeat' first | exact Ext.refl _ | assumption | apply Ext.push | (refine Ext.trans ?_ (by assumption)) | (refine Ext.set ?_ (Nat.le_succ _) (get_push_old get_push_same) _))))) hP; (rintro _ _ ⟨rfl, _⟩)) | (apply P_call; rfl; rfl; rfl; rfl; rfl; rfl; exact yes (isTruth_ok hK hl (hr.ext (by (focus repeat' first | exact Ext.refl _ | assumption | apply Ext.push | (refine Ext.trans ?_ (by assumption)) | (refine Ext.set ?_ (Nat.le_succ _) (get_push_old get_push_same) _)))) hl' (hr'.ext (by (focus repeat' first | exact Ext.refl _ | assumption | apply Ext.push | (refine Ext.trans ?_ (by assumption)) | (refine Ext.set ?_ (Nat.le_succ _) (get_push_old get_push_same) _))))) hT; (rintro _ _ ⟨rfl, _⟩)) | (apply P_call; rfl; rfl; rfl; rfl; rfl; rfl; exact yes (within_ok hK) hw; (rintro _ _ ⟨rfl, _⟩)) | (apply P_call; rfl; rfl; rfl; rfl; rfl; rfl; exact sheets_ok hK hR hs; (rintro _ _ ⟨rfl, _⟩)) | fail))
  rename_i h1 x1 h2 x2 h3 x3 h4 x4
  have hx4 : Ext h h4 := by (focus repeat' first | exact Ext.refl _ | assumption | apply Ext.push | (refine Ext.trans ?_ (by assumption)) | (refine Ext.set ?_ (Nat.le_succ _) (get_push_old get_push_same) _))
  have hbf : (h4.push (.cells (List.replicate ((shN R s : Nat) : Int).toNat (.slice none 0 0)) 25 true)).get? h4.n = some (.cells (List.replicate (shN R s) (.slice none 0 0)) 25 true) := get_push_same
  have hx5 : Ext h (h4.push (.cells (List.replicate ((shN R s : Nat) : Int).toNat (.slice none 0 0)) 25 true)) := by (focus repeat' first | exact Ext.refl _ | assumption | apply Ext.push | (refine Ext.trans ?_ (by assumption)) | (refine Ext.set ?_ (Nat.le_succ _) (get_push_old get_push_same) _))
  generalize h4.push (.cells (List.replicate ((shN R s : Nat) : Int).toNat (.slice none 0 0)) 25 true) = h5 at hbf hx5 ⊢
  have hnf : h.n ≤ h4.n := hx4.n
  clear x1 x2 x3 x4 hx4
  generalize h4.n = bf at hbf hnf ⊢
  refine K_loopE (fun k : Nat => [(32, .int .i64 (k : Nat)), (31, .int .i64 (shN R s : Nat)), (8, .slice (some ⟨bf, 0, none⟩) (shN R s) (shN R s)), (1, .slice q t.length cap'), (2, .int .i64 (s : Nat))])
    (fun k h' => k ≤ shN R s ∧ Ext h h' ∧ ∃ vs, h'.get? bf = some (.cells vs 25 true) ∧ vs.length = shN R s ∧ (∀ j, j < shN R s → ∃ v, vs[j]? = some v ∧ IsSlv v) ∧ ∀ j, j < k → ∃ bj cj e own, bj ≠ bf ∧ vs[j]? = some (.slice (some ⟨bj, 0, none⟩) t.length cj) ∧ h'.get? bj = some (.cells (ints (atP t (j * s) t.length)) e own)) (fun k => shN R s - k) ?_ 0 ?_ ?_
  · intro k h' ⟨hk, hx, vs, hvs, hvl, hva, hvj⟩ ih
    by_cases hlt : k < shN R s
    · have hks := shN_lt (by omega) (by omega) hlt
      have hmul : (k : Int) * (s : Nat) = ((k * s : Nat) : Int) := by rw [Int.natCast_mul]
      (repeat' (first | (apply K_seq) | (apply K_region) | (apply O_at; rfl) | (apply O_fin; rfl) | (apply C_seq) | (apply K_ifT; rfl) | (apply K_ifF; rfl) | (apply K_block) | (apply K_skip) | (apply K_exit) | (apply K_ret) | (apply C_exit) | (apply C_exitS) | (apply C_exitL) | (apply C_blockN) | (apply C_nil) | (apply P_move; rfl; rfl; rfl; rfl) | (apply P_assign; rfl; rfl; rfl; rfl) | (apply P_fa; rfl; rfl; rfl; rfl; exact fo_ok rfl; (first | exact Nat.zero_add _ | exact Nat.add_zero _ | rfl)) | (apply P_len; rfl; rfl; rfl; rfl; rfl; rfl; exact un_ok rfl) | (apply P_pick; rfl; rfl; rfl; rfl; rfl; rfl) | (apply P_not; rfl; rfl; rfl; rfl) | (apply P_lssF; rfl; rfl; rfl; rfl; rfl; omega) | (apply P_lssT; rfl; rfl; rfl; rfl; rfl; omega) | (apply P_add; rfl; rfl; rfl; rfl; rfl; (unfold fit; omega)) | (apply P_mul; rfl; rfl; rfl; rfl; rfl; (unfold fit; omega)) | (apply P_idxA; rfl; rfl; rfl; rfl; rfl; exact un_ok rfl; exact sz_ok rfl; (first | rfl | exact (Int.toNat_of_nonneg (by omega)).symm); omega) | (apply P_load1; rfl; rfl; rfl; rfl; exact on_ok rfl; (focus repeat' first | exact get_push_same | assumption | (apply Ext.get; assumption) | (apply ExtBut.get; assumption; assumption)); (first | exact ints_get (by omega) | rfl | assumption)) | (apply P_loadA; rfl; rfl; rfl; rfl; exact ag_ok rfl; (focus repeat' first | exact get_push_same | assumption | (apply Ext.get; assumption) | (apply ExtBut.get; assumption; assumption)); (first | exact Nat.le_of_ble_eq_true rfl | (simp; done) | (simp; omega) | (rw [spanCells_len]; omega) | (rw [ints_len]; omega)); rfl) | (apply P_makeL; rfl; rfl; rfl; rfl; rfl; exact c1_ok rfl; exact zero25; omega; omega) | (apply P_storeL; rfl; rfl; rfl; rfl; (focus repeat' first | exact get_push_same | assumption | (apply Ext.get; assumption) | (apply ExtBut.get; assumption; assumption)); exact sz_ok rfl; omega; (intro _ _ _)) | (apply P_box; rfl; rfl; rfl; rfl; exact sz_ok rfl; rfl; rfl) | fail))
      · apply P_call; rfl; rfl; rfl; rfl; rfl; rfl; exact down_at hK hp hl' (hr'.ext hx) (r := k * s) (by omega) (truth_small hP.2.1 hT) hmul
        rintro _ h6 ⟨pj, cj, rfl, rj, xj⟩
        obtain ⟨bj, ej, oj, rfl, hgj⟩ := rj.at (by rw [ints_len, atP_len]; exact hp)
        have hvs6 := xj.get hvs
        have hne : bj ≠ bf := by
          rintro rfl
          rw [hgj] at hvs6
          injection hvs6 with hvs6
          injection hvs6 with hc
          obtain ⟨v, hv, pv, nv, cv, rfl⟩ := hva 0 (by omega)
          rw [← hc] at hv
          rw [ints_get (by rw [atP_len]; exact hp)] at hv
          cases hv
        (repeat' (first | (apply K_seq) | (apply K_region) | (apply O_at; rfl) | (apply O_fin; rfl) | (apply C_seq) | (apply K_ifT; rfl) | (apply K_ifF; rfl) | (apply K_block) | (apply K_skip) | (apply K_exit) | (apply K_ret) | (apply C_exit) | (apply C_exitS) | (apply C_exitL) | (apply C_blockN) | (apply C_nil) | (apply P_move; rfl; rfl; rfl; rfl) | (apply P_assign; rfl; rfl; rfl; rfl) | (apply P_fa; rfl; rfl; rfl; rfl; exact fo_ok rfl; (first | exact Nat.zero_add _ | exact Nat.add_zero _ | rfl)) | (apply P_len; rfl; rfl; rfl; rfl; rfl; rfl; exact un_ok rfl) | (apply P_pick; rfl; rfl; rfl; rfl; rfl; rfl) | (apply P_not; rfl; rfl; rfl; rfl) | (apply P_lssF; rfl; rfl; rfl; rfl; rfl; omega) | (apply P_lssT; rfl; rfl; rfl; rfl; rfl; omega) | (apply P_add; rfl; rfl; rfl; rfl; rfl; (unfold fit; omega)) | (apply P_mul; rfl; rfl; rfl; rfl; rfl; (unfold fit; omega)) | (apply P_idxA; rfl; rfl; rfl; rfl; rfl; exact un_ok rfl; exact sz_ok rfl; (first | rfl | exact (Int.toNat_of_nonneg (by omega)).symm); omega) | (apply P_load1; rfl; rfl; rfl; rfl; exact on_ok rfl; (focus repeat' first | exact get_push_same | assumption | (apply Ext.get; assumption) | (apply ExtBut.get; assumption; assumption)); (first | exact ints_get (by omega) | rfl | assumption)) | (apply P_loadA; rfl; rfl; rfl; rfl; exact ag_ok rfl; (focus repeat' first | exact get_push_same | assumption | (apply Ext.get; assumption) | (apply ExtBut.get; assumption; assumption)); (first | exact Nat.le_of_ble_eq_true rfl | (simp; done) | (simp; omega) | (rw [spanCells_len]; omega) | (rw [ints_len]; omega)); rfl) | (apply P_makeL; rfl; rfl; rfl; rfl; rfl; exact c1_ok rfl; exact zero25; omega; omega) | (apply P_storeL; rfl; rfl; rfl; rfl; (focus repeat' first | exact get_push_same | assumption | (apply Ext.get; assumption) | (apply ExtBut.get; assumption; assumption)); exact sz_ok rfl; omega; (intro _ _ _)) | (apply P_box; rfl; rfl; rfl; rfl; exact sz_ok rfl; rfl; rfl) | fail))
        · rename_i h7 hv7 hx7
          refine C_again (ih (k + 1) _ ?_ ⟨hlt, (hx.trans xj).ofBut hx7 hnf, _, hv7, by simpa using hvl, fun j hj => ?_, fun j hj => ?_⟩) ?_
          · omega
          · by_cases q2 : j = k
            · subst q2; exact ⟨_, List.getElem?_set_self (by omega), _, _, _, rfl⟩
            · rw [List.getElem?_set_ne (fun q3 => q2 q3.symm)]; exact hva j hj
          · by_cases q2 : j = k
            · subst q2
              exact ⟨bj, cj, ej, oj, hne, by rw [List.getElem?_set_self (by omega), atP_len], hx7.get hne hgj⟩
            · obtain ⟨b2, c2, e2, o2, n2, g2, f2⟩ := hvj j (by omega)
              exact ⟨b2, c2, e2, o2, n2, by rw [List.getElem?_set_ne (fun q3 => q2 q3.symm)]; exact g2, hx7.get n2 (xj.get f2)⟩
          · (focus repeat' first | rfl | exact trivial | apply And.intro)
    · (repeat' (first | (apply K_seq) | (apply K_region) | (apply O_at; rfl) | (apply O_fin; rfl) | (apply C_seq) | (apply K_ifT; rfl) | (apply K_ifF; rfl) | (apply K_block) | (apply K_skip) | (apply K_exit) | (apply K_ret) | (apply C_exit) | (apply C_exitS) | (apply C_exitL) | (apply C_blockN) | (apply C_nil) | (apply P_move; rfl; rfl; rfl; rfl) | (apply P_assign; rfl; rfl; rfl; rfl) | (apply P_fa; rfl; rfl; rfl; rfl; exact fo_ok rfl; (first | exact Nat.zero_add _ | exact Nat.add_zero _ | rfl)) | (apply P_len; rfl; rfl; rfl; rfl; rfl; rfl; exact un_ok rfl) | (apply P_pick; rfl; rfl; rfl; rfl; rfl; rfl) | (apply P_not; rfl; rfl; rfl; rfl) | (apply P_lssF; rfl; rfl; rfl; rfl; rfl; omega) | (apply P_lssT; rfl; rfl; rfl; rfl; rfl; omega) | (apply P_add; rfl; rfl; rfl; rfl; rfl; (unfold fit; omega)) | (apply P_mul; rfl; rfl; rfl; rfl; rfl; (unfold fit; omega)) | (apply P_idxA; rfl; rfl; rfl; rfl; rfl; exact un_ok rfl; exact sz_ok rfl; (first | rfl | exact (Int.toNat_of_nonneg (by omega)).symm); omega) | (apply P_load1; rfl; rfl; rfl; rfl; exact on_ok rfl; (focus repeat' first | exact get_push_same | assumption | (apply Ext.get; assumption) | (apply ExtBut.get; assumption; assumption)); (first | exact ints_get (by omega) | rfl | assumption)) | (apply P_loadA; rfl; rfl; rfl; rfl; exact ag_ok rfl; (focus repeat' first | exact get_push_same | assumption | (apply Ext.get; assumption) | (apply ExtBut.get; assumption; assumption)); (first | exact Nat.le_of_ble_eq_true rfl | (simp; done) | (simp; omega) | (rw [spanCells_len]; omega) | (rw [ints_len]; omega)); rfl) | (apply P_makeL; rfl; rfl; rfl; rfl; rfl; exact c1_ok rfl; exact zero25; omega; omega) | (apply P_storeL; rfl; rfl; rfl; rfl; (focus repeat' first | exact get_push_same | assumption | (apply Ext.get; assumption) | (apply ExtBut.get; assumption; assumption)); exact sz_ok rfl; omega; (intro _ _ _)) | (apply P_box; rfl; rfl; rfl; rfl; exact sz_ok rfl; rfl; rfl) | fail))
      exact ⟨.inr rfl, _, rfl, bf, vs, rfl, hvs, hvl, fun j hj => by
        obtain ⟨b2, c2, e2, o2, _, g2, f2⟩ := hvj j (by omega)
        exact ⟨b2, c2, e2, o2, g2, f2⟩, hx⟩
  · exact ⟨Nat.zero_le _, hx5, _, hbf, by simp, fun j hj => ⟨.slice none 0 0, by simp [hj], none, 0, 0, rfl⟩, fun j hj => by omega⟩
  · (focus repeat' first | rfl | exact trivial | apply And.intro)
end Go.AX.Sa

namespace Go.AX.Sa
open Go.Proofs
set_option maxRecDepth 100000
variable {K : Known}

theorem sumC_drop {t : List Int} {r j : Nat} (hl : t.length ≤ 4) (hr : r < 12) (h : ∀ j, j < t.length → -99999 ≤ t.getD j 0 ∧ t.getD j 0 ≤ 99999) : -23199768 ≤ st t r j ∧ st t r j ≤ 23199768 :=
  sumC_bd (by simp; omega) hr fun i hi => by
    have := h (j + i) (by simp at hi; omega)
    simpa [List.getD_eq_getElem?_getD, List.getElem?_drop] using this
theorem state_near {l : List (Int × Int)} {t : List Int} {r : Nat} {rows guard : Int} (hP : PlanP l rows guard) (hT : TruthP l t) (hr : r < 12) : StateP (atP t r t.length) := by
  have h1 := hP.1
  have h2 := hT.1
  refine ⟨by rw [atP_len]; omega, fun j hj => ?_⟩
  rw [atP_len] at hj
  have hb := sumC_drop (t := t) (r := r) (j := j) (by omega) hr fun i hi => by
    have a := hT.2 i hi
    have b := hP.2.1 i (by omega)
    unfold StartP at b
    omega
  rw [atP_get hj, w64_small (by omega)]
  unfold NearP
  omega
theorem sheets_count {R s : Nat} (hs : 0 < s) (hR : 0 < R) : ((R : Int) + (s : Int) - 1).tdiv (s : Int) = (shN R s : Nat) := by
  rw [Int.tdiv_eq_ediv_of_nonneg (by omega), show (R : Int) + (s : Int) - 1 = ((R - 1 + s : Nat) : Int) from by omega]
  unfold shN
  rw [← Nat.add_div_right _ hs]; rfl

/-! DifferUpward. -/
end Go.AX.Sa

namespace Go.AX.Sa
open Go.Proofs
set_option maxRecDepth 100000
variable {K : Known}

/-! Sheets that join. -/
theorem equal_ok (hK : NoK K) {p q : Option Addr} {cap cap' : Nat} {s t : List Int} {h : Heap} (hl : s.length ≤ 1000) (hr : Rd h p (ints s)) (_ : t.length ≤ 1000) (hr' : Rd h q (ints t)) :
    CallW Tryz.prog K 60 #[.slice p s.length cap, .slice q t.length cap'] h (IfB (s = t) h) := by
  refine body (N := 26) Tryz.func60 rfl (hK _ _ _ rfl) rfl rfl ?_
  (repeat' (first | (apply K_seq) | (apply K_region) | (apply O_at; rfl) | (apply N_at; rfl) | (apply O_fin; rfl) | (apply C_seq) | (apply K_ifT; rfl) | (apply K_ifF; rfl) | (apply K_open; kernel_rfl) | (apply K_block) | (apply K_skip) | (apply K_exit) | (apply K_ret) | (apply N_fin; rfl; exact (.inl (Nat.le_refl 1))) | (apply N_fin; rfl; refine .inr ?_; (focus repeat' first | exact trivial | exact Keeps.nil _ _ | apply And.intro | rfl | (apply Keeps.cons; (focus repeat' first | assumption); (focus repeat' first | assumption)))) | (apply C_retS) | (apply C_retL) | (apply C_retB) | (apply C_exit) | (apply C_exitS) | (apply C_exitL) | (apply C_blockN) | (apply C_nil) | (apply P_move; rfl; rfl; rfl; rfl) | (apply P_assign; rfl; rfl; rfl; rfl) | (apply P_len; rfl; rfl; rfl; rfl; rfl; rfl; exact un_ok rfl) | (apply P_lss; rfl; rfl; rfl; rfl; rfl; all_goals intro _) | (apply P_neq; rfl; rfl; rfl; rfl; rfl; all_goals intro _) | (apply P_add; rfl; rfl; rfl; rfl; rfl; (unfold fit; omega)) | (apply M_move; rfl; rfl; rfl; rfl) | (apply M_neq; rfl; rfl; rfl; rfl; rfl; all_goals intro _) | (apply M_idxA; rfl; rfl; rfl; rfl; rfl; exact un_ok rfl; exact sz_ok rfl; (first | rfl | exact (Int.toNat_of_nonneg (by omega)).symm); omega) | (apply M_load1E; rfl; rfl; rfl; rfl; exact on_ok rfl; decide +kernel; (focus repeat' first | assumption); (first | exact ints_get (by omega) | rfl | assumption); (first | exact same_int _ _ | rfl | (simp [same, same.all2]; done)); (first | rfl | assumption | (simp [within]; omega))) | fail))
  · rename_i hne
    refine ⟨.inr rfl, _, rfl, .inr ⟨rfl, fun q => hne (by rw [q]), ?_⟩⟩
    (focus repeat' first | exact Ext.refl _ | assumption | apply Ext.push | (refine Ext.trans ?_ (by assumption)) | (refine Ext.set ?_ (Nat.le_succ _) (get_push_old get_push_same) _))
  rename_i heq
  have heq' : s.length = t.length := by omega
  refine K_loopE (fun k : Nat => [(13, .int .i64 (k : Nat)), (12, .int .i64 (s.length : Nat)), (0, .slice p s.length cap), (1, .slice q t.length cap')])
    (fun k h' => k ≤ t.length ∧ h' = h ∧ ∀ j, j < k → s.getD j 0 = t.getD j 0) (fun k => t.length - k) ?_ 0 ?_ ?_
  · intro k h' ⟨hk, hx, hj⟩ ih
    subst hx
    by_cases hlt : k < t.length
    · obtain ⟨b, e, own, rfl, hg⟩ := hr.at (by rw [ints_len]; omega)
      obtain ⟨b', e', own', rfl, hg'⟩ := hr'.at (by rw [ints_len]; omega)
      have hlt' : k < s.length := by omega
      (repeat' (first | (apply K_seq) | (apply K_region) | (apply O_at; rfl) | (apply N_at; rfl) | (apply O_fin; rfl) | (apply C_seq) | (apply K_ifT; rfl) | (apply K_ifF; rfl) | (apply K_open; kernel_rfl) | (apply K_block) | (apply K_skip) | (apply K_exit) | (apply K_ret) | (apply N_fin; rfl; exact (.inl (Nat.le_refl 1))) | (apply N_fin; rfl; refine .inr ?_; (focus repeat' first | exact trivial | exact Keeps.nil _ _ | apply And.intro | rfl | (apply Keeps.cons; (focus repeat' first | assumption); (focus repeat' first | assumption)))) | (apply C_retS) | (apply C_retL) | (apply C_retB) | (apply C_exit) | (apply C_exitS) | (apply C_exitL) | (apply C_blockN) | (apply C_nil) | (apply P_move; rfl; rfl; rfl; rfl) | (apply P_assign; rfl; rfl; rfl; rfl) | (apply P_len; rfl; rfl; rfl; rfl; rfl; rfl; exact un_ok rfl) | (apply P_lss; rfl; rfl; rfl; rfl; rfl; all_goals intro _) | (apply P_neq; rfl; rfl; rfl; rfl; rfl; all_goals intro _) | (apply P_add; rfl; rfl; rfl; rfl; rfl; (unfold fit; omega)) | (apply M_move; rfl; rfl; rfl; rfl) | (apply M_neq; rfl; rfl; rfl; rfl; rfl; all_goals intro _) | (apply M_idxA; rfl; rfl; rfl; rfl; rfl; exact un_ok rfl; exact sz_ok rfl; (first | rfl | exact (Int.toNat_of_nonneg (by omega)).symm); omega) | (apply M_load1E; rfl; rfl; rfl; rfl; exact on_ok rfl; decide +kernel; (focus repeat' first | assumption); (first | exact ints_get (by omega) | rfl | assumption); (first | exact same_int _ _ | rfl | (simp [same, same.all2]; done)); (first | rfl | assumption | (simp [within]; omega))) | fail))
      · rename_i hns
        refine ⟨.inr rfl, _, rfl, .inr ⟨rfl, fun q => hns (by rw [q]), ?_⟩⟩
        (focus repeat' first | exact Ext.refl _ | assumption | apply Ext.push | (refine Ext.trans ?_ (by assumption)) | (refine Ext.set ?_ (Nat.le_succ _) (get_push_old get_push_same) _))
      · rename_i hns
        refine C_again (ih (k + 1) _ ?_ ⟨hlt, rfl, fun j hj' => ?_⟩) ?_
        · omega
        · by_cases hjk : j = k
          · subst hjk; exact hns
          · exact hj j (by omega)
        · (focus repeat' first | rfl | exact trivial | apply And.intro)
      · omega
    · (repeat' (first | (apply K_seq) | (apply K_region) | (apply O_at; rfl) | (apply N_at; rfl) | (apply O_fin; rfl) | (apply C_seq) | (apply K_ifT; rfl) | (apply K_ifF; rfl) | (apply K_open; kernel_rfl) | (apply K_block) | (apply K_skip) | (apply K_exit) | (apply K_ret) | (apply N_fin; rfl; exact (.inl (Nat.le_refl 1))) | (apply N_fin; rfl; refine .inr ?_; (focus repeat' first | exact trivial | exact Keeps.nil _ _ | apply And.intro | rfl | (apply Keeps.cons; (focus repeat' first | assumption); (focus repeat' first | assumption)))) | (apply C_retS) | (apply C_retL) | (apply C_retB) | (apply C_exit) | (apply C_exitS) | (apply C_exitL) | (apply C_blockN) | (apply C_nil) | (apply P_move; rfl; rfl; rfl; rfl) | (apply P_assign; rfl; rfl; rfl; rfl) | (apply P_len; rfl; rfl; rfl; rfl; rfl; rfl; exact un_ok rfl) | (apply P_lss; rfl; rfl; rfl; rfl; rfl; all_goals intro _) | (apply P_neq; rfl; rfl; rfl; rfl; rfl; all_goals intro _) | (apply P_add; rfl; rfl; rfl; rfl; rfl; (unfold fit; omega)) | (apply M_move; rfl; rfl; rfl; rfl) | (apply M_neq; rfl; rfl; rfl; rfl; rfl; all_goals intro _) | (apply M_idxA; rfl; rfl; rfl; rfl; rfl; exact un_ok rfl; exact sz_ok rfl; (first | rfl | exact (Int.toNat_of_nonneg (by omega)).symm); omega) | (apply M_load1E; rfl; rfl; rfl; rfl; exact on_ok rfl; decide +kernel; (focus repeat' first | assumption); (first | exact ints_get (by omega) | rfl | assumption); (first | exact same_int _ _ | rfl | (simp [same, same.all2]; done)); (first | rfl | assumption | (simp [within]; omega))) | fail))
      · omega
      · refine ⟨.inr rfl, _, rfl, .inl ⟨rfl, ?_, ?_⟩⟩
        · apply List.ext_getElem heq'
          intro j h1 h2
          have := hj j (by omega)
          simpa [List.getD_eq_getElem?_getD, h1, h2] using this
        · (focus repeat' first | exact Ext.refl _ | assumption | apply Ext.push | (refine Ext.trans ?_ (by assumption)) | (refine Ext.set ?_ (Nat.le_succ _) (get_push_old get_push_same) _))
  · exact ⟨Nat.zero_le _, rfl, fun j hj => by omega⟩
  · (focus repeat' first | rfl | exact trivial | apply And.intro)

/-- A slice of slices whose address is p has these lists. -/
def RdL (h : Heap) (p : Option Addr) (ss : List (List Int)) : Prop := ss = [] ∨ ∃ b vs e own, p = some ⟨b, 0, none⟩ ∧ h.get? b = some (.cells vs e own) ∧ vs.length = ss.length ∧ ∀ j, j < ss.length → ∃ q c, vs[j]? = some (.slice q (ss.getD j []).length c) ∧ Rd h q (ints (ss.getD j []))
theorem RdL.ext {h h1 : Heap} {p : Option Addr} {ss : List (List Int)} (r : RdL h p ss) (x : Ext h h1) : RdL h1 p ss := by
  rcases r with r | ⟨b, vs, e, own, hp, hg, hl, ha⟩
  · exact .inl r
  · exact .inr ⟨b, vs, e, own, hp, x.get hg, hl, fun j hj => by
      obtain ⟨q, c, h1, h2⟩ := ha j hj
      exact ⟨q, c, h1, h2.ext x⟩⟩
def FirstsP (n R s : Nat) (ss : List (List Int)) : Prop := ss.length = shN R s ∧ ∀ j, j < ss.length → (ss.getD j []).length = n ∧ StateP (ss.getD j [])
theorem areFirsts_ok (hK : NoK K) {n cap cap' R s : Nat} {p q : Option Addr} {guard : Int} {ss : List (List Int)} {h : Heap} (hR : 1 ≤ R ∧ R ≤ 12) (hs : 1 ≤ s ∧ s ≤ R) (hl : ss.length ≤ 1000) (hj : ∀ j, j < ss.length → (ss.getD j []).length ≤ 1000) (hr : RdL h q ss) :
    CallW Tryz.prog K 59 #[.agg #[.slice p n cap, .int .i64 (R : Nat), .int .i64 guard], .slice q ss.length cap', .int .i64 (s : Nat)] h (IfB (FirstsP n R s ss) h) := by
  refine body (N := 33) Tryz.func59 rfl (hK _ _ _ rfl) rfl rfl ?_
  have hb := shN_le (s := s) hR
  (repeat' (first | (apply K_seq) | (apply K_region) | (apply O_at; rfl) | (apply O_fin; rfl) | (apply C_seq) | (apply K_ifT; rfl) | (apply K_ifF; rfl) | (apply K_block) | (apply K_skip) | (apply K_exit) | (apply K_ret) | (apply C_retS) | (apply C_retL) | (apply C_retB) | (apply C_exit) | (apply C_exitS) | (apply C_exitL) | (apply C_blockN) | (apply C_nil) | (apply P_skip; rfl; rfl; rfl) | (apply P_move; rfl; rfl; rfl; rfl) | (apply P_assign; rfl; rfl; rfl; rfl) | (apply P_fa; rfl; rfl; rfl; rfl; exact fo_ok rfl; (first | exact Nat.zero_add _ | exact Nat.add_zero _ | rfl)) | (apply P_len; rfl; rfl; rfl; rfl; rfl; rfl; exact un_ok rfl) | (apply P_pick; rfl; rfl; rfl; rfl; rfl; rfl) | (apply P_not; rfl; rfl; rfl; rfl) | (apply P_neq; rfl; rfl; rfl; rfl; rfl; all_goals intro _) | (apply P_add; rfl; rfl; rfl; rfl; rfl; (unfold fit; omega)) | (apply P_idxA; rfl; rfl; rfl; rfl; rfl; exact un_ok rfl; exact sz_ok rfl; (first | rfl | exact (Int.toNat_of_nonneg (by omega)).symm); omega) | (apply P_load1; rfl; rfl; rfl; rfl; exact on_ok rfl; (focus repeat' first | exact get_push_same | assumption | apply get_push_old | (apply Ext.get; assumption)); (first | rfl | assumption)) | (apply P_loadA; rfl; rfl; rfl; rfl; exact ag_ok rfl; (focus repeat' first | exact get_push_same | assumption | apply get_push_old | (apply Ext.get; assumption)); (first | exact Nat.le_of_ble_eq_true rfl | (simp; done) | (simp; omega) | (rw [spanCells_len]; omega) | (rw [ints_len]; omega)); rfl) | (apply P_box; rfl; rfl; rfl; rfl; exact sz_ok rfl; rfl; rfl) | (apply P_call; rfl; rfl; rfl; rfl; rfl; rfl; exact sheets_ok hK hR hs; (rintro _ _ ⟨rfl, _⟩)) | fail))
  · rename_i h1 x1 hne
    refine ⟨.inr rfl, _, rfl, .inr ⟨rfl, fun q => hne (by rw [q.1]), ?_⟩⟩
    (focus repeat' first | exact Ext.refl _ | assumption | apply Ext.push | (refine Ext.trans ?_ (by assumption)) | (refine Ext.set ?_ (Nat.le_succ _) (get_push_old get_push_same) _))
  rename_i h1 x1 heq
  have heq' : ss.length = shN R s := by omega
  rcases hr with rfl | ⟨b, vs, e, own, rfl, hg, hvl, ha⟩
  · simp at heq'; omega
  have hb1 : h1.get? h.n = some (.cells [.slice p n cap, .int .i64 (R : Nat), .int .i64 guard] 24 true) := x1.get get_push_same
  have hg1 : h1.get? b = some (.cells vs e own) := by (focus repeat' first | exact get_push_same | assumption | apply get_push_old | (apply Ext.get; assumption) | (apply ExtBut.get; assumption; assumption))
  have hx1 : Ext h h1 := by (focus repeat' first | exact Ext.refl _ | assumption | apply Ext.push | (refine Ext.trans ?_ (by assumption)) | (refine Ext.set ?_ (Nat.le_succ _) (get_push_old get_push_same) _))
  clear x1
  refine K_loopE (fun k : Nat => [(17, .int .i64 (k : Nat)), (16, .int .i64 (ss.length : Nat)), (15, .slice (some ⟨b, 0, none⟩) ss.length cap'), (3, .pointer (some ⟨h.n, 0, none⟩))])
    (fun k h' => k ≤ ss.length ∧ Ext h1 h' ∧ ∀ j, j < k → (ss.getD j []).length = n ∧ StateP (ss.getD j [])) (fun k => ss.length - k) ?_ 0 ?_ ?_
  · intro k h' ⟨hk, hx, hjj⟩ ih
    have hg2 := hx.get hg1
    have hb2 := hx.get hb1
    by_cases hlt : k < ss.length
    · obtain ⟨qk, ck, hv, rk⟩ := ha k hlt
      have rk' := (rk.ext hx1).ext hx
      have hvk : k < vs.length := by omega
      by_cases hn2 : (ss.getD k []).length = n
      · by_cases hS : StateP (ss.getD k [])
        · (repeat' (first | (apply K_seq) | (apply K_region) | (apply O_at; rfl) | (apply O_fin; rfl) | (apply C_seq) | (apply K_ifT; rfl) | (apply K_ifF; rfl) | (apply K_block) | (apply K_skip) | (apply K_exit) | (apply K_ret) | (apply C_retS) | (apply C_retL) | (apply C_retB) | (apply C_exit) | (apply C_exitS) | (apply C_exitL) | (apply C_blockN) | (apply C_nil) | (apply P_skip; rfl; rfl; rfl) | (apply P_move; rfl; rfl; rfl; rfl) | (apply P_assign; rfl; rfl; rfl; rfl) | (apply P_fa; rfl; rfl; rfl; rfl; exact fo_ok rfl; (first | exact Nat.zero_add _ | exact Nat.add_zero _ | rfl)) | (apply P_len; rfl; rfl; rfl; rfl; rfl; rfl; exact un_ok rfl) | (apply P_pick; rfl; rfl; rfl; rfl; rfl; rfl) | (apply P_not; rfl; rfl; rfl; rfl) | (apply P_lssF; rfl; rfl; rfl; rfl; rfl; omega) | (apply P_lssT; rfl; rfl; rfl; rfl; rfl; omega) | (apply P_neqF; rfl; rfl; rfl; rfl; rfl; omega) | (apply P_neqT; rfl; rfl; rfl; rfl; rfl; omega) | (apply P_neq; rfl; rfl; rfl; rfl; rfl; all_goals intro _) | (apply P_add; rfl; rfl; rfl; rfl; rfl; (unfold fit; omega)) | (apply P_idxA; rfl; rfl; rfl; rfl; rfl; exact un_ok rfl; exact sz_ok rfl; (first | rfl | exact (Int.toNat_of_nonneg (by omega)).symm); omega) | (apply P_load1; rfl; rfl; rfl; rfl; exact on_ok rfl; (focus repeat' first | exact get_push_same | assumption | apply get_push_old | (apply Ext.get; assumption)); (first | rfl | assumption)) | (apply P_loadA; rfl; rfl; rfl; rfl; exact ag_ok rfl; (focus repeat' first | exact get_push_same | assumption | apply get_push_old | (apply Ext.get; assumption)); (first | exact Nat.le_of_ble_eq_true rfl | (simp; done) | (simp; omega) | (rw [spanCells_len]; omega) | (rw [ints_len]; omega)); rfl) | (apply P_box; rfl; rfl; rfl; rfl; exact sz_ok rfl; rfl; rfl) | (apply P_call; rfl; rfl; rfl; rfl; rfl; rfl; exact yes (isState_ok hK (hj k hlt) (rk'.ext (by (focus repeat' first | exact Ext.refl _ | assumption | apply Ext.push | (refine Ext.trans ?_ (by assumption)) | (refine Ext.set ?_ (Nat.le_succ _) (get_push_old get_push_same) _))))) hS; (rintro _ _ ⟨rfl, _⟩)) | fail))
          refine C_again (ih (k + 1) _ ?_ ⟨hlt, ?_, fun j hj' => ?_⟩) ?_
          · omega
          · (focus repeat' first | exact Ext.refl _ | assumption | apply Ext.push | (refine Ext.trans ?_ (by assumption)) | (refine Ext.set ?_ (Nat.le_succ _) (get_push_old get_push_same) _))
          · by_cases q : j = k
            · subst q; exact ⟨hn2, hS⟩
            · exact hjj j (by omega)
          · (focus repeat' first | rfl | exact trivial | apply And.intro)
        · (repeat' (first | (apply K_seq) | (apply K_region) | (apply O_at; rfl) | (apply O_fin; rfl) | (apply C_seq) | (apply K_ifT; rfl) | (apply K_ifF; rfl) | (apply K_block) | (apply K_skip) | (apply K_exit) | (apply K_ret) | (apply C_retS) | (apply C_retL) | (apply C_retB) | (apply C_exit) | (apply C_exitS) | (apply C_exitL) | (apply C_blockN) | (apply C_nil) | (apply P_skip; rfl; rfl; rfl) | (apply P_move; rfl; rfl; rfl; rfl) | (apply P_assign; rfl; rfl; rfl; rfl) | (apply P_fa; rfl; rfl; rfl; rfl; exact fo_ok rfl; (first | exact Nat.zero_add _ | exact Nat.add_zero _ | rfl)) | (apply P_len; rfl; rfl; rfl; rfl; rfl; rfl; exact un_ok rfl) | (apply P_pick; rfl; rfl; rfl; rfl; rfl; rfl) | (apply P_not; rfl; rfl; rfl; rfl) | (apply P_lssF; rfl; rfl; rfl; rfl; rfl; omega) | (apply P_lssT; rfl; rfl; rfl; rfl; rfl; omega) | (apply P_neqF; rfl; rfl; rfl; rfl; rfl; omega) | (apply P_neqT; rfl; rfl; rfl; rfl; rfl; omega) | (apply P_neq; rfl; rfl; rfl; rfl; rfl; all_goals intro _) | (apply P_add; rfl; rfl; rfl; rfl; rfl; (unfold fit; omega)) | (apply P_idxA; rfl; rfl; rfl; rfl; rfl; exact un_ok rfl; exact sz_ok rfl; (first | rfl | exact (Int.toNat_of_nonneg (by omega)).symm); omega) | (apply P_load1; rfl; rfl; rfl; rfl; exact on_ok rfl; (focus repeat' first | exact get_push_same | assumption | apply get_push_old | (apply Ext.get; assumption)); (first | rfl | assumption)) | (apply P_loadA; rfl; rfl; rfl; rfl; exact ag_ok rfl; (focus repeat' first | exact get_push_same | assumption | apply get_push_old | (apply Ext.get; assumption)); (first | exact Nat.le_of_ble_eq_true rfl | (simp; done) | (simp; omega) | (rw [spanCells_len]; omega) | (rw [ints_len]; omega)); rfl) | (apply P_box; rfl; rfl; rfl; rfl; exact sz_ok rfl; rfl; rfl) | (apply P_call; rfl; rfl; rfl; rfl; rfl; rfl; exact no (isState_ok hK (hj k hlt) (rk'.ext (by (focus repeat' first | exact Ext.refl _ | assumption | apply Ext.push | (refine Ext.trans ?_ (by assumption)) | (refine Ext.set ?_ (Nat.le_succ _) (get_push_old get_push_same) _))))) hS; (rintro _ _ ⟨rfl, _⟩)) | fail))
          refine ⟨.inr rfl, _, rfl, .inr ⟨rfl, fun q => hS (q.2 k hlt).2, ?_⟩⟩
          (focus repeat' first | exact Ext.refl _ | assumption | apply Ext.push | (refine Ext.trans ?_ (by assumption)) | (refine Ext.set ?_ (Nat.le_succ _) (get_push_old get_push_same) _))
      · (repeat' (first | (apply K_seq) | (apply K_region) | (apply O_at; rfl) | (apply O_fin; rfl) | (apply C_seq) | (apply K_ifT; rfl) | (apply K_ifF; rfl) | (apply K_block) | (apply K_skip) | (apply K_exit) | (apply K_ret) | (apply C_retS) | (apply C_retL) | (apply C_retB) | (apply C_exit) | (apply C_exitS) | (apply C_exitL) | (apply C_blockN) | (apply C_nil) | (apply P_skip; rfl; rfl; rfl) | (apply P_move; rfl; rfl; rfl; rfl) | (apply P_assign; rfl; rfl; rfl; rfl) | (apply P_fa; rfl; rfl; rfl; rfl; exact fo_ok rfl; (first | exact Nat.zero_add _ | exact Nat.add_zero _ | rfl)) | (apply P_len; rfl; rfl; rfl; rfl; rfl; rfl; exact un_ok rfl) | (apply P_pick; rfl; rfl; rfl; rfl; rfl; rfl) | (apply P_not; rfl; rfl; rfl; rfl) | (apply P_lssF; rfl; rfl; rfl; rfl; rfl; omega) | (apply P_lssT; rfl; rfl; rfl; rfl; rfl; omega) | (apply P_neqF; rfl; rfl; rfl; rfl; rfl; omega) | (apply P_neqT; rfl; rfl; rfl; rfl; rfl; omega) | (apply P_neq; rfl; rfl; rfl; rfl; rfl; all_goals intro _) | (apply P_add; rfl; rfl; rfl; rfl; rfl; (unfold fit; omega)) | (apply P_idxA; rfl; rfl; rfl; rfl; rfl; exact un_ok rfl; exact sz_ok rfl; (first | rfl | exact (Int.toNat_of_nonneg (by omega)).symm); omega) | (apply P_load1; rfl; rfl; rfl; rfl; exact on_ok rfl; (focus repeat' first | exact get_push_same | assumption | apply get_push_old | (apply Ext.get; assumption)); (first | rfl | assumption)) | (apply P_loadA; rfl; rfl; rfl; rfl; exact ag_ok rfl; (focus repeat' first | exact get_push_same | assumption | apply get_push_old | (apply Ext.get; assumption)); (first | exact Nat.le_of_ble_eq_true rfl | (simp; done) | (simp; omega) | (rw [spanCells_len]; omega) | (rw [ints_len]; omega)); rfl) | (apply P_box; rfl; rfl; rfl; rfl; exact sz_ok rfl; rfl; rfl) | fail))
        refine ⟨.inr rfl, _, rfl, .inr ⟨rfl, fun q => hn2 (q.2 k hlt).1, ?_⟩⟩
        (focus repeat' first | exact Ext.refl _ | assumption | apply Ext.push | (refine Ext.trans ?_ (by assumption)) | (refine Ext.set ?_ (Nat.le_succ _) (get_push_old get_push_same) _))
    · (repeat' (first | (apply K_seq) | (apply K_region) | (apply O_at; rfl) | (apply O_fin; rfl) | (apply C_seq) | (apply K_ifT; rfl) | (apply K_ifF; rfl) | (apply K_block) | (apply K_skip) | (apply K_exit) | (apply K_ret) | (apply C_retS) | (apply C_retL) | (apply C_retB) | (apply C_exit) | (apply C_exitS) | (apply C_exitL) | (apply C_blockN) | (apply C_nil) | (apply P_skip; rfl; rfl; rfl) | (apply P_move; rfl; rfl; rfl; rfl) | (apply P_assign; rfl; rfl; rfl; rfl) | (apply P_fa; rfl; rfl; rfl; rfl; exact fo_ok rfl; (first | exact Nat.zero_add _ | exact Nat.add_zero _ | rfl)) | (apply P_len; rfl; rfl; rfl; rfl; rfl; rfl; exact un_ok rfl) | (apply P_pick; rfl; rfl; rfl; rfl; rfl; rfl) | (apply P_not; rfl; rfl; rfl; rfl) | (apply P_lssF; rfl; rfl; rfl; rfl; rfl; omega) | (apply P_lssT; rfl; rfl; rfl; rfl; rfl; omega) | (apply P_neqF; rfl; rfl; rfl; rfl; rfl; omega) | (apply P_neqT; rfl; rfl; rfl; rfl; rfl; omega) | (apply P_neq; rfl; rfl; rfl; rfl; rfl; all_goals intro _) | (apply P_add; rfl; rfl; rfl; rfl; rfl; (unfold fit; omega)) | (apply P_idxA; rfl; rfl; rfl; rfl; rfl; exact un_ok rfl; exact sz_ok rfl; (first | rfl | exact (Int.toNat_of_nonneg (by omega)).symm); omega) | (apply P_load1; rfl; rfl; rfl; rfl; exact on_ok rfl; (focus repeat' first | exact get_push_same | assumption | apply get_push_old | (apply Ext.get; assumption)); (first | rfl | assumption)) | (apply P_loadA; rfl; rfl; rfl; rfl; exact ag_ok rfl; (focus repeat' first | exact get_push_same | assumption | apply get_push_old | (apply Ext.get; assumption)); (first | exact Nat.le_of_ble_eq_true rfl | (simp; done) | (simp; omega) | (rw [spanCells_len]; omega) | (rw [ints_len]; omega)); rfl) | (apply P_box; rfl; rfl; rfl; rfl; exact sz_ok rfl; rfl; rfl) | fail))
      refine ⟨.inr rfl, _, rfl, .inl ⟨rfl, ⟨heq', fun j hj' => hjj j (by omega)⟩, ?_⟩⟩
      (focus repeat' first | exact Ext.refl _ | assumption | apply Ext.push | (refine Ext.trans ?_ (by assumption)) | (refine Ext.set ?_ (Nat.le_succ _) (get_push_old get_push_same) _))
  · exact ⟨Nat.zero_le _, Ext.refl _, fun j hj => by omega⟩
  · (focus repeat' first | rfl | exact trivial | apply And.intro)

/-- The sheets, among the first ones, that do not go on where the one before ends. -/
def jn (ss : List (List Int)) (s : Nat) : Nat → List Int
  | 0 => []
  | k + 1 => jn ss s k ++ if k = 0 ∨ ss.getD k [] = atP (ss.getD (k - 1) []) s (ss.getD (k - 1) []).length then [] else [(k : Int)]
theorem jn_len (ss : List (List Int)) (s : Nat) : ∀ k, (jn ss s k).length ≤ k := by
  intro k
  induction k with
  | zero => exact Nat.le_refl _
  | succ k ih => simp only [jn, List.length_append]; split <;> simp <;> omega
set_option maxHeartbeats 1000000 in
theorem joins_ok (hK : NoK K) {l : List (Int × Int)} {cap cap' R s : Nat} {p q : Option Addr} {guard : Int} {ss : List (List Int)} {h : Heap} (hl : l.length ≤ 1000) (hr : Rd h p (spanCells l)) (hP : PlanP l (R : Nat) guard) (hs : 1 ≤ s ∧ s ≤ R) (hrL : RdL h q ss) (hF : FirstsP l.length R s ss) :
    CallW Tryz.prog K 20 #[.agg #[.slice p l.length cap, .int .i64 (R : Nat), .int .i64 guard], .slice q ss.length cap', .int .i64 (s : Nat)] h (OkL (jn ss s ss.length) h) := by
  refine body (N := 51) Tryz.func20 rfl (hK _ _ _ rfl) rfl rfl ?_
  have hR : 1 ≤ R ∧ R ≤ 12 := by have := hP.2.2.1; omega
  have hb := shN_le (s := s) hR
  have hss := hF.1
  have hw : (1 : Int) ≤ (s : Nat) ∧ ((s : Nat) : Int) ≤ (R : Nat) := by omega
  have hsl : ss.length ≤ 1000 := by omega
  have hjl : ∀ j, j < ss.length → (ss.getD j []).length ≤ 1000 := fun j hj => by rw [(hF.2 j hj).1]; exact hl
  (repeat' (first | (apply K_seq) | (apply K_region) | (apply O_at; rfl) | (apply N_at; rfl) | (apply O_fin; rfl) | (apply C_seq) | (apply K_ifT; rfl) | (apply K_ifF; rfl) | (apply K_open; exact openOK_of (by decide +kernel)) | (apply K_block) | (apply K_skip) | (apply K_exit) | (apply K_ret) | (apply N_fin; rfl; exact (.inl (Nat.le_refl 1))) | (apply N_fin; rfl; refine .inr ?_; (focus repeat' first | exact trivial | exact Keeps.nil _ _ | apply And.intro | rfl | (apply Keeps.cons; (focus repeat' first | exact get_push_same | assumption | (apply Ext.get; assumption)); (focus repeat' first | exact get_push_same | assumption | (apply Ext.get; assumption))))) | (apply C_exit) | (apply C_exitS) | (apply C_exitL) | (apply C_blockN) | (apply C_nil) | (apply P_move; rfl; rfl; rfl; rfl) | (apply P_assign; rfl; rfl; rfl; rfl) | (apply P_fa; rfl; rfl; rfl; rfl; exact fo_ok rfl; (first | exact Nat.zero_add _ | exact Nat.add_zero _ | rfl)) | (apply P_len; rfl; rfl; rfl; rfl; rfl; rfl; exact un_ok rfl) | (apply P_pick; rfl; rfl; rfl; rfl; rfl; rfl) | (apply P_not; rfl; rfl; rfl; rfl) | (apply P_lssF; rfl; rfl; rfl; rfl; rfl; omega) | (apply P_lssT; rfl; rfl; rfl; rfl; rfl; omega) | (apply P_add; rfl; rfl; rfl; rfl; rfl; (unfold fit; omega)) | (apply P_load1; rfl; rfl; rfl; rfl; exact on_ok rfl; (focus repeat' first | exact get_push_same | assumption | (apply Ext.get; assumption)); (first | rfl | assumption)) | (apply P_loadA; rfl; rfl; rfl; rfl; exact ag_ok rfl; (focus repeat' first | exact get_push_same | assumption | (apply Ext.get; assumption)); (first | exact Nat.le_of_ble_eq_true rfl | (simp; done) | (simp; omega) | (rw [spanCells_len]; omega) | (rw [ints_len]; omega)); rfl) | (apply P_build1; rfl; rfl; rfl; rfl; rfl; rfl; rfl; exact c1_ok rfl) | (apply P_appI; rfl; rfl; rfl; rfl; rfl; rfl; rfl; rfl; exact c1_ok rfl; exact un_ok rfl; (focus repeat' first | exact get_push_same | assumption | (apply Ext.get; assumption)); (apply OutI.ext; assumption; (focus repeat' first | exact Ext.refl _ | assumption | apply Ext.push | (refine Ext.trans ?_ (by assumption)) | (refine Ext.set ?_ (Nat.le_succ _) (get_push_old get_push_same) _))); (focus repeat' first | exact Ext.refl _ | assumption | apply Ext.push | (refine Ext.trans ?_ (by assumption)) | (refine Ext.set ?_ (Nat.le_succ _) (get_push_old get_push_same) _)); (first | omega | (simp; omega)); (intro _ _ _ _)) | (apply P_box; rfl; rfl; rfl; rfl; exact sz_ok rfl; rfl; rfl) | (apply M_move; rfl; rfl; rfl; rfl) | (apply M_not; rfl; rfl; rfl; rfl) | (apply M_sub; rfl; rfl; rfl; rfl; rfl; (unfold fit; omega)) | (apply M_idxA; rfl; rfl; rfl; rfl; rfl; exact un_ok rfl; exact sz_ok rfl; (first | rfl | exact (Int.toNat_of_nonneg (by omega)).symm); omega) | (apply M_load1E; rfl; rfl; rfl; rfl; exact on_ok rfl; exact actsMost_0 (by decide +kernel); (focus repeat' first | exact get_push_same | assumption | (apply Ext.get; assumption)); (first | rfl | assumption); (first | exact same_slice _ _ _ | rfl | (simp [same, same.all2]; done)); (first | rfl | assumption | (focus apply within_get; (focus repeat' first | exact get_push_same | assumption | (apply Ext.get; assumption)); done) | (simp [within]; omega))) | (apply M_load1H; rfl; rfl; rfl; rfl; exact on_ok rfl; exact actsMost_1 (by decide +kernel); (focus repeat' first | exact get_push_same | assumption | (apply Ext.get; assumption)); (first | rfl | assumption); (first | exact same_slice _ _ _ | rfl | (simp [same, same.all2]; done)); (first | rfl | assumption | (focus apply within_get; (focus repeat' first | exact get_push_same | assumption | (apply Ext.get; assumption)); done) | (simp [within]; omega))) | (apply P_call; rfl; rfl; rfl; rfl; rfl; rfl; exact yes (isPlan_ok hK hl (hr.ext (by (focus repeat' first | exact Ext.refl _ | assumption | apply Ext.push | (refine Ext.trans ?_ (by assumption)) | (refine Ext.set ?_ (Nat.le_succ _) (get_push_old get_push_same) _))))) hP; (rintro _ _ ⟨rfl, _⟩)) | (apply M_call; rfl; rfl; rfl; rfl; rfl; rfl; rfl; exact yes (isPlan_ok hK hl (hr.ext (by (focus repeat' first | exact Ext.refl _ | assumption | apply Ext.push | (refine Ext.trans ?_ (by assumption)) | (refine Ext.set ?_ (Nat.le_succ _) (get_push_old get_push_same) _))))) hP; (rintro _ _ ⟨rfl, _⟩)) | (apply P_call; rfl; rfl; rfl; rfl; rfl; rfl; exact yes (within_ok hK) hw; (rintro _ _ ⟨rfl, _⟩)) | (apply M_call; rfl; rfl; rfl; rfl; rfl; rfl; rfl; exact yes (within_ok hK) hw; (rintro _ _ ⟨rfl, _⟩)) | (apply P_call; rfl; rfl; rfl; rfl; rfl; rfl; exact yes (areFirsts_ok hK hR hs hsl hjl (hrL.ext (by (focus repeat' first | exact Ext.refl _ | assumption | apply Ext.push | (refine Ext.trans ?_ (by assumption)) | (refine Ext.set ?_ (Nat.le_succ _) (get_push_old get_push_same) _))))) hF; (rintro _ _ ⟨rfl, _⟩)) | (apply M_call; rfl; rfl; rfl; rfl; rfl; rfl; rfl; exact yes (areFirsts_ok hK hR hs hsl hjl (hrL.ext (by (focus repeat' first | exact Ext.refl _ | assumption | apply Ext.push | (refine Ext.trans ?_ (by assumption)) | (refine Ext.set ?_ (Nat.le_succ _) (get_push_old get_push_same) _))))) hF; (rintro _ _ ⟨rfl, _⟩)) | fail))
  rename_i h1 x1 h2 x2 h3 x3
  rcases hrL with rfl | ⟨b, vs, e, own, rfl, hg, hvl, ha⟩
  · simp at hss; omega
  have hx3 : Ext h h3 := by (focus repeat' first | exact Ext.refl _ | assumption | apply Ext.push | (refine Ext.trans ?_ (by assumption)) | (refine Ext.set ?_ (Nat.le_succ _) (get_push_old get_push_same) _))
  have hg3 := hx3.get hg
  clear x1 x2 x3
  refine K_loopE (fun (a : Nat × Value) => [(9, .int .i64 (a.1 : Nat)), (8, a.2), (1, .slice (some ⟨b, 0, none⟩) ss.length cap'), (2, .int .i64 (s : Nat))])
    (fun a h' => 1 ≤ a.1 ∧ a.1 ≤ ss.length ∧ Ext h3 h' ∧ OutI 3 h3 h' a.2 (jn ss s a.1)) (fun a => ss.length - a.1) ?_ (1, .slice none 0 0) ?_ ?_
  · rintro ⟨k, o⟩ h' ⟨hk1, hk, hx, hj⟩ ih
    dsimp only at hk1 hk hj ih ⊢
    have hkl := jn_len ss s k
    have hg' := hx.get hg3
    by_cases hlt : k < ss.length
    · obtain ⟨qk, ck, hvk, rk⟩ := ha k hlt
      obtain ⟨qm, cm, hvm, rm⟩ := ha (k - 1) (by omega)
      have fk := hF.2 k hlt
      have fm := hF.2 (k - 1) (by omega)
      obtain ⟨bk, ek, ok, rfl, gk⟩ := rk.at (by rw [ints_len]; have := fk.2.1; omega)
      obtain ⟨bm, em, om, rfl, gm⟩ := rm.at (by rw [ints_len]; have := fm.2.1; omega)
      have gk' := hx.get (hx3.get gk)
      have gm' := hx.get (hx3.get gm)
      have hm0 : 0 < (ss.getD (k - 1) []).length := by have := fm.2.1; omega
      have hml := hjl (k - 1) (by omega)
      have hkl2 := hjl k hlt
      have hal : (atP (ss.getD (k - 1) []) s (ss.getD (k - 1) []).length).length ≤ 1000 := by rw [atP_len]; exact hml
      have hf : ∀ j, w64 ((ss.getD (k - 1) []).getD j 0) = (ss.getD (k - 1) []).getD j 0 := fun j => by
        by_cases hj : j < (ss.getD (k - 1) []).length
        · have := fm.2.2 j hj
          unfold NearP at this
          exact w64_small (by omega)
        · rw [show (ss.getD (k - 1) []).getD j 0 = 0 from by simp only [List.getD_eq_getElem?_getD (l := ss.getD (k - 1) []), List.getElem?_eq_none (Nat.not_lt.1 hj)]; rfl]; rfl
      have hkm : ((k : Int) - 1).toNat = k - 1 := by omega
      have hvm' : vs[((k : Int) - 1).toNat]? = some (.slice (some ⟨bm, 0, none⟩) (ss.getD (k - 1) []).length cm) := by rw [hkm]; exact hvm
      have hvk' : k < vs.length := by omega
      clear hg rk rm gk gm
      by_cases hE : ss.getD k [] = atP (ss.getD (k - 1) []) s (ss.getD (k - 1) []).length
      · (repeat' (first | (apply K_seq) | (apply K_region) | (apply O_at; rfl) | (apply N_at; rfl) | (apply O_fin; rfl) | (apply C_seq) | (apply K_ifT; rfl) | (apply K_ifF; rfl) | (apply K_open; exact openOK_of (by decide +kernel)) | (apply K_block) | (apply K_skip) | (apply K_exit) | (apply K_ret) | (apply N_fin; rfl; exact (.inl (Nat.le_refl 1))) | (apply N_fin; rfl; refine .inr ?_; (focus repeat' first | exact trivial | exact Keeps.nil _ _ | apply And.intro | rfl | (apply Keeps.cons; (focus repeat' first | exact get_push_same | assumption | (apply Ext.get; assumption)); (focus repeat' first | exact get_push_same | assumption | (apply Ext.get; assumption))))) | (apply C_exit) | (apply C_exitS) | (apply C_exitL) | (apply C_blockN) | (apply C_nil) | (apply P_move; rfl; rfl; rfl; rfl) | (apply P_assign; rfl; rfl; rfl; rfl) | (apply P_fa; rfl; rfl; rfl; rfl; exact fo_ok rfl; (first | exact Nat.zero_add _ | exact Nat.add_zero _ | rfl)) | (apply P_len; rfl; rfl; rfl; rfl; rfl; rfl; exact un_ok rfl) | (apply P_pick; rfl; rfl; rfl; rfl; rfl; rfl) | (apply P_not; rfl; rfl; rfl; rfl) | (apply P_lssF; rfl; rfl; rfl; rfl; rfl; omega) | (apply P_lssT; rfl; rfl; rfl; rfl; rfl; omega) | (apply P_add; rfl; rfl; rfl; rfl; rfl; (unfold fit; omega)) | (apply P_load1; rfl; rfl; rfl; rfl; exact on_ok rfl; (focus repeat' first | exact get_push_same | assumption | (apply Ext.get; assumption)); (first | rfl | assumption)) | (apply P_loadA; rfl; rfl; rfl; rfl; exact ag_ok rfl; (focus repeat' first | exact get_push_same | assumption | (apply Ext.get; assumption)); (first | exact Nat.le_of_ble_eq_true rfl | (simp; done) | (simp; omega) | (rw [spanCells_len]; omega) | (rw [ints_len]; omega)); rfl) | (apply P_build1; rfl; rfl; rfl; rfl; rfl; rfl; rfl; exact c1_ok rfl) | (apply P_appI; rfl; rfl; rfl; rfl; rfl; rfl; rfl; rfl; exact c1_ok rfl; exact un_ok rfl; (focus repeat' first | exact get_push_same | assumption | (apply Ext.get; assumption)); (apply OutI.ext; assumption; (focus repeat' first | exact Ext.refl _ | assumption | apply Ext.push | (refine Ext.trans ?_ (by assumption)) | (refine Ext.set ?_ (Nat.le_succ _) (get_push_old get_push_same) _))); (focus repeat' first | exact Ext.refl _ | assumption | apply Ext.push | (refine Ext.trans ?_ (by assumption)) | (refine Ext.set ?_ (Nat.le_succ _) (get_push_old get_push_same) _)); (first | omega | (simp; omega)); (intro _ _ _ _)) | (apply P_box; rfl; rfl; rfl; rfl; exact sz_ok rfl; rfl; rfl) | (apply M_move; rfl; rfl; rfl; rfl) | (apply M_not; rfl; rfl; rfl; rfl) | (apply M_sub; rfl; rfl; rfl; rfl; rfl; (unfold fit; omega)) | (apply M_idxA; rfl; rfl; rfl; rfl; rfl; exact un_ok rfl; exact sz_ok rfl; (first | rfl | exact (Int.toNat_of_nonneg (by omega)).symm); omega) | (apply M_load1E; rfl; rfl; rfl; rfl; exact on_ok rfl; exact actsMost_0 (by decide +kernel); (focus repeat' first | exact get_push_same | assumption | (apply Ext.get; assumption)); (first | rfl | assumption); (first | exact same_slice _ _ _ | rfl | (simp [same, same.all2]; done)); (first | rfl | assumption | (focus apply within_get; (focus repeat' first | exact get_push_same | assumption | (apply Ext.get; assumption)); done) | (simp [within]; omega))) | (apply M_load1H; rfl; rfl; rfl; rfl; exact on_ok rfl; exact actsMost_1 (by decide +kernel); (focus repeat' first | exact get_push_same | assumption | (apply Ext.get; assumption)); (first | rfl | assumption); (first | exact same_slice _ _ _ | rfl | (simp [same, same.all2]; done)); (first | rfl | assumption | (focus apply within_get; (focus repeat' first | exact get_push_same | assumption | (apply Ext.get; assumption)); done) | (simp [within]; omega))) | (apply P_call; rfl; rfl; rfl; rfl; rfl; rfl; exact down_ok hK hm0 hml (.inr ⟨_, _, _, rfl, by (focus repeat' first | exact get_push_same | assumption | apply get_push_old | (apply Ext.get; assumption) | (apply ExtBut.get; assumption; assumption))⟩) (by omega) hf; (rintro _ _ ⟨_, _, rfl, _, _⟩)) | (apply M_call; rfl; rfl; rfl; rfl; rfl; rfl; rfl; exact down_ok hK hm0 hml (.inr ⟨_, _, _, rfl, by (focus repeat' first | exact get_push_same | assumption | apply get_push_old | (apply Ext.get; assumption) | (apply ExtBut.get; assumption; assumption))⟩) (by omega) hf; (rintro _ _ ⟨_, _, rfl, _, _⟩)) | (apply P_call; rfl; rfl; rfl; rfl; rfl; rfl; exact yes (equal_ok hK hkl2 (.inr ⟨_, _, _, rfl, by (focus repeat' first | exact get_push_same | assumption | apply get_push_old | (apply Ext.get; assumption) | (apply ExtBut.get; assumption; assumption))⟩) hal (Rd.ext (by assumption) (by (focus repeat' first | exact Ext.refl _ | assumption | apply Ext.push | (refine Ext.trans ?_ (by assumption)) | (refine Ext.set ?_ (Nat.le_succ _) (get_push_old get_push_same) _))))) hE; (rintro _ _ ⟨rfl, _⟩)) | (apply M_call; rfl; rfl; rfl; rfl; rfl; rfl; rfl; exact yes (equal_ok hK hkl2 (.inr ⟨_, _, _, rfl, by (focus repeat' first | exact get_push_same | assumption | apply get_push_old | (apply Ext.get; assumption) | (apply ExtBut.get; assumption; assumption))⟩) hal (Rd.ext (by assumption) (by (focus repeat' first | exact Ext.refl _ | assumption | apply Ext.push | (refine Ext.trans ?_ (by assumption)) | (refine Ext.set ?_ (Nat.le_succ _) (get_push_old get_push_same) _))))) hE; (rintro _ _ ⟨rfl, _⟩)) | fail))
        refine C_again (ih (k + 1, o) _ ?_ ⟨by dsimp only; omega, hlt, by (focus repeat' first | exact Ext.refl _ | assumption | apply Ext.push | (refine Ext.trans ?_ (by assumption)) | (refine Ext.set ?_ (Nat.le_succ _) (get_push_old get_push_same) _)), ?_⟩) ?_
        · dsimp only; omega
        · simp only [jn]
          rw [if_pos (.inr hE), List.append_nil]
          exact hj.ext (by (focus repeat' first | exact Ext.refl _ | assumption | apply Ext.push | (refine Ext.trans ?_ (by assumption)) | (refine Ext.set ?_ (Nat.le_succ _) (get_push_old get_push_same) _)))
        · (focus repeat' first | rfl | exact trivial | apply And.intro)
      · (repeat' (first | (apply K_seq) | (apply K_region) | (apply O_at; rfl) | (apply N_at; rfl) | (apply O_fin; rfl) | (apply C_seq) | (apply K_ifT; rfl) | (apply K_ifF; rfl) | (apply K_open; exact openOK_of (by decide +kernel)) | (apply K_block) | (apply K_skip) | (apply K_exit) | (apply K_ret) | (apply N_fin; rfl; exact (.inl (Nat.le_refl 1))) | (apply N_fin; rfl; refine .inr ?_; (focus repeat' first | exact trivial | exact Keeps.nil _ _ | apply And.intro | rfl | (apply Keeps.cons; (focus repeat' first | exact get_push_same | assumption | (apply Ext.get; assumption)); (focus repeat' first | exact get_push_same | assumption | (apply Ext.get; assumption))))) | (apply C_exit) | (apply C_exitS) | (apply C_exitL) | (apply C_blockN) | (apply C_nil) | (apply P_move; rfl; rfl; rfl; rfl) | (apply P_assign; rfl; rfl; rfl; rfl) | (apply P_fa; rfl; rfl; rfl; rfl; exact fo_ok rfl; (first | exact Nat.zero_add _ | exact Nat.add_zero _ | rfl)) | (apply P_len; rfl; rfl; rfl; rfl; rfl; rfl; exact un_ok rfl) | (apply P_pick; rfl; rfl; rfl; rfl; rfl; rfl) | (apply P_not; rfl; rfl; rfl; rfl) | (apply P_lssF; rfl; rfl; rfl; rfl; rfl; omega) | (apply P_lssT; rfl; rfl; rfl; rfl; rfl; omega) | (apply P_add; rfl; rfl; rfl; rfl; rfl; (unfold fit; omega)) | (apply P_load1; rfl; rfl; rfl; rfl; exact on_ok rfl; (focus repeat' first | exact get_push_same | assumption | (apply Ext.get; assumption)); (first | rfl | assumption)) | (apply P_loadA; rfl; rfl; rfl; rfl; exact ag_ok rfl; (focus repeat' first | exact get_push_same | assumption | (apply Ext.get; assumption)); (first | exact Nat.le_of_ble_eq_true rfl | (simp; done) | (simp; omega) | (rw [spanCells_len]; omega) | (rw [ints_len]; omega)); rfl) | (apply P_build1; rfl; rfl; rfl; rfl; rfl; rfl; rfl; exact c1_ok rfl) | (apply P_appI; rfl; rfl; rfl; rfl; rfl; rfl; rfl; rfl; exact c1_ok rfl; exact un_ok rfl; (focus repeat' first | exact get_push_same | assumption | (apply Ext.get; assumption)); (apply OutI.ext; assumption; (focus repeat' first | exact Ext.refl _ | assumption | apply Ext.push | (refine Ext.trans ?_ (by assumption)) | (refine Ext.set ?_ (Nat.le_succ _) (get_push_old get_push_same) _))); (focus repeat' first | exact Ext.refl _ | assumption | apply Ext.push | (refine Ext.trans ?_ (by assumption)) | (refine Ext.set ?_ (Nat.le_succ _) (get_push_old get_push_same) _)); (first | omega | (simp; omega)); (intro _ _ _ _)) | (apply P_box; rfl; rfl; rfl; rfl; exact sz_ok rfl; rfl; rfl) | (apply M_move; rfl; rfl; rfl; rfl) | (apply M_not; rfl; rfl; rfl; rfl) | (apply M_sub; rfl; rfl; rfl; rfl; rfl; (unfold fit; omega)) | (apply M_idxA; rfl; rfl; rfl; rfl; rfl; exact un_ok rfl; exact sz_ok rfl; (first | rfl | exact (Int.toNat_of_nonneg (by omega)).symm); omega) | (apply M_load1E; rfl; rfl; rfl; rfl; exact on_ok rfl; exact actsMost_0 (by decide +kernel); (focus repeat' first | exact get_push_same | assumption | (apply Ext.get; assumption)); (first | rfl | assumption); (first | exact same_slice _ _ _ | rfl | (simp [same, same.all2]; done)); (first | rfl | assumption | (focus apply within_get; (focus repeat' first | exact get_push_same | assumption | (apply Ext.get; assumption)); done) | (simp [within]; omega))) | (apply M_load1H; rfl; rfl; rfl; rfl; exact on_ok rfl; exact actsMost_1 (by decide +kernel); (focus repeat' first | exact get_push_same | assumption | (apply Ext.get; assumption)); (first | rfl | assumption); (first | exact same_slice _ _ _ | rfl | (simp [same, same.all2]; done)); (first | rfl | assumption | (focus apply within_get; (focus repeat' first | exact get_push_same | assumption | (apply Ext.get; assumption)); done) | (simp [within]; omega))) | (apply P_call; rfl; rfl; rfl; rfl; rfl; rfl; exact down_ok hK hm0 hml (.inr ⟨_, _, _, rfl, by (focus repeat' first | exact get_push_same | assumption | apply get_push_old | (apply Ext.get; assumption) | (apply ExtBut.get; assumption; assumption))⟩) (by omega) hf; (rintro _ _ ⟨_, _, rfl, _, _⟩)) | (apply M_call; rfl; rfl; rfl; rfl; rfl; rfl; rfl; exact down_ok hK hm0 hml (.inr ⟨_, _, _, rfl, by (focus repeat' first | exact get_push_same | assumption | apply get_push_old | (apply Ext.get; assumption) | (apply ExtBut.get; assumption; assumption))⟩) (by omega) hf; (rintro _ _ ⟨_, _, rfl, _, _⟩)) | (apply P_call; rfl; rfl; rfl; rfl; rfl; rfl; exact no (equal_ok hK hkl2 (.inr ⟨_, _, _, rfl, by (focus repeat' first | exact get_push_same | assumption | apply get_push_old | (apply Ext.get; assumption) | (apply ExtBut.get; assumption; assumption))⟩) hal (Rd.ext (by assumption) (by (focus repeat' first | exact Ext.refl _ | assumption | apply Ext.push | (refine Ext.trans ?_ (by assumption)) | (refine Ext.set ?_ (Nat.le_succ _) (get_push_old get_push_same) _))))) hE; (rintro _ _ ⟨rfl, _⟩)) | (apply M_call; rfl; rfl; rfl; rfl; rfl; rfl; rfl; exact no (equal_ok hK hkl2 (.inr ⟨_, _, _, rfl, by (focus repeat' first | exact get_push_same | assumption | apply get_push_old | (apply Ext.get; assumption) | (apply ExtBut.get; assumption; assumption))⟩) hal (Rd.ext (by assumption) (by (focus repeat' first | exact Ext.refl _ | assumption | apply Ext.push | (refine Ext.trans ?_ (by assumption)) | (refine Ext.set ?_ (Nat.le_succ _) (get_push_old get_push_same) _))))) hE; (rintro _ _ ⟨rfl, _⟩)) | fail))
        rename_i v1 h9 ho hx9
        refine C_again (ih (k + 1, v1) _ ?_ ⟨by dsimp only; omega, hlt, hx9, ?_⟩) ?_
        · dsimp only; omega
        · simp only [jn]
          rw [if_neg (fun q => q.elim (fun q => by omega) hE)]
          exact ho
        · (focus repeat' first | rfl | exact trivial | apply And.intro)
    · have hke : k = ss.length := by omega
      rw [hke] at hj
      obtain ⟨po, co, rfl, ro, xo⟩ := hj.isL hx
      (repeat' (first | (apply K_seq) | (apply K_region) | (apply O_at; rfl) | (apply N_at; rfl) | (apply O_fin; rfl) | (apply C_seq) | (apply K_ifT; rfl) | (apply K_ifF; rfl) | (apply K_open; exact openOK_of (by decide +kernel)) | (apply K_block) | (apply K_skip) | (apply K_exit) | (apply K_ret) | (apply N_fin; rfl; exact (.inl (Nat.le_refl 1))) | (apply N_fin; rfl; refine .inr ?_; (focus repeat' first | exact trivial | exact Keeps.nil _ _ | apply And.intro | rfl | (apply Keeps.cons; (focus repeat' first | exact get_push_same | assumption | (apply Ext.get; assumption)); (focus repeat' first | exact get_push_same | assumption | (apply Ext.get; assumption))))) | (apply C_exit) | (apply C_exitS) | (apply C_exitL) | (apply C_blockN) | (apply C_nil) | (apply P_move; rfl; rfl; rfl; rfl) | (apply P_assign; rfl; rfl; rfl; rfl) | (apply P_fa; rfl; rfl; rfl; rfl; exact fo_ok rfl; (first | exact Nat.zero_add _ | exact Nat.add_zero _ | rfl)) | (apply P_len; rfl; rfl; rfl; rfl; rfl; rfl; exact un_ok rfl) | (apply P_pick; rfl; rfl; rfl; rfl; rfl; rfl) | (apply P_not; rfl; rfl; rfl; rfl) | (apply P_lssF; rfl; rfl; rfl; rfl; rfl; omega) | (apply P_lssT; rfl; rfl; rfl; rfl; rfl; omega) | (apply P_add; rfl; rfl; rfl; rfl; rfl; (unfold fit; omega)) | (apply P_load1; rfl; rfl; rfl; rfl; exact on_ok rfl; (focus repeat' first | exact get_push_same | assumption | (apply Ext.get; assumption)); (first | rfl | assumption)) | (apply P_loadA; rfl; rfl; rfl; rfl; exact ag_ok rfl; (focus repeat' first | exact get_push_same | assumption | (apply Ext.get; assumption)); (first | exact Nat.le_of_ble_eq_true rfl | (simp; done) | (simp; omega) | (rw [spanCells_len]; omega) | (rw [ints_len]; omega)); rfl) | (apply P_build1; rfl; rfl; rfl; rfl; rfl; rfl; rfl; exact c1_ok rfl) | (apply P_appI; rfl; rfl; rfl; rfl; rfl; rfl; rfl; rfl; exact c1_ok rfl; exact un_ok rfl; (focus repeat' first | exact get_push_same | assumption | (apply Ext.get; assumption)); (apply OutI.ext; assumption; (focus repeat' first | exact Ext.refl _ | assumption | apply Ext.push | (refine Ext.trans ?_ (by assumption)) | (refine Ext.set ?_ (Nat.le_succ _) (get_push_old get_push_same) _))); (focus repeat' first | exact Ext.refl _ | assumption | apply Ext.push | (refine Ext.trans ?_ (by assumption)) | (refine Ext.set ?_ (Nat.le_succ _) (get_push_old get_push_same) _)); (first | omega | (simp; omega)); (intro _ _ _ _)) | (apply P_box; rfl; rfl; rfl; rfl; exact sz_ok rfl; rfl; rfl) | (apply M_move; rfl; rfl; rfl; rfl) | (apply M_not; rfl; rfl; rfl; rfl) | (apply M_sub; rfl; rfl; rfl; rfl; rfl; (unfold fit; omega)) | (apply M_idxA; rfl; rfl; rfl; rfl; rfl; exact un_ok rfl; exact sz_ok rfl; (first | rfl | exact (Int.toNat_of_nonneg (by omega)).symm); omega) | (apply M_load1E; rfl; rfl; rfl; rfl; exact on_ok rfl; exact actsMost_0 (by decide +kernel); (focus repeat' first | exact get_push_same | assumption | (apply Ext.get; assumption)); (first | rfl | assumption); (first | exact same_slice _ _ _ | rfl | (simp [same, same.all2]; done)); (first | rfl | assumption | (focus apply within_get; (focus repeat' first | exact get_push_same | assumption | (apply Ext.get; assumption)); done) | (simp [within]; omega))) | (apply M_load1H; rfl; rfl; rfl; rfl; exact on_ok rfl; exact actsMost_1 (by decide +kernel); (focus repeat' first | exact get_push_same | assumption | (apply Ext.get; assumption)); (first | rfl | assumption); (first | exact same_slice _ _ _ | rfl | (simp [same, same.all2]; done)); (first | rfl | assumption | (focus apply within_get; (focus repeat' first | exact get_push_same | assumption | (apply Ext.get; assumption)); done) | (simp [within]; omega))) | fail))
      exact ⟨.inr rfl, _, rfl, po, co, rfl, ro, hx3.trans xo⟩
  · exact ⟨Nat.le_refl _, by dsimp only; omega, Ext.refl _, by simp only [jn]; exact OutI.nil _ _ _⟩
  · (focus repeat' first | rfl | exact trivial | apply And.intro)
end Go.AX.Sa

namespace Go.AX.Sa
open Go.Proofs
set_option maxRecDepth 100000

/-! All sheets of a truth join; what one changed number does. -/
theorem w64_idem (a : Int) : w64 (w64 a) = w64 a := by
  have := w64_add a 0
  rw [show w64 0 = 0 from rfl, Int.add_zero, Int.add_zero] at this
  exact this
theorem atP_small (t : List Int) (r n j : Nat) : w64 ((atP t r n).getD j 0) = (atP t r n).getD j 0 := by
  by_cases h : j < n
  · rw [atP_get h, w64_idem]
  · rw [show (atP t r n).getD j 0 = 0 from by simp only [List.getD_eq_getElem?_getD, List.getElem?_eq_none (show (atP t r n).length ≤ j by rw [atP_len]; omega)]; rfl]; rfl
/-- Rows after rows. -/
theorem atP_atP (t : List Int) (r : Nat) : ∀ s, atP (atP t r t.length) s t.length = atP t (r + s) t.length := by
  have hm : (atP t r t.length).length = t.length := atP_len _ _ _
  intro s
  induction s with
  | zero =>
    have := atP_zero (t := atP t r t.length) (atP_small t r t.length)
    rw [hm] at this
    exact this
  | succ s ih =>
    refine list_eq (by rw [atP_len, atP_len]) fun j hj => ?_
    rw [atP_len] at hj
    have e1 := atP_next (t := atP t r t.length) (r := s) (i := j) (by rw [hm]; exact hj)
    have e2 := atP_next (t := t) (r := r + s) (i := j) hj
    rw [hm, ih] at e1
    rw [e1, show r + (s + 1) = r + s + 1 from rfl, e2]
/-- The first rows of the sheets of a truth. -/
def cutS (t : List Int) (s S : Nat) : List (List Int) := (List.range S).map fun j => atP t (j * s) t.length
theorem cutS_len (t : List Int) (s S : Nat) : (cutS t s S).length = S := by simp [cutS]
theorem cutS_get {t : List Int} {s S j : Nat} (h : j < S) : (cutS t s S).getD j [] = atP t (j * s) t.length := by
  simp [cutS, List.getD_eq_getElem?_getD, h]
theorem cut_firsts {l : List (Int × Int)} {t : List Int} {R s : Nat} {guard : Int} (hP : PlanP l (R : Nat) guard) (hT : TruthP l t) (hs : 1 ≤ s ∧ s ≤ R) : FirstsP l.length R s (cutS t s (shN R s)) := by
  have hR := hP.2.2.1
  refine ⟨cutS_len _ _ _, fun j hj => ?_⟩
  rw [cutS_len] at hj
  have hk := shN_lt (by omega) (by omega) hj
  rw [cutS_get hj]
  exact ⟨by rw [atP_len, hT.1], state_near hP hT (by omega)⟩
theorem cut_next {t : List Int} {s S k : Nat} (hk : 1 ≤ k) (h : k < S) : (cutS t s S).getD k [] = atP ((cutS t s S).getD (k - 1) []) s ((cutS t s S).getD (k - 1) []).length := by
  rw [cutS_get h, cutS_get (by omega), atP_len, atP_atP]
  congr 1
  obtain ⟨k, rfl⟩ : ∃ j, k = j + 1 := ⟨k - 1, by omega⟩
  rw [Nat.add_sub_cancel, Nat.add_mul, Nat.one_mul]
theorem cut_joins {t : List Int} {s S : Nat} : ∀ k, k ≤ S → jn (cutS t s S) s k = [] := by
  intro k
  induction k with
  | zero => intro _; rfl
  | succ k ih =>
    intro h
    rw [jn, ih (by omega), List.nil_append, if_pos]
    by_cases q : k = 0
    · exact .inl q
    · exact .inr (cut_next (by omega) (by omega))

theorem choose_zero (r : Nat) : choose r 0 = 1 := by cases r <;> rfl
theorem st_set {t : List Int} {r m : Nat} {v : Int} (h : m < t.length) : st (t.set m v) r m = st t r m + (v - t.getD m 0) := by
  unfold st
  rw [List.drop_eq_getElem_cons (by simpa using h : m < (t.set m v).length), List.drop_eq_getElem_cons h, List.drop_set_of_lt (by omega)]
  simp only [sumC, choose_zero, List.getElem_set_self, List.getD_eq_getElem?_getD, List.getElem?_eq_getElem h, Option.getD_some]
  omega
/-- One number of one first row is changed. -/
def chg (ss : List (List Int)) (i m : Nat) (by_ : Int) : List (List Int) := ss.set i ((ss.getD i []).set m ((ss.getD i []).getD m 0 + by_))
theorem chg_len (ss : List (List Int)) (i m : Nat) (d : Int) : (chg ss i m d).length = ss.length := by simp [chg]
theorem chg_same {ss : List (List Int)} {i m : Nat} {d : Int} (h : i < ss.length) : (chg ss i m d).getD i [] = (ss.getD i []).set m ((ss.getD i []).getD m 0 + d) := by
  simp [chg, List.getD_eq_getElem?_getD, h]
theorem chg_other {ss : List (List Int)} {i m j : Nat} {d : Int} (h : j ≠ i) : (chg ss i m d).getD j [] = ss.getD j [] := by
  simp only [chg, List.getD_eq_getElem?_getD]
  rw [List.getElem?_set_ne (fun q => h q.symm)]
theorem st_w64 {l : List (Int × Int)} {t : List Int} {r j : Nat} {rows guard : Int} (hP : PlanP l rows guard) (hT : TruthP l t) (hr : r < 12) : -23199768 ≤ st t r j ∧ st t r j ≤ 23199768 :=
  sumC_drop (t := t) (by have := hP.1; have := hT.1; omega) hr fun i hi => by
    have a := hT.2 i hi
    have b := hP.2.1 i (by have := hT.1; omega)
    unfold StartP at b
    omega
section
variable {l : List (Int × Int)} {t : List Int} {R s i m : Nat} {guard d : Int}
theorem chg_firsts (hP : PlanP l (R : Nat) guard) (hT : TruthP l t) (hs : 1 ≤ s ∧ s ≤ R) (hi : i < shN R s) (hm : m < t.length) (hd : -1000 ≤ d ∧ d ≤ 1000) : FirstsP l.length R s (chg (cutS t s (shN R s)) i m d) := by
  have hF := cut_firsts hP hT hs
  have hR := hP.2.2.1
  refine ⟨by rw [chg_len]; exact hF.1, fun j hj => ?_⟩
  rw [chg_len] at hj
  by_cases q : j = i
  · subst q
    obtain ⟨h1, h2, h3⟩ := hF.2 j hj
    rw [chg_same hj]
    refine ⟨by simpa using h1, by simpa using h2, fun k hk => ?_⟩
    rw [List.length_set] at hk
    have hml : m < ((cutS t s (shN R s)).getD j []).length := by rw [h1, ← hT.1]; exact hm
    rw [getD_set hml]
    split
    · rw [cutS_get hi, atP_get hm, w64_small (by have := st_w64 (j := m) hP hT (show j * s < 12 by have := shN_lt (by omega) (by omega) hi; omega); omega)]
      have := st_w64 (j := m) hP hT (show j * s < 12 by have := shN_lt (by omega) (by omega) hi; omega)
      unfold NearP
      omega
    · exact h3 k hk
  · rw [chg_other q]; exact hF.2 j hj
/-- Which sheets join then. -/
theorem chg_next (hP : PlanP l (R : Nat) guard) (hT : TruthP l t) (hs : 1 ≤ s ∧ s ≤ R) (hi : i < shN R s) (hm : m < t.length) (hd : -1000 ≤ d ∧ d ≤ 1000) (hd0 : d ≠ 0) {k : Nat} (hk1 : 1 ≤ k) (hk : k < shN R s) :
    (chg (cutS t s (shN R s)) i m d).getD k [] = atP ((chg (cutS t s (shN R s)) i m d).getD (k - 1) []) s ((chg (cutS t s (shN R s)) i m d).getD (k - 1) []).length ↔ k ≠ i ∧ k ≠ i + 1 := by
  have hR := hP.2.2.1
  have hn := cut_next (t := t) (s := s) hk1 hk
  have hil : i < (cutS t s (shN R s)).length := by rw [cutS_len]; exact hi
  have hks := shN_lt (by omega) (by omega) hk
  have hb := st_w64 (j := m) hP hT (show k * s < 12 by omega)
  have hv : (atP t (k * s) t.length).getD m 0 = st t (k * s) m := by rw [atP_get hm, w64_small (by omega)]
  by_cases q : k = i
  · subst q
    rw [chg_same hil, chg_other (show k - 1 ≠ k by omega), ← hn, cutS_get hk]
    refine ⟨fun e => ?_, fun e => absurd rfl e.1⟩
    have := congrArg (fun x => List.getD x m 0) e
    rw [getD_set (by rw [atP_len]; exact hm), if_pos rfl, hv] at this
    omega
  · by_cases q2 : k = i + 1
    · subst q2
      rw [chg_other q, Nat.add_sub_cancel, chg_same hil, hn, Nat.add_sub_cancel]
      refine ⟨fun e => ?_, fun e => absurd rfl e.2⟩
      have e2 := congrArg (fun x => List.getD x m 0) e
      have hc : ((cutS t s (shN R s)).getD i []).length = t.length := by rw [cutS_get hi, atP_len]
      rw [List.length_set, hc, atP_get hm, atP_get hm, st_set (by rw [hc]; exact hm)] at e2
      have e3 : w64 (st ((cutS t s (shN R s)).getD i []) s m) = st t ((i + 1) * s) m := by
        have := congrArg (fun x => List.getD x m 0) hn
        rw [Nat.add_sub_cancel, hc, atP_get hm, cutS_get hk, hv] at this
        exact this.symm
      rw [show st ((cutS t s (shN R s)).getD i []) s m + (((cutS t s (shN R s)).getD i []).getD m 0 + d - ((cutS t s (shN R s)).getD i []).getD m 0) = st ((cutS t s (shN R s)).getD i []) s m + d from by omega, ← w64_add, e3] at e2
      rw [w64_small (n := d) (by omega), w64_small (n := st t ((i + 1) * s) m + d) (by omega)] at e2
      omega
    · rw [chg_other q, chg_other (show k - 1 ≠ i by omega)]
      exact ⟨fun _ => ⟨q, q2⟩, fun _ => hn⟩
/-- What the law wants. -/
def wantL (i S : Nat) : List Int := (if 0 < i ∧ i < S then [(i : Int)] else []) ++ (if i + 1 < S then [((i + 1 : Nat) : Int)] else [])
theorem chg_joins (hP : PlanP l (R : Nat) guard) (hT : TruthP l t) (hs : 1 ≤ s ∧ s ≤ R) (hi : i < shN R s) (hm : m < t.length) (hd : -1000 ≤ d ∧ d ≤ 1000) (hd0 : d ≠ 0) : ∀ k, k ≤ shN R s → jn (chg (cutS t s (shN R s)) i m d) s k = wantL i k := by
  intro k
  induction k with
  | zero => intro _; simp [jn, wantL]
  | succ k ih =>
    intro h
    rw [jn, ih (by omega)]
    by_cases q : k = 0
    · subst q
      rw [if_pos (.inl rfl)]
      unfold wantL
      rw [if_neg (by omega), if_neg (by omega), if_neg (by omega), if_neg (by omega)]; rfl
    · have hc := chg_next hP hT hs hi hm hd hd0 (k := k) (by omega) (by omega)
      by_cases q1 : k = i
      · rw [if_neg (fun e => e.elim q fun e => (hc.1 e).1 q1)]
        subst q1
        unfold wantL
        rw [if_neg (by omega), if_neg (by omega), if_pos (by omega), if_neg (by omega)]; rfl
      · by_cases q2 : k = i + 1
        · rw [if_neg (fun e => e.elim q fun e => (hc.1 e).2 q2)]
          subst q2
          unfold wantL
          by_cases h0 : 0 < i
          · rw [if_pos (by omega), if_neg (by omega), if_pos (by omega), if_pos (by omega)]; rfl
          · rw [if_neg (by omega), if_neg (by omega), if_neg (by omega), if_pos (by omega)]; rfl
        · rw [if_pos (.inr (hc.2 ⟨q1, q2⟩)), List.append_nil]
          unfold wantL
          have e1 : (0 < i ∧ i < k) ↔ (0 < i ∧ i < k + 1) := by omega
          have e2 : i + 1 < k ↔ i + 1 < k + 1 := by omega
          simp only [e1, e2]
end
end Go.AX.Sa
