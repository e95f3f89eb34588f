/- Tables in a truth; fewer truths have narrower bounds; copies of notes. -/
import Derived.Test.YtfbeibiokpaicaaGreatDoorSwB
import Derived.Test.YtfbeibiokpaicaaGreatDoorSwA
import Derived.Test.YtfbeibiokpaicaaGreatDoorSwM
namespace Go.AX.Sa
open Go.Proofs
set_option maxRecDepth 100000
variable {K : Known}

theorem right_long (hK : NoK K) {n m cap cap' : Nat} {p q : Option Addr} {rows guard : Int} {h : Heap} (hn : ¬ (n ≤ 6 ∧ m ≤ 6)) :
    CallW Tryz.prog K 24 #[.agg #[.slice p n cap, .int .i64 rows, .int .i64 guard], .slice q m cap'] h (IsV (.bool false) h) := by
  refine body (N := 21) Tryz.func24 rfl (hK _ _ _ rfl) rfl rfl ?_
  by_cases h1 : n ≤ 6
  · (repeat' (first | (apply K_seq) | (apply K_region) | (apply O_at; rfl) | (apply O_fin; rfl) | (apply C_seq) | (apply K_ret) | (apply C_nil) | (apply P_skip; rfl; rfl; rfl) | (apply P_move; rfl; rfl; rfl; rfl) | (apply P_assign; rfl; rfl; rfl; rfl) | (apply P_len; rfl; rfl; rfl; rfl; rfl; rfl; exact un_ok rfl) | (apply P_pick; rfl; rfl; rfl; rfl; rfl; rfl) | (apply P_leq; rfl; rfl; rfl; rfl; rfl; all_goals intro _) | (apply P_loadA; rfl; rfl; rfl; rfl; exact ag_ok rfl; (focus repeat' first | exact get_push_same | assumption | (apply Ext.get; assumption)); (first | exact Nat.le_of_ble_eq_true rfl | (simp; done) | (simp; omega) | (rw [spanCells_len]; omega) | (rw [ints_len]; omega)); rfl) | (apply P_box; rfl; rfl; rfl; rfl; exact sz_ok rfl; rfl; rfl) | (apply P_call; rfl; rfl; rfl; rfl; rfl; rfl; exact yes (short_ok hK) h1; (rintro _ _ ⟨rfl, _⟩)) | fail))
    all_goals (first | (exfalso; omega) | exact ⟨.inr rfl, _, rfl, rfl, by (focus repeat' first | exact Ext.refl _ | assumption | apply Ext.push | (refine Ext.trans ?_ (by assumption)) | (refine Ext.set ?_ (Nat.le_succ _) (get_push_old get_push_same) _))⟩)
  · (repeat' (first | (apply K_seq) | (apply K_region) | (apply O_at; rfl) | (apply O_fin; rfl) | (apply C_seq) | (apply K_ret) | (apply C_nil) | (apply P_skip; rfl; rfl; rfl) | (apply P_move; rfl; rfl; rfl; rfl) | (apply P_assign; rfl; rfl; rfl; rfl) | (apply P_len; rfl; rfl; rfl; rfl; rfl; rfl; exact un_ok rfl) | (apply P_pick; rfl; rfl; rfl; rfl; rfl; rfl) | (apply P_leq; rfl; rfl; rfl; rfl; rfl; all_goals intro _) | (apply P_loadA; rfl; rfl; rfl; rfl; exact ag_ok rfl; (focus repeat' first | exact get_push_same | assumption | (apply Ext.get; assumption)); (first | exact Nat.le_of_ble_eq_true rfl | (simp; done) | (simp; omega) | (rw [spanCells_len]; omega) | (rw [ints_len]; omega)); rfl) | (apply P_box; rfl; rfl; rfl; rfl; exact sz_ok rfl; rfl; rfl) | (apply P_call; rfl; rfl; rfl; rfl; rfl; rfl; exact no (short_ok hK) h1; (rintro _ _ ⟨rfl, _⟩)) | fail))
    exact ⟨.inr rfl, _, rfl, rfl, by (focus repeat' first | exact Ext.refl _ | assumption | apply Ext.push | (refine Ext.trans ?_ (by assumption)) | (refine Ext.set ?_ (Nat.le_succ _) (get_push_old get_push_same) _))⟩
theorem right_ok (hK : NoK K) {l : List (Int × Int)} {t : List Int} {cap cap' : Nat} {p q : Option Addr} {rows guard : Int} {h : Heap} (hn : l.length ≤ 6) (hm : t.length ≤ 6) (hr : Rd h p (spanCells l)) (hr' : Rd h q (ints t)) :
    CallW Tryz.prog K 24 #[.agg #[.slice p l.length cap, .int .i64 rows, .int .i64 guard], .slice q t.length cap'] h (IfB (PlanP l rows guard ∧ TruthP l t) h) := by
  refine body (N := 21) Tryz.func24 rfl (hK _ _ _ rfl) rfl rfl ?_
  have hl : l.length ≤ 1000 := by omega
  have hl' : t.length ≤ 1000 := by omega
  by_cases hP : PlanP l rows guard
  · by_cases hT : TruthP l t
    · (repeat' (first | (apply K_seq) | (apply K_region) | (apply O_at; rfl) | (apply O_fin; rfl) | (apply C_seq) | (apply K_ret) | (apply C_nil) | (apply P_skip; rfl; rfl; rfl) | (apply P_move; rfl; rfl; rfl; rfl) | (apply P_assign; rfl; rfl; rfl; rfl) | (apply P_len; rfl; rfl; rfl; rfl; rfl; rfl; exact un_ok rfl) | (apply P_pick; rfl; rfl; rfl; rfl; rfl; rfl) | (apply P_leq; rfl; rfl; rfl; rfl; rfl; all_goals intro _) | (apply P_loadA; rfl; rfl; rfl; rfl; exact ag_ok rfl; (focus repeat' first | exact get_push_same | assumption | (apply Ext.get; assumption)); (first | exact Nat.le_of_ble_eq_true rfl | (simp; done) | (simp; omega) | (rw [spanCells_len]; omega) | (rw [ints_len]; omega)); rfl) | (apply P_box; rfl; rfl; rfl; rfl; exact sz_ok rfl; rfl; rfl) | (apply P_call; rfl; rfl; rfl; rfl; rfl; rfl; exact yes (short_ok hK) hn; (rintro _ _ ⟨rfl, _⟩)) | (apply P_call; rfl; rfl; rfl; rfl; rfl; rfl; exact yes (plan_ok hK hl (hr.ext (by (focus repeat' first | exact Ext.refl _ | assumption | apply Ext.push | (refine Ext.trans ?_ (by assumption)) | (refine Ext.set ?_ (Nat.le_succ _) (get_push_old get_push_same) _))))) hP; (rintro _ _ ⟨rfl, _⟩)) | (apply P_call; rfl; rfl; rfl; rfl; rfl; rfl; exact yes (truth_ok hK hl (hr.ext (by (focus repeat' first | exact Ext.refl _ | assumption | apply Ext.push | (refine Ext.trans ?_ (by assumption)) | (refine Ext.set ?_ (Nat.le_succ _) (get_push_old get_push_same) _)))) hl' (hr'.ext (by (focus repeat' first | exact Ext.refl _ | assumption | apply Ext.push | (refine Ext.trans ?_ (by assumption)) | (refine Ext.set ?_ (Nat.le_succ _) (get_push_old get_push_same) _))))) hT; (rintro _ _ ⟨rfl, _⟩)) | fail))
      · exact ⟨.inr rfl, _, rfl, .inl ⟨rfl, ⟨hP, hT⟩, by (focus repeat' first | exact Ext.refl _ | assumption | apply Ext.push | (refine Ext.trans ?_ (by assumption)) | (refine Ext.set ?_ (Nat.le_succ _) (get_push_old get_push_same) _))⟩⟩
      · omega
    · (repeat' (first | (apply K_seq) | (apply K_region) | (apply O_at; rfl) | (apply O_fin; rfl) | (apply C_seq) | (apply K_ret) | (apply C_nil) | (apply P_skip; rfl; rfl; rfl) | (apply P_move; rfl; rfl; rfl; rfl) | (apply P_assign; rfl; rfl; rfl; rfl) | (apply P_len; rfl; rfl; rfl; rfl; rfl; rfl; exact un_ok rfl) | (apply P_pick; rfl; rfl; rfl; rfl; rfl; rfl) | (apply P_leq; rfl; rfl; rfl; rfl; rfl; all_goals intro _) | (apply P_loadA; rfl; rfl; rfl; rfl; exact ag_ok rfl; (focus repeat' first | exact get_push_same | assumption | (apply Ext.get; assumption)); (first | exact Nat.le_of_ble_eq_true rfl | (simp; done) | (simp; omega) | (rw [spanCells_len]; omega) | (rw [ints_len]; omega)); rfl) | (apply P_box; rfl; rfl; rfl; rfl; exact sz_ok rfl; rfl; rfl) | (apply P_call; rfl; rfl; rfl; rfl; rfl; rfl; exact yes (short_ok hK) hn; (rintro _ _ ⟨rfl, _⟩)) | (apply P_call; rfl; rfl; rfl; rfl; rfl; rfl; exact yes (plan_ok hK hl (hr.ext (by (focus repeat' first | exact Ext.refl _ | assumption | apply Ext.push | (refine Ext.trans ?_ (by assumption)) | (refine Ext.set ?_ (Nat.le_succ _) (get_push_old get_push_same) _))))) hP; (rintro _ _ ⟨rfl, _⟩)) | (apply P_call; rfl; rfl; rfl; rfl; rfl; rfl; exact no (truth_ok hK hl (hr.ext (by (focus repeat' first | exact Ext.refl _ | assumption | apply Ext.push | (refine Ext.trans ?_ (by assumption)) | (refine Ext.set ?_ (Nat.le_succ _) (get_push_old get_push_same) _)))) hl' (hr'.ext (by (focus repeat' first | exact Ext.refl _ | assumption | apply Ext.push | (refine Ext.trans ?_ (by assumption)) | (refine Ext.set ?_ (Nat.le_succ _) (get_push_old get_push_same) _))))) hT; (rintro _ _ ⟨rfl, _⟩)) | fail))
      · exact ⟨.inr rfl, _, rfl, .inr ⟨rfl, fun q => hT q.2, by (focus repeat' first | exact Ext.refl _ | assumption | apply Ext.push | (refine Ext.trans ?_ (by assumption)) | (refine Ext.set ?_ (Nat.le_succ _) (get_push_old get_push_same) _))⟩⟩
      · omega
  · (repeat' (first | (apply K_seq) | (apply K_region) | (apply O_at; rfl) | (apply O_fin; rfl) | (apply C_seq) | (apply K_ret) | (apply C_nil) | (apply P_skip; rfl; rfl; rfl) | (apply P_move; rfl; rfl; rfl; rfl) | (apply P_assign; rfl; rfl; rfl; rfl) | (apply P_len; rfl; rfl; rfl; rfl; rfl; rfl; exact un_ok rfl) | (apply P_pick; rfl; rfl; rfl; rfl; rfl; rfl) | (apply P_leq; rfl; rfl; rfl; rfl; rfl; all_goals intro _) | (apply P_loadA; rfl; rfl; rfl; rfl; exact ag_ok rfl; (focus repeat' first | exact get_push_same | assumption | (apply Ext.get; assumption)); (first | exact Nat.le_of_ble_eq_true rfl | (simp; done) | (simp; omega) | (rw [spanCells_len]; omega) | (rw [ints_len]; omega)); rfl) | (apply P_box; rfl; rfl; rfl; rfl; exact sz_ok rfl; rfl; rfl) | (apply P_call; rfl; rfl; rfl; rfl; rfl; rfl; exact yes (short_ok hK) hn; (rintro _ _ ⟨rfl, _⟩)) | (apply P_call; rfl; rfl; rfl; rfl; rfl; rfl; exact no (plan_ok hK hl (hr.ext (by (focus repeat' first | exact Ext.refl _ | assumption | apply Ext.push | (refine Ext.trans ?_ (by assumption)) | (refine Ext.set ?_ (Nat.le_succ _) (get_push_old get_push_same) _))))) hP; (rintro _ _ ⟨rfl, _⟩)) | fail))
    · exact ⟨.inr rfl, _, rfl, .inr ⟨rfl, fun q => hP q.1, by (focus repeat' first | exact Ext.refl _ | assumption | apply Ext.push | (refine Ext.trans ?_ (by assumption)) | (refine Ext.set ?_ (Nat.le_succ _) (get_push_old get_push_same) _))⟩⟩
    · omega

/-- A list of its own and no error. -/
def OkB (l : List Int) (h : Heap) (v : Value) (h1 : Heap) : Prop := ∃ b cap e own, v = .tuple #[.slice (some ⟨b, 0, none⟩) l.length cap, .int .i64 0] ∧ h1.get? b = some (.cells (ints l) e own) ∧ Ext h h1
theorem okB {f : FuncId} {args : Array Value} {h : Heap} {l : List Int} (c : CallW Tryz.prog K f args h (OkL l h)) (hp : 0 < l.length) : CallW Tryz.prog K f args h (OkB l h) :=
  c.mono fun _ _ ⟨q, cap, e, r, x⟩ => by
    obtain ⟨b, t, own, rfl, hg⟩ := r.at (by rw [ints_len]; exact hp)
    exact ⟨b, cap, t, own, e, hg, x⟩
end Go.AX.Sa

namespace Go.AX.Sa
open Go.Proofs
set_option maxRecDepth 100000

/-! How great a value can be. -/
theorem mul_bd {a : Int} {c C : Nat} (h : -99999 ≤ a ∧ a ≤ 99999) (hc : c ≤ C) : -(99999 * C) ≤ a * c ∧ a * c ≤ 99999 * C := by
  have h1 := Int.mul_le_mul_of_nonneg_right h.1 (show (0 : Int) ≤ c by omega)
  have h2 := Int.mul_le_mul_of_nonneg_right h.2 (show (0 : Int) ≤ c by omega)
  omega
theorem choose_bds : ∀ r, r < 12 → choose r 0 ≤ 1 ∧ choose r 1 ≤ 11 ∧ choose r 2 ≤ 55 ∧ choose r 3 ≤ 165 := by decide
theorem sumC_bd {t : List Int} {r : Nat} (hl : t.length ≤ 4) (hr : r < 12) (h : ∀ j, j < t.length → -99999 ≤ t.getD j 0 ∧ t.getD j 0 ≤ 99999) : -23199768 ≤ sumC t r 0 ∧ sumC t r 0 ≤ 23199768 := by
  obtain ⟨c0, c1, c2, c3⟩ := choose_bds r hr
  match t, hl, h with
  | [], _, _ => simp [sumC]
  | [a], _, h =>
    have a0 := mul_bd (h 0 (by simp)) c0
    simp only [sumC, List.getD_cons_zero] at *
    omega
  | [a, b], _, h =>
    have a0 := mul_bd (h 0 (by simp)) c0
    have a1 := mul_bd (h 1 (by simp)) c1
    simp only [sumC, List.getD_cons_zero, List.getD_cons_succ, Nat.zero_add] at *
    omega
  | [a, b, c], _, h =>
    have a0 := mul_bd (h 0 (by simp)) c0
    have a1 := mul_bd (h 1 (by simp)) c1
    have a2 := mul_bd (h 2 (by simp)) c2
    simp only [sumC, List.getD_cons_zero, List.getD_cons_succ, Nat.zero_add, Nat.reduceAdd] at *
    omega
  | [a, b, c, d], _, h =>
    have a0 := mul_bd (h 0 (by simp)) c0
    have a1 := mul_bd (h 1 (by simp)) c1
    have a2 := mul_bd (h 2 (by simp)) c2
    have a3 := mul_bd (h 3 (by simp)) c3
    simp only [sumC, List.getD_cons_zero, List.getD_cons_succ, Nat.zero_add, Nat.reduceAdd] at *
    omega
  | _ :: _ :: _ :: _ :: _ :: _, hl, _ => simp at hl
end Go.AX.Sa

namespace Go.AX.Sa
open Go.Proofs
set_option maxRecDepth 100000
variable {K : Known}

theorem areWithin_ok (hK : NoK K) {l : List (Int × Int)} {p q : Option Addr} {cap cap' : Nat} {t : List Int} {h : Heap} (hl : l.length ≤ 1000) (hr : Rd h p (spanCells l)) (_ : t.length ≤ 1000) (hr' : Rd h q (ints t)) :
    CallW Tryz.prog K 66 #[.slice q t.length cap', .slice p l.length cap] h (IfB (TruthP l t) h) := by
  refine body (N := 30) Tryz.func66 rfl (hK _ _ _ rfl) rfl rfl ?_
  (repeat' (first | (apply K_seq) | (apply K_region) | (apply O_at; rfl) | (apply N_at; rfl) | (apply O_fin; rfl) | (apply C_seq) | (apply K_ifT; rfl) | (apply K_ifF; rfl) | (apply K_open; kernel_rfl) | (apply K_block) | (apply K_skip) | (apply K_exit) | (apply K_ret) | (apply N_fin; rfl; exact (.inl (Nat.le_refl 1))) | (apply N_fin; rfl; refine .inr ?_; (focus repeat' first | exact trivial | exact Keeps.nil _ _ | apply And.intro | rfl | (apply Keeps.cons; (focus repeat' first | exact get_push_same | assumption | apply get_push_old | (apply Ext.get; assumption)); (focus repeat' first | exact get_push_same | assumption | apply get_push_old | (apply Ext.get; assumption))))) | (apply C_retS) | (apply C_retL) | (apply C_retB) | (apply C_exit) | (apply C_exitS) | (apply C_exitL) | (apply C_blockN) | (apply C_nil) | (apply P_move; rfl; rfl; rfl; rfl) | (apply P_assign; rfl; rfl; rfl; rfl) | (apply P_len; rfl; rfl; rfl; rfl; rfl; rfl; exact un_ok rfl) | (apply P_lss; rfl; rfl; rfl; rfl; rfl; all_goals intro _) | (apply P_neq; rfl; rfl; rfl; rfl; rfl; all_goals intro _) | (apply P_add; rfl; rfl; rfl; rfl; rfl; (unfold fit; omega)) | (apply P_idxB; rfl; rfl; rfl; rfl; rfl; exact un_ok rfl; exact sz_ok rfl; (first | rfl | exact (Int.toNat_of_nonneg (by omega)).symm); omega) | (apply P_loadA; rfl; rfl; rfl; rfl; exact ag_ok rfl; (focus repeat' first | exact get_push_same | assumption | apply get_push_old | (apply Ext.get; assumption)); (first | exact Nat.le_of_ble_eq_true rfl | (simp; done) | (simp; omega) | (rw [spanCells_len]; omega) | (rw [ints_len]; omega)); (first | exact spans_take (by omega) | rfl)) | (apply P_storeTop; rfl; rfl; rfl; rfl; exact sz_ok rfl; rfl; rfl; rfl) | (apply P_alloc; rfl; rfl; rfl; rfl; exact sz_ok rfl; rfl; rfl) | (apply M_move; rfl; rfl; rfl; rfl) | (apply M_fa; rfl; rfl; rfl; rfl; exact fo_ok rfl; (first | exact Nat.zero_add _ | exact Nat.add_zero _ | rfl)) | (apply M_not; rfl; rfl; rfl; rfl) | (apply M_idxA; rfl; rfl; rfl; rfl; rfl; exact un_ok rfl; exact sz_ok rfl; (first | rfl | exact (Int.toNat_of_nonneg (by omega)).symm); omega) | (apply M_load1E; rfl; rfl; rfl; rfl; exact on_ok rfl; decide +kernel; (focus repeat' first | exact get_push_same | assumption | apply get_push_old | (apply Ext.get; assumption)); (first | exact ints_get (by omega) | rfl | assumption); (first | assumption | exact same_yield _ | exact same_int _ _ | rfl | (simp [same, same.all2]; done)); (first | rfl | assumption | exact within_yield (by omega) | exact within_planO hpb (by (focus repeat' first | exact Ext.refl _ | assumption | apply Ext.push | (refine Ext.trans ?_ (by assumption)) | (refine Ext.set ?_ (Nat.le_succ _) (get_push_old get_push_same) _))) | exact within_optO hpb (by (focus repeat' first | exact Ext.refl _ | assumption | apply Ext.push | (refine Ext.trans ?_ (by assumption)) | (refine Ext.set ?_ (Nat.le_succ _) (get_push_old get_push_same) _))) | (simp [within]; omega))) | fail))
  · rename_i hne
    refine ⟨.inr rfl, _, rfl, .inr ⟨rfl, fun q => hne (by rw [q.1]), ?_⟩⟩
    (focus repeat' first | exact Ext.refl _ | assumption | apply Ext.push | (refine Ext.trans ?_ (by assumption)) | (refine Ext.set ?_ (Nat.le_succ _) (get_push_old get_push_same) _))
  rename_i heq
  have heq' : t.length = l.length := by omega
  refine K_loopE (fun k : Nat => [(14, .int .i64 (k : Nat)), (13, .int .i64 (l.length : Nat)), (12, .slice p l.length cap), (0, .slice q t.length cap')])
    (fun k h' => k ≤ t.length ∧ Ext h h' ∧ ∀ j, j < k → (l.getD j (0, 0)).1 ≤ t.getD j 0 ∧ t.getD j 0 ≤ (l.getD j (0, 0)).2) (fun k => t.length - k) ?_ 0 ?_ ?_
  · intro k h' ⟨hk, hx, hj⟩ ih
    by_cases hlt : k < t.length
    · obtain ⟨b, e, own, rfl, hg⟩ := hr.at (by rw [spanCells_len]; omega)
      obtain ⟨b', e', own', rfl, hg'⟩ := hr'.at (by rw [ints_len]; omega)
      have hg2 := hx.get hg
      have hg2' := hx.get hg'
      clear hg hg'
      have hltl : k < l.length := by omega
      (repeat' (first | (apply K_seq) | (apply K_region) | (apply O_at; rfl) | (apply N_at; rfl) | (apply O_fin; rfl) | (apply C_seq) | (apply K_ifT; rfl) | (apply K_ifF; rfl) | (apply K_open; kernel_rfl) | (apply K_block) | (apply K_skip) | (apply K_exit) | (apply K_ret) | (apply N_fin; rfl; exact (.inl (Nat.le_refl 1))) | (apply N_fin; rfl; refine .inr ?_; (focus repeat' first | exact trivial | exact Keeps.nil _ _ | apply And.intro | rfl | (apply Keeps.cons; (focus repeat' first | exact get_push_same | assumption | apply get_push_old | (apply Ext.get; assumption)); (focus repeat' first | exact get_push_same | assumption | apply get_push_old | (apply Ext.get; assumption))))) | (apply C_retS) | (apply C_retL) | (apply C_retB) | (apply C_exit) | (apply C_exitS) | (apply C_exitL) | (apply C_blockN) | (apply C_nil) | (apply P_move; rfl; rfl; rfl; rfl) | (apply P_assign; rfl; rfl; rfl; rfl) | (apply P_len; rfl; rfl; rfl; rfl; rfl; rfl; exact un_ok rfl) | (apply P_lss; rfl; rfl; rfl; rfl; rfl; all_goals intro _) | (apply P_neq; rfl; rfl; rfl; rfl; rfl; all_goals intro _) | (apply P_add; rfl; rfl; rfl; rfl; rfl; (unfold fit; omega)) | (apply P_idxB; rfl; rfl; rfl; rfl; rfl; exact un_ok rfl; exact sz_ok rfl; (first | rfl | exact (Int.toNat_of_nonneg (by omega)).symm); omega) | (apply P_loadA; rfl; rfl; rfl; rfl; exact ag_ok rfl; (focus repeat' first | exact get_push_same | assumption | apply get_push_old | (apply Ext.get; assumption)); (first | exact Nat.le_of_ble_eq_true rfl | (simp; done) | (simp; omega) | (rw [spanCells_len]; omega) | (rw [ints_len]; omega)); (first | exact spans_take (by omega) | rfl)) | (apply P_storeTop; rfl; rfl; rfl; rfl; exact sz_ok rfl; rfl; rfl; rfl) | (apply P_alloc; rfl; rfl; rfl; rfl; exact sz_ok rfl; rfl; rfl) | (apply M_move; rfl; rfl; rfl; rfl) | (apply M_fa; rfl; rfl; rfl; rfl; exact fo_ok rfl; (first | exact Nat.zero_add _ | exact Nat.add_zero _ | rfl)) | (apply M_not; rfl; rfl; rfl; rfl) | (apply M_idxA; rfl; rfl; rfl; rfl; rfl; exact un_ok rfl; exact sz_ok rfl; (first | rfl | exact (Int.toNat_of_nonneg (by omega)).symm); omega) | (apply M_load1E; rfl; rfl; rfl; rfl; exact on_ok rfl; decide +kernel; (focus repeat' first | exact get_push_same | assumption | apply get_push_old | (apply Ext.get; assumption)); (first | exact ints_get (by omega) | rfl | assumption); (first | assumption | exact same_yield _ | exact same_int _ _ | rfl | (simp [same, same.all2]; done)); (first | rfl | assumption | exact within_yield (by omega) | exact within_planO hpb (by (focus repeat' first | exact Ext.refl _ | assumption | apply Ext.push | (refine Ext.trans ?_ (by assumption)) | (refine Ext.set ?_ (Nat.le_succ _) (get_push_old get_push_same) _))) | exact within_optO hpb (by (focus repeat' first | exact Ext.refl _ | assumption | apply Ext.push | (refine Ext.trans ?_ (by assumption)) | (refine Ext.set ?_ (Nat.le_succ _) (get_push_old get_push_same) _))) | (simp [within]; omega))) | (apply M_call; rfl; rfl; rfl; rfl; rfl; rfl; rfl; exact within_ok hK; (rintro _ _ (⟨rfl, _, _⟩ | ⟨rfl, _, _⟩))) | fail))
      · rename_i hns _
        refine C_again (ih (k + 1) _ ?_ ⟨hlt, ?_, fun j hj' => ?_⟩) ?_
        · omega
        · (focus repeat' first | exact Ext.refl _ | assumption | apply Ext.push | (refine Ext.trans ?_ (by assumption)) | (refine Ext.set ?_ (Nat.le_succ _) (get_push_old get_push_same) _))
        · by_cases hjk : j = k
          · subst hjk; exact hns
          · exact hj j (by omega)
        · (focus repeat' first | rfl | exact trivial | apply And.intro)
      · rename_i hns _
        refine ⟨.inr rfl, _, rfl, .inr ⟨rfl, fun q => hns (q.2 k hlt), ?_⟩⟩
        (focus repeat' first | exact Ext.refl _ | assumption | apply Ext.push | (refine Ext.trans ?_ (by assumption)) | (refine Ext.set ?_ (Nat.le_succ _) (get_push_old get_push_same) _))
      · omega
    · (repeat' (first | (apply K_seq) | (apply K_region) | (apply O_at; rfl) | (apply N_at; rfl) | (apply O_fin; rfl) | (apply C_seq) | (apply K_ifT; rfl) | (apply K_ifF; rfl) | (apply K_open; kernel_rfl) | (apply K_block) | (apply K_skip) | (apply K_exit) | (apply K_ret) | (apply N_fin; rfl; exact (.inl (Nat.le_refl 1))) | (apply N_fin; rfl; refine .inr ?_; (focus repeat' first | exact trivial | exact Keeps.nil _ _ | apply And.intro | rfl | (apply Keeps.cons; (focus repeat' first | exact get_push_same | assumption | apply get_push_old | (apply Ext.get; assumption)); (focus repeat' first | exact get_push_same | assumption | apply get_push_old | (apply Ext.get; assumption))))) | (apply C_retS) | (apply C_retL) | (apply C_retB) | (apply C_exit) | (apply C_exitS) | (apply C_exitL) | (apply C_blockN) | (apply C_nil) | (apply P_move; rfl; rfl; rfl; rfl) | (apply P_assign; rfl; rfl; rfl; rfl) | (apply P_len; rfl; rfl; rfl; rfl; rfl; rfl; exact un_ok rfl) | (apply P_lss; rfl; rfl; rfl; rfl; rfl; all_goals intro _) | (apply P_neq; rfl; rfl; rfl; rfl; rfl; all_goals intro _) | (apply P_add; rfl; rfl; rfl; rfl; rfl; (unfold fit; omega)) | (apply P_idxB; rfl; rfl; rfl; rfl; rfl; exact un_ok rfl; exact sz_ok rfl; (first | rfl | exact (Int.toNat_of_nonneg (by omega)).symm); omega) | (apply P_loadA; rfl; rfl; rfl; rfl; exact ag_ok rfl; (focus repeat' first | exact get_push_same | assumption | apply get_push_old | (apply Ext.get; assumption)); (first | exact Nat.le_of_ble_eq_true rfl | (simp; done) | (simp; omega) | (rw [spanCells_len]; omega) | (rw [ints_len]; omega)); (first | exact spans_take (by omega) | rfl)) | (apply P_storeTop; rfl; rfl; rfl; rfl; exact sz_ok rfl; rfl; rfl; rfl) | (apply P_alloc; rfl; rfl; rfl; rfl; exact sz_ok rfl; rfl; rfl) | (apply M_move; rfl; rfl; rfl; rfl) | (apply M_fa; rfl; rfl; rfl; rfl; exact fo_ok rfl; (first | exact Nat.zero_add _ | exact Nat.add_zero _ | rfl)) | (apply M_not; rfl; rfl; rfl; rfl) | (apply M_idxA; rfl; rfl; rfl; rfl; rfl; exact un_ok rfl; exact sz_ok rfl; (first | rfl | exact (Int.toNat_of_nonneg (by omega)).symm); omega) | (apply M_load1E; rfl; rfl; rfl; rfl; exact on_ok rfl; decide +kernel; (focus repeat' first | exact get_push_same | assumption | apply get_push_old | (apply Ext.get; assumption)); (first | exact ints_get (by omega) | rfl | assumption); (first | assumption | exact same_yield _ | exact same_int _ _ | rfl | (simp [same, same.all2]; done)); (first | rfl | assumption | exact within_yield (by omega) | exact within_planO hpb (by (focus repeat' first | exact Ext.refl _ | assumption | apply Ext.push | (refine Ext.trans ?_ (by assumption)) | (refine Ext.set ?_ (Nat.le_succ _) (get_push_old get_push_same) _))) | exact within_optO hpb (by (focus repeat' first | exact Ext.refl _ | assumption | apply Ext.push | (refine Ext.trans ?_ (by assumption)) | (refine Ext.set ?_ (Nat.le_succ _) (get_push_old get_push_same) _))) | (simp [within]; omega))) | fail))
      · omega
      · refine ⟨.inr rfl, _, rfl, .inl ⟨rfl, ⟨heq', fun j hj' => hj j (by omega)⟩, ?_⟩⟩
        (focus repeat' first | exact Ext.refl _ | assumption | apply Ext.push | (refine Ext.trans ?_ (by assumption)) | (refine Ext.set ?_ (Nat.le_succ _) (get_push_old get_push_same) _))
  · exact ⟨Nat.zero_le _, Ext.refl _, fun j hj => by omega⟩
  · (focus repeat' first | rfl | exact trivial | apply And.intro)
theorem tableF_ok (hK : NoK K) {l : List (Int × Int)} {p q : Option Addr} {cap cap' R : Nat} {guard : Int} {t : List Int} {h : Heap} (hl : l.length ≤ 1000) (hr : Rd h p (spanCells l)) (hl' : t.length ≤ 1000) (hr' : Rd h q (ints t)) (hP : PlanP l R guard) (hT : TruthP l t) :
    CallW Tryz.prog K 25 #[.agg #[.slice p l.length cap, .int .i64 (R : Nat), .int .i64 guard], .slice q t.length cap'] h (OkL (tabL t R) h) := by
  refine body (N := 20) Tryz.func25 rfl (hK _ _ _ rfl) rfl rfl ?_
  have hp : 0 < t.length := by have := hT.1; have := hP.1.1; omega
  have hR : R ≤ 1000 := by have := hP.2.2.1; omega
  (repeat' (first | (apply K_seq) | (apply K_region) | (apply O_at; rfl) | (apply O_fin; rfl) | (apply C_seq) | (apply K_ifF; rfl) | (apply K_skip) | (apply K_ret) | (apply C_nil) | (apply P_move; rfl; rfl; rfl; rfl) | (apply P_assign; rfl; rfl; rfl; rfl) | (apply P_fa; rfl; rfl; rfl; rfl; exact fo_ok rfl; (first | exact Nat.zero_add _ | exact Nat.add_zero _ | rfl)) | (apply P_pick; rfl; rfl; rfl; rfl; rfl; rfl) | (apply P_not; rfl; rfl; rfl; rfl) | (apply P_load1; rfl; rfl; rfl; rfl; exact on_ok rfl; (focus repeat' first | exact get_push_same | assumption | (apply Ext.get; assumption)); (first | rfl | assumption)) | (apply P_loadA; rfl; rfl; rfl; rfl; exact ag_ok rfl; (focus repeat' first | exact get_push_same | assumption | (apply Ext.get; assumption)); (first | exact Nat.le_of_ble_eq_true rfl | (simp; done) | (simp; omega) | (rw [spanCells_len]; omega) | (rw [ints_len]; omega)); rfl) | (apply P_build92; rfl; rfl; rfl; rfl) | (apply P_box; rfl; rfl; rfl; rfl; exact sz_ok rfl; rfl; rfl) | (apply P_call; rfl; rfl; rfl; rfl; rfl; rfl; exact yes (isPlan_ok hK hl (hr.ext (by (focus repeat' first | exact Ext.refl _ | assumption | apply Ext.push | (refine Ext.trans ?_ (by assumption)) | (refine Ext.set ?_ (Nat.le_succ _) (get_push_old get_push_same) _))))) hP; (rintro _ _ ⟨rfl, _⟩)) | (apply P_call; rfl; rfl; rfl; rfl; rfl; rfl; exact yes (areWithin_ok hK hl (hr.ext (by (focus repeat' first | exact Ext.refl _ | assumption | apply Ext.push | (refine Ext.trans ?_ (by assumption)) | (refine Ext.set ?_ (Nat.le_succ _) (get_push_old get_push_same) _)))) hl' (hr'.ext (by (focus repeat' first | exact Ext.refl _ | assumption | apply Ext.push | (refine Ext.trans ?_ (by assumption)) | (refine Ext.set ?_ (Nat.le_succ _) (get_push_old get_push_same) _))))) hT; (rintro _ _ ⟨rfl, _⟩)) | fail))
  (repeat' (first | (apply K_seq) | (apply K_region) | (apply O_at; rfl) | (apply O_fin; rfl) | (apply C_seq) | (apply K_ifF; rfl) | (apply K_skip) | (apply K_ret) | (apply C_nil) | (apply P_move; rfl; rfl; rfl; rfl) | (apply P_assign; rfl; rfl; rfl; rfl) | (apply P_fa; rfl; rfl; rfl; rfl; exact fo_ok rfl; (first | exact Nat.zero_add _ | exact Nat.add_zero _ | rfl)) | (apply P_pick; rfl; rfl; rfl; rfl; rfl; rfl) | (apply P_not; rfl; rfl; rfl; rfl) | (apply P_load1; rfl; rfl; rfl; rfl; exact on_ok rfl; (focus repeat' first | exact get_push_same | assumption | (apply Ext.get; assumption)); (first | rfl | assumption)) | (apply P_loadA; rfl; rfl; rfl; rfl; exact ag_ok rfl; (focus repeat' first | exact get_push_same | assumption | (apply Ext.get; assumption)); (first | exact Nat.le_of_ble_eq_true rfl | (simp; done) | (simp; omega) | (rw [spanCells_len]; omega) | (rw [ints_len]; omega)); rfl) | (apply P_build92; rfl; rfl; rfl; rfl) | (apply P_box; rfl; rfl; rfl; rfl; exact sz_ok rfl; rfl; rfl) | (apply P_call; rfl; rfl; rfl; rfl; rfl; rfl; exact table_ok hK hp hl' (hr'.ext (by (focus repeat' first | exact Ext.refl _ | assumption | apply Ext.push | (refine Ext.trans ?_ (by assumption)) | (refine Ext.set ?_ (Nat.le_succ _) (get_push_old get_push_same) _)))) hR (truth_small hP.2.1 hT); (rintro _ _ ⟨_, _, rfl, _, _⟩)) | fail))
  refine ⟨.inr rfl, _, rfl, _, _, rfl, by assumption, ?_⟩
  (focus repeat' first | exact Ext.refl _ | assumption | apply Ext.push | (refine Ext.trans ?_ (by assumption)) | (refine Ext.set ?_ (Nat.le_succ _) (get_push_old get_push_same) _))

/-! How many truths there are; fewer of them. -/
theorem allT_snoc_len : ∀ (l : List (Int × Int)) (p : Int × Int), (allT (l ++ [p])).length = (allT l).length * (spanL p).length := by
  have key : ∀ (L : List Int) (M : List (List Int)), (L.flatMap fun n => M.map (n :: ·)).length = L.length * M.length := by
    intro L M
    induction L with
    | nil => simp
    | cons a L ihL => rw [List.flatMap_cons, List.length_append, ihL, List.length_map, List.length_cons, Nat.succ_mul, Nat.add_comm]
  intro l
  induction l with
  | nil =>
    intro p
    show ((spanL p).flatMap fun n => (allT []).map (n :: ·)).length = _
    rw [key]
    simp [allT]
  | cons a l ih => intro p; simp only [List.cons_append, allT, key, ih, Nat.mul_assoc]
theorem agrT_nil (l : List (Int × Int)) : agrT l [] = allT l := by
  unfold agrT
  apply List.filter_eq_self.2
  intro t _
  simp [FitsP]
theorem agrT_more {l seen : List (Int × Int)} {x : Int × Int} : agrT l (seen ++ [x]) = (agrT l seen).filter fun t => decide (FitsP t (seen ++ [x])) := by
  unfold agrT
  rw [List.filter_filter]
  apply List.filter_congr
  intro t _
  by_cases h : FitsP t (seen ++ [x])
  · have h2 : FitsP t seen := fun k hk => by
      have := h k (by simp; omega)
      have e : (seen ++ [x]).getD k (0, 0) = seen.getD k (0, 0) := by simp [List.getD_eq_getElem?_getD, List.getElem?_append_left hk]
      rw [e] at this
      exact this
    simp [h, h2]
  · simp [h]
theorem fits_more {t : List Int} {seen : List (Int × Int)} {x : Int × Int} (h : FitsP t seen) (hx : w64 (sumC t x.1.toNat 0) = x.2) : FitsP t (seen ++ [x]) := fun k hk => by
  by_cases hl : k < seen.length
  · have e : (seen ++ [x]).getD k (0, 0) = seen.getD k (0, 0) := by simp [List.getD_eq_getElem?_getD, List.getElem?_append_left hl]
    rw [e]; exact h k hl
  · have hk' : k = seen.length := by simp at hk; omega
    subst hk'
    have e : (seen ++ [x]).getD seen.length (0, 0) = x := by simp [List.getD_eq_getElem?_getD]
    rw [e]; exact hx
theorem foldmin_le (k : Nat) : ∀ (L : List (List Int)) (m : Int), L.foldl (fun m u => min m (u.getD k 0)) m ≤ m ∧ ∀ u, u ∈ L → L.foldl (fun m u => min m (u.getD k 0)) m ≤ u.getD k 0 := by
  intro L
  induction L with
  | nil => intro m; exact ⟨Int.le_refl _, fun u h => by cases h⟩
  | cons a L ih =>
    intro m
    have h := ih (min m (a.getD k 0))
    simp only [List.foldl_cons]
    refine ⟨by omega, fun u hu => ?_⟩
    rcases List.mem_cons.1 hu with rfl | hu
    · omega
    · exact h.2 u hu
theorem foldmax_le (k : Nat) : ∀ (L : List (List Int)) (m : Int), m ≤ L.foldl (fun m u => max m (u.getD k 0)) m ∧ ∀ u, u ∈ L → u.getD k 0 ≤ L.foldl (fun m u => max m (u.getD k 0)) m := by
  intro L
  induction L with
  | nil => intro m; exact ⟨Int.le_refl _, fun u h => by cases h⟩
  | cons a L ih =>
    intro m
    have h := ih (max m (a.getD k 0))
    simp only [List.foldl_cons]
    refine ⟨by omega, fun u hu => ?_⟩
    rcases List.mem_cons.1 hu with rfl | hu
    · omega
    · exact h.2 u hu
theorem foldmin_mem (k : Nat) : ∀ (L : List (List Int)) (m : Int), L.foldl (fun m u => min m (u.getD k 0)) m = m ∨ ∃ u, u ∈ L ∧ L.foldl (fun m u => min m (u.getD k 0)) m = u.getD k 0 := by
  intro L
  induction L with
  | nil => intro m; exact .inl rfl
  | cons a L ih =>
    intro m
    simp only [List.foldl_cons]
    rcases ih (min m (a.getD k 0)) with h | ⟨u, hu, h⟩
    · by_cases hm : m ≤ a.getD k 0
      · left; rw [h]; omega
      · right; exact ⟨a, List.mem_cons_self .., by rw [h]; omega⟩
    · right; exact ⟨u, List.mem_cons_of_mem _ hu, h⟩
theorem foldmax_mem (k : Nat) : ∀ (L : List (List Int)) (m : Int), L.foldl (fun m u => max m (u.getD k 0)) m = m ∨ ∃ u, u ∈ L ∧ L.foldl (fun m u => max m (u.getD k 0)) m = u.getD k 0 := by
  intro L
  induction L with
  | nil => intro m; exact .inl rfl
  | cons a L ih =>
    intro m
    simp only [List.foldl_cons]
    rcases ih (max m (a.getD k 0)) with h | ⟨u, hu, h⟩
    · by_cases hm : a.getD k 0 ≤ m
      · left; rw [h]; omega
      · right; exact ⟨a, List.mem_cons_self .., by rw [h]; omega⟩
    · right; exact ⟨u, List.mem_cons_of_mem _ hu, h⟩
theorem lohi_le {k : Nat} {L : List (List Int)} {u : List Int} (h : u ∈ L) : loK k L ≤ u.getD k 0 ∧ u.getD k 0 ≤ hiK k L := ⟨(foldmin_le k L _).2 u h, (foldmax_le k L _).2 u h⟩
theorem lohi_mem {k : Nat} {L : List (List Int)} (h : L ≠ []) : (∃ u, u ∈ L ∧ loK k L = u.getD k 0) ∧ ∃ u, u ∈ L ∧ hiK k L = u.getD k 0 := by
  have h0 : L.getD 0 [] ∈ L := by
    cases L with
    | nil => exact absurd rfl h
    | cons a L => simp
  constructor
  · rcases foldmin_mem k L ((L.getD 0 []).getD k 0) with q | q
    · exact ⟨_, h0, q⟩
    · exact q
  · rcases foldmax_mem k L ((L.getD 0 []).getD k 0) with q | q
    · exact ⟨_, h0, q⟩
    · exact q
theorem lohi_sub {k : Nat} {L M : List (List Int)} (h : M ≠ []) (hs : ∀ u, u ∈ M → u ∈ L) : loK k L ≤ loK k M ∧ hiK k M ≤ hiK k L := by
  obtain ⟨⟨u, hu, e⟩, v, hv, f⟩ := lohi_mem (k := k) h
  rw [e, f]
  exact ⟨(lohi_le (hs u hu)).1, (lohi_le (hs v hv)).2⟩
/-- A copy of notes. -/
theorem app_notes {h : Heap} {ts : Array TypeId} {qs : Option Addr} {caps : Nat} {seen : List (Int × Int)} (h0' : ts[0]? = some 34) (h1' : ts[1]? = some 34) (r : Rd h qs (spanCells seen)) (hz : ∀ a, qs = some a → ∃ b, a = ⟨b, 0, none⟩) (hl : seen.length ≤ 1000) :
    ∃ v1 h1, appendB Tryz.prog h ts (.slice none 0 0) (.slice qs seen.length caps) = some (v1, h1) ∧ OutS 50 h h1 v1 seen ∧ Ext h h1 := by
  have hu := un_ok (t := 34) (n := 50) rfl
  have hc2 := c2_ok (t := 34) (n := 50) rfl
  by_cases hs : seen = []
  · subst hs
    refine ⟨.slice none 0 0, h, ?_, .inl ⟨rfl, rfl⟩, Ext.refl h⟩
    obtain ⟨hu', hsz, hz', by_, hby, h64⟩ := cell2_some hc2
    have e : rowB h 2 0 (.slice qs 0 caps) = some [] := by
      cases qs with
      | none => rfl
      | some a => obtain ⟨b, rfl⟩ := hz a rfl; rfl
    unfold appendB
    simp only [h0', h1', hu]
    unfold appendRow
    simp only [hsz, hby, hz', lenB]
    show (match rowB h 2 0 (.slice qs 0 caps) with | some new => _ | none => _) = _
    rw [e]
    simp [Value.cells]
  · have hp := List.length_pos_iff.2 hs
    obtain ⟨b, e, own, rfl, hg⟩ := r.at (by rw [spanCells_len]; omega)
    exact ⟨_, _, app_nilL h0' h1' hc2 hu hg hp (by omega), .inr ⟨hs, h.n, rfl, get_push_same, Nat.le_refl _⟩, (Ext.refl h).push _⟩
end Go.AX.Sa
