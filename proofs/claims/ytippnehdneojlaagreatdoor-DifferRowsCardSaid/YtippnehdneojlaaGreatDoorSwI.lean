/- The law DifferRows at the reading. -/
import Derived.Test.YtippnehdneojlaaGreatDoorSwH
import Derived.Test.YtippnehdneojlaaGreatDoorSwD
namespace Go.AX.Sa
open Go.Proofs
set_option maxRecDepth 100000
variable {K : Known}

/-- A list of spans of its own. -/
def IsO (l : List (Int × Int)) (h : Heap) (v : Value) (h1 : Heap) : Prop := ∃ b cap, v = .slice (some ⟨b, 0, none⟩) l.length cap ∧ h1.get? b = some (.cells (spanCells l) 45 true) ∧ h.n ≤ b ∧ Ext h h1
theorem isO {f : FuncId} {args : Array Value} {h : Heap} {l : List (Int × Int)} (c : CallW Tryz.prog K f args h (IsS l h)) (hp : 0 < l.length) : CallW Tryz.prog K f args h (IsO l h) :=
  c.mono fun _ _ r => r.at hp

/-! DifferRows. -/
theorem rowsL_long (hK : NoK K) (hKn : Kn K) {n cap : Nat} {p : Option Addr} {rows guard : Int} {h : Heap} (hn : ¬ n ≤ 6) :
    CallW Tryz.prog K 5 #[.agg #[.slice p n cap, .int .i64 rows, .int .i64 guard]] h fun v _ => v = .bool true := by
  refine body (N := 64) Tryz.func5 rfl (hK _ _ _ rfl) rfl rfl ?_
  (repeat' (first | (apply K_seq) | (apply K_region) | (apply O_at; rfl) | (apply O_fin; rfl) | (apply C_seq) | (apply K_ifT; rfl) | (apply K_ret) | (apply C_retS) | (apply C_nil) | (apply P_assign; rfl; rfl; rfl; rfl) | (apply P_not; rfl; rfl; rfl; rfl) | (apply P_loadA; rfl; rfl; rfl; rfl; exact ag_ok rfl; (focus repeat' first | exact get_push_same | assumption); (first | exact Nat.le_of_ble_eq_true rfl | (simp; done) | (simp; omega) | (rw [spanCells_len]; omega) | (rw [ints_len]; omega)); rfl) | (apply P_box; rfl; rfl; rfl; rfl; exact sz_ok rfl; rfl; rfl) | (apply P_call; rfl; rfl; rfl; rfl; rfl; rfl; exact no (short_ok hK) hn; (rintro _ _ ⟨rfl, _⟩)) | (apply P_call; rfl; rfl; rfl; rfl; rfl; rfl; exact known_ok' hKn; (rintro _ _ ⟨rfl, _⟩)) | fail))
  exact ⟨.inr rfl, _, rfl, rfl⟩
set_option maxHeartbeats 4000000 in
theorem rowsL_ok (hK : NoK K) (hKn : Kn K) {l : List (Int × Int)} {cap : Nat} {p : Option Addr} {rows guard : Int} {h : Heap} (hn : l.length ≤ 6) (hr : Rd h p (spanCells l)) :
    CallW Tryz.prog K 5 #[.agg #[.slice p l.length cap, .int .i64 rows, .int .i64 guard]] h fun v _ => v = .bool true := by
  refine body (N := 64) Tryz.func5 rfl (hK _ _ _ rfl) rfl rfl ?_
  have hl : l.length ≤ 1000 := by omega
  by_cases hP : PlanP l rows guard
  · obtain ⟨R, rfl⟩ : ∃ R : Nat, rows = R := ⟨rows.toNat, by have := hP.2.2.1; omega⟩
    obtain ⟨g, rfl⟩ : ∃ g : Nat, guard = g := ⟨guard.toNat, by have := hP.2.2.2; omega⟩
    have h4 : l.length ≤ 4 := by have := hP.1; omega
    have hp : 0 < l.length := by have := hP.1; omega
    have hR : R < 13 := by have := hP.2.2.1; omega
    have hR0 : 0 < R := by have := hP.2.2.1; omega
    have k1 := rowsL_len l R
    have k2 := printL_len l R g
    have hl1 : (rowsL l R).length ≤ 1000 := by omega
    have hl2 : (printL l R g).length ≤ 1000 := by omega
    (repeat' (first | (apply K_seq) | (apply K_region) | (apply O_at; rfl) | (apply O_fin; rfl) | (apply C_seq) | (apply K_ifT; rfl) | (apply K_ifF; rfl) | (apply K_skip) | (apply K_ret) | (apply C_retS) | (apply C_nil) | (apply P_skip; rfl; rfl; rfl) | (apply P_move; rfl; rfl; rfl; rfl) | (apply P_assign; rfl; rfl; rfl; rfl) | (apply P_len; rfl; rfl; rfl; rfl; rfl; rfl; exact un_ok rfl) | (apply P_pick; rfl; rfl; rfl; rfl; rfl; rfl) | (apply P_not; rfl; rfl; rfl; rfl) | (apply P_extract; rfl; rfl; rfl; rfl; rfl) | (apply P_eql; rfl; rfl; rfl; rfl; rfl; all_goals intro _) | (apply P_loadA; rfl; rfl; rfl; rfl; exact ag_ok rfl; (focus repeat' first | exact get_push_same | assumption | (apply Ext.get; assumption)); (first | exact Nat.le_of_ble_eq_true rfl | (simp; done) | (simp; omega) | (rw [spanCells_len]; omega) | (rw [ints_len]; omega)); rfl) | (apply P_box; rfl; rfl; rfl; rfl; exact sz_ok rfl; rfl; rfl) | (apply P_call; rfl; rfl; rfl; rfl; rfl; rfl; exact yes (short_ok hK) hn; (rintro _ _ ⟨rfl, _⟩)) | (apply P_call; rfl; rfl; rfl; rfl; rfl; rfl; exact rowsF_ok hK hl (hr.ext (by (focus repeat' first | exact Ext.refl _ | assumption | apply Ext.push | (refine Ext.trans ?_ (by assumption))))) hP; (rintro _ _ ⟨_, _, rfl, _, _, _⟩)) | (apply P_call; rfl; rfl; rfl; rfl; rfl; rfl; exact printedF_ok hK hl (hr.ext (by (focus repeat' first | exact Ext.refl _ | assumption | apply Ext.push | (refine Ext.trans ?_ (by assumption))))) hP; (rintro _ _ ⟨_, _, rfl, _, _, _⟩)) | (apply P_call; rfl; rfl; rfl; rfl; rfl; rfl; exact yes (plan_ok hK hl (hr.ext (by (focus repeat' first | exact Ext.refl _ | assumption | apply Ext.push | (refine Ext.trans ?_ (by assumption)))))) hP; (rintro _ _ ⟨rfl, _⟩)) | (apply P_call; rfl; rfl; rfl; rfl; rfl; rfl; exact isO (refRows_ok hK hp h4 (hr.ext (by (focus repeat' first | exact Ext.refl _ | assumption | apply Ext.push | (refine Ext.trans ?_ (by assumption))))) hR) (by omega); (rintro _ _ ⟨_, _, rfl, _, _, _⟩)) | (apply P_call; rfl; rfl; rfl; rfl; rfl; rfl; exact isO (refPrinted_ok hK hl (hr.ext (by (focus repeat' first | exact Ext.refl _ | assumption | apply Ext.push | (refine Ext.trans ?_ (by assumption))))) hP) (by omega); (rintro _ _ ⟨_, _, rfl, _, _, _⟩)) | (apply P_call; rfl; rfl; rfl; rfl; rfl; rfl; exact yes (sameSpans_ok hK hl1 (.inr ⟨_, _, _, rfl, by (focus repeat' first | exact get_push_same | assumption | apply get_push_old | (apply Ext.get; assumption) | (apply ExtBut.get; assumption; assumption))⟩) hl1 (.inr ⟨_, _, _, rfl, by (focus repeat' first | exact get_push_same | assumption | apply get_push_old | (apply Ext.get; assumption) | (apply ExtBut.get; assumption; assumption))⟩)) rfl; (rintro _ _ ⟨rfl, _⟩)) | (apply P_call; rfl; rfl; rfl; rfl; rfl; rfl; exact yes (sameSpans_ok hK hl2 (.inr ⟨_, _, _, rfl, by (focus repeat' first | exact get_push_same | assumption | apply get_push_old | (apply Ext.get; assumption) | (apply ExtBut.get; assumption; assumption))⟩) hl2 (.inr ⟨_, _, _, rfl, by (focus repeat' first | exact get_push_same | assumption | apply get_push_old | (apply Ext.get; assumption) | (apply ExtBut.get; assumption; assumption))⟩)) rfl; (rintro _ _ ⟨rfl, _⟩)) | (apply P_call; rfl; rfl; rfl; rfl; rfl; rfl; exact known_ok' hKn; (rintro _ _ ⟨rfl, _⟩)) | fail))
    all_goals (first | exact ⟨.inr rfl, _, rfl, rfl⟩ | omega)
  · (repeat' (first | (apply K_seq) | (apply K_region) | (apply O_at; rfl) | (apply O_fin; rfl) | (apply C_seq) | (apply K_ifT; rfl) | (apply K_ifF; rfl) | (apply K_skip) | (apply K_ret) | (apply C_retS) | (apply C_nil) | (apply P_skip; rfl; rfl; rfl) | (apply P_move; rfl; rfl; rfl; rfl) | (apply P_assign; rfl; rfl; rfl; rfl) | (apply P_len; rfl; rfl; rfl; rfl; rfl; rfl; exact un_ok rfl) | (apply P_pick; rfl; rfl; rfl; rfl; rfl; rfl) | (apply P_not; rfl; rfl; rfl; rfl) | (apply P_extract; rfl; rfl; rfl; rfl; rfl) | (apply P_eql; rfl; rfl; rfl; rfl; rfl; all_goals intro _) | (apply P_loadA; rfl; rfl; rfl; rfl; exact ag_ok rfl; (focus repeat' first | exact get_push_same | assumption | (apply Ext.get; assumption)); (first | exact Nat.le_of_ble_eq_true rfl | (simp; done) | (simp; omega) | (rw [spanCells_len]; omega) | (rw [ints_len]; omega)); rfl) | (apply P_box; rfl; rfl; rfl; rfl; exact sz_ok rfl; rfl; rfl) | (apply P_call; rfl; rfl; rfl; rfl; rfl; rfl; exact yes (short_ok hK) hn; (rintro _ _ ⟨rfl, _⟩)) | (apply P_call; rfl; rfl; rfl; rfl; rfl; rfl; exact rowsF_no hK hl (hr.ext (by (focus repeat' first | exact Ext.refl _ | assumption | apply Ext.push | (refine Ext.trans ?_ (by assumption))))) hP; (rintro _ _ ⟨rfl, _⟩)) | (apply P_call; rfl; rfl; rfl; rfl; rfl; rfl; exact printedF_no hK hl (hr.ext (by (focus repeat' first | exact Ext.refl _ | assumption | apply Ext.push | (refine Ext.trans ?_ (by assumption))))) hP; (rintro _ _ ⟨rfl, _⟩)) | (apply P_call; rfl; rfl; rfl; rfl; rfl; rfl; exact no (plan_ok hK hl (hr.ext (by (focus repeat' first | exact Ext.refl _ | assumption | apply Ext.push | (refine Ext.trans ?_ (by assumption)))))) hP; (rintro _ _ ⟨rfl, _⟩)) | (apply P_call; rfl; rfl; rfl; rfl; rfl; rfl; exact known_ok' hKn; (rintro _ _ ⟨rfl, _⟩)) | fail))
    all_goals (first | exact ⟨.inr rfl, _, rfl, rfl⟩ | omega)
end Go.AX.Sa
