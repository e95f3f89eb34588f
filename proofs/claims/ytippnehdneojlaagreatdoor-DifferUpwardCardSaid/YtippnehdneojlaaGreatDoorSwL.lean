/- Sheets; the table above a state; the law DifferUpward at the reading. -/
import Derived.Test.YtippnehdneojlaaGreatDoorAxX
import Derived.Test.YtippnehdneojlaaGreatDoorSwE
import Derived.Test.YtippnehdneojlaaGreatDoorSwA
namespace Go.AX.Sa
open Go.Proofs
set_option maxRecDepth 100000
variable {K : Known}

/-- A list of its own whose capacity is known. -/
def IsC (l : List Int) (h : Heap) (v : Value) (h1 : Heap) : Prop := ∃ b, v = .slice (some ⟨b, 0, none⟩) l.length l.length ∧ h1.get? b = some (.cells (ints l) 3 true) ∧ Ext h h1
def OkC (l : List Int) (h : Heap) (v : Value) (h1 : Heap) : Prop := ∃ b, v = .tuple #[.slice (some ⟨b, 0, none⟩) l.length l.length, .int .i64 0] ∧ h1.get? b = some (.cells (ints l) 3 true) ∧ Ext h h1
/-- The table in a truth, by additions. -/
theorem table_okC (hK : NoK K) {t : List Int} {p q : Option Addr} {n cap cap' R : Nat} {guard : Int} {h : Heap} (hp : 0 < t.length) (hl : t.length ≤ 1000) (hr : Rd h q (ints t)) (hn : R ≤ 1000) (hf : ∀ j, w64 (t.getD j 0) = t.getD j 0) :
    CallW Tryz.prog K 50 #[.agg #[.slice p n cap, .int .i64 (R : Nat), .int .i64 guard, .slice q t.length cap']] h (IsC (tabL t R) h) := by
  refine body (N := 29) Tryz.func50 rfl (hK _ _ _ rfl) rfl rfl ?_
  (repeat' (first | (apply K_seq) | (apply K_region) | (apply O_at; rfl) | (apply O_fin; rfl) | (apply C_seq) | (apply K_ifT; rfl) | (apply K_ifF; rfl) | (apply K_block) | (apply K_skip) | (apply K_exit) | (apply K_ret) | (apply C_exit) | (apply C_exitS) | (apply C_exitL) | (apply C_blockN) | (apply C_nil) | (apply P_move; rfl; rfl; rfl; rfl) | (apply P_assign; rfl; rfl; rfl; rfl) | (apply P_fa; rfl; rfl; rfl; rfl; exact fo_ok rfl; (first | exact Nat.zero_add _ | exact Nat.add_zero _ | rfl)) | (apply P_lss; rfl; rfl; rfl; rfl; rfl; all_goals intro _) | (apply P_add; rfl; rfl; rfl; rfl; rfl; (unfold fit; omega)) | (apply P_idxA; rfl; rfl; rfl; rfl; rfl; exact un_ok rfl; exact sz_ok rfl; (first | exact zq0 | rfl | exact (Int.toNat_of_nonneg (by omega)).symm); omega) | (apply P_load1; rfl; rfl; rfl; rfl; exact on_ok rfl; (focus repeat' first | exact get_push_same | assumption | apply get_push_old | (apply Ext.get; assumption) | (apply ExtBut.get; assumption; assumption)); (first | exact ints_get (by omega) | rfl | assumption)) | (apply P_makeI; rfl; rfl; rfl; rfl; rfl; exact c1_ok rfl; exact zero3; omega; omega) | (apply P_storeI; rfl; rfl; rfl; rfl; (focus repeat' first | exact get_push_same | assumption | apply get_push_old | (apply Ext.get; assumption) | (apply ExtBut.get; assumption; assumption)); exact sz_ok rfl; omega; (intro _ _ _)) | (apply P_box; rfl; rfl; rfl; rfl; exact sz_ok rfl; rfl; rfl) | fail))
  have hb1 : (h.push (.cells (Value.agg #[.slice p n cap, .int .i64 (R : Nat), .int .i64 guard, .slice q t.length cap']).cells.toList 73 true)).get? h.n = some (.cells [.slice p n cap, .int .i64 (R : Nat), .int .i64 guard, .slice q t.length cap'] 73 true) := get_push_same
  have hx1 : Ext h (h.push (.cells (Value.agg #[.slice p n cap, .int .i64 (R : Nat), .int .i64 guard, .slice q t.length cap']).cells.toList 73 true)) := by (focus repeat' first | exact Ext.refl _ | assumption | apply Ext.push | (refine Ext.trans ?_ (by assumption)))
  generalize h.push (.cells (Value.agg #[.slice p n cap, .int .i64 (R : Nat), .int .i64 guard, .slice q t.length cap']).cells.toList 73 true) = h1 at hb1 hx1 ⊢
  have hbT : (h1.push (.cells (ints (List.replicate (R : Int).toNat 0)) 3 true)).get? h1.n = some (.cells (ints (List.replicate R 0)) 3 true) := get_push_same
  have hxT : Ext h1 (h1.push (.cells (ints (List.replicate (R : Int).toNat 0)) 3 true)) := by (focus repeat' first | exact Ext.refl _ | assumption | apply Ext.push | (refine Ext.trans ?_ (by assumption)))
  have hnT : h1.n < (h1.push (.cells (ints (List.replicate (R : Int).toNat 0)) 3 true)).n := Nat.lt_succ_self _
  generalize h1.push (.cells (ints (List.replicate (R : Int).toNat 0)) 3 true) = h2 at hbT hxT hnT ⊢
  have hx2 : Ext h h2 := hx1.trans hxT
  have hbt : h.n ≤ h1.n := hx1.n
  generalize h1.n = bt at hbT hnT hbt ⊢
  apply P_call; rfl; rfl; rfl; rfl; rfl; rfl; exact clone_ok hK hp hl (hr.ext hx2)
  rintro _ h3 ⟨hx3, bn, rfl, hbn, hnn⟩
  have hb3 := hx3.get (hxT.get hb1)
  (repeat' (first | (apply K_seq) | (apply K_region) | (apply O_at; rfl) | (apply O_fin; rfl) | (apply C_seq) | (apply K_ifT; rfl) | (apply K_ifF; rfl) | (apply K_block) | (apply K_skip) | (apply K_exit) | (apply K_ret) | (apply C_exit) | (apply C_exitS) | (apply C_exitL) | (apply C_blockN) | (apply C_nil) | (apply P_move; rfl; rfl; rfl; rfl) | (apply P_assign; rfl; rfl; rfl; rfl) | (apply P_fa; rfl; rfl; rfl; rfl; exact fo_ok rfl; (first | exact Nat.zero_add _ | exact Nat.add_zero _ | rfl)) | (apply P_lss; rfl; rfl; rfl; rfl; rfl; all_goals intro _) | (apply P_add; rfl; rfl; rfl; rfl; rfl; (unfold fit; omega)) | (apply P_idxA; rfl; rfl; rfl; rfl; rfl; exact un_ok rfl; exact sz_ok rfl; (first | exact zq0 | rfl | exact (Int.toNat_of_nonneg (by omega)).symm); omega) | (apply P_load1; rfl; rfl; rfl; rfl; exact on_ok rfl; (focus repeat' first | exact get_push_same | assumption | apply get_push_old | (apply Ext.get; assumption) | (apply ExtBut.get; assumption; assumption)); (first | exact ints_get (by omega) | rfl | assumption)) | (apply P_makeI; rfl; rfl; rfl; rfl; rfl; exact c1_ok rfl; exact zero3; omega; omega) | (apply P_storeI; rfl; rfl; rfl; rfl; (focus repeat' first | exact get_push_same | assumption | apply get_push_old | (apply Ext.get; assumption) | (apply ExtBut.get; assumption; assumption)); exact sz_ok rfl; omega; (intro _ _ _)) | (apply P_box; rfl; rfl; rfl; rfl; exact sz_ok rfl; rfl; rfl) | fail))
  refine K_loopE (fun k : Nat => [(16, .int .i64 (k : Nat)), (15, .int .i64 (R : Nat)), (3, .slice (some ⟨bt, 0, none⟩) R R), (4, .slice (some ⟨bn, 0, none⟩) t.length unk)])
    (fun k h' => k ≤ R ∧ Ext h h' ∧ Now t k bn h' ∧ ∃ cT, h'.get? bt = some (.cells (ints cT) 3 true) ∧ cT.length = R ∧ ∀ j, j < k → cT.getD j 0 = w64 (sumC t j 0)) (fun k => R - k) ?_ 0 ?_ ?_
  · intro k h' ⟨hk, hx, ⟨c, hc, hcl, hj⟩, cT, hT, hTl, hTj⟩ ih
    have hne : bn ≠ bt := by omega
    have hne' : bt ≠ bn := by omega
    by_cases hlt : k < R
    · (repeat' (first | (apply K_seq) | (apply K_region) | (apply O_at; rfl) | (apply O_fin; rfl) | (apply C_seq) | (apply K_ifT; rfl) | (apply K_ifF; rfl) | (apply K_block) | (apply K_skip) | (apply K_exit) | (apply K_ret) | (apply C_exit) | (apply C_exitS) | (apply C_exitL) | (apply C_blockN) | (apply C_nil) | (apply P_move; rfl; rfl; rfl; rfl) | (apply P_assign; rfl; rfl; rfl; rfl) | (apply P_fa; rfl; rfl; rfl; rfl; exact fo_ok rfl; (first | exact Nat.zero_add _ | exact Nat.add_zero _ | rfl)) | (apply P_lss; rfl; rfl; rfl; rfl; rfl; all_goals intro _) | (apply P_add; rfl; rfl; rfl; rfl; rfl; (unfold fit; omega)) | (apply P_idxA; rfl; rfl; rfl; rfl; rfl; exact un_ok rfl; exact sz_ok rfl; (first | exact zq0 | rfl | exact (Int.toNat_of_nonneg (by omega)).symm); omega) | (apply P_load1; rfl; rfl; rfl; rfl; exact on_ok rfl; (focus repeat' first | exact get_push_same | assumption | apply get_push_old | (apply Ext.get; assumption) | (apply ExtBut.get; assumption; assumption)); (first | exact ints_get (by omega) | rfl | assumption)) | (apply P_makeI; rfl; rfl; rfl; rfl; rfl; exact c1_ok rfl; exact zero3; omega; omega) | (apply P_storeI; rfl; rfl; rfl; rfl; (focus repeat' first | exact get_push_same | assumption | apply get_push_old | (apply Ext.get; assumption) | (apply ExtBut.get; assumption; assumption)); exact sz_ok rfl; omega; (intro _ _ _)) | (apply P_box; rfl; rfl; rfl; rfl; exact sz_ok rfl; rfl; rfl) | fail))
      · rename_i h4 hT4 hx4
        have hc4 := hx4.get hne hc
        apply P_call; rfl; rfl; rfl; rfl; rfl; rfl
        · rw [← hcl]; exact add_ok hK (by omega) hc4
        rintro _ h5 ⟨hx5, m', hm1, hm2, hm3⟩
        (repeat' (first | (apply K_seq) | (apply K_region) | (apply O_at; rfl) | (apply O_fin; rfl) | (apply C_seq) | (apply K_ifT; rfl) | (apply K_ifF; rfl) | (apply K_block) | (apply K_skip) | (apply K_exit) | (apply K_ret) | (apply C_exit) | (apply C_exitS) | (apply C_exitL) | (apply C_blockN) | (apply C_nil) | (apply P_move; rfl; rfl; rfl; rfl) | (apply P_assign; rfl; rfl; rfl; rfl) | (apply P_fa; rfl; rfl; rfl; rfl; exact fo_ok rfl; (first | exact Nat.zero_add _ | exact Nat.add_zero _ | rfl)) | (apply P_lss; rfl; rfl; rfl; rfl; rfl; all_goals intro _) | (apply P_add; rfl; rfl; rfl; rfl; rfl; (unfold fit; omega)) | (apply P_idxA; rfl; rfl; rfl; rfl; rfl; exact un_ok rfl; exact sz_ok rfl; (first | exact zq0 | rfl | exact (Int.toNat_of_nonneg (by omega)).symm); omega) | (apply P_load1; rfl; rfl; rfl; rfl; exact on_ok rfl; (focus repeat' first | exact get_push_same | assumption | apply get_push_old | (apply Ext.get; assumption) | (apply ExtBut.get; assumption; assumption)); (first | exact ints_get (by omega) | rfl | assumption)) | (apply P_makeI; rfl; rfl; rfl; rfl; rfl; exact c1_ok rfl; exact zero3; omega; omega) | (apply P_storeI; rfl; rfl; rfl; rfl; (focus repeat' first | exact get_push_same | assumption | apply get_push_old | (apply Ext.get; assumption) | (apply ExtBut.get; assumption; assumption)); exact sz_ok rfl; omega; (intro _ _ _)) | (apply P_box; rfl; rfl; rfl; rfl; exact sz_ok rfl; rfl; rfl) | fail))
        refine C_again (ih (k + 1) _ ?_ ⟨hlt, (hx.ofBut hx4 hbt).ofBut hx5 (by have := hx2.n; omega), ⟨m', hm1, by omega, now_next hcl hj hm3⟩, _, hx5.get hne' hT4, ?_, fun j hj' => ?_⟩) ?_
        · omega
        · simpa using hTl
        · rw [getD_set (by omega)]
          by_cases q : j = k
          · subst q; rw [if_pos rfl, hj 0 hp]; rfl
          · rw [if_neg q]; exact hTj j (by omega)
        · (focus repeat' first | rfl | exact trivial | apply And.intro)
      · omega
    · (repeat' (first | (apply K_seq) | (apply K_region) | (apply O_at; rfl) | (apply O_fin; rfl) | (apply C_seq) | (apply K_ifT; rfl) | (apply K_ifF; rfl) | (apply K_block) | (apply K_skip) | (apply K_exit) | (apply K_ret) | (apply C_exit) | (apply C_exitS) | (apply C_exitL) | (apply C_blockN) | (apply C_nil) | (apply P_move; rfl; rfl; rfl; rfl) | (apply P_assign; rfl; rfl; rfl; rfl) | (apply P_fa; rfl; rfl; rfl; rfl; exact fo_ok rfl; (first | exact Nat.zero_add _ | exact Nat.add_zero _ | rfl)) | (apply P_lss; rfl; rfl; rfl; rfl; rfl; all_goals intro _) | (apply P_add; rfl; rfl; rfl; rfl; rfl; (unfold fit; omega)) | (apply P_idxA; rfl; rfl; rfl; rfl; rfl; exact un_ok rfl; exact sz_ok rfl; (first | exact zq0 | rfl | exact (Int.toNat_of_nonneg (by omega)).symm); omega) | (apply P_load1; rfl; rfl; rfl; rfl; exact on_ok rfl; (focus repeat' first | exact get_push_same | assumption | apply get_push_old | (apply Ext.get; assumption) | (apply ExtBut.get; assumption; assumption)); (first | exact ints_get (by omega) | rfl | assumption)) | (apply P_makeI; rfl; rfl; rfl; rfl; rfl; exact c1_ok rfl; exact zero3; omega; omega) | (apply P_storeI; rfl; rfl; rfl; rfl; (focus repeat' first | exact get_push_same | assumption | apply get_push_old | (apply Ext.get; assumption) | (apply ExtBut.get; assumption; assumption)); exact sz_ok rfl; omega; (intro _ _ _)) | (apply P_box; rfl; rfl; rfl; rfl; exact sz_ok rfl; rfl; rfl) | fail))
      · omega
      · have e : k = R := by omega
        subst e
        have e2 : cT = tabL t k := list_eq (by rw [hTl, tabL_len]) fun j hj' => by rw [hTj j (by omega), tabL_get (by omega)]
        subst e2
        exact ⟨.inr rfl, _, rfl, bt, by rw [tabL_len]; rfl, hT, hx⟩
  · exact ⟨Nat.zero_le _, hx2.trans hx3, ⟨t, hbn, rfl, fun j hj => by rw [st_zero t j hj, hf]⟩, _, hx3.get hbT, by simp, fun j hj => by omega⟩
  · (focus repeat' first | rfl | exact trivial | apply And.intro)
theorem tableF_okC (hK : NoK K) {l : List (Int × Int)} {p q : Option Addr} {cap cap' R : Nat} {guard : Int} {t : List Int} {h : Heap} (hl : l.length ≤ 1000) (hr : Rd h p (spanCells l)) (hl' : t.length ≤ 1000) (hr' : Rd h q (ints t)) (hP : PlanP l R guard) (hT : TruthP l t) :
    CallW Tryz.prog K 12 #[.agg #[.slice p l.length cap, .int .i64 (R : Nat), .int .i64 guard], .slice q t.length cap'] h (OkC (tabL t R) h) := by
  refine body (N := 19) Tryz.func12 rfl (hK _ _ _ rfl) rfl rfl ?_
  have hp : 0 < t.length := by have := hT.1; have := hP.1.1; omega
  have hR : R ≤ 1000 := by have := hP.2.2.1; omega
  (repeat' (first | (apply K_seq) | (apply K_region) | (apply O_at; rfl) | (apply O_fin; rfl) | (apply C_seq) | (apply K_ifF; rfl) | (apply K_skip) | (apply K_ret) | (apply C_nil) | (apply P_move; rfl; rfl; rfl; rfl) | (apply P_assign; rfl; rfl; rfl; rfl) | (apply P_pick; rfl; rfl; rfl; rfl; rfl; rfl) | (apply P_not; rfl; rfl; rfl; rfl) | (apply P_loadA; rfl; rfl; rfl; rfl; exact ag_ok rfl; (focus repeat' first | exact get_push_same | assumption | (apply Ext.get; assumption)); (first | exact Nat.le_of_ble_eq_true rfl | (simp; done) | (simp; omega) | (rw [spanCells_len]; omega) | (rw [ints_len]; omega)); rfl) | (apply P_box; rfl; rfl; rfl; rfl; exact sz_ok rfl; rfl; rfl) | (apply P_call; rfl; rfl; rfl; rfl; rfl; rfl; exact yes (isPlan_ok hK hl (hr.ext (by (focus repeat' first | exact Ext.refl _ | assumption | apply Ext.push | (refine Ext.trans ?_ (by assumption)))))) hP; (rintro _ _ ⟨rfl, _⟩)) | (apply P_call; rfl; rfl; rfl; rfl; rfl; rfl; exact yes (isTruth_ok hK hl (hr.ext (by (focus repeat' first | exact Ext.refl _ | assumption | apply Ext.push | (refine Ext.trans ?_ (by assumption))))) hl' (hr'.ext (by (focus repeat' first | exact Ext.refl _ | assumption | apply Ext.push | (refine Ext.trans ?_ (by assumption)))))) hT; (rintro _ _ ⟨rfl, _⟩)) | fail))
  apply P_build; rfl; rfl; rfl; rfl; exact fill73 _ _ _ _ _ _
  (repeat' (first | (apply K_seq) | (apply K_region) | (apply O_at; rfl) | (apply O_fin; rfl) | (apply C_seq) | (apply K_ifF; rfl) | (apply K_skip) | (apply K_ret) | (apply C_nil) | (apply P_move; rfl; rfl; rfl; rfl) | (apply P_assign; rfl; rfl; rfl; rfl) | (apply P_pick; rfl; rfl; rfl; rfl; rfl; rfl) | (apply P_not; rfl; rfl; rfl; rfl) | (apply P_loadA; rfl; rfl; rfl; rfl; exact ag_ok rfl; (focus repeat' first | exact get_push_same | assumption | (apply Ext.get; assumption)); (first | exact Nat.le_of_ble_eq_true rfl | (simp; done) | (simp; omega) | (rw [spanCells_len]; omega) | (rw [ints_len]; omega)); rfl) | (apply P_box; rfl; rfl; rfl; rfl; exact sz_ok rfl; rfl; rfl) | (apply P_call; rfl; rfl; rfl; rfl; rfl; rfl; exact table_okC hK hp hl' (hr'.ext (by (focus repeat' first | exact Ext.refl _ | assumption | apply Ext.push | (refine Ext.trans ?_ (by assumption))))) hR (truth_small hP.2.1 hT); (rintro _ _ ⟨_, rfl, _, _⟩)) | fail))
  refine ⟨.inr rfl, _, rfl, _, rfl, by assumption, ?_⟩
  (focus repeat' first | exact Ext.refl _ | assumption | apply Ext.push | (refine Ext.trans ?_ (by assumption)))

theorem take_get {t : List Int} {m j : Nat} (h : j < m) : (t.take m).getD j 0 = t.getD j 0 := by
  simp [List.getD_eq_getElem?_getD, h]
/-- Is it the beginning of a list? -/
theorem samePre_ok (hK : NoK K) {p q : Option Addr} {cap cap' m : Nat} {s t : List Int} {h : Heap} (hl : s.length ≤ 1000) (hr : Rd h p (ints s)) (hm : m ≤ t.length) (_ : t.length ≤ 1000) (hr' : Rd h q (ints t)) :
    CallW Tryz.prog K 16 #[.slice p s.length cap, .slice q m cap'] h (IfB (s = t.take m) h) := by
  refine body (N := 26) Tryz.func16 rfl (hK _ _ _ rfl) rfl rfl ?_
  (repeat' (first | (apply K_seq) | (apply K_region) | (apply O_at; rfl) | (apply N_at; rfl) | (apply O_fin; rfl) | (apply C_seq) | (apply K_ifT; rfl) | (apply K_ifF; rfl) | (apply K_open; kernel_rfl) | (apply K_block) | (apply K_skip) | (apply K_exit) | (apply K_ret) | (apply N_fin; rfl; exact (.inl (Nat.le_refl 1))) | (apply N_fin; rfl; refine .inr ?_; (focus repeat' first | exact trivial | exact Keeps.nil _ _ | apply And.intro | rfl | (apply Keeps.cons; (focus repeat' first | assumption); (focus repeat' first | assumption)))) | (apply C_retS) | (apply C_retL) | (apply C_retB) | (apply C_exit) | (apply C_exitS) | (apply C_exitL) | (apply C_blockN) | (apply C_nil) | (apply P_move; rfl; rfl; rfl; rfl) | (apply P_assign; rfl; rfl; rfl; rfl) | (apply P_len; rfl; rfl; rfl; rfl; rfl; rfl; exact un_ok rfl) | (apply P_lss; rfl; rfl; rfl; rfl; rfl; all_goals intro _) | (apply P_neq; rfl; rfl; rfl; rfl; rfl; all_goals intro _) | (apply P_add; rfl; rfl; rfl; rfl; rfl; (unfold fit; omega)) | (apply M_move; rfl; rfl; rfl; rfl) | (apply M_neq; rfl; rfl; rfl; rfl; rfl; all_goals intro _) | (apply M_idxA; rfl; rfl; rfl; rfl; rfl; exact un_ok rfl; exact sz_ok rfl; (first | rfl | exact (Int.toNat_of_nonneg (by omega)).symm); omega) | (apply M_load1E; rfl; rfl; rfl; rfl; exact on_ok rfl; decide +kernel; (focus repeat' first | assumption); (first | exact ints_get (by omega) | rfl | assumption); (first | exact same_int _ _ | rfl | (simp [same, same.all2]; done)); (first | rfl | (simp [within]; omega))) | fail))
  · rename_i hne
    refine ⟨.inr rfl, _, rfl, .inr ⟨rfl, fun q => hne (by rw [q, List.length_take, Nat.min_eq_left hm]), ?_⟩⟩
    (focus repeat' first | exact Ext.refl _ | assumption | apply Ext.push | (refine Ext.trans ?_ (by assumption)))
  rename_i heq
  have heq' : s.length = m := by omega
  refine K_loopE (fun k : Nat => [(5, .int .i64 (k : Nat)), (0, .slice p s.length cap), (1, .slice q m cap')])
    (fun k h' => k ≤ m ∧ h' = h ∧ ∀ j, j < k → s.getD j 0 = t.getD j 0) (fun k => m - k) ?_ 0 ?_ ?_
  · intro k h' ⟨hk, hx, hj⟩ ih
    subst hx
    by_cases hlt : k < m
    · obtain ⟨b, e, own, rfl, hg⟩ := hr.at (by rw [ints_len]; omega)
      obtain ⟨b', e', own', rfl, hg'⟩ := hr'.at (by rw [ints_len]; omega)
      have hlt' : k < s.length := by omega
      have hlt2 : k < t.length := by omega
      (repeat' (first | (apply K_seq) | (apply K_region) | (apply O_at; rfl) | (apply N_at; rfl) | (apply O_fin; rfl) | (apply C_seq) | (apply K_ifT; rfl) | (apply K_ifF; rfl) | (apply K_open; kernel_rfl) | (apply K_block) | (apply K_skip) | (apply K_exit) | (apply K_ret) | (apply N_fin; rfl; exact (.inl (Nat.le_refl 1))) | (apply N_fin; rfl; refine .inr ?_; (focus repeat' first | exact trivial | exact Keeps.nil _ _ | apply And.intro | rfl | (apply Keeps.cons; (focus repeat' first | assumption); (focus repeat' first | assumption)))) | (apply C_retS) | (apply C_retL) | (apply C_retB) | (apply C_exit) | (apply C_exitS) | (apply C_exitL) | (apply C_blockN) | (apply C_nil) | (apply P_move; rfl; rfl; rfl; rfl) | (apply P_assign; rfl; rfl; rfl; rfl) | (apply P_len; rfl; rfl; rfl; rfl; rfl; rfl; exact un_ok rfl) | (apply P_lss; rfl; rfl; rfl; rfl; rfl; all_goals intro _) | (apply P_neq; rfl; rfl; rfl; rfl; rfl; all_goals intro _) | (apply P_add; rfl; rfl; rfl; rfl; rfl; (unfold fit; omega)) | (apply M_move; rfl; rfl; rfl; rfl) | (apply M_neq; rfl; rfl; rfl; rfl; rfl; all_goals intro _) | (apply M_idxA; rfl; rfl; rfl; rfl; rfl; exact un_ok rfl; exact sz_ok rfl; (first | rfl | exact (Int.toNat_of_nonneg (by omega)).symm); omega) | (apply M_load1E; rfl; rfl; rfl; rfl; exact on_ok rfl; decide +kernel; (focus repeat' first | assumption); (first | exact ints_get (by omega) | rfl | assumption); (first | exact same_int _ _ | rfl | (simp [same, same.all2]; done)); (first | rfl | (simp [within]; omega))) | fail))
      · rename_i hns
        refine ⟨.inr rfl, _, rfl, .inr ⟨rfl, fun q => hns (by rw [q, take_get hlt]), ?_⟩⟩
        (focus repeat' first | exact Ext.refl _ | assumption | apply Ext.push | (refine Ext.trans ?_ (by assumption)))
      · rename_i hns
        refine C_again (ih (k + 1) _ ?_ ⟨hlt, rfl, fun j hj' => ?_⟩) ?_
        · omega
        · by_cases hjk : j = k
          · subst hjk; exact hns
          · exact hj j (by omega)
        · (focus repeat' first | rfl | exact trivial | apply And.intro)
      · omega
    · (repeat' (first | (apply K_seq) | (apply K_region) | (apply O_at; rfl) | (apply N_at; rfl) | (apply O_fin; rfl) | (apply C_seq) | (apply K_ifT; rfl) | (apply K_ifF; rfl) | (apply K_open; kernel_rfl) | (apply K_block) | (apply K_skip) | (apply K_exit) | (apply K_ret) | (apply N_fin; rfl; exact (.inl (Nat.le_refl 1))) | (apply N_fin; rfl; refine .inr ?_; (focus repeat' first | exact trivial | exact Keeps.nil _ _ | apply And.intro | rfl | (apply Keeps.cons; (focus repeat' first | assumption); (focus repeat' first | assumption)))) | (apply C_retS) | (apply C_retL) | (apply C_retB) | (apply C_exit) | (apply C_exitS) | (apply C_exitL) | (apply C_blockN) | (apply C_nil) | (apply P_move; rfl; rfl; rfl; rfl) | (apply P_assign; rfl; rfl; rfl; rfl) | (apply P_len; rfl; rfl; rfl; rfl; rfl; rfl; exact un_ok rfl) | (apply P_lss; rfl; rfl; rfl; rfl; rfl; all_goals intro _) | (apply P_neq; rfl; rfl; rfl; rfl; rfl; all_goals intro _) | (apply P_add; rfl; rfl; rfl; rfl; rfl; (unfold fit; omega)) | (apply M_move; rfl; rfl; rfl; rfl) | (apply M_neq; rfl; rfl; rfl; rfl; rfl; all_goals intro _) | (apply M_idxA; rfl; rfl; rfl; rfl; rfl; exact un_ok rfl; exact sz_ok rfl; (first | rfl | exact (Int.toNat_of_nonneg (by omega)).symm); omega) | (apply M_load1E; rfl; rfl; rfl; rfl; exact on_ok rfl; decide +kernel; (focus repeat' first | assumption); (first | exact ints_get (by omega) | rfl | assumption); (first | exact same_int _ _ | rfl | (simp [same, same.all2]; done)); (first | rfl | (simp [within]; omega))) | fail))
      · omega
      · refine ⟨.inr rfl, _, rfl, .inl ⟨rfl, ?_, ?_⟩⟩
        · exact list_eq (by rw [List.length_take, Nat.min_eq_left hm, heq']) fun j hj' => by rw [take_get (by omega)]; exact hj j (by omega)
        · (focus repeat' first | exact Ext.refl _ | assumption | apply Ext.push | (refine Ext.trans ?_ (by assumption)))
  · exact ⟨Nat.zero_le _, rfl, fun j hj => by omega⟩
  · (focus repeat' first | rfl | exact trivial | apply And.intro)

/-! The state above a state; the table above it. -/
theorem bk_at {t : List Int} {r : Nat} : ∀ (d j : Nat), j + d + 1 = t.length → (bk (atP t (r + 1) t.length)).getD j 0 = (atP t r t.length).getD j 0 := by
  intro d
  induction d with
  | zero =>
    intro j hj
    rw [bk_last _ _ (by rw [atP_len]; omega), atP_get (by omega), atP_get (by omega), st_last t r j (by omega)]
  | succ d ih =>
    intro j hj
    rw [bk_get _ _ (by rw [atP_len]; omega), ih (j + 1) (by omega), atP_get (by omega), atP_get (by omega), atP_get (by omega), w64_sub, st_next t r j (by omega)]
    congr 1; omega
theorem bk_atP (t : List Int) (r : Nat) : bk (atP t (r + 1) t.length) = atP t r t.length :=
  list_eq (by rw [bk_len, atP_len, atP_len]) fun j hj => by
    rw [bk_len, atP_len] at hj
    exact bk_at (t.length - 1 - j) j (by omega)
theorem bkn_atP (t : List Int) (p : Nat) : ∀ d, bkn d (atP t (p + d) t.length) = atP t p t.length := by
  intro d
  induction d with
  | zero => rfl
  | succ d ih => rw [show p + (d + 1) = p + d + 1 from rfl, bkn, bk_atP, ih]
theorem clL_atP {t : List Int} {r : Nat} (hp : 0 < t.length) : clL (atP t r t.length) (r + 1) = tabL t (r + 1) :=
  list_eq (by rw [clL_len, tabL_len]) fun j hj => by
    rw [clL_len] at hj
    rw [clL_get hj, tabL_get hj]
    have := bkn_atP t j (r - j)
    rw [show j + (r - j) = r from by omega] at this
    rw [show r + 1 - 1 - j = r - j from by omega, this, atP_get hp]
    rfl
theorem tabL_take {t : List Int} {R r : Nat} (h : r < R) : (tabL t R).take (r + 1) = tabL t (r + 1) :=
  list_eq (by rw [List.length_take, tabL_len, tabL_len]; omega) fun j hj => by
    rw [List.length_take, tabL_len] at hj
    rw [take_get (by omega), tabL_get (by omega), tabL_get (by omega)]
end Go.AX.Sa

namespace Go.AX.Sa
open Go.Proofs
set_option maxRecDepth 100000
variable {K : Known}

theorem zero25 : zeroB Tryz.prog 25 = some (.slice none 0 0) := by kernel_rfl
theorem size_ok (hK : NoK K) {p : Option Addr} {n cap : Nat} {rows guard s : Int} {h : Heap} :
    CallW Tryz.prog K 32 #[.agg #[.slice p n cap, .int .i64 rows, .int .i64 guard], .int .i64 s] h (IfB (1 ≤ s ∧ s ≤ rows) h) := by
  refine body (N := 9) Tryz.func32 rfl (hK _ _ _ rfl) rfl rfl ?_
  (repeat' (first | (apply K_seq) | (apply K_region) | (apply O_at; rfl) | (apply O_fin; rfl) | (apply C_seq) | (apply K_ret) | (apply C_nil) | (apply P_move; rfl; rfl; rfl; rfl) | (apply P_assign; rfl; rfl; rfl; rfl) | (apply P_fa; rfl; rfl; rfl; rfl; exact fo_ok rfl; (first | exact Nat.zero_add _ | exact Nat.add_zero _ | rfl)) | (apply P_load1; rfl; rfl; rfl; rfl; exact on_ok rfl; (focus repeat' first | exact get_push_same | assumption); (first | rfl | assumption)) | (apply P_box; rfl; rfl; rfl; rfl; exact sz_ok rfl; rfl; rfl) | (apply P_call; rfl; rfl; rfl; rfl; rfl; rfl; exact in_ok hK; (rintro _ _ (⟨rfl, _, _⟩ | ⟨rfl, _, _⟩))) | fail))
  all_goals (refine ⟨.inr rfl, _, rfl, ?_⟩; first | (refine .inl ⟨rfl, by omega, ?_⟩; (focus repeat' first | exact Ext.refl _ | assumption | apply Ext.push | (refine Ext.trans ?_ (by assumption))); done) | (refine .inr ⟨rfl, by omega, ?_⟩; (focus repeat' first | exact Ext.refl _ | assumption | apply Ext.push | (refine Ext.trans ?_ (by assumption))); done))
theorem sheets_quo {R s : Nat} (hR : 0 < R) : ((R : Int) - 1).tdiv (s : Int) = ((R - 1) / s : Nat) := by
  rw [Int.tdiv_eq_ediv_of_nonneg (by omega), show (R : Int) - 1 = ((R - 1 : Nat) : Int) from by omega]; rfl
/-- How many sheets there are. -/
def shN (R s : Nat) : Nat := (R - 1) / s + 1
theorem shN_le {R s : Nat} (hR : 1 ≤ R ∧ R ≤ 12) : 1 ≤ shN R s ∧ shN R s ≤ 12 := by
  have := Nat.div_le_self (R - 1) s
  unfold shN
  generalize (R - 1) / s = z at this ⊢
  omega
theorem shN_lt {R s k : Nat} (hs : 0 < s) (hR : 0 < R) (h : k < shN R s) : k * s < R := by
  have h1 : k ≤ (R - 1) / s := by unfold shN at h; omega
  have h2 := (Nat.le_div_iff_mul_le hs).1 h1
  omega
theorem sheets_ok (hK : NoK K) {p : Option Addr} {n cap R s : Nat} {guard : Int} {h : Heap} (hR : 1 ≤ R ∧ R ≤ 12) (hs : 1 ≤ s ∧ s ≤ R) :
    CallW Tryz.prog K 64 #[.agg #[.slice p n cap, .int .i64 (R : Nat), .int .i64 guard], .int .i64 (s : Nat)] h (IsV (.int .i64 (shN R s : Nat)) h) := by
  refine body (N := 11) Tryz.func64 rfl (hK _ _ _ rfl) rfl rfl ?_
  have hb := shN_le (s := s) hR
  have hq := sheets_quo (s := s) (show 0 < R by omega)
  have he : (((R - 1) / s : Nat) : Int) + 1 = (shN R s : Nat) := by unfold shN; omega
  (repeat' (first | (apply K_seq) | (apply K_region) | (apply O_at; rfl) | (apply O_fin; rfl) | (apply C_seq) | (apply K_ret) | (apply C_nil) | (apply P_move; rfl; rfl; rfl; rfl) | (apply P_assign; rfl; rfl; rfl; rfl) | (apply P_fa; rfl; rfl; rfl; rfl; exact fo_ok rfl; (first | exact Nat.zero_add _ | exact Nat.add_zero _ | rfl)) | (apply P_add; rfl; rfl; rfl; rfl; rfl; (unfold fit; omega)) | (apply P_sub; rfl; rfl; rfl; rfl; rfl; (unfold fit; omega)) | (apply P_load1; rfl; rfl; rfl; rfl; exact on_ok rfl; (focus repeat' first | exact get_push_same | assumption); (first | rfl | assumption)) | (apply P_box; rfl; rfl; rfl; rfl; exact sz_ok rfl; rfl; rfl) | fail))
  apply P_quo; rfl; rfl; rfl; rfl; rfl; omega
  · rw [hq]; unfold fit; omega
  rw [hq]
  (repeat' (first | (apply K_seq) | (apply K_region) | (apply O_at; rfl) | (apply O_fin; rfl) | (apply C_seq) | (apply K_ret) | (apply C_nil) | (apply P_move; rfl; rfl; rfl; rfl) | (apply P_assign; rfl; rfl; rfl; rfl) | (apply P_fa; rfl; rfl; rfl; rfl; exact fo_ok rfl; (first | exact Nat.zero_add _ | exact Nat.add_zero _ | rfl)) | (apply P_add; rfl; rfl; rfl; rfl; rfl; (unfold fit; omega)) | (apply P_sub; rfl; rfl; rfl; rfl; rfl; (unfold fit; omega)) | (apply P_load1; rfl; rfl; rfl; rfl; exact on_ok rfl; (focus repeat' first | exact get_push_same | assumption); (first | rfl | assumption)) | (apply P_box; rfl; rfl; rfl; rfl; exact sz_ok rfl; rfl; rfl) | fail))
  rw [he]
  exact ⟨.inr rfl, _, rfl, rfl, by (focus repeat' first | exact Ext.refl _ | assumption | apply Ext.push | (refine Ext.trans ?_ (by assumption)))⟩

def IsSlv (v : Value) : Prop := ∃ p n c, v = .slice p n c
/-- The first rows of all sheets. -/
def CutC (t : List Int) (s S : Nat) (h : Heap) (v : Value) (h1 : Heap) : Prop := ∃ b vs, v = .tuple #[.slice (some ⟨b, 0, none⟩) S S, .int .i64 0] ∧ h1.get? b = some (.cells vs 25 true) ∧ vs.length = S ∧
  (∀ j, j < S → ∃ bj cj e own, vs[j]? = some (.slice (some ⟨bj, 0, none⟩) t.length cj) ∧ h1.get? bj = some (.cells (ints (atP t (j * s) t.length)) e own)) ∧ Ext h h1
theorem down_at (hK : NoK K) {t : List Int} {q : Option Addr} {cap r : Nat} {x : Int} {h : Heap} (hp : 0 < t.length) (hl : t.length ≤ 1000) (hr : Rd h q (ints t)) (hn : r ≤ 1000) (hf : ∀ j, w64 (t.getD j 0) = t.getD j 0) (he : x = (r : Nat)) :
    CallW Tryz.prog K 52 #[.slice q t.length cap, .int .i64 x] h (IsL (atP t r t.length) h) := by
  subst he; exact down_ok hK hp hl hr hn hf
set_option maxHeartbeats 1000000 in
theorem cut_ok (hK : NoK K) {l : List (Int × Int)} {p q : Option Addr} {cap cap' R s : Nat} {guard : Int} {t : List Int} {h : Heap} (hl : l.length ≤ 1000) (hr : Rd h p (spanCells l)) (hl' : t.length ≤ 1000) (hr' : Rd h q (ints t)) (hP : PlanP l (R : Nat) guard) (hT : TruthP l t) (hs : 1 ≤ s ∧ s ≤ R) :
    CallW Tryz.prog K 33 #[.agg #[.slice p l.length cap, .int .i64 (R : Nat), .int .i64 guard], .slice q t.length cap', .int .i64 (s : Nat)] h (CutC t s (shN R s) h) := by
  refine body (N := 45) Tryz.func33 rfl (hK _ _ _ rfl) rfl rfl ?_
  have hp : 0 < t.length := by have := hT.1; have := hP.1; omega
  have hR : 1 ≤ R ∧ R ≤ 12 := by have := hP.2.2.1; omega
  have hb := shN_le (s := s) hR
  have hw : (1 : Int) ≤ (s : Nat) ∧ ((s : Nat) : Int) ≤ (R : Nat) := by omega
  (repeat' (first | (apply K_seq) | (apply K_region) | (apply O_at; rfl) | (apply O_fin; rfl) | (apply C_seq) | (apply K_ifT; rfl) | (apply K_ifF; rfl) | (apply K_block) | (apply K_skip) | (apply K_exit) | (apply K_ret) | (apply C_exit) | (apply C_exitS) | (apply C_exitL) | (apply C_blockN) | (apply C_nil) | (apply P_move; rfl; rfl; rfl; rfl) | (apply P_assign; rfl; rfl; rfl; rfl) | (apply P_fa; rfl; rfl; rfl; rfl; exact fo_ok rfl; (first | exact Nat.zero_add _ | exact Nat.add_zero _ | rfl)) | (apply P_len; rfl; rfl; rfl; rfl; rfl; rfl; exact un_ok rfl) | (apply P_pick; rfl; rfl; rfl; rfl; rfl; rfl) | (apply P_not; rfl; rfl; rfl; rfl) | (apply P_lssF; rfl; rfl; rfl; rfl; rfl; omega) | (apply P_lssT; rfl; rfl; rfl; rfl; rfl; omega) | (apply P_add; rfl; rfl; rfl; rfl; rfl; (unfold fit; omega)) | (apply P_mul; rfl; rfl; rfl; rfl; rfl; (unfold fit; omega)) | (apply P_idxA; rfl; rfl; rfl; rfl; rfl; exact un_ok rfl; exact sz_ok rfl; (first | rfl | exact (Int.toNat_of_nonneg (by omega)).symm); omega) | (apply P_load1; rfl; rfl; rfl; rfl; exact on_ok rfl; (focus repeat' first | exact get_push_same | assumption | (apply Ext.get; assumption) | (apply ExtBut.get; assumption; assumption)); (first | exact ints_get (by omega) | rfl | assumption)) | (apply P_loadA; rfl; rfl; rfl; rfl; exact ag_ok rfl; (focus repeat' first | exact get_push_same | assumption | (apply Ext.get; assumption) | (apply ExtBut.get; assumption; assumption)); (first | exact Nat.le_of_ble_eq_true rfl | (simp; done) | (simp; omega) | (rw [spanCells_len]; omega) | (rw [ints_len]; omega)); rfl) | (apply P_makeL; rfl; rfl; rfl; rfl; rfl; exact c1_ok rfl; exact zero25; omega; omega) | (apply P_storeL; rfl; rfl; rfl; rfl; (focus repeat' first | exact get_push_same | assumption | (apply Ext.get; assumption) | (apply ExtBut.get; assumption; assumption)); exact sz_ok rfl; omega; (intro _ _ _)) | (apply P_box; rfl; rfl; rfl; rfl; exact sz_ok rfl; rfl; rfl) | (apply P_call; rfl; rfl; rfl; rfl; rfl; rfl; exact yes (isPlan_ok hK hl (hr.ext (by (focus repeat' first | exact Ext.refl _ | assumption | apply Ext.push | (refine Ext.trans ?_ (by assumption)))))) hP; (rintro _ _ ⟨rfl, _⟩)) | (apply P_call; rfl; rfl; rfl; rfl; rfl; rfl; exact yes (isTruth_ok hK hl (hr.ext (by (focus repeat' first | exact Ext.refl _ | assumption | apply Ext.push | (refine Ext.trans ?_ (by assumption))))) hl' (hr'.ext (by (focus repeat' first | exact Ext.refl _ | assumption | apply Ext.push | (refine Ext.trans ?_ (by assumption)))))) hT; (rintro _ _ ⟨rfl, _⟩)) | (apply P_call; rfl; rfl; rfl; rfl; rfl; rfl; exact yes (within_ok hK) hw; (rintro _ _ ⟨rfl, _⟩)) | (apply P_call; rfl; rfl; rfl; rfl; rfl; rfl; exact sheets_ok hK hR hs; (rintro _ _ ⟨rfl, _⟩)) | fail))
  rename_i h1 x1 h2 x2 h3 x3 h4 x4
  have hx4 : Ext h h4 := by (focus repeat' first | exact Ext.refl _ | assumption | apply Ext.push | (refine Ext.trans ?_ (by assumption)))
  have hbf : (h4.push (.cells (List.replicate ((shN R s : Nat) : Int).toNat (.slice none 0 0)) 25 true)).get? h4.n = some (.cells (List.replicate (shN R s) (.slice none 0 0)) 25 true) := get_push_same
  have hx5 : Ext h (h4.push (.cells (List.replicate ((shN R s : Nat) : Int).toNat (.slice none 0 0)) 25 true)) := by (focus repeat' first | exact Ext.refl _ | assumption | apply Ext.push | (refine Ext.trans ?_ (by assumption)))
  generalize h4.push (.cells (List.replicate ((shN R s : Nat) : Int).toNat (.slice none 0 0)) 25 true) = h5 at hbf hx5 ⊢
  have hnf : h.n ≤ h4.n := hx4.n
  clear x1 x2 x3 x4 hx4
  generalize h4.n = bf at hbf hnf ⊢
  refine K_loopE (fun k : Nat => [(32, .int .i64 (k : Nat)), (31, .int .i64 (shN R s : Nat)), (8, .slice (some ⟨bf, 0, none⟩) (shN R s) (shN R s)), (1, .slice q t.length cap'), (2, .int .i64 (s : Nat))])
    (fun k h' => k ≤ shN R s ∧ Ext h h' ∧ ∃ vs, h'.get? bf = some (.cells vs 25 true) ∧ vs.length = shN R s ∧ (∀ j, j < shN R s → ∃ v, vs[j]? = some v ∧ IsSlv v) ∧ ∀ j, j < k → ∃ bj cj e own, bj ≠ bf ∧ vs[j]? = some (.slice (some ⟨bj, 0, none⟩) t.length cj) ∧ h'.get? bj = some (.cells (ints (atP t (j * s) t.length)) e own)) (fun k => shN R s - k) ?_ 0 ?_ ?_
  · intro k h' ⟨hk, hx, vs, hvs, hvl, hva, hvj⟩ ih
    by_cases hlt : k < shN R s
    · have hks := shN_lt (by omega) (by omega) hlt
      have hmul : (k : Int) * (s : Nat) = ((k * s : Nat) : Int) := by rw [Int.natCast_mul]
      (repeat' (first | (apply K_seq) | (apply K_region) | (apply O_at; rfl) | (apply O_fin; rfl) | (apply C_seq) | (apply K_ifT; rfl) | (apply K_ifF; rfl) | (apply K_block) | (apply K_skip) | (apply K_exit) | (apply K_ret) | (apply C_exit) | (apply C_exitS) | (apply C_exitL) | (apply C_blockN) | (apply C_nil) | (apply P_move; rfl; rfl; rfl; rfl) | (apply P_assign; rfl; rfl; rfl; rfl) | (apply P_fa; rfl; rfl; rfl; rfl; exact fo_ok rfl; (first | exact Nat.zero_add _ | exact Nat.add_zero _ | rfl)) | (apply P_len; rfl; rfl; rfl; rfl; rfl; rfl; exact un_ok rfl) | (apply P_pick; rfl; rfl; rfl; rfl; rfl; rfl) | (apply P_not; rfl; rfl; rfl; rfl) | (apply P_lssF; rfl; rfl; rfl; rfl; rfl; omega) | (apply P_lssT; rfl; rfl; rfl; rfl; rfl; omega) | (apply P_add; rfl; rfl; rfl; rfl; rfl; (unfold fit; omega)) | (apply P_mul; rfl; rfl; rfl; rfl; rfl; (unfold fit; omega)) | (apply P_idxA; rfl; rfl; rfl; rfl; rfl; exact un_ok rfl; exact sz_ok rfl; (first | rfl | exact (Int.toNat_of_nonneg (by omega)).symm); omega) | (apply P_load1; rfl; rfl; rfl; rfl; exact on_ok rfl; (focus repeat' first | exact get_push_same | assumption | (apply Ext.get; assumption) | (apply ExtBut.get; assumption; assumption)); (first | exact ints_get (by omega) | rfl | assumption)) | (apply P_loadA; rfl; rfl; rfl; rfl; exact ag_ok rfl; (focus repeat' first | exact get_push_same | assumption | (apply Ext.get; assumption) | (apply ExtBut.get; assumption; assumption)); (first | exact Nat.le_of_ble_eq_true rfl | (simp; done) | (simp; omega) | (rw [spanCells_len]; omega) | (rw [ints_len]; omega)); rfl) | (apply P_makeL; rfl; rfl; rfl; rfl; rfl; exact c1_ok rfl; exact zero25; omega; omega) | (apply P_storeL; rfl; rfl; rfl; rfl; (focus repeat' first | exact get_push_same | assumption | (apply Ext.get; assumption) | (apply ExtBut.get; assumption; assumption)); exact sz_ok rfl; omega; (intro _ _ _)) | (apply P_box; rfl; rfl; rfl; rfl; exact sz_ok rfl; rfl; rfl) | fail))
      · apply P_call; rfl; rfl; rfl; rfl; rfl; rfl; exact down_at hK hp hl' (hr'.ext hx) (r := k * s) (by omega) (truth_small hP.2.1 hT) hmul
        rintro _ h6 ⟨pj, cj, rfl, rj, xj⟩
        obtain ⟨bj, ej, oj, rfl, hgj⟩ := rj.at (by rw [ints_len, atP_len]; exact hp)
        have hvs6 := xj.get hvs
        have hne : bj ≠ bf := by
          rintro rfl
          rw [hgj] at hvs6
          injection hvs6 with hvs6
          injection hvs6 with hc
          obtain ⟨v, hv, pv, nv, cv, rfl⟩ := hva 0 (by omega)
          rw [← hc] at hv
          rw [ints_get (by rw [atP_len]; exact hp)] at hv
          cases hv
        (repeat' (first | (apply K_seq) | (apply K_region) | (apply O_at; rfl) | (apply O_fin; rfl) | (apply C_seq) | (apply K_ifT; rfl) | (apply K_ifF; rfl) | (apply K_block) | (apply K_skip) | (apply K_exit) | (apply K_ret) | (apply C_exit) | (apply C_exitS) | (apply C_exitL) | (apply C_blockN) | (apply C_nil) | (apply P_move; rfl; rfl; rfl; rfl) | (apply P_assign; rfl; rfl; rfl; rfl) | (apply P_fa; rfl; rfl; rfl; rfl; exact fo_ok rfl; (first | exact Nat.zero_add _ | exact Nat.add_zero _ | rfl)) | (apply P_len; rfl; rfl; rfl; rfl; rfl; rfl; exact un_ok rfl) | (apply P_pick; rfl; rfl; rfl; rfl; rfl; rfl) | (apply P_not; rfl; rfl; rfl; rfl) | (apply P_lssF; rfl; rfl; rfl; rfl; rfl; omega) | (apply P_lssT; rfl; rfl; rfl; rfl; rfl; omega) | (apply P_add; rfl; rfl; rfl; rfl; rfl; (unfold fit; omega)) | (apply P_mul; rfl; rfl; rfl; rfl; rfl; (unfold fit; omega)) | (apply P_idxA; rfl; rfl; rfl; rfl; rfl; exact un_ok rfl; exact sz_ok rfl; (first | rfl | exact (Int.toNat_of_nonneg (by omega)).symm); omega) | (apply P_load1; rfl; rfl; rfl; rfl; exact on_ok rfl; (focus repeat' first | exact get_push_same | assumption | (apply Ext.get; assumption) | (apply ExtBut.get; assumption; assumption)); (first | exact ints_get (by omega) | rfl | assumption)) | (apply P_loadA; rfl; rfl; rfl; rfl; exact ag_ok rfl; (focus repeat' first | exact get_push_same | assumption | (apply Ext.get; assumption) | (apply ExtBut.get; assumption; assumption)); (first | exact Nat.le_of_ble_eq_true rfl | (simp; done) | (simp; omega) | (rw [spanCells_len]; omega) | (rw [ints_len]; omega)); rfl) | (apply P_makeL; rfl; rfl; rfl; rfl; rfl; exact c1_ok rfl; exact zero25; omega; omega) | (apply P_storeL; rfl; rfl; rfl; rfl; (focus repeat' first | exact get_push_same | assumption | (apply Ext.get; assumption) | (apply ExtBut.get; assumption; assumption)); exact sz_ok rfl; omega; (intro _ _ _)) | (apply P_box; rfl; rfl; rfl; rfl; exact sz_ok rfl; rfl; rfl) | fail))
        · rename_i h7 hv7 hx7
          refine C_again (ih (k + 1) _ ?_ ⟨hlt, (hx.trans xj).ofBut hx7 hnf, _, hv7, by simpa using hvl, fun j hj => ?_, fun j hj => ?_⟩) ?_
          · omega
          · by_cases q2 : j = k
            · subst q2; exact ⟨_, List.getElem?_set_self (by omega), _, _, _, rfl⟩
            · rw [List.getElem?_set_ne (fun q3 => q2 q3.symm)]; exact hva j hj
          · by_cases q2 : j = k
            · subst q2
              exact ⟨bj, cj, ej, oj, hne, by rw [List.getElem?_set_self (by omega), atP_len], hx7.get hne hgj⟩
            · obtain ⟨b2, c2, e2, o2, n2, g2, f2⟩ := hvj j (by omega)
              exact ⟨b2, c2, e2, o2, n2, by rw [List.getElem?_set_ne (fun q3 => q2 q3.symm)]; exact g2, hx7.get n2 (xj.get f2)⟩
          · (focus repeat' first | rfl | exact trivial | apply And.intro)
    · (repeat' (first | (apply K_seq) | (apply K_region) | (apply O_at; rfl) | (apply O_fin; rfl) | (apply C_seq) | (apply K_ifT; rfl) | (apply K_ifF; rfl) | (apply K_block) | (apply K_skip) | (apply K_exit) | (apply K_ret) | (apply C_exit) | (apply C_exitS) | (apply C_exitL) | (apply C_blockN) | (apply C_nil) | (apply P_move; rfl; rfl; rfl; rfl) | (apply P_assign; rfl; rfl; rfl; rfl) | (apply P_fa; rfl; rfl; rfl; rfl; exact fo_ok rfl; (first | exact Nat.zero_add _ | exact Nat.add_zero _ | rfl)) | (apply P_len; rfl; rfl; rfl; rfl; rfl; rfl; exact un_ok rfl) | (apply P_pick; rfl; rfl; rfl; rfl; rfl; rfl) | (apply P_not; rfl; rfl; rfl; rfl) | (apply P_lssF; rfl; rfl; rfl; rfl; rfl; omega) | (apply P_lssT; rfl; rfl; rfl; rfl; rfl; omega) | (apply P_add; rfl; rfl; rfl; rfl; rfl; (unfold fit; omega)) | (apply P_mul; rfl; rfl; rfl; rfl; rfl; (unfold fit; omega)) | (apply P_idxA; rfl; rfl; rfl; rfl; rfl; exact un_ok rfl; exact sz_ok rfl; (first | rfl | exact (Int.toNat_of_nonneg (by omega)).symm); omega) | (apply P_load1; rfl; rfl; rfl; rfl; exact on_ok rfl; (focus repeat' first | exact get_push_same | assumption | (apply Ext.get; assumption) | (apply ExtBut.get; assumption; assumption)); (first | exact ints_get (by omega) | rfl | assumption)) | (apply P_loadA; rfl; rfl; rfl; rfl; exact ag_ok rfl; (focus repeat' first | exact get_push_same | assumption | (apply Ext.get; assumption) | (apply ExtBut.get; assumption; assumption)); (first | exact Nat.le_of_ble_eq_true rfl | (simp; done) | (simp; omega) | (rw [spanCells_len]; omega) | (rw [ints_len]; omega)); rfl) | (apply P_makeL; rfl; rfl; rfl; rfl; rfl; exact c1_ok rfl; exact zero25; omega; omega) | (apply P_storeL; rfl; rfl; rfl; rfl; (focus repeat' first | exact get_push_same | assumption | (apply Ext.get; assumption) | (apply ExtBut.get; assumption; assumption)); exact sz_ok rfl; omega; (intro _ _ _)) | (apply P_box; rfl; rfl; rfl; rfl; exact sz_ok rfl; rfl; rfl) | fail))
      exact ⟨.inr rfl, _, rfl, bf, vs, rfl, hvs, hvl, fun j hj => by
        obtain ⟨b2, c2, e2, o2, _, g2, f2⟩ := hvj j (by omega)
        exact ⟨b2, c2, e2, o2, g2, f2⟩, hx⟩
  · exact ⟨Nat.zero_le _, hx5, _, hbf, by simp, fun j hj => ⟨.slice none 0 0, by simp [hj], none, 0, 0, rfl⟩, fun j hj => by omega⟩
  · (focus repeat' first | rfl | exact trivial | apply And.intro)
end Go.AX.Sa

namespace Go.AX.Sa
open Go.Proofs
set_option maxRecDepth 100000
variable {K : Known}

theorem sumC_drop {t : List Int} {r j : Nat} (hl : t.length ≤ 4) (hr : r < 12) (h : ∀ j, j < t.length → -99999 ≤ t.getD j 0 ∧ t.getD j 0 ≤ 99999) : -23199768 ≤ st t r j ∧ st t r j ≤ 23199768 :=
  sumC_bd (by simp; omega) hr fun i hi => by
    have := h (j + i) (by simp at hi; omega)
    simpa [List.getD_eq_getElem?_getD, List.getElem?_drop] using this
theorem state_near {l : List (Int × Int)} {t : List Int} {r : Nat} {rows guard : Int} (hP : PlanP l rows guard) (hT : TruthP l t) (hr : r < 12) : StateP (atP t r t.length) := by
  have h1 := hP.1
  have h2 := hT.1
  refine ⟨by rw [atP_len]; omega, fun j hj => ?_⟩
  rw [atP_len] at hj
  have hb := sumC_drop (t := t) (r := r) (j := j) (by omega) hr fun i hi => by
    have a := hT.2 i hi
    have b := hP.2.1 i (by omega)
    unfold StartP at b
    omega
  rw [atP_get hj, w64_small (by omega)]
  unfold NearP
  omega
theorem climb_at (hK : NoK K) {m : List Int} {p : Option Addr} {n cap R : Nat} {x : Int} {h : Heap} (hl : m.length ≤ 1000) (hr : Rd h p (ints m)) (hS : StateP m) (hR : 1 ≤ R ∧ R ≤ 12) (hn : n = m.length) (he : x = (R : Nat)) :
    CallW Tryz.prog K 29 #[.slice p n cap, .int .i64 x] h (OkB (clL m R) h) := by
  subst hn; subst he; exact okB (climb_ok hK hl hr hS hR) (by rw [clL_len]; omega)
theorem same_up (hK : NoK K) {l : List (Int × Int)} {t : List Int} {rows guard : Int} {R r m n cap cap' : Nat} {p q : Option Addr} {h : Heap} (hP : PlanP l rows guard) (hT : TruthP l t) (hR : R ≤ 12) (hr : r < R) (hp : Rd h p (ints (clL (atP t r t.length) (r + 1)))) (hq : Rd h q (ints (tabL t R))) (hn : n = (clL (atP t r t.length) (r + 1)).length) (hm : m = r + 1) :
    CallW Tryz.prog K 16 #[.slice p n cap, .slice q m cap'] h (IsV (.bool true) h) := by
  subst hn; subst hm
  have h0 : 0 < t.length := by have := hP.1; have := hT.1; omega
  exact yes (samePre_ok hK (by rw [clL_len]; omega) hp (by rw [tabL_len]; omega) (by rw [tabL_len]; omega) hq) (by rw [clL_atP h0, tabL_take hr])
theorem sheets_count {R s : Nat} (hs : 0 < s) (hR : 0 < R) : ((R : Int) + (s : Int) - 1).tdiv (s : Int) = (shN R s : Nat) := by
  rw [Int.tdiv_eq_ediv_of_nonneg (by omega), show (R : Int) + (s : Int) - 1 = ((R - 1 + s : Nat) : Int) from by omega]
  unfold shN
  rw [← Nat.add_div_right _ hs]; rfl

/-! DifferUpward. -/
theorem upward_long (hK : NoK K) (hKn : Kn K) {n m cap cap' : Nat} {p q : Option Addr} {rows guard row size : Int} {h : Heap} (hn : ¬ (n ≤ 6 ∧ m ≤ 6)) :
    CallW Tryz.prog K 8 #[.agg #[.slice p n cap, .int .i64 rows, .int .i64 guard], .slice q m cap', .int .i64 row, .int .i64 size] h fun v _ => v = .bool true := by
  refine body (N := 153) Tryz.func8 rfl (hK _ _ _ rfl) rfl rfl ?_
  (repeat' (first | (apply K_seq) | (apply K_region) | (apply O_at; rfl) | (apply O_fin; rfl) | (apply C_seq) | (apply K_ifT; rfl) | (apply K_ret) | (apply C_retS) | (apply C_nil) | (apply P_skip; rfl; rfl; rfl) | (apply P_move; rfl; rfl; rfl; rfl) | (apply P_assign; rfl; rfl; rfl; rfl) | (apply P_pick; rfl; rfl; rfl; rfl; rfl; rfl) | (apply P_not; rfl; rfl; rfl; rfl) | (apply P_loadA; rfl; rfl; rfl; rfl; exact ag_ok rfl; (focus repeat' first | exact get_push_same | assumption); (first | exact Nat.le_of_ble_eq_true rfl | (simp; done) | (simp; omega) | (rw [spanCells_len]; omega) | (rw [ints_len]; omega)); rfl) | (apply P_box; rfl; rfl; rfl; rfl; exact sz_ok rfl; rfl; rfl) | (apply P_call; rfl; rfl; rfl; rfl; rfl; rfl; exact right_long hK hn; (rintro _ _ ⟨rfl, _⟩)) | (apply P_call; rfl; rfl; rfl; rfl; rfl; rfl; exact known_ok' hKn; (rintro _ _ ⟨rfl, _⟩)) | fail))
  exact ⟨.inr rfl, _, rfl, rfl⟩
set_option maxHeartbeats 4000000 in
theorem upward_ok (hK : NoK K) (hKn : Kn K) {l : List (Int × Int)} {t : List Int} {cap cap' : Nat} {p q : Option Addr} {rows guard row size : Int} {h : Heap} (hn : l.length ≤ 6) (hm : t.length ≤ 6) (hr : Rd h p (spanCells l)) (hr' : Rd h q (ints t)) :
    CallW Tryz.prog K 8 #[.agg #[.slice p l.length cap, .int .i64 rows, .int .i64 guard], .slice q t.length cap', .int .i64 row, .int .i64 size] h fun v _ => v = .bool true := by
  refine body (N := 153) Tryz.func8 rfl (hK _ _ _ rfl) rfl rfl ?_
  have hl : l.length ≤ 1000 := by omega
  have hl' : t.length ≤ 1000 := by omega
  by_cases hPT : PlanP l rows guard ∧ TruthP l t
  · obtain ⟨hP, hT⟩ := hPT
    by_cases hW : 0 ≤ row ∧ row ≤ rows - 1
    · by_cases hZ : 1 ≤ size ∧ size ≤ rows
      · obtain ⟨R, rfl⟩ : ∃ R : Nat, rows = R := ⟨rows.toNat, by have := hP.2.2.1; omega⟩
        obtain ⟨r, rfl⟩ : ∃ r : Nat, row = r := ⟨row.toNat, by omega⟩
        obtain ⟨s, rfl⟩ : ∃ s : Nat, size = s := ⟨size.toNat, by omega⟩
        have hR : 1 ≤ R ∧ R ≤ 12 := by have := hP.2.2.1; omega
        have hp : 0 < t.length := by have := hT.1; have := hP.1; omega
        have k1 := tabL_len t R
        have k2 := atP_len t r t.length
        have hb := shN_le (s := s) hR
        have hs : 1 ≤ s ∧ s ≤ R := by omega
        have hq := sheets_count (R := R) (s := s) (by omega) (by omega)
        have hSr := state_near (r := r) hP hT (by omega)
        (repeat' (first | (apply K_seq) | (apply K_region) | (apply O_at; rfl) | (apply O_fin; rfl) | (apply C_seq) | (apply K_ifT; rfl) | (apply K_ifF; rfl) | (apply K_block) | (apply K_skip) | (apply K_exit) | (apply K_ret) | (apply C_retS) | (apply C_exit) | (apply C_exitS) | (apply C_exitL) | (apply C_blockN) | (apply C_nil) | (apply P_skip; rfl; rfl; rfl) | (apply P_move; rfl; rfl; rfl; rfl) | (apply P_assign; rfl; rfl; rfl; rfl) | (apply P_fa; rfl; rfl; rfl; rfl; exact fo_ok rfl; (first | exact Nat.zero_add _ | exact Nat.add_zero _ | rfl)) | (apply P_len; rfl; rfl; rfl; rfl; rfl; rfl; exact un_ok rfl) | (apply P_pick; rfl; rfl; rfl; rfl; rfl; rfl) | (apply P_not; rfl; rfl; rfl; rfl) | (apply P_extract; rfl; rfl; rfl; rfl; rfl) | (apply P_lssF; rfl; rfl; rfl; rfl; rfl; omega) | (apply P_lssT; rfl; rfl; rfl; rfl; rfl; omega) | (apply P_neqF; rfl; rfl; rfl; rfl; rfl; omega) | (apply P_add; rfl; rfl; rfl; rfl; rfl; (unfold fit; omega)) | (apply P_sub; rfl; rfl; rfl; rfl; rfl; (unfold fit; omega)) | (apply P_mul; rfl; rfl; rfl; rfl; rfl; (unfold fit; omega)) | (apply P_idxA; rfl; rfl; rfl; rfl; rfl; exact un_ok rfl; exact sz_ok rfl; (first | rfl | exact (Int.toNat_of_nonneg (by omega)).symm); omega) | (apply P_load1; rfl; rfl; rfl; rfl; exact on_ok rfl; (focus repeat' first | exact get_push_same | assumption | (apply Ext.get; assumption)); (first | rfl | assumption)) | (apply P_loadA; rfl; rfl; rfl; rfl; exact ag_ok rfl; (focus repeat' first | exact get_push_same | assumption | (apply Ext.get; assumption)); (first | exact Nat.le_of_ble_eq_true rfl | (simp; done) | (simp; omega) | (rw [spanCells_len]; omega) | (rw [ints_len]; omega)); rfl) | (apply P_sliceHi; rfl; rfl; rfl; rfl; rfl; exact un_ok rfl; exact sz_ok rfl; omega; omega; omega; omega) | (apply P_box; rfl; rfl; rfl; rfl; exact sz_ok rfl; rfl; rfl) | (apply P_call; rfl; rfl; rfl; rfl; rfl; rfl; exact yes (right_ok hK hn hm (hr.ext (by (focus repeat' first | exact Ext.refl _ | assumption | apply Ext.push | (refine Ext.trans ?_ (by assumption))))) (hr'.ext (by (focus repeat' first | exact Ext.refl _ | assumption | apply Ext.push | (refine Ext.trans ?_ (by assumption)))))) ⟨hP, hT⟩; (rintro _ _ ⟨rfl, _⟩)) | (apply P_call; rfl; rfl; rfl; rfl; rfl; rfl; exact yes (line_ok hK hP.2.2.1) hW; (rintro _ _ ⟨rfl, _⟩)) | (apply P_call; rfl; rfl; rfl; rfl; rfl; rfl; exact yes (size_ok hK) hZ; (rintro _ _ ⟨rfl, _⟩)) | (apply P_call; rfl; rfl; rfl; rfl; rfl; rfl; exact tableF_okC hK hl (hr.ext (by (focus repeat' first | exact Ext.refl _ | assumption | apply Ext.push | (refine Ext.trans ?_ (by assumption))))) hl' (hr'.ext (by (focus repeat' first | exact Ext.refl _ | assumption | apply Ext.push | (refine Ext.trans ?_ (by assumption))))) hP hT; (rintro _ _ ⟨_, rfl, _, _⟩)) | (apply P_call; rfl; rfl; rfl; rfl; rfl; rfl; exact okB (stateF_ok hK hl (hr.ext (by (focus repeat' first | exact Ext.refl _ | assumption | apply Ext.push | (refine Ext.trans ?_ (by assumption))))) hl' (hr'.ext (by (focus repeat' first | exact Ext.refl _ | assumption | apply Ext.push | (refine Ext.trans ?_ (by assumption))))) hP hT hW) (by omega); (rintro _ _ ⟨_, _, _, _, rfl, _, _⟩)) | (apply P_call; rfl; rfl; rfl; rfl; rfl; rfl; exact cut_ok hK hl (hr.ext (by (focus repeat' first | exact Ext.refl _ | assumption | apply Ext.push | (refine Ext.trans ?_ (by assumption))))) hl' (hr'.ext (by (focus repeat' first | exact Ext.refl _ | assumption | apply Ext.push | (refine Ext.trans ?_ (by assumption))))) hP hT hs; (rintro _ _ ⟨_, _, rfl, _, _, _, _⟩)) | fail))
        apply P_quo; rfl; rfl; rfl; rfl; rfl; omega
        · rw [hq]; unfold fit; omega
        rw [hq]
        (repeat' (first | (apply K_seq) | (apply K_region) | (apply O_at; rfl) | (apply O_fin; rfl) | (apply C_seq) | (apply K_ifT; rfl) | (apply K_ifF; rfl) | (apply K_block) | (apply K_skip) | (apply K_exit) | (apply K_ret) | (apply C_retS) | (apply C_exit) | (apply C_exitS) | (apply C_exitL) | (apply C_blockN) | (apply C_nil) | (apply P_skip; rfl; rfl; rfl) | (apply P_move; rfl; rfl; rfl; rfl) | (apply P_assign; rfl; rfl; rfl; rfl) | (apply P_fa; rfl; rfl; rfl; rfl; exact fo_ok rfl; (first | exact Nat.zero_add _ | exact Nat.add_zero _ | rfl)) | (apply P_len; rfl; rfl; rfl; rfl; rfl; rfl; exact un_ok rfl) | (apply P_pick; rfl; rfl; rfl; rfl; rfl; rfl) | (apply P_not; rfl; rfl; rfl; rfl) | (apply P_extract; rfl; rfl; rfl; rfl; rfl) | (apply P_lssF; rfl; rfl; rfl; rfl; rfl; omega) | (apply P_lssT; rfl; rfl; rfl; rfl; rfl; omega) | (apply P_neqF; rfl; rfl; rfl; rfl; rfl; omega) | (apply P_add; rfl; rfl; rfl; rfl; rfl; (unfold fit; omega)) | (apply P_sub; rfl; rfl; rfl; rfl; rfl; (unfold fit; omega)) | (apply P_mul; rfl; rfl; rfl; rfl; rfl; (unfold fit; omega)) | (apply P_idxA; rfl; rfl; rfl; rfl; rfl; exact un_ok rfl; exact sz_ok rfl; (first | rfl | exact (Int.toNat_of_nonneg (by omega)).symm); omega) | (apply P_load1; rfl; rfl; rfl; rfl; exact on_ok rfl; (focus repeat' first | exact get_push_same | assumption | (apply Ext.get; assumption)); (first | rfl | assumption)) | (apply P_loadA; rfl; rfl; rfl; rfl; exact ag_ok rfl; (focus repeat' first | exact get_push_same | assumption | (apply Ext.get; assumption)); (first | exact Nat.le_of_ble_eq_true rfl | (simp; done) | (simp; omega) | (rw [spanCells_len]; omega) | (rw [ints_len]; omega)); rfl) | (apply P_sliceHi; rfl; rfl; rfl; rfl; rfl; exact un_ok rfl; exact sz_ok rfl; omega; omega; omega; omega) | (apply P_box; rfl; rfl; rfl; rfl; exact sz_ok rfl; rfl; rfl) | (apply P_call; rfl; rfl; rfl; rfl; rfl; rfl; exact climb_at hK (m := atP t r t.length) (R := r + 1) (by omega) (.inr ⟨_, _, _, rfl, by (focus repeat' first | exact get_push_same | assumption | apply get_push_old | (apply Ext.get; assumption) | (apply ExtBut.get; assumption; assumption))⟩) hSr (by omega) (by omega) (by omega); (rintro _ _ ⟨_, _, _, _, rfl, _, _⟩)) | (apply P_call; rfl; rfl; rfl; rfl; rfl; rfl; exact same_up hK hP hT hR.2 (r := r) (R := R) (by omega) (.inr ⟨_, _, _, rfl, by (focus repeat' first | exact get_push_same | assumption | apply get_push_old | (apply Ext.get; assumption) | (apply ExtBut.get; assumption; assumption))⟩) (.inr ⟨_, _, _, rfl, by (focus repeat' first | exact get_push_same | assumption | apply get_push_old | (apply Ext.get; assumption) | (apply ExtBut.get; assumption; assumption))⟩) rfl (by omega); (rintro _ _ ⟨rfl, _⟩)) | fail))
        rename_i h1 x1 h2 x2 h3 x3 h4 bT gT x4 h5 bS cS eS oS gS x5 h6 bF vs gF lF aF x6 h7 bU cU eU oU gU x7 h8 x8
        have fT : h8.get? bT = some (.cells (ints (tabL t R)) 3 true) := by (focus repeat' first | exact get_push_same | assumption | apply get_push_old | (apply Ext.get; assumption) | (apply ExtBut.get; assumption; assumption))
        have fF : h8.get? bF = some (.cells vs 25 true) := by (focus repeat' first | exact get_push_same | assumption | apply get_push_old | (apply Ext.get; assumption) | (apply ExtBut.get; assumption; assumption))
        have x68 : Ext h6 h8 := by (focus repeat' first | exact Ext.refl _ | assumption | apply Ext.push | (refine Ext.trans ?_ (by assumption)))
        clear x8 x7 x6 x5 x4 x3 x2 x1 gU gS gT gF
        refine K_loopE (fun k : Nat => [(17, .int .i64 (k : Nat)), (13, .slice (some ⟨bF, 0, none⟩) (shN R s) (shN R s)), (9, .slice (some ⟨bT, 0, none⟩) (tabL t R).length (tabL t R).length), (1, .slice q t.length cap'), (3, .int .i64 (s : Nat))])
          (fun k h' => k ≤ shN R s ∧ Ext h8 h') (fun k => shN R s - k) ?_ 0 ⟨Nat.zero_le _, Ext.refl _⟩ ?_
        · intro k h' ⟨hk, hx⟩ ih
          have fT' := hx.get fT
          have fF' := hx.get fF
          by_cases hlt : k < shN R s
          · have hks := shN_lt (by omega) (by omega) hlt
            have hmul : (k : Int) * (s : Nat) = ((k * s : Nat) : Int) := by rw [Int.natCast_mul]
            obtain ⟨bj, cj, ej, oj, hv, hgj⟩ := aF k hlt
            have fj := hx.get (x68.get hgj)
            have hSk := state_near (r := k * s) hP hT (by omega)
            have k3 := atP_len t (k * s) t.length
            clear hgj
            (repeat' (first | (apply K_seq) | (apply K_region) | (apply O_at; rfl) | (apply O_fin; rfl) | (apply C_seq) | (apply K_ifT; rfl) | (apply K_ifF; rfl) | (apply K_block) | (apply K_skip) | (apply K_exit) | (apply K_ret) | (apply C_retS) | (apply C_exit) | (apply C_exitS) | (apply C_exitL) | (apply C_blockN) | (apply C_nil) | (apply P_skip; rfl; rfl; rfl) | (apply P_move; rfl; rfl; rfl; rfl) | (apply P_assign; rfl; rfl; rfl; rfl) | (apply P_fa; rfl; rfl; rfl; rfl; exact fo_ok rfl; (first | exact Nat.zero_add _ | exact Nat.add_zero _ | rfl)) | (apply P_len; rfl; rfl; rfl; rfl; rfl; rfl; exact un_ok rfl) | (apply P_pick; rfl; rfl; rfl; rfl; rfl; rfl) | (apply P_not; rfl; rfl; rfl; rfl) | (apply P_extract; rfl; rfl; rfl; rfl; rfl) | (apply P_lssF; rfl; rfl; rfl; rfl; rfl; omega) | (apply P_lssT; rfl; rfl; rfl; rfl; rfl; omega) | (apply P_neqF; rfl; rfl; rfl; rfl; rfl; omega) | (apply P_add; rfl; rfl; rfl; rfl; rfl; (unfold fit; omega)) | (apply P_sub; rfl; rfl; rfl; rfl; rfl; (unfold fit; omega)) | (apply P_mul; rfl; rfl; rfl; rfl; rfl; (unfold fit; omega)) | (apply P_idxA; rfl; rfl; rfl; rfl; rfl; exact un_ok rfl; exact sz_ok rfl; (first | rfl | exact (Int.toNat_of_nonneg (by omega)).symm); omega) | (apply P_load1; rfl; rfl; rfl; rfl; exact on_ok rfl; (focus repeat' first | exact get_push_same | assumption | (apply Ext.get; assumption)); (first | rfl | assumption)) | (apply P_loadA; rfl; rfl; rfl; rfl; exact ag_ok rfl; (focus repeat' first | exact get_push_same | assumption | (apply Ext.get; assumption)); (first | exact Nat.le_of_ble_eq_true rfl | (simp; done) | (simp; omega) | (rw [spanCells_len]; omega) | (rw [ints_len]; omega)); rfl) | (apply P_sliceHi; rfl; rfl; rfl; rfl; rfl; exact un_ok rfl; exact sz_ok rfl; omega; omega; omega; omega) | (apply P_box; rfl; rfl; rfl; rfl; exact sz_ok rfl; rfl; rfl) | (apply P_call; rfl; rfl; rfl; rfl; rfl; rfl; exact climb_at hK (m := atP t (k * s) t.length) (R := k * s + 1) (by omega) (.inr ⟨_, _, _, rfl, by (focus repeat' first | exact get_push_same | assumption | apply get_push_old | (apply Ext.get; assumption) | (apply ExtBut.get; assumption; assumption))⟩) hSk (by omega) (by omega) (by omega); (rintro _ _ ⟨_, _, _, _, rfl, _, _⟩)) | (apply P_call; rfl; rfl; rfl; rfl; rfl; rfl; exact same_up hK hP hT hR.2 (r := k * s) (R := R) (by omega) (.inr ⟨_, _, _, rfl, by (focus repeat' first | exact get_push_same | assumption | apply get_push_old | (apply Ext.get; assumption) | (apply ExtBut.get; assumption; assumption))⟩) (.inr ⟨_, _, _, rfl, by (focus repeat' first | exact get_push_same | assumption | apply get_push_old | (apply Ext.get; assumption) | (apply ExtBut.get; assumption; assumption))⟩) rfl (by omega); (rintro _ _ ⟨rfl, _⟩)) | fail))
            refine C_again (ih (k + 1) _ ?_ ⟨hlt, ?_⟩) ?_
            · omega
            · (focus repeat' first | exact Ext.refl _ | assumption | apply Ext.push | (refine Ext.trans ?_ (by assumption)))
            · (focus repeat' first | rfl | exact trivial | apply And.intro)
          · (repeat' (first | (apply K_seq) | (apply K_region) | (apply O_at; rfl) | (apply O_fin; rfl) | (apply C_seq) | (apply K_ifT; rfl) | (apply K_ifF; rfl) | (apply K_block) | (apply K_skip) | (apply K_exit) | (apply K_ret) | (apply C_retS) | (apply C_exit) | (apply C_exitS) | (apply C_exitL) | (apply C_blockN) | (apply C_nil) | (apply P_skip; rfl; rfl; rfl) | (apply P_move; rfl; rfl; rfl; rfl) | (apply P_assign; rfl; rfl; rfl; rfl) | (apply P_fa; rfl; rfl; rfl; rfl; exact fo_ok rfl; (first | exact Nat.zero_add _ | exact Nat.add_zero _ | rfl)) | (apply P_len; rfl; rfl; rfl; rfl; rfl; rfl; exact un_ok rfl) | (apply P_pick; rfl; rfl; rfl; rfl; rfl; rfl) | (apply P_not; rfl; rfl; rfl; rfl) | (apply P_extract; rfl; rfl; rfl; rfl; rfl) | (apply P_lssF; rfl; rfl; rfl; rfl; rfl; omega) | (apply P_lssT; rfl; rfl; rfl; rfl; rfl; omega) | (apply P_neqF; rfl; rfl; rfl; rfl; rfl; omega) | (apply P_add; rfl; rfl; rfl; rfl; rfl; (unfold fit; omega)) | (apply P_sub; rfl; rfl; rfl; rfl; rfl; (unfold fit; omega)) | (apply P_mul; rfl; rfl; rfl; rfl; rfl; (unfold fit; omega)) | (apply P_idxA; rfl; rfl; rfl; rfl; rfl; exact un_ok rfl; exact sz_ok rfl; (first | rfl | exact (Int.toNat_of_nonneg (by omega)).symm); omega) | (apply P_load1; rfl; rfl; rfl; rfl; exact on_ok rfl; (focus repeat' first | exact get_push_same | assumption | (apply Ext.get; assumption)); (first | rfl | assumption)) | (apply P_loadA; rfl; rfl; rfl; rfl; exact ag_ok rfl; (focus repeat' first | exact get_push_same | assumption | (apply Ext.get; assumption)); (first | exact Nat.le_of_ble_eq_true rfl | (simp; done) | (simp; omega) | (rw [spanCells_len]; omega) | (rw [ints_len]; omega)); rfl) | (apply P_sliceHi; rfl; rfl; rfl; rfl; rfl; exact un_ok rfl; exact sz_ok rfl; omega; omega; omega; omega) | (apply P_box; rfl; rfl; rfl; rfl; exact sz_ok rfl; rfl; rfl) | (apply P_call; rfl; rfl; rfl; rfl; rfl; rfl; exact known_ok' hKn; (rintro _ _ ⟨rfl, _⟩)) | fail))
            exact ⟨.inr rfl, _, rfl, rfl⟩
        · (focus repeat' first | rfl | exact trivial | apply And.intro)
      · (repeat' (first | (apply K_seq) | (apply K_region) | (apply O_at; rfl) | (apply O_fin; rfl) | (apply C_seq) | (apply K_ifT; rfl) | (apply K_ifF; rfl) | (apply K_block) | (apply K_skip) | (apply K_exit) | (apply K_ret) | (apply C_retS) | (apply C_exit) | (apply C_exitS) | (apply C_exitL) | (apply C_blockN) | (apply C_nil) | (apply P_skip; rfl; rfl; rfl) | (apply P_move; rfl; rfl; rfl; rfl) | (apply P_assign; rfl; rfl; rfl; rfl) | (apply P_fa; rfl; rfl; rfl; rfl; exact fo_ok rfl; (first | exact Nat.zero_add _ | exact Nat.add_zero _ | rfl)) | (apply P_len; rfl; rfl; rfl; rfl; rfl; rfl; exact un_ok rfl) | (apply P_pick; rfl; rfl; rfl; rfl; rfl; rfl) | (apply P_not; rfl; rfl; rfl; rfl) | (apply P_extract; rfl; rfl; rfl; rfl; rfl) | (apply P_lssF; rfl; rfl; rfl; rfl; rfl; omega) | (apply P_lssT; rfl; rfl; rfl; rfl; rfl; omega) | (apply P_neqF; rfl; rfl; rfl; rfl; rfl; omega) | (apply P_add; rfl; rfl; rfl; rfl; rfl; (unfold fit; omega)) | (apply P_sub; rfl; rfl; rfl; rfl; rfl; (unfold fit; omega)) | (apply P_mul; rfl; rfl; rfl; rfl; rfl; (unfold fit; omega)) | (apply P_idxA; rfl; rfl; rfl; rfl; rfl; exact un_ok rfl; exact sz_ok rfl; (first | rfl | exact (Int.toNat_of_nonneg (by omega)).symm); omega) | (apply P_load1; rfl; rfl; rfl; rfl; exact on_ok rfl; (focus repeat' first | exact get_push_same | assumption | (apply Ext.get; assumption)); (first | rfl | assumption)) | (apply P_loadA; rfl; rfl; rfl; rfl; exact ag_ok rfl; (focus repeat' first | exact get_push_same | assumption | (apply Ext.get; assumption)); (first | exact Nat.le_of_ble_eq_true rfl | (simp; done) | (simp; omega) | (rw [spanCells_len]; omega) | (rw [ints_len]; omega)); rfl) | (apply P_sliceHi; rfl; rfl; rfl; rfl; rfl; exact un_ok rfl; exact sz_ok rfl; omega; omega; omega; omega) | (apply P_box; rfl; rfl; rfl; rfl; exact sz_ok rfl; rfl; rfl) | (apply P_call; rfl; rfl; rfl; rfl; rfl; rfl; exact yes (right_ok hK hn hm (hr.ext (by (focus repeat' first | exact Ext.refl _ | assumption | apply Ext.push | (refine Ext.trans ?_ (by assumption))))) (hr'.ext (by (focus repeat' first | exact Ext.refl _ | assumption | apply Ext.push | (refine Ext.trans ?_ (by assumption)))))) ⟨hP, hT⟩; (rintro _ _ ⟨rfl, _⟩)) | (apply P_call; rfl; rfl; rfl; rfl; rfl; rfl; exact yes (line_ok hK hP.2.2.1) hW; (rintro _ _ ⟨rfl, _⟩)) | (apply P_call; rfl; rfl; rfl; rfl; rfl; rfl; exact no (size_ok hK) hZ; (rintro _ _ ⟨rfl, _⟩)) | (apply P_call; rfl; rfl; rfl; rfl; rfl; rfl; exact known_ok' hKn; (rintro _ _ ⟨rfl, _⟩)) | fail))
        exact ⟨.inr rfl, _, rfl, rfl⟩
    · (repeat' (first | (apply K_seq) | (apply K_region) | (apply O_at; rfl) | (apply O_fin; rfl) | (apply C_seq) | (apply K_ifT; rfl) | (apply K_ifF; rfl) | (apply K_block) | (apply K_skip) | (apply K_exit) | (apply K_ret) | (apply C_retS) | (apply C_exit) | (apply C_exitS) | (apply C_exitL) | (apply C_blockN) | (apply C_nil) | (apply P_skip; rfl; rfl; rfl) | (apply P_move; rfl; rfl; rfl; rfl) | (apply P_assign; rfl; rfl; rfl; rfl) | (apply P_fa; rfl; rfl; rfl; rfl; exact fo_ok rfl; (first | exact Nat.zero_add _ | exact Nat.add_zero _ | rfl)) | (apply P_len; rfl; rfl; rfl; rfl; rfl; rfl; exact un_ok rfl) | (apply P_pick; rfl; rfl; rfl; rfl; rfl; rfl) | (apply P_not; rfl; rfl; rfl; rfl) | (apply P_extract; rfl; rfl; rfl; rfl; rfl) | (apply P_lssF; rfl; rfl; rfl; rfl; rfl; omega) | (apply P_lssT; rfl; rfl; rfl; rfl; rfl; omega) | (apply P_neqF; rfl; rfl; rfl; rfl; rfl; omega) | (apply P_add; rfl; rfl; rfl; rfl; rfl; (unfold fit; omega)) | (apply P_sub; rfl; rfl; rfl; rfl; rfl; (unfold fit; omega)) | (apply P_mul; rfl; rfl; rfl; rfl; rfl; (unfold fit; omega)) | (apply P_idxA; rfl; rfl; rfl; rfl; rfl; exact un_ok rfl; exact sz_ok rfl; (first | rfl | exact (Int.toNat_of_nonneg (by omega)).symm); omega) | (apply P_load1; rfl; rfl; rfl; rfl; exact on_ok rfl; (focus repeat' first | exact get_push_same | assumption | (apply Ext.get; assumption)); (first | rfl | assumption)) | (apply P_loadA; rfl; rfl; rfl; rfl; exact ag_ok rfl; (focus repeat' first | exact get_push_same | assumption | (apply Ext.get; assumption)); (first | exact Nat.le_of_ble_eq_true rfl | (simp; done) | (simp; omega) | (rw [spanCells_len]; omega) | (rw [ints_len]; omega)); rfl) | (apply P_sliceHi; rfl; rfl; rfl; rfl; rfl; exact un_ok rfl; exact sz_ok rfl; omega; omega; omega; omega) | (apply P_box; rfl; rfl; rfl; rfl; exact sz_ok rfl; rfl; rfl) | (apply P_call; rfl; rfl; rfl; rfl; rfl; rfl; exact yes (right_ok hK hn hm (hr.ext (by (focus repeat' first | exact Ext.refl _ | assumption | apply Ext.push | (refine Ext.trans ?_ (by assumption))))) (hr'.ext (by (focus repeat' first | exact Ext.refl _ | assumption | apply Ext.push | (refine Ext.trans ?_ (by assumption)))))) ⟨hP, hT⟩; (rintro _ _ ⟨rfl, _⟩)) | (apply P_call; rfl; rfl; rfl; rfl; rfl; rfl; exact no (line_ok hK hP.2.2.1) hW; (rintro _ _ ⟨rfl, _⟩)) | (apply P_call; rfl; rfl; rfl; rfl; rfl; rfl; exact known_ok' hKn; (rintro _ _ ⟨rfl, _⟩)) | fail))
      exact ⟨.inr rfl, _, rfl, rfl⟩
  · (repeat' (first | (apply K_seq) | (apply K_region) | (apply O_at; rfl) | (apply O_fin; rfl) | (apply C_seq) | (apply K_ifT; rfl) | (apply K_ifF; rfl) | (apply K_block) | (apply K_skip) | (apply K_exit) | (apply K_ret) | (apply C_retS) | (apply C_exit) | (apply C_exitS) | (apply C_exitL) | (apply C_blockN) | (apply C_nil) | (apply P_skip; rfl; rfl; rfl) | (apply P_move; rfl; rfl; rfl; rfl) | (apply P_assign; rfl; rfl; rfl; rfl) | (apply P_fa; rfl; rfl; rfl; rfl; exact fo_ok rfl; (first | exact Nat.zero_add _ | exact Nat.add_zero _ | rfl)) | (apply P_len; rfl; rfl; rfl; rfl; rfl; rfl; exact un_ok rfl) | (apply P_pick; rfl; rfl; rfl; rfl; rfl; rfl) | (apply P_not; rfl; rfl; rfl; rfl) | (apply P_extract; rfl; rfl; rfl; rfl; rfl) | (apply P_lssF; rfl; rfl; rfl; rfl; rfl; omega) | (apply P_lssT; rfl; rfl; rfl; rfl; rfl; omega) | (apply P_neqF; rfl; rfl; rfl; rfl; rfl; omega) | (apply P_add; rfl; rfl; rfl; rfl; rfl; (unfold fit; omega)) | (apply P_sub; rfl; rfl; rfl; rfl; rfl; (unfold fit; omega)) | (apply P_mul; rfl; rfl; rfl; rfl; rfl; (unfold fit; omega)) | (apply P_idxA; rfl; rfl; rfl; rfl; rfl; exact un_ok rfl; exact sz_ok rfl; (first | rfl | exact (Int.toNat_of_nonneg (by omega)).symm); omega) | (apply P_load1; rfl; rfl; rfl; rfl; exact on_ok rfl; (focus repeat' first | exact get_push_same | assumption | (apply Ext.get; assumption)); (first | rfl | assumption)) | (apply P_loadA; rfl; rfl; rfl; rfl; exact ag_ok rfl; (focus repeat' first | exact get_push_same | assumption | (apply Ext.get; assumption)); (first | exact Nat.le_of_ble_eq_true rfl | (simp; done) | (simp; omega) | (rw [spanCells_len]; omega) | (rw [ints_len]; omega)); rfl) | (apply P_sliceHi; rfl; rfl; rfl; rfl; rfl; exact un_ok rfl; exact sz_ok rfl; omega; omega; omega; omega) | (apply P_box; rfl; rfl; rfl; rfl; exact sz_ok rfl; rfl; rfl) | (apply P_call; rfl; rfl; rfl; rfl; rfl; rfl; exact no (right_ok hK hn hm (hr.ext (by (focus repeat' first | exact Ext.refl _ | assumption | apply Ext.push | (refine Ext.trans ?_ (by assumption))))) (hr'.ext (by (focus repeat' first | exact Ext.refl _ | assumption | apply Ext.push | (refine Ext.trans ?_ (by assumption)))))) hPT; (rintro _ _ ⟨rfl, _⟩)) | (apply P_call; rfl; rfl; rfl; rfl; rfl; rfl; exact known_ok' hKn; (rintro _ _ ⟨rfl, _⟩)) | fail))
    exact ⟨.inr rfl, _, rfl, rfl⟩
end Go.AX.Sa
