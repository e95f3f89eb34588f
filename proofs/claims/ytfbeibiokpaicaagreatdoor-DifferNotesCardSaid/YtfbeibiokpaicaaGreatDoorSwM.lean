/- The same, as the document has it. -/
import Derived.Test.YtfbeibiokpaicaaGreatDoorSwL
import Derived.Test.YtfbeibiokpaicaaGreatDoorAxX
namespace Go.AX.Sa
open Go.Proofs
set_option maxRecDepth 100000
variable {K : Known}

/-! The same, as the document has it. -/
theorem seen_ok (hK : NoK K) {seen : List (Int × Int)} {bq n cap caps R : Nat} {qs : Option Addr} {guard : Int} {h : Heap} {xq : Blk} (hq : h.get? bq = some xq) (hR : 1 ≤ (R : Int) ∧ (R : Int) ≤ 12) (hl : seen.length ≤ 1000) (hrs : Rd h qs (spanCells seen)) :
    CallW Tryz.prog K 20 #[.agg #[.slice (some ⟨bq, 0, none⟩) n cap, .int .i64 (R : Nat), .int .i64 guard], .slice qs seen.length caps] h (IfB (SeenP R seen) h) := by
  refine body (N := 32) Tryz.func20 rfl (hK _ _ _ rfl) rfl rfl ?_
  (repeat' (first | (apply K_seq) | (apply K_region) | (apply O_at; rfl) | (apply N_at; rfl) | (apply O_fin; rfl) | (apply C_seq) | (apply K_ifT; rfl) | (apply K_ifF; rfl) | (apply K_open; kernel_rfl) | (apply K_block) | (apply K_skip) | (apply K_exit) | (apply K_ret) | (apply N_fin; rfl; exact (.inl (Nat.le_refl 1))) | (apply N_fin; rfl; refine .inr ?_; (focus repeat' first | exact trivial | exact Keeps.nil _ _ | apply And.intro | rfl | (apply Keeps.cons; (focus repeat' first | exact get_push_same | assumption | (apply Ext.get; assumption)); (focus repeat' first | exact get_push_same | assumption | (apply Ext.get; assumption))))) | (apply C_retS) | (apply C_retL) | (apply C_retB) | (apply C_exit) | (apply C_exitS) | (apply C_exitL) | (apply C_blockN) | (apply C_nil) | (apply P_move; rfl; rfl; rfl; rfl) | (apply P_assign; rfl; rfl; rfl; rfl) | (apply P_len; rfl; rfl; rfl; rfl; rfl; rfl; exact un_ok rfl) | (apply P_lss; rfl; rfl; rfl; rfl; rfl; all_goals intro _) | (apply P_leq; rfl; rfl; rfl; rfl; rfl; all_goals intro _) | (apply P_add; rfl; rfl; rfl; rfl; rfl; (unfold fit; omega)) | (apply P_box; rfl; rfl; rfl; rfl; exact sz_ok rfl; rfl; rfl) | (apply M_skip; rfl; rfl; rfl; rfl) | (apply M_skipA; rfl; rfl; rfl; rfl) | (apply M_move; rfl; rfl; rfl; rfl) | (apply M_fa; rfl; rfl; rfl; rfl; exact fo_ok rfl; (first | exact Nat.zero_add _ | exact Nat.add_zero _ | rfl)) | (apply M_pick; rfl; rfl; rfl; rfl; rfl; rfl) | (apply M_not; rfl; rfl; rfl; rfl) | (apply M_idxB; rfl; rfl; rfl; rfl; rfl; exact un_ok rfl; exact sz_ok rfl; (first | rfl | exact (Int.toNat_of_nonneg (by omega)).symm); omega) | (apply M_load1E; rfl; rfl; rfl; rfl; exact on_ok rfl; decide +kernel; (focus repeat' first | exact get_push_same | assumption | (apply Ext.get; assumption)); (first | exact spans_lo (by omega) | exact spans_hi (by omega) | rfl | assumption); (first | assumption | exact same_yield _ | exact same_int _ _ | exact same_plan _ _ _ _ _ | rfl | (simp [same, same.all2]; done)); (first | rfl | assumption | exact within_yield (by omega) | (focus apply within_plan; (focus repeat' first | exact get_push_same | assumption | (apply Ext.get; assumption)); done) | exact within_planO hpb (by (focus repeat' first | exact Ext.refl _ | assumption | apply Ext.push | (refine Ext.trans ?_ (by assumption)) | (refine Ext.set ?_ (Nat.le_succ _) (get_push_old get_push_same) _))) | exact within_optO hpb (by (focus repeat' first | exact Ext.refl _ | assumption | apply Ext.push | (refine Ext.trans ?_ (by assumption)) | (refine Ext.set ?_ (Nat.le_succ _) (get_push_old get_push_same) _))) | (simp [within]; omega))) | (apply M_loadAE; rfl; rfl; rfl; rfl; exact ag_ok rfl; decide +kernel; (focus repeat' first | exact get_push_same | assumption | (apply Ext.get; assumption)); (first | exact Nat.le_of_ble_eq_true rfl | (simp; done) | (simp; omega) | (rw [spanCells_len]; omega) | (rw [ints_len]; omega)); rfl; (first | assumption | exact same_yield _ | exact same_int _ _ | exact same_plan _ _ _ _ _ | rfl | (simp [same, same.all2]; done)); (first | rfl | assumption | exact within_yield (by omega) | (focus apply within_plan; (focus repeat' first | exact get_push_same | assumption | (apply Ext.get; assumption)); done) | exact within_planO hpb (by (focus repeat' first | exact Ext.refl _ | assumption | apply Ext.push | (refine Ext.trans ?_ (by assumption)) | (refine Ext.set ?_ (Nat.le_succ _) (get_push_old get_push_same) _))) | exact within_optO hpb (by (focus repeat' first | exact Ext.refl _ | assumption | apply Ext.push | (refine Ext.trans ?_ (by assumption)) | (refine Ext.set ?_ (Nat.le_succ _) (get_push_old get_push_same) _))) | (simp [within]; omega))) | (apply M_load1H; rfl; rfl; rfl; rfl; exact on_ok rfl; decide +kernel; (focus repeat' first | exact get_push_same | assumption | (apply Ext.get; assumption)); (first | exact spans_lo (by omega) | exact spans_hi (by omega) | rfl | assumption); (first | assumption | exact same_yield _ | exact same_int _ _ | exact same_plan _ _ _ _ _ | rfl | (simp [same, same.all2]; done)); (first | rfl | assumption | exact within_yield (by omega) | (focus apply within_plan; (focus repeat' first | exact get_push_same | assumption | (apply Ext.get; assumption)); done) | exact within_planO hpb (by (focus repeat' first | exact Ext.refl _ | assumption | apply Ext.push | (refine Ext.trans ?_ (by assumption)) | (refine Ext.set ?_ (Nat.le_succ _) (get_push_old get_push_same) _))) | exact within_optO hpb (by (focus repeat' first | exact Ext.refl _ | assumption | apply Ext.push | (refine Ext.trans ?_ (by assumption)) | (refine Ext.set ?_ (Nat.le_succ _) (get_push_old get_push_same) _))) | (simp [within]; omega))) | fail))
  have hb1 : (h.push (.cells (Value.agg #[.slice (some ⟨bq, 0, none⟩) n cap, .int .i64 (R : Nat), .int .i64 guard]).cells.toList 24 true)).get? h.n = some (.cells [.slice (some ⟨bq, 0, none⟩) n cap, .int .i64 (R : Nat), .int .i64 guard] 24 true) := get_push_same
  have hx2 : Ext h (h.push (.cells (Value.agg #[.slice (some ⟨bq, 0, none⟩) n cap, .int .i64 (R : Nat), .int .i64 guard]).cells.toList 24 true)) := by (focus repeat' first | exact Ext.refl _ | assumption | apply Ext.push | (refine Ext.trans ?_ (by assumption)) | (refine Ext.set ?_ (Nat.le_succ _) (get_push_old get_push_same) _))
  generalize h.push (.cells (Value.agg #[.slice (some ⟨bq, 0, none⟩) n cap, .int .i64 (R : Nat), .int .i64 guard]).cells.toList 24 true) = h2 at hb1 hx2 ⊢
  refine K_loopE (fun k : Nat => [(5, .int .i64 (k : Nat)), (1, .slice qs seen.length caps), (2, .pointer (some ⟨h.n, 0, none⟩))])
    (fun k h' => k ≤ seen.length ∧ Ext h2 h' ∧ ∀ j, j < k → (0 ≤ (seen.getD j (0, 0)).1 ∧ (seen.getD j (0, 0)).1 ≤ (R : Int) - 1) ∧ NearP (seen.getD j (0, 0)).2) (fun k => seen.length - k) ?_ 0 ?_ ?_
  · intro k h' ⟨hk, hx, hj⟩ ih
    have hb := hx.get hb1
    have hq' := hx.get (hx2.get hq)
    by_cases hlt : k < seen.length
    · obtain ⟨b, e, own, rfl, hg⟩ := hrs.at (by rw [spanCells_len]; omega)
      have hg2 := hx.get (hx2.get hg)
      clear hg
      (repeat' (first | (apply K_seq) | (apply K_region) | (apply O_at; rfl) | (apply N_at; rfl) | (apply O_fin; rfl) | (apply C_seq) | (apply K_ifT; rfl) | (apply K_ifF; rfl) | (apply K_open; kernel_rfl) | (apply K_block) | (apply K_skip) | (apply K_exit) | (apply K_ret) | (apply N_fin; rfl; exact (.inl (Nat.le_refl 1))) | (apply N_fin; rfl; refine .inr ?_; (focus repeat' first | exact trivial | exact Keeps.nil _ _ | apply And.intro | rfl | (apply Keeps.cons; (focus repeat' first | exact get_push_same | assumption | (apply Ext.get; assumption)); (focus repeat' first | exact get_push_same | assumption | (apply Ext.get; assumption))))) | (apply C_retS) | (apply C_retL) | (apply C_retB) | (apply C_exit) | (apply C_exitS) | (apply C_exitL) | (apply C_blockN) | (apply C_nil) | (apply P_move; rfl; rfl; rfl; rfl) | (apply P_assign; rfl; rfl; rfl; rfl) | (apply P_len; rfl; rfl; rfl; rfl; rfl; rfl; exact un_ok rfl) | (apply P_lss; rfl; rfl; rfl; rfl; rfl; all_goals intro _) | (apply P_leq; rfl; rfl; rfl; rfl; rfl; all_goals intro _) | (apply P_add; rfl; rfl; rfl; rfl; rfl; (unfold fit; omega)) | (apply P_box; rfl; rfl; rfl; rfl; exact sz_ok rfl; rfl; rfl) | (apply M_skip; rfl; rfl; rfl; rfl) | (apply M_skipA; rfl; rfl; rfl; rfl) | (apply M_move; rfl; rfl; rfl; rfl) | (apply M_fa; rfl; rfl; rfl; rfl; exact fo_ok rfl; (first | exact Nat.zero_add _ | exact Nat.add_zero _ | rfl)) | (apply M_pick; rfl; rfl; rfl; rfl; rfl; rfl) | (apply M_not; rfl; rfl; rfl; rfl) | (apply M_idxB; rfl; rfl; rfl; rfl; rfl; exact un_ok rfl; exact sz_ok rfl; (first | rfl | exact (Int.toNat_of_nonneg (by omega)).symm); omega) | (apply M_load1E; rfl; rfl; rfl; rfl; exact on_ok rfl; decide +kernel; (focus repeat' first | exact get_push_same | assumption | (apply Ext.get; assumption)); (first | exact spans_lo (by omega) | exact spans_hi (by omega) | rfl | assumption); (first | assumption | exact same_yield _ | exact same_int _ _ | exact same_plan _ _ _ _ _ | rfl | (simp [same, same.all2]; done)); (first | rfl | assumption | exact within_yield (by omega) | (focus apply within_plan; (focus repeat' first | exact get_push_same | assumption | (apply Ext.get; assumption)); done) | exact within_planO hpb (by (focus repeat' first | exact Ext.refl _ | assumption | apply Ext.push | (refine Ext.trans ?_ (by assumption)) | (refine Ext.set ?_ (Nat.le_succ _) (get_push_old get_push_same) _))) | exact within_optO hpb (by (focus repeat' first | exact Ext.refl _ | assumption | apply Ext.push | (refine Ext.trans ?_ (by assumption)) | (refine Ext.set ?_ (Nat.le_succ _) (get_push_old get_push_same) _))) | (simp [within]; omega))) | (apply M_loadAE; rfl; rfl; rfl; rfl; exact ag_ok rfl; decide +kernel; (focus repeat' first | exact get_push_same | assumption | (apply Ext.get; assumption)); (first | exact Nat.le_of_ble_eq_true rfl | (simp; done) | (simp; omega) | (rw [spanCells_len]; omega) | (rw [ints_len]; omega)); rfl; (first | assumption | exact same_yield _ | exact same_int _ _ | exact same_plan _ _ _ _ _ | rfl | (simp [same, same.all2]; done)); (first | rfl | assumption | exact within_yield (by omega) | (focus apply within_plan; (focus repeat' first | exact get_push_same | assumption | (apply Ext.get; assumption)); done) | exact within_planO hpb (by (focus repeat' first | exact Ext.refl _ | assumption | apply Ext.push | (refine Ext.trans ?_ (by assumption)) | (refine Ext.set ?_ (Nat.le_succ _) (get_push_old get_push_same) _))) | exact within_optO hpb (by (focus repeat' first | exact Ext.refl _ | assumption | apply Ext.push | (refine Ext.trans ?_ (by assumption)) | (refine Ext.set ?_ (Nat.le_succ _) (get_push_old get_push_same) _))) | (simp [within]; omega))) | (apply M_load1H; rfl; rfl; rfl; rfl; exact on_ok rfl; decide +kernel; (focus repeat' first | exact get_push_same | assumption | (apply Ext.get; assumption)); (first | exact spans_lo (by omega) | exact spans_hi (by omega) | rfl | assumption); (first | assumption | exact same_yield _ | exact same_int _ _ | exact same_plan _ _ _ _ _ | rfl | (simp [same, same.all2]; done)); (first | rfl | assumption | exact within_yield (by omega) | (focus apply within_plan; (focus repeat' first | exact get_push_same | assumption | (apply Ext.get; assumption)); done) | exact within_planO hpb (by (focus repeat' first | exact Ext.refl _ | assumption | apply Ext.push | (refine Ext.trans ?_ (by assumption)) | (refine Ext.set ?_ (Nat.le_succ _) (get_push_old get_push_same) _))) | exact within_optO hpb (by (focus repeat' first | exact Ext.refl _ | assumption | apply Ext.push | (refine Ext.trans ?_ (by assumption)) | (refine Ext.set ?_ (Nat.le_succ _) (get_push_old get_push_same) _))) | (simp [within]; omega))) | (apply M_call; rfl; rfl; rfl; rfl; rfl; rfl; rfl; exact line_ok hK hR; (rintro _ _ (⟨rfl, _, _⟩ | ⟨rfl, _, _⟩))) | (apply M_call; rfl; rfl; rfl; rfl; rfl; rfl; rfl; exact in_ok hK; (rintro _ _ (⟨rfl, _, _⟩ | ⟨rfl, _, _⟩))) | fail))
      · rename_i h1 hrow x1 h2 hval x2
        refine C_again (ih (k + 1) _ ?_ ⟨hlt, ?_, fun j hj' => ?_⟩) ?_
        · omega
        · (focus repeat' first | exact Ext.refl _ | assumption | apply Ext.push | (refine Ext.trans ?_ (by assumption)) | (refine Ext.set ?_ (Nat.le_succ _) (get_push_old get_push_same) _))
        · by_cases hjk : j = k
          · subst hjk; exact ⟨hrow, hval⟩
          · exact hj j (by omega)
        · (focus repeat' first | rfl | exact trivial | apply And.intro)
      · rename_i h1 hrow x1 h2 hval x2
        refine ⟨.inr rfl, _, rfl, .inr ⟨rfl, fun q => hval (q.2 k hlt).2, ?_⟩⟩
        (focus repeat' first | exact Ext.refl _ | assumption | apply Ext.push | (refine Ext.trans ?_ (by assumption)) | (refine Ext.set ?_ (Nat.le_succ _) (get_push_old get_push_same) _))
      · rename_i h1 hrow x1
        refine ⟨.inr rfl, _, rfl, .inr ⟨rfl, fun q => hrow (q.2 k hlt).1, ?_⟩⟩
        (focus repeat' first | exact Ext.refl _ | assumption | apply Ext.push | (refine Ext.trans ?_ (by assumption)) | (refine Ext.set ?_ (Nat.le_succ _) (get_push_old get_push_same) _))
      all_goals omega
    · (repeat' (first | (apply K_seq) | (apply K_region) | (apply O_at; rfl) | (apply N_at; rfl) | (apply O_fin; rfl) | (apply C_seq) | (apply K_ifT; rfl) | (apply K_ifF; rfl) | (apply K_open; kernel_rfl) | (apply K_block) | (apply K_skip) | (apply K_exit) | (apply K_ret) | (apply N_fin; rfl; exact (.inl (Nat.le_refl 1))) | (apply N_fin; rfl; refine .inr ?_; (focus repeat' first | exact trivial | exact Keeps.nil _ _ | apply And.intro | rfl | (apply Keeps.cons; (focus repeat' first | exact get_push_same | assumption | (apply Ext.get; assumption)); (focus repeat' first | exact get_push_same | assumption | (apply Ext.get; assumption))))) | (apply C_retS) | (apply C_retL) | (apply C_retB) | (apply C_exit) | (apply C_exitS) | (apply C_exitL) | (apply C_blockN) | (apply C_nil) | (apply P_move; rfl; rfl; rfl; rfl) | (apply P_assign; rfl; rfl; rfl; rfl) | (apply P_len; rfl; rfl; rfl; rfl; rfl; rfl; exact un_ok rfl) | (apply P_lss; rfl; rfl; rfl; rfl; rfl; all_goals intro _) | (apply P_leq; rfl; rfl; rfl; rfl; rfl; all_goals intro _) | (apply P_add; rfl; rfl; rfl; rfl; rfl; (unfold fit; omega)) | (apply P_box; rfl; rfl; rfl; rfl; exact sz_ok rfl; rfl; rfl) | (apply M_skip; rfl; rfl; rfl; rfl) | (apply M_skipA; rfl; rfl; rfl; rfl) | (apply M_move; rfl; rfl; rfl; rfl) | (apply M_fa; rfl; rfl; rfl; rfl; exact fo_ok rfl; (first | exact Nat.zero_add _ | exact Nat.add_zero _ | rfl)) | (apply M_pick; rfl; rfl; rfl; rfl; rfl; rfl) | (apply M_not; rfl; rfl; rfl; rfl) | (apply M_idxB; rfl; rfl; rfl; rfl; rfl; exact un_ok rfl; exact sz_ok rfl; (first | rfl | exact (Int.toNat_of_nonneg (by omega)).symm); omega) | (apply M_load1E; rfl; rfl; rfl; rfl; exact on_ok rfl; decide +kernel; (focus repeat' first | exact get_push_same | assumption | (apply Ext.get; assumption)); (first | exact spans_lo (by omega) | exact spans_hi (by omega) | rfl | assumption); (first | assumption | exact same_yield _ | exact same_int _ _ | exact same_plan _ _ _ _ _ | rfl | (simp [same, same.all2]; done)); (first | rfl | assumption | exact within_yield (by omega) | (focus apply within_plan; (focus repeat' first | exact get_push_same | assumption | (apply Ext.get; assumption)); done) | exact within_planO hpb (by (focus repeat' first | exact Ext.refl _ | assumption | apply Ext.push | (refine Ext.trans ?_ (by assumption)) | (refine Ext.set ?_ (Nat.le_succ _) (get_push_old get_push_same) _))) | exact within_optO hpb (by (focus repeat' first | exact Ext.refl _ | assumption | apply Ext.push | (refine Ext.trans ?_ (by assumption)) | (refine Ext.set ?_ (Nat.le_succ _) (get_push_old get_push_same) _))) | (simp [within]; omega))) | (apply M_loadAE; rfl; rfl; rfl; rfl; exact ag_ok rfl; decide +kernel; (focus repeat' first | exact get_push_same | assumption | (apply Ext.get; assumption)); (first | exact Nat.le_of_ble_eq_true rfl | (simp; done) | (simp; omega) | (rw [spanCells_len]; omega) | (rw [ints_len]; omega)); rfl; (first | assumption | exact same_yield _ | exact same_int _ _ | exact same_plan _ _ _ _ _ | rfl | (simp [same, same.all2]; done)); (first | rfl | assumption | exact within_yield (by omega) | (focus apply within_plan; (focus repeat' first | exact get_push_same | assumption | (apply Ext.get; assumption)); done) | exact within_planO hpb (by (focus repeat' first | exact Ext.refl _ | assumption | apply Ext.push | (refine Ext.trans ?_ (by assumption)) | (refine Ext.set ?_ (Nat.le_succ _) (get_push_old get_push_same) _))) | exact within_optO hpb (by (focus repeat' first | exact Ext.refl _ | assumption | apply Ext.push | (refine Ext.trans ?_ (by assumption)) | (refine Ext.set ?_ (Nat.le_succ _) (get_push_old get_push_same) _))) | (simp [within]; omega))) | (apply M_load1H; rfl; rfl; rfl; rfl; exact on_ok rfl; decide +kernel; (focus repeat' first | exact get_push_same | assumption | (apply Ext.get; assumption)); (first | exact spans_lo (by omega) | exact spans_hi (by omega) | rfl | assumption); (first | assumption | exact same_yield _ | exact same_int _ _ | exact same_plan _ _ _ _ _ | rfl | (simp [same, same.all2]; done)); (first | rfl | assumption | exact within_yield (by omega) | (focus apply within_plan; (focus repeat' first | exact get_push_same | assumption | (apply Ext.get; assumption)); done) | exact within_planO hpb (by (focus repeat' first | exact Ext.refl _ | assumption | apply Ext.push | (refine Ext.trans ?_ (by assumption)) | (refine Ext.set ?_ (Nat.le_succ _) (get_push_old get_push_same) _))) | exact within_optO hpb (by (focus repeat' first | exact Ext.refl _ | assumption | apply Ext.push | (refine Ext.trans ?_ (by assumption)) | (refine Ext.set ?_ (Nat.le_succ _) (get_push_old get_push_same) _))) | (simp [within]; omega))) | fail))
      · omega
      · refine ⟨.inr rfl, _, rfl, .inl ⟨rfl, ⟨by omega, fun j hj' => hj j (by omega)⟩, ?_⟩⟩
        (focus repeat' first | exact Ext.refl _ | assumption | apply Ext.push | (refine Ext.trans ?_ (by assumption)) | (refine Ext.set ?_ (Nat.le_succ _) (get_push_old get_push_same) _))
      · refine ⟨.inr rfl, _, rfl, .inr ⟨rfl, fun q => by have := q.1; omega, ?_⟩⟩
        (focus repeat' first | exact Ext.refl _ | assumption | apply Ext.push | (refine Ext.trans ?_ (by assumption)) | (refine Ext.set ?_ (Nat.le_succ _) (get_push_old get_push_same) _))
  · exact ⟨Nat.zero_le _, Ext.refl _, fun j hj => by omega⟩
  · (focus repeat' first | rfl | exact trivial | apply And.intro)
end Go.AX.Sa

namespace Go.AX.Sa
open Go.Proofs
set_option maxRecDepth 100000
variable {K : Known}

/-- Slices of rows of numbers. -/
def LLs (vs : List Value) (L : List (List Int)) (h : Heap) : Prop := vs.length = L.length ∧ ∀ j, j < L.length → ∃ b c, vs[j]? = some (.slice (some ⟨b, 0, none⟩) (L.getD j []).length c) ∧ h.get? b = some (.cells (ints (L.getD j [])) 3 true)
theorem LLs.ext {vs : List Value} {L : List (List Int)} {h h1 : Heap} (r : LLs vs L h) (x : Ext h h1) : LLs vs L h1 := ⟨r.1, fun j hj => by
  obtain ⟨b, c, h1, h2⟩ := r.2 j hj
  exact ⟨b, c, h1, x.get h2⟩⟩
theorem LLs.one {vs : List Value} {L : List (List Int)} {h : Heap} (r : LLs vs L h) : vs.all oneB = true := by
  rw [List.all_eq_true]
  intro v hv
  obtain ⟨j, hj⟩ := List.mem_iff_getElem?.1 hv
  have hlt : j < vs.length := (List.getElem?_eq_some_iff.1 hj).1
  obtain ⟨b, c, h1, _⟩ := r.2 j (by rw [← r.1]; exact hlt)
  rw [hj] at h1
  cases h1
  rfl
/-- A list of rows that is being made. -/
def OutLL (h0 h : Heap) (v : Value) (L : List (List Int)) : Prop :=
  (L = [] ∧ v = .slice none 0 0) ∨ (L ≠ [] ∧ ∃ b vs, v = .slice (some ⟨b, 0, none⟩) L.length unk ∧ h.get? b = some (.cells vs 43 true) ∧ h0.n ≤ b ∧ LLs vs L h)
theorem OutLL.ext {h0 h h1 : Heap} {v : Value} {L : List (List Int)} (o : OutLL h0 h v L) (x : Ext h h1) : OutLL h0 h1 v L := by
  rcases o with o | ⟨h1, b, vs, h2, h3, h4, h5⟩
  · exact .inl o
  · exact .inr ⟨h1, b, vs, h2, x.get h3, h4, h5.ext x⟩
/-- An answer of rows, of which there are some. -/
def IsLLs (L : List (List Int)) (h : Heap) (v : Value) (h1 : Heap) : Prop := ∃ b vs c, v = .slice (some ⟨b, 0, none⟩) L.length c ∧ h1.get? b = some (.cells vs 43 true) ∧ LLs vs L h1 ∧ h.n ≤ b ∧ Ext h h1
/-- A row of numbers that is being made. -/
def RowI (h : Heap) (v : Value) (l : List Int) : Prop := (l = [] ∧ v = .slice none 0 0) ∨ (l ≠ [] ∧ ∃ b, v = .slice (some ⟨b, 0, none⟩) l.length unk ∧ h.get? b = some (.cells (ints l) 3 true))
theorem RowI.ext {h h1 : Heap} {v : Value} {l : List Int} (r : RowI h v l) (x : Ext h h1) : RowI h1 v l := by
  rcases r with r | ⟨h1, b, h2, h3⟩
  · exact .inl r
  · exact .inr ⟨h1, b, h2, x.get h3⟩
theorem RowI.of {h0 h : Heap} {v : Value} {l : List Int} (o : OutI 3 h0 h v l) : RowI h v l := by
  rcases o with o | ⟨h1, b, h2, h3, _⟩
  · exact .inl o
  · exact .inr ⟨h1, b, h2, h3⟩
end Go.AX.Sa

namespace Go.AX.Sa
open Go.Proofs
set_option maxRecDepth 100000
variable {K : Known}

end Go.AX.Sa

namespace Go.AX.Sa
open Go.Proofs
set_option maxRecDepth 100000
variable {K : Known}

/-- Over the first lists alone. -/
def loI (k i : Nat) (L : List (List Int)) : Int := (L.take i).foldl (fun m u => min m (u.getD k 0)) ((L.getD 0 []).getD k 0)
def hiI (k i : Nat) (L : List (List Int)) : Int := (L.take i).foldl (fun m u => max m (u.getD k 0)) ((L.getD 0 []).getD k 0)
end Go.AX.Sa
