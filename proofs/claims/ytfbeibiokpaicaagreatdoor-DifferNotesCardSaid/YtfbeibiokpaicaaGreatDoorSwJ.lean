/- All truths of a plan that agree with notes; how many there are. -/
import Derived.Test.YtfbeibiokpaicaaGreatDoorSwI
import Derived.Test.YtfbeibiokpaicaaGreatDoorSwB
namespace Go.AX.Sa
open Go.Proofs
set_option maxRecDepth 100000
variable {K : Known}

theorem rng_mem {a n : Int} {k : Nat} : n ∈ rng a k ↔ a ≤ n ∧ n < a + (k : Nat) := by
  simp only [rng, List.mem_map, List.mem_range]
  constructor
  · rintro ⟨i, hi, rfl⟩; omega
  · intro h; exact ⟨(n - a).toNat, by omega, by omega⟩
theorem spanL_mem {p : Int × Int} {n : Int} : n ∈ spanL p ↔ p.1 ≤ n ∧ n ≤ p.2 := by
  unfold spanL
  rw [rng_mem]
  omega
theorem allT_mem : ∀ {l : List (Int × Int)} {t : List Int}, t ∈ allT l ↔ TruthP l t := by
  intro l
  induction l with
  | nil =>
    intro t
    simp only [allT, List.mem_singleton, TruthP]
    constructor
    · rintro rfl; exact ⟨rfl, fun k h => by simp at h⟩
    · intro h; exact List.length_eq_zero_iff.1 h.1
  | cons p l ih =>
    intro t
    simp only [allT, List.mem_flatMap, List.mem_map, spanL_mem]
    constructor
    · rintro ⟨n, hn, u, hu, rfl⟩
      have h := ih.1 hu
      refine ⟨by simp [h.1], fun k hk => ?_⟩
      cases k with
      | zero => simpa using hn
      | succ k => simpa using h.2 k (by simpa using hk)
    · rintro ⟨h1, h2⟩
      cases t with
      | nil => simp at h1
      | cons n u =>
        refine ⟨n, by simpa using h2 0 (by simp), u, ih.2 ⟨by simpa using h1, fun k hk => ?_⟩, rfl⟩
        simpa using h2 (k + 1) (by simpa using hk)
theorem starts_small {l : List (Int × Int)} (h : AllStarts l) : Small l := fun k hk => by
  have := h k hk
  unfold StartP at this
  omega

/-- All truths, one behind the other. -/
theorem truths1_ok (hK : NoK K) {l : List (Int × Int)} {bq bp cap : Nat} {rows guard : Int} {e : TypeId} {own : Bool} {h0 : Heap} (hl : 0 < l.length ∧ l.length ≤ 1000) (hsm : Small l)
    (hq : h0.get? bq = some (.cells (spanCells l) e own)) (hp : h0.get? bp = some (.cells [.slice (some ⟨bq, 0, none⟩) l.length cap, .int .i64 rows, .int .i64 guard] 24 true)) :
    Iter Tryz.prog K 113 #[] #[.pointer (some ⟨bp, 0, none⟩)] h0 (ValT (some ⟨bq, 0, none⟩) l.length cap rows guard) (allT l) (fun b => b = bq ∨ b = bp) := by
  refine ⟨fun b q => by rcases q with rfl | rfl <;> exact Heap.get_lt (by assumption), fun h lp I C hn hlp hk hc hI hX => ?_⟩
  have hq' := hk bq _ (.inl rfl) hq
  have hp' := hk bp _ (.inr rfl) hp
  show CallW Tryz.prog K 113 #[.func (.yield lp) #[] #[], .pointer (some ⟨bp, 0, none⟩)] h _
  refine body (N := 12) Tryz.func113 rfl (hK _ _ _ rfl) rfl rfl ?_
  (repeat' (first | (apply K_seq) | (apply K_region) | (apply O_at; rfl) | (apply O_fin; rfl) | (apply C_seq) | (apply C_nil) | (apply P_fa; rfl; rfl; rfl; rfl; exact fo_ok rfl; (first | exact Nat.zero_add _ | exact Nat.add_zero _ | rfl)) | (apply P_len; rfl; rfl; rfl; rfl; rfl; rfl; exact un_ok rfl) | (apply P_makeFunc; rfl; rfl; rfl; rfl; rfl) | (apply P_load1; rfl; rfl; rfl; rfl; exact on_ok rfl; (focus repeat' first | exact get_push_same | assumption | apply get_push_old); (first | rfl | assumption)) | (apply P_makeI; rfl; rfl; rfl; rfl; rfl; exact c1_ok rfl; exact zero3; omega; omega) | (apply P_storeTop; rfl; rfl; rfl; rfl; exact sz_ok rfl; rfl; rfl; rfl) | (apply P_box; rfl; rfl; rfl; rfl; exact sz_ok rfl; rfl; rfl) | (apply P_alloc; rfl; rfl; rfl; rfl; exact sz_ok rfl; rfl; rfl) | fail))
  have nC : ∀ b, h.n ≤ b → ¬ C b := fun b q r => by have := hc.below _ _ _ hI b r; omega
  have hqn := Heap.get_lt hq'
  have hpn := Heap.get_lt hp'
  apply P_call; rfl; rfl; rfl; rfl; rfl; rfl
  · refine fill_ok hK (S := h.n + 1) (bt := h.n + 2) (bt' := h.n) (bp := bp) (bf := h.n + 3) hl hsm hc (fun b q => q) l [] [] (fun b => C b ∨ b = h.n + 1) _ (by simp) rfl
      ⟨C, hc.stable _ _ _ _ hI (fun b x _ g => get_push_old (get_push_old (get_push_old (get_push_old g)))) (by show h.n ≤ h.n + 1 + 1 + 1 + 1; omega), fun b => Iff.rfl, nC _ (Nat.le_succ _), List.replicate l.length 0, get_push_old (get_push_old get_push_same), by simp, by simp⟩
      ⟨⟨e, own, get_push_old (get_push_old (get_push_old (get_push_old hq')))⟩, get_push_old get_push_same, get_push_old (get_push_old (get_push_old get_push_same)), get_push_old (get_push_old (get_push_old (get_push_old hp'))), get_push_same⟩
      (fun b q r => by
        rcases r with r | r
        · rcases q with q | q | q | q | q
          · exact hX b (.inl q) r
          · exact nC b (by omega) r
          · exact nC b (by omega) r
          · exact hX b (.inr q) r
          · exact nC b (by omega) r
        · rcases q with q | q | q | q | q <;> omega)
      (by show h.n ≤ h.n + 1 + 1 + 1 + 1; omega) (by show lp < h.n + 1 + 1 + 1 + 1; omega) (fun b x q g => get_push_old (get_push_old (get_push_old (get_push_old g)))) ⟨[], by simp⟩
  rintro _ h1 ⟨rfl, D1, ⟨C1, hI1, hDC, hCS, _⟩, hm, hk1, hn1⟩
  have hn1' : h.n + 1 + 1 + 1 + 1 ≤ h1.n := hn1
  (repeat' (first | (apply K_seq) | (apply K_region) | (apply O_at; rfl) | (apply O_fin; rfl) | (apply C_seq) | (apply C_nil) | (apply P_fa; rfl; rfl; rfl; rfl; exact fo_ok rfl; (first | exact Nat.zero_add _ | exact Nat.add_zero _ | rfl)) | (apply P_len; rfl; rfl; rfl; rfl; rfl; rfl; exact un_ok rfl) | (apply P_makeFunc; rfl; rfl; rfl; rfl; rfl) | (apply P_load1; rfl; rfl; rfl; rfl; exact on_ok rfl; (focus repeat' first | exact get_push_same | assumption | apply get_push_old); (first | rfl | assumption)) | (apply P_makeI; rfl; rfl; rfl; rfl; rfl; exact c1_ok rfl; exact zero3; omega; omega) | (apply P_storeTop; rfl; rfl; rfl; rfl; exact sz_ok rfl; rfl; rfl; rfl) | (apply P_box; rfl; rfl; rfl; rfl; exact sz_ok rfl; rfl; rfl) | (apply P_alloc; rfl; rfl; rfl; rfl; exact sz_ok rfl; rfl; rfl) | fail))
  refine ⟨.inl rfl, _, rfl, C1, ?_, fun b q => ?_, fun b x q g => ?_, ?_⟩
  · simpa using hI1
  · rcases hm b ((hDC b).2 (.inl q)) with r | r
    · rcases r with r | r
      · exact .inl r
      · subst r; exact absurd q hCS
    · exact .inr (Nat.le_trans (by show h.n ≤ h.n + 1 + 1 + 1 + 1; omega) r)
  · have := Heap.get_lt g
    exact hk1 b x (fun r => by
      rcases r with r | r
      · exact q r
      · omega) (get_push_old (get_push_old (get_push_old (get_push_old g))))
  · omega
theorem truths_ok (hK : NoK K) {l : List (Int × Int)} {bq cap : Nat} {rows guard : Int} {e : TypeId} {own : Bool} {h : Heap} (hl : 0 < l.length ∧ l.length ≤ 1000) (hsm : Small l) (hq : h.get? bq = some (.cells (spanCells l) e own)) :
    CallW Tryz.prog K 94 #[.agg #[.slice (some ⟨bq, 0, none⟩) l.length cap, .int .i64 rows, .int .i64 guard]] h fun v h1 => Ext h h1 ∧ ∃ bp, v = .func (.func 113) #[] #[.pointer (some ⟨bp, 0, none⟩)] ∧ h.n ≤ bp ∧
      Iter Tryz.prog K 113 #[] #[.pointer (some ⟨bp, 0, none⟩)] h1 (ValT (some ⟨bq, 0, none⟩) l.length cap rows guard) (allT l) (fun b => b = bq ∨ b = bp) := by
  refine body (N := 4) Tryz.func94 rfl (hK _ _ _ rfl) rfl rfl ?_
  (repeat' (first | (apply K_seq) | (apply K_region) | (apply O_at; rfl) | (apply O_fin; rfl) | (apply C_seq) | (apply K_ret) | (apply C_nil) | (apply P_assign; rfl; rfl; rfl; rfl) | (apply P_makeFunc; rfl; rfl; rfl; rfl; rfl) | (apply P_box; rfl; rfl; rfl; rfl; exact sz_ok rfl; rfl; rfl) | fail))
  exact ⟨.inr rfl, _, rfl, by (focus repeat' first | exact Ext.refl _ | assumption | apply Ext.push | (refine Ext.trans ?_ (by assumption)) | (refine Ext.set ?_ (Nat.le_succ _) (get_push_old get_push_same) _)), h.n, rfl, Nat.le_refl _, truths1_ok hK hl hsm (get_push_old hq) get_push_same⟩

/-- Does a truth agree with notes? -/
def FitsP (t : List Int) (seen : List (Int × Int)) : Prop := ∀ k, k < seen.length → w64 (sumC t (seen.getD k (0, 0)).1.toNat 0) = (seen.getD k (0, 0)).2
def SeenP (R : Nat) (seen : List (Int × Int)) : Prop := seen.length ≤ 6 ∧ ∀ k, k < seen.length → (0 ≤ (seen.getD k (0, 0)).1 ∧ (seen.getD k (0, 0)).1 ≤ (R : Int) - 1) ∧ NearP (seen.getD k (0, 0)).2
theorem agrees_ok (hK : NoK K) {t : List Int} {seen : List (Int × Int)} {p q qs : Option Addr} {n cap cap' caps R : Nat} {guard : Int} {h : Heap} (hp : 0 < t.length) (hl : t.length ≤ 1000) (hr : Rd h q (ints t)) (hn : R ≤ 1000) (hf : ∀ j, w64 (t.getD j 0) = t.getD j 0)
    (hs : SeenP R seen) (hrs : Rd h qs (spanCells seen)) :
    CallW Tryz.prog K 95 #[.agg #[.slice p n cap, .int .i64 (R : Nat), .int .i64 guard, .slice q t.length cap'], .slice qs seen.length caps] h (IfB (FitsP t seen) h) := by
  refine body (N := 25) Tryz.func95 rfl (hK _ _ _ rfl) rfl rfl ?_
  (repeat' (first | (apply K_seq) | (apply K_region) | (apply O_at; rfl) | (apply N_at; rfl) | (apply O_fin; rfl) | (apply C_seq) | (apply K_ifT; rfl) | (apply K_ifF; rfl) | (apply K_open; kernel_rfl) | (apply K_block) | (apply K_skip) | (apply K_exit) | (apply K_ret) | (apply N_fin; rfl; exact (.inl (Nat.le_refl 1))) | (apply N_fin; rfl; refine .inr ?_; (focus repeat' first | exact trivial | exact Keeps.nil _ _ | apply And.intro | rfl | (apply Keeps.cons; (focus repeat' first | exact get_push_same | assumption | apply get_push_old | (apply Ext.get; assumption)); (focus repeat' first | exact get_push_same | assumption | apply get_push_old | (apply Ext.get; assumption))))) | (apply C_retS) | (apply C_retL) | (apply C_retB) | (apply C_exit) | (apply C_exitS) | (apply C_exitL) | (apply C_blockN) | (apply C_nil) | (apply P_move; rfl; rfl; rfl; rfl) | (apply P_assign; rfl; rfl; rfl; rfl) | (apply P_len; rfl; rfl; rfl; rfl; rfl; rfl; exact un_ok rfl) | (apply P_lss; rfl; rfl; rfl; rfl; rfl; all_goals intro _) | (apply P_add; rfl; rfl; rfl; rfl; rfl; (unfold fit; omega)) | (apply P_idxB; rfl; rfl; rfl; rfl; rfl; exact un_ok rfl; exact sz_ok rfl; (first | rfl | exact (Int.toNat_of_nonneg (by omega)).symm); omega) | (apply P_loadA; rfl; rfl; rfl; rfl; exact ag_ok rfl; (focus repeat' first | exact get_push_same | assumption | apply get_push_old | (apply Ext.get; assumption)); (first | exact Nat.le_of_ble_eq_true rfl | (simp; done) | (simp; omega) | (rw [spanCells_len]; omega) | (rw [ints_len]; omega)); (first | exact spans_take (by omega) | rfl)) | (apply P_storeTop; rfl; rfl; rfl; rfl; exact sz_ok rfl; rfl; rfl; rfl) | (apply P_box; rfl; rfl; rfl; rfl; exact sz_ok rfl; rfl; rfl) | (apply P_alloc; rfl; rfl; rfl; rfl; exact sz_ok rfl; rfl; rfl) | (apply M_move; rfl; rfl; rfl; rfl) | (apply M_fa; rfl; rfl; rfl; rfl; exact fo_ok rfl; (first | exact Nat.zero_add _ | exact Nat.add_zero _ | rfl)) | (apply M_neq; rfl; rfl; rfl; rfl; rfl; all_goals intro _) | (apply M_idxA; rfl; rfl; rfl; rfl; rfl; exact un_ok rfl; exact sz_ok rfl; (first | rfl | exact (Int.toNat_of_nonneg (by omega)).symm); omega) | (apply M_load1E; rfl; rfl; rfl; rfl; exact on_ok rfl; decide +kernel; (focus repeat' first | exact get_push_same | assumption | apply get_push_old | (apply Ext.get; assumption)); (first | exact ints_get (by omega) | rfl | assumption); (first | assumption | exact same_yield _ | exact same_int _ _ | rfl | (simp [same, same.all2]; done)); (first | rfl | assumption | exact within_yield (by omega) | exact within_planO hpb (by (focus repeat' first | exact Ext.refl _ | assumption | apply Ext.push | (refine Ext.trans ?_ (by assumption)) | (refine Ext.set ?_ (Nat.le_succ _) (get_push_old get_push_same) _))) | exact within_optO hpb (by (focus repeat' first | exact Ext.refl _ | assumption | apply Ext.push | (refine Ext.trans ?_ (by assumption)) | (refine Ext.set ?_ (Nat.le_succ _) (get_push_old get_push_same) _))) | (simp [within]; omega))) | (apply P_call; rfl; rfl; rfl; rfl; rfl; rfl; exact table_ok hK hp hl (hr.ext (by (focus repeat' first | exact Ext.refl _ | assumption | apply Ext.push | (refine Ext.trans ?_ (by assumption)) | (refine Ext.set ?_ (Nat.le_succ _) (get_push_old get_push_same) _)))) hn hf; (rintro _ _ ⟨_, _, rfl, _, _⟩)) | fail))
  rename_i h2 pt ct rt xt
  have hkl := tabL_len t R
  have hx2 : Ext h h2 := by (focus repeat' first | exact Ext.refl _ | assumption | apply Ext.push | (refine Ext.trans ?_ (by assumption)) | (refine Ext.set ?_ (Nat.le_succ _) (get_push_old get_push_same) _))
  clear xt
  refine K_loopE (fun k : Nat => [(12, .int .i64 (k : Nat)), (11, .int .i64 (seen.length : Nat)), (10, .slice qs seen.length caps), (5, .slice pt (tabL t R).length ct)])
    (fun k h' => k ≤ seen.length ∧ Ext h2 h' ∧ ∀ j, j < k → w64 (sumC t (seen.getD j (0, 0)).1.toNat 0) = (seen.getD j (0, 0)).2) (fun k => seen.length - k) ?_ 0 ?_ ?_
  · intro k h' ⟨hk, hx, hj⟩ ih
    have hsl := hs.1
    by_cases hlt : k < seen.length
    · have hsk := (hs.2 k hlt).1
      have hRpos : 0 < R := by omega
      obtain ⟨b, e, own, rfl, hg⟩ := hrs.at (by rw [spanCells_len]; omega)
      obtain ⟨b', e', own', rfl, hg'⟩ := rt.at (by rw [ints_len]; omega)
      have hg2 := hx.get (hx2.get hg)
      have hg2' := hx.get hg'
      have hv := tabL_get (t := t) (R := R) (j := (seen.getD k (0, 0)).1.toNat) (by omega)
      (repeat' (first | (apply K_seq) | (apply K_region) | (apply O_at; rfl) | (apply N_at; rfl) | (apply O_fin; rfl) | (apply C_seq) | (apply K_ifT; rfl) | (apply K_ifF; rfl) | (apply K_open; kernel_rfl) | (apply K_block) | (apply K_skip) | (apply K_exit) | (apply K_ret) | (apply N_fin; rfl; exact (.inl (Nat.le_refl 1))) | (apply N_fin; rfl; refine .inr ?_; (focus repeat' first | exact trivial | exact Keeps.nil _ _ | apply And.intro | rfl | (apply Keeps.cons; (focus repeat' first | exact get_push_same | assumption | apply get_push_old | (apply Ext.get; assumption)); (focus repeat' first | exact get_push_same | assumption | apply get_push_old | (apply Ext.get; assumption))))) | (apply C_retS) | (apply C_retL) | (apply C_retB) | (apply C_exit) | (apply C_exitS) | (apply C_exitL) | (apply C_blockN) | (apply C_nil) | (apply P_move; rfl; rfl; rfl; rfl) | (apply P_assign; rfl; rfl; rfl; rfl) | (apply P_len; rfl; rfl; rfl; rfl; rfl; rfl; exact un_ok rfl) | (apply P_lss; rfl; rfl; rfl; rfl; rfl; all_goals intro _) | (apply P_add; rfl; rfl; rfl; rfl; rfl; (unfold fit; omega)) | (apply P_idxB; rfl; rfl; rfl; rfl; rfl; exact un_ok rfl; exact sz_ok rfl; (first | rfl | exact (Int.toNat_of_nonneg (by omega)).symm); omega) | (apply P_loadA; rfl; rfl; rfl; rfl; exact ag_ok rfl; (focus repeat' first | exact get_push_same | assumption | apply get_push_old | (apply Ext.get; assumption)); (first | exact Nat.le_of_ble_eq_true rfl | (simp; done) | (simp; omega) | (rw [spanCells_len]; omega) | (rw [ints_len]; omega)); (first | exact spans_take (by omega) | rfl)) | (apply P_storeTop; rfl; rfl; rfl; rfl; exact sz_ok rfl; rfl; rfl; rfl) | (apply P_box; rfl; rfl; rfl; rfl; exact sz_ok rfl; rfl; rfl) | (apply P_alloc; rfl; rfl; rfl; rfl; exact sz_ok rfl; rfl; rfl) | (apply M_move; rfl; rfl; rfl; rfl) | (apply M_fa; rfl; rfl; rfl; rfl; exact fo_ok rfl; (first | exact Nat.zero_add _ | exact Nat.add_zero _ | rfl)) | (apply M_neq; rfl; rfl; rfl; rfl; rfl; all_goals intro _) | (apply M_idxA; rfl; rfl; rfl; rfl; rfl; exact un_ok rfl; exact sz_ok rfl; (first | rfl | exact (Int.toNat_of_nonneg (by omega)).symm); omega) | (apply M_load1E; rfl; rfl; rfl; rfl; exact on_ok rfl; decide +kernel; (focus repeat' first | exact get_push_same | assumption | apply get_push_old | (apply Ext.get; assumption)); (first | exact ints_get (by omega) | rfl | assumption); (first | assumption | exact same_yield _ | exact same_int _ _ | rfl | (simp [same, same.all2]; done)); (first | rfl | assumption | exact within_yield (by omega) | exact within_planO hpb (by (focus repeat' first | exact Ext.refl _ | assumption | apply Ext.push | (refine Ext.trans ?_ (by assumption)) | (refine Ext.set ?_ (Nat.le_succ _) (get_push_old get_push_same) _))) | exact within_optO hpb (by (focus repeat' first | exact Ext.refl _ | assumption | apply Ext.push | (refine Ext.trans ?_ (by assumption)) | (refine Ext.set ?_ (Nat.le_succ _) (get_push_old get_push_same) _))) | (simp [within]; omega))) | fail))
      · rename_i hne
        refine ⟨.inr rfl, _, rfl, .inr ⟨rfl, fun q => hne (by rw [hv]; exact q k hlt), ?_⟩⟩
        (focus repeat' first | exact Ext.refl _ | assumption | apply Ext.push | (refine Ext.trans ?_ (by assumption)) | (refine Ext.set ?_ (Nat.le_succ _) (get_push_old get_push_same) _))
      · rename_i heq
        refine C_again (ih (k + 1) _ ?_ ⟨hlt, ?_, fun j hj' => ?_⟩) ?_
        · omega
        · (focus repeat' first | exact Ext.refl _ | assumption | apply Ext.push | (refine Ext.trans ?_ (by assumption)) | (refine Ext.set ?_ (Nat.le_succ _) (get_push_old get_push_same) _))
        · by_cases hjk : j = k
          · subst hjk; rw [← hv]; exact heq
          · exact hj j (by omega)
        · (focus repeat' first | rfl | exact trivial | apply And.intro)
      · omega
    · (repeat' (first | (apply K_seq) | (apply K_region) | (apply O_at; rfl) | (apply N_at; rfl) | (apply O_fin; rfl) | (apply C_seq) | (apply K_ifT; rfl) | (apply K_ifF; rfl) | (apply K_open; kernel_rfl) | (apply K_block) | (apply K_skip) | (apply K_exit) | (apply K_ret) | (apply N_fin; rfl; exact (.inl (Nat.le_refl 1))) | (apply N_fin; rfl; refine .inr ?_; (focus repeat' first | exact trivial | exact Keeps.nil _ _ | apply And.intro | rfl | (apply Keeps.cons; (focus repeat' first | exact get_push_same | assumption | apply get_push_old | (apply Ext.get; assumption)); (focus repeat' first | exact get_push_same | assumption | apply get_push_old | (apply Ext.get; assumption))))) | (apply C_retS) | (apply C_retL) | (apply C_retB) | (apply C_exit) | (apply C_exitS) | (apply C_exitL) | (apply C_blockN) | (apply C_nil) | (apply P_move; rfl; rfl; rfl; rfl) | (apply P_assign; rfl; rfl; rfl; rfl) | (apply P_len; rfl; rfl; rfl; rfl; rfl; rfl; exact un_ok rfl) | (apply P_lss; rfl; rfl; rfl; rfl; rfl; all_goals intro _) | (apply P_add; rfl; rfl; rfl; rfl; rfl; (unfold fit; omega)) | (apply P_idxB; rfl; rfl; rfl; rfl; rfl; exact un_ok rfl; exact sz_ok rfl; (first | rfl | exact (Int.toNat_of_nonneg (by omega)).symm); omega) | (apply P_loadA; rfl; rfl; rfl; rfl; exact ag_ok rfl; (focus repeat' first | exact get_push_same | assumption | apply get_push_old | (apply Ext.get; assumption)); (first | exact Nat.le_of_ble_eq_true rfl | (simp; done) | (simp; omega) | (rw [spanCells_len]; omega) | (rw [ints_len]; omega)); (first | exact spans_take (by omega) | rfl)) | (apply P_storeTop; rfl; rfl; rfl; rfl; exact sz_ok rfl; rfl; rfl; rfl) | (apply P_box; rfl; rfl; rfl; rfl; exact sz_ok rfl; rfl; rfl) | (apply P_alloc; rfl; rfl; rfl; rfl; exact sz_ok rfl; rfl; rfl) | (apply M_move; rfl; rfl; rfl; rfl) | (apply M_fa; rfl; rfl; rfl; rfl; exact fo_ok rfl; (first | exact Nat.zero_add _ | exact Nat.add_zero _ | rfl)) | (apply M_neq; rfl; rfl; rfl; rfl; rfl; all_goals intro _) | (apply M_idxA; rfl; rfl; rfl; rfl; rfl; exact un_ok rfl; exact sz_ok rfl; (first | rfl | exact (Int.toNat_of_nonneg (by omega)).symm); omega) | (apply M_load1E; rfl; rfl; rfl; rfl; exact on_ok rfl; decide +kernel; (focus repeat' first | exact get_push_same | assumption | apply get_push_old | (apply Ext.get; assumption)); (first | exact ints_get (by omega) | rfl | assumption); (first | assumption | exact same_yield _ | exact same_int _ _ | rfl | (simp [same, same.all2]; done)); (first | rfl | assumption | exact within_yield (by omega) | exact within_planO hpb (by (focus repeat' first | exact Ext.refl _ | assumption | apply Ext.push | (refine Ext.trans ?_ (by assumption)) | (refine Ext.set ?_ (Nat.le_succ _) (get_push_old get_push_same) _))) | exact within_optO hpb (by (focus repeat' first | exact Ext.refl _ | assumption | apply Ext.push | (refine Ext.trans ?_ (by assumption)) | (refine Ext.set ?_ (Nat.le_succ _) (get_push_old get_push_same) _))) | (simp [within]; omega))) | fail))
      · omega
      · refine ⟨.inr rfl, _, rfl, .inl ⟨rfl, fun j hj' => hj j (by omega), ?_⟩⟩
        (focus repeat' first | exact Ext.refl _ | assumption | apply Ext.push | (refine Ext.trans ?_ (by assumption)) | (refine Ext.set ?_ (Nat.le_succ _) (get_push_old get_push_same) _))
  · exact ⟨Nat.zero_le _, Ext.refl _, fun j hj => by omega⟩
  · (focus repeat' first | rfl | exact trivial | apply And.intro)
end Go.AX.Sa

namespace Go.AX.Sa
open Go.Proofs
set_option maxRecDepth 100000
variable {K : Known}

instance (t : List Int) (seen : List (Int × Int)) : Decidable (FitsP t seen) := by unfold FitsP; infer_instance
/-- The truths that agree with notes. -/
def agrT (l seen : List (Int × Int)) : List (List Int) := (allT l).filter fun t => decide (FitsP t seen)

/-- A list of notes in memory, that stays. -/
def Notes (h : Heap) (qs : Option Addr) (seen : List (Int × Int)) (X : Nat → Prop) : Prop := seen = [] ∨ ∃ b e own, qs = some ⟨b, 0, none⟩ ∧ h.get? b = some (.cells (spanCells seen) e own) ∧ X b
theorem Notes.keep {h h1 : Heap} {qs : Option Addr} {seen : List (Int × Int)} {X : Nat → Prop} (n : Notes h qs seen X) (k : ∀ b x, X b → h.get? b = some x → h1.get? b = some x) : Notes h1 qs seen X := by
  rcases n with n | ⟨b, e, own, h1, h2, h3⟩
  · exact .inl n
  · exact .inr ⟨b, e, own, h1, k _ _ h3 h2, h3⟩
theorem Notes.rd {h : Heap} {qs : Option Addr} {seen : List (Int × Int)} {X : Nat → Prop} (n : Notes h qs seen X) : Rd h qs (spanCells seen) := by
  rcases n with rfl | ⟨b, e, own, h1, h2, h3⟩
  · exact .inl rfl
  · exact .inr ⟨b, e, own, h1, h2⟩

theorem agreeing1_ok (hK : NoK K) {l seen : List (Int × Int)} {bq bp bn cap caps R : Nat} {guard : Int} {qs : Option Addr} {e : TypeId} {own : Bool} {h0 : Heap} {X : Nat → Prop} (hl : 0 < l.length ∧ l.length ≤ 1000) (hA : AllStarts l) (hR : R ≤ 1000) (hs : SeenP R seen)
    (hq : h0.get? bq = some (.cells (spanCells l) e own)) (hp : h0.get? bp = some (.cells [.slice (some ⟨bq, 0, none⟩) l.length cap, .int .i64 (R : Nat), .int .i64 guard] 24 true))
    (hnb : h0.get? bn = some (.cells [.slice qs seen.length caps] 34 true)) (hns : Notes h0 qs seen X) (hX : ∀ b, X b → b < h0.n) (Xq : X bq) (Xp : X bp) (Xn : X bn) :
    Iter Tryz.prog K 93 #[] #[.pointer (some ⟨bp, 0, none⟩), .pointer (some ⟨bn, 0, none⟩)] h0 (ValT (some ⟨bq, 0, none⟩) l.length cap R guard) (agrT l seen) X := by
  refine ⟨hX, fun h lp I C hn hlp hk hc hI hXC => ?_⟩
  have hq' := hk _ _ Xq hq
  have hp' := hk _ _ Xp hp
  have hnb' := hk _ _ Xn hnb
  have hns' := hns.keep hk
  have nC : ∀ b, h.n ≤ b → ¬ C b := fun b q r => by have := hc.below _ _ _ hI b r; omega
  show CallW Tryz.prog K 93 #[.func (.yield lp) #[] #[], .pointer (some ⟨bp, 0, none⟩), .pointer (some ⟨bn, 0, none⟩)] h _
  refine body_rangeH (N := 17) 2 Tryz.func93 rfl (hK _ _ _ rfl) rfl rfl (by rfl) (by rfl) ?_
  (repeat' (first | (apply K_seq) | (apply K_region) | (apply O_at; rfl) | (apply O_fin; rfl) | (apply C_seq) | (apply K_ifF; rfl) | (apply K_block) | (apply K_skip) | (apply C_blockN) | (apply C_nil) | (apply P_skip; rfl; rfl; rfl) | (apply P_move; rfl; rfl; rfl; rfl) | (apply P_pick; rfl; rfl; rfl; rfl; rfl; rfl) | (apply P_not; rfl; rfl; rfl; rfl) | (apply P_load1; rfl; rfl; rfl; rfl; exact on_ok rfl; (focus repeat' first | exact get_push_same | assumption | apply get_push_old | (apply Ext.get; assumption)); (first | rfl | assumption)) | (apply P_loadA; rfl; rfl; rfl; rfl; exact ag_ok rfl; (focus repeat' first | exact get_push_same | assumption | apply get_push_old | (apply Ext.get; assumption)); (first | exact Nat.le_of_ble_eq_true rfl | (simp; done) | (simp; omega) | (rw [spanCells_len]; omega) | (rw [ints_len]; omega)); rfl) | (apply P_storeTop; rfl; rfl; rfl; rfl; exact sz_ok rfl; rfl; rfl; rfl) | (apply P_box; rfl; rfl; rfl; rfl; exact sz_ok rfl; rfl; rfl) | (apply P_alloc; rfl; rfl; rfl; rfl; exact sz_ok rfl; rfl; rfl) | fail))
  apply P_call; rfl; rfl; rfl; rfl; rfl; rfl; exact truths_ok hK hl (starts_small hA) (get_push_old hq')
  rintro _ h2 ⟨hx2, bp2, rfl, hbp2, hit⟩
  have hx : Ext h h2 := ((Ext.refl h).push _).trans hx2
  have hy2 := hx2.get (get_push_same (h := h) (b := .cells (Value.func (.yield lp) #[] #[]).cells.toList 135 true))
  have h2n : h.n + 1 ≤ h2.n := hx2.n
  (repeat' (first | (apply K_seq) | (apply K_region) | (apply O_at; rfl) | (apply O_fin; rfl) | (apply C_seq) | (apply K_ifF; rfl) | (apply K_block) | (apply K_skip) | (apply C_blockN) | (apply C_nil) | (apply P_skip; rfl; rfl; rfl) | (apply P_move; rfl; rfl; rfl; rfl) | (apply P_pick; rfl; rfl; rfl; rfl; rfl; rfl) | (apply P_not; rfl; rfl; rfl; rfl) | (apply P_load1; rfl; rfl; rfl; rfl; exact on_ok rfl; (focus repeat' first | exact get_push_same | assumption | apply get_push_old | (apply Ext.get; assumption)); (first | rfl | assumption)) | (apply P_loadA; rfl; rfl; rfl; rfl; exact ag_ok rfl; (focus repeat' first | exact get_push_same | assumption | apply get_push_old | (apply Ext.get; assumption)); (first | exact Nat.le_of_ble_eq_true rfl | (simp; done) | (simp; omega) | (rw [spanCells_len]; omega) | (rw [ints_len]; omega)); rfl) | (apply P_storeTop; rfl; rfl; rfl; rfl; exact sz_ok rfl; rfl; rfl; rfl) | (apply P_box; rfl; rfl; rfl; rfl; exact sz_ok rfl; rfl; rfl) | (apply P_alloc; rfl; rfl; rfl; rfl; exact sz_ok rfl; rfl; rfl) | fail))
  refine .inr ⟨rfl, _, #[], _, rfl, rfl, fun tm l2 hb hE hl2e hxb hbn hlb hdb => ?_⟩
  refine (Iter.loop hit (hb := hb) (fun b x _ g => hxb.get g) hxb.n (by omega)
    (fun (sn : List (List Int)) D1 h' => I (sn.filter fun t => decide (FitsP t seen)) D1 h') C
    (fun sn D1 a b f k n => hc.stable _ _ _ _ f k n) (fun sn D1 a f => hc.below _ _ _ f) ?_ ?_ ?_).mono ?_
  · exact hc.stable _ _ _ _ hI (fun b x _ g => hxb.get (hx.get g)) (by omega)
  · rintro b (q | q) r
    · subst q; exact hXC _ Xq r
    · subst q; have h3 : h.n + 1 ≤ b := hbp2; exact nC _ (by omega) r
  · rintro sn a D1 h' v ⟨rst, hrst⟩ ⟨ba, rfl, hba⟩ hJ hD1 hkeep hn'
    have hl2 := hkeep _ _ (nC l2 (by omega)) hlb
    have l2D : ¬ D1 l2 := fun r => by
      rcases hD1 _ r with r | r
      · exact nC _ (by omega) r
      · omega
    have hT : TruthP l a := allT_mem.1 (by rw [← hrst]; simp)
    have hal := hT.1
    refine round_of (N := 17) hl2 rfl (EnvOK.param hE rfl) ?_
    (repeat' (first | (apply K_seq) | (apply K_region) | (apply O_at; rfl) | (apply O_fin; rfl) | (apply C_seq) | (apply K_ifF; rfl) | (apply K_block) | (apply K_skip) | (apply C_blockN) | (apply C_nil) | (apply P_skip; rfl; rfl; rfl) | (apply P_move; rfl; rfl; rfl; rfl) | (apply P_pick; rfl; rfl; rfl; rfl; rfl; rfl) | (apply P_not; rfl; rfl; rfl; rfl) | (apply P_load1; rfl; rfl; rfl; rfl; exact on_ok rfl; (focus repeat' first | exact get_push_same | assumption | apply get_push_old | (apply Ext.get; assumption)); (first | rfl | assumption)) | (apply P_loadA; rfl; rfl; rfl; rfl; exact ag_ok rfl; (focus repeat' first | exact get_push_same | assumption | apply get_push_old | (apply Ext.get; assumption)); (first | exact Nat.le_of_ble_eq_true rfl | (simp; done) | (simp; omega) | (rw [spanCells_len]; omega) | (rw [ints_len]; omega)); rfl) | (apply P_storeTop; rfl; rfl; rfl; rfl; exact sz_ok rfl; rfl; rfl; rfl) | (apply P_box; rfl; rfl; rfl; rfl; exact sz_ok rfl; rfl; rfl) | (apply P_alloc; rfl; rfl; rfl; rfl; exact sz_ok rfl; rfl; rfl) | fail))
    refine ⟨rfl, get_push_old hl2, fun B hs' hsl hsk hsn => ?_⟩
    have hl2n := Heap.get_lt hl2
    have old : ∀ {b : Nat} {x : Blk}, ¬ C b → h2.get? b = some x → hs'.get? b = some x := fun q g =>
      hsk _ _ (by have := Heap.get_lt g; omega) (get_push_old (hkeep _ _ q (hxb.get g)))
    have b4 := hsk _ _ (by omega) (get_push_same (h := h') (b := .cells (Value.agg #[.slice (some ⟨bq, 0, none⟩) l.length cap, .int .i64 (R : Nat), .int .i64 guard, .slice (some ⟨ba, 0, none⟩) a.length unk]).cells.toList 92 true))
    have hba' := hsk _ _ (fun q => by rw [q, hl2] at hba; cases hba) (get_push_old (c := .cells (Value.agg #[.slice (some ⟨bq, 0, none⟩) l.length cap, .int .i64 (R : Nat), .int .i64 guard, .slice (some ⟨ba, 0, none⟩) a.length unk]).cells.toList 92 true) hba)
    have hnb2 := old (hXC _ Xn) (hx.get hnb')
    have hy := old (nC _ (Nat.le_refl _)) hy2
    have hn1 : hs'.n = h'.n + 1 := hsn
    have hnot : Rd hs' qs (spanCells seen) := (Notes.keep hns' (fun b x q g => old (hXC _ q) (hx.get g))).rd
    clear hsn
    (repeat' (first | (apply K_seq) | (apply K_region) | (apply O_at; rfl) | (apply O_fin; rfl) | (apply C_seq) | (apply K_ifF; rfl) | (apply K_block) | (apply K_skip) | (apply C_blockN) | (apply C_nil) | (apply P_skip; rfl; rfl; rfl) | (apply P_move; rfl; rfl; rfl; rfl) | (apply P_pick; rfl; rfl; rfl; rfl; rfl; rfl) | (apply P_not; rfl; rfl; rfl; rfl) | (apply P_load1; rfl; rfl; rfl; rfl; exact on_ok rfl; (focus repeat' first | exact get_push_same | assumption | apply get_push_old | (apply Ext.get; assumption)); (first | rfl | assumption)) | (apply P_loadA; rfl; rfl; rfl; rfl; exact ag_ok rfl; (focus repeat' first | exact get_push_same | assumption | apply get_push_old | (apply Ext.get; assumption)); (first | exact Nat.le_of_ble_eq_true rfl | (simp; done) | (simp; omega) | (rw [spanCells_len]; omega) | (rw [ints_len]; omega)); rfl) | (apply P_storeTop; rfl; rfl; rfl; rfl; exact sz_ok rfl; rfl; rfl; rfl) | (apply P_box; rfl; rfl; rfl; rfl; exact sz_ok rfl; rfl; rfl) | (apply P_alloc; rfl; rfl; rfl; rfl; exact sz_ok rfl; rfl; rfl) | (apply P_call; rfl; rfl; rfl; rfl; rfl; rfl; exact agrees_ok hK (by omega) (by omega) (.inr ⟨ba, _, _, rfl, hba'⟩) hR (truth_small hA hT) hs hnot; (rintro _ _ (⟨rfl, _, _⟩ | ⟨rfl, _, _⟩))) | fail))
    · rename_i h4 hfit hx4
      apply P_yield; rfl; rfl; rfl; rfl; rfl
      · exact hc.round (sn.filter fun t => decide (FitsP t seen)) a D1 h4 _ ⟨rst.filter fun t => decide (FitsP t seen), by unfold agrT; rw [← hrst, List.filter_append, List.filter_cons, if_pos (by simpa using hfit)]⟩ ⟨ba, rfl, hx4.get hba'⟩
          (hc.stable _ _ _ _ hJ (fun b x q g => hx4.get (hsk _ _ (fun r => l2D (by rw [← r]; exact q)) (get_push_old g))) (by have := hx4.n; omega)) (by have := hx4.n; omega) (fun b x q g => hx4.get (old (hXC _ q) (hx.get g)))
      rintro _ h5 ⟨rfl, D2, hI2, hm2, hk2, hn2⟩
      (repeat' (first | (apply K_seq) | (apply K_region) | (apply O_at; rfl) | (apply O_fin; rfl) | (apply C_seq) | (apply K_ifF; rfl) | (apply K_block) | (apply K_skip) | (apply C_blockN) | (apply C_nil) | (apply P_skip; rfl; rfl; rfl) | (apply P_move; rfl; rfl; rfl; rfl) | (apply P_pick; rfl; rfl; rfl; rfl; rfl; rfl) | (apply P_not; rfl; rfl; rfl; rfl) | (apply P_load1; rfl; rfl; rfl; rfl; exact on_ok rfl; (focus repeat' first | exact get_push_same | assumption | apply get_push_old | (apply Ext.get; assumption)); (first | rfl | assumption)) | (apply P_loadA; rfl; rfl; rfl; rfl; exact ag_ok rfl; (focus repeat' first | exact get_push_same | assumption | apply get_push_old | (apply Ext.get; assumption)); (first | exact Nat.le_of_ble_eq_true rfl | (simp; done) | (simp; omega) | (rw [spanCells_len]; omega) | (rw [ints_len]; omega)); rfl) | (apply P_storeTop; rfl; rfl; rfl; rfl; exact sz_ok rfl; rfl; rfl; rfl) | (apply P_box; rfl; rfl; rfl; rfl; exact sz_ok rfl; rfl; rfl) | (apply P_alloc; rfl; rfl; rfl; rfl; exact sz_ok rfl; rfl; rfl) | fail))
      refine ⟨rfl, hk2 _ _ l2D (hx4.get hsl), fun hf hfl hfk hfn => ⟨D2, ?_, fun b q => ?_, fun b x q g => ?_, ?_⟩⟩
      · have e : (sn ++ [a]).filter (fun t => decide (FitsP t seen)) = sn.filter (fun t => decide (FitsP t seen)) ++ [a] := by
          rw [List.filter_append, List.filter_cons, if_pos (by simpa using hfit)]; rfl
        show I ((sn ++ [a]).filter fun t => decide (FitsP t seen)) D2 hf
        rw [e]
        refine hc.stable _ _ _ _ hI2 (fun b x q g => hfk _ _ (fun r => ?_) g) (by omega)
        rcases hm2 b q with q | q
        · exact l2D (by rw [← r]; exact q)
        · have := hx4.n; omega
      · rcases hm2 b q with q | q
        · exact .inl q
        · have := hx4.n; exact .inr (by omega)
      · by_cases r : b = l2
        · subst r
          rw [hl2] at g
          cases g
          exact hfl
        · exact hfk _ _ r (hk2 _ _ q (hx4.get (hsk _ _ r (get_push_old g))))
      · have := hx4.n; omega
    · rename_i h4 hfit hx4
      refine ⟨rfl, hx4.get hsl, fun hf hfl hfk hfn => ⟨D1, ?_, fun b q => .inl q, fun b x q g => ?_, ?_⟩⟩
      · have e : (sn ++ [a]).filter (fun t => decide (FitsP t seen)) = sn.filter (fun t => decide (FitsP t seen)) := by
          rw [List.filter_append, List.filter_cons, if_neg (by simpa using hfit)]; simp
        show I ((sn ++ [a]).filter fun t => decide (FitsP t seen)) D1 hf
        rw [e]
        refine hc.stable _ _ _ _ hJ (fun b x q g => ?_) (by have := hx4.n; omega)
        have r : b ≠ l2 := fun r => l2D (by rw [← r]; exact q)
        exact hfk _ _ r (hx4.get (hsk _ _ r (get_push_old g)))
      · by_cases r : b = l2
        · subst r
          rw [hl2] at g
          cases g
          exact hfl
        · exact hfk _ _ r (hx4.get (hsk _ _ r (get_push_old g)))
      · have := hx4.n; omega
  · rintro _ h5 ⟨D5, hI5, hm5, hk5, hn5⟩
    refine ⟨hk5 _ _ (nC _ (by omega)) hlb, fun h6 hk6 hn6 => ?_⟩
    (repeat' (first | (apply K_seq) | (apply K_region) | (apply O_at; rfl) | (apply O_fin; rfl) | (apply C_seq) | (apply K_ifF; rfl) | (apply K_block) | (apply K_skip) | (apply C_blockN) | (apply C_nil) | (apply P_skip; rfl; rfl; rfl) | (apply P_move; rfl; rfl; rfl; rfl) | (apply P_pick; rfl; rfl; rfl; rfl; rfl; rfl) | (apply P_not; rfl; rfl; rfl; rfl) | (apply P_load1; rfl; rfl; rfl; rfl; exact on_ok rfl; (focus repeat' first | exact get_push_same | assumption | apply get_push_old | (apply Ext.get; assumption)); (first | rfl | assumption)) | (apply P_loadA; rfl; rfl; rfl; rfl; exact ag_ok rfl; (focus repeat' first | exact get_push_same | assumption | apply get_push_old | (apply Ext.get; assumption)); (first | exact Nat.le_of_ble_eq_true rfl | (simp; done) | (simp; omega) | (rw [spanCells_len]; omega) | (rw [ints_len]; omega)); rfl) | (apply P_storeTop; rfl; rfl; rfl; rfl; exact sz_ok rfl; rfl; rfl; rfl) | (apply P_box; rfl; rfl; rfl; rfl; exact sz_ok rfl; rfl; rfl) | (apply P_alloc; rfl; rfl; rfl; rfl; exact sz_ok rfl; rfl; rfl) | fail))
    have far : ∀ b, D5 b → b < h.n ∨ h2.n + 2 ≤ b := fun b q => by
      rcases hm5 b q with q | q
      · exact .inl (hc.below _ _ _ hI b q)
      · exact .inr (by omega)
    refine ⟨.inl rfl, hk6 _ _ (by omega) (hk5 _ _ (nC _ (by omega)) hdb), fun h7 hk7 hn7 => ⟨_, rfl, D5, ?_, fun b q => ?_, fun b x q g => ?_, ?_⟩⟩
    · exact hc.stable _ _ _ _ hI5 (fun b x q g => hk7 _ _ (by have := far b q; omega) (hk6 _ _ (by have := far b q; omega) g)) (by omega)
    · rcases hm5 b q with q | q
      · exact .inl q
      · exact .inr (by omega)
    · have := Heap.get_lt g
      exact hk7 _ _ (by omega) (hk6 _ _ (by omega) (hk5 _ _ q (hxb.get (hx.get g))))
    · omega

/-- The blocks that notes lie in. -/
def rowOf (qs : Option Addr) (seen : List (Int × Int)) (b : Nat) : Prop := seen ≠ [] ∧ ∃ a, qs = some a ∧ a.block = b
theorem notes_of {h : Heap} {qs : Option Addr} {seen : List (Int × Int)} {X : Nat → Prop} (r : Rd h qs (spanCells seen)) (hX : ∀ b, rowOf qs seen b → X b) : Notes h qs seen X := by
  by_cases hs : seen = []
  · exact .inl hs
  · obtain ⟨b, e, own, hq, hg⟩ := r.at (by rw [spanCells_len]; have := List.length_pos_iff.2 hs; omega)
    exact .inr ⟨b, e, own, hq, hg, hX b ⟨hs, _, hq, rfl⟩⟩
theorem row_lt {h : Heap} {qs : Option Addr} {seen : List (Int × Int)} (r : Rd h qs (spanCells seen)) {b : Nat} (q : rowOf qs seen b) : b < h.n := by
  obtain ⟨hs, a, rfl, rfl⟩ := q
  obtain ⟨b, e, own, hq, hg⟩ := r.at (by rw [spanCells_len]; have := List.length_pos_iff.2 hs; omega)
  cases hq
  exact Heap.get_lt hg
theorem agreeing_ok (hK : NoK K) {l seen : List (Int × Int)} {bq cap caps R : Nat} {guard : Int} {qs : Option Addr} {e : TypeId} {own : Bool} {h : Heap} (hl : 0 < l.length ∧ l.length ≤ 1000) (hA : AllStarts l) (hR : R ≤ 1000) (hs : SeenP R seen)
    (hq : h.get? bq = some (.cells (spanCells l) e own)) (hrs : Rd h qs (spanCells seen)) :
    CallW Tryz.prog K 62 #[.agg #[.slice (some ⟨bq, 0, none⟩) l.length cap, .int .i64 (R : Nat), .int .i64 guard], .slice qs seen.length caps] h fun v h1 => Ext h h1 ∧ ∃ bp bn, v = .func (.func 93) #[] #[.pointer (some ⟨bp, 0, none⟩), .pointer (some ⟨bn, 0, none⟩)] ∧ h.n ≤ bp ∧ h.n ≤ bn ∧
      Iter Tryz.prog K 93 #[] #[.pointer (some ⟨bp, 0, none⟩), .pointer (some ⟨bn, 0, none⟩)] h1 (ValT (some ⟨bq, 0, none⟩) l.length cap R guard) (agrT l seen) (fun b => b = bq ∨ b = bp ∨ b = bn ∨ rowOf qs seen b) := by
  refine body (N := 6) Tryz.func62 rfl (hK _ _ _ rfl) rfl rfl ?_
  (repeat' (first | (apply K_seq) | (apply K_region) | (apply O_at; rfl) | (apply O_fin; rfl) | (apply C_seq) | (apply K_ret) | (apply C_nil) | (apply P_assign; rfl; rfl; rfl; rfl) | (apply P_makeFunc; rfl; rfl; rfl; rfl; rfl) | (apply P_box; rfl; rfl; rfl; rfl; exact sz_ok rfl; rfl; rfl) | fail))
  have e1 : (h.push (.cells (Value.agg #[.slice (some ⟨bq, 0, none⟩) l.length cap, .int .i64 (R : Nat), .int .i64 guard]).cells.toList 24 true)).n = h.n + 1 := rfl
  have hqn := Heap.get_lt hq
  refine ⟨.inr rfl, _, rfl, by (focus repeat' first | exact Ext.refl _ | assumption | apply Ext.push | (refine Ext.trans ?_ (by assumption)) | (refine Ext.set ?_ (Nat.le_succ _) (get_push_old get_push_same) _)), h.n, h.n + 1, rfl, Nat.le_refl _, Nat.le_succ _, agreeing1_ok hK hl hA hR hs (get_push_old (get_push_old hq)) (get_push_old get_push_same) get_push_same (notes_of (hrs.ext (by (focus repeat' first | exact Ext.refl _ | assumption | apply Ext.push | (refine Ext.trans ?_ (by assumption)) | (refine Ext.set ?_ (Nat.le_succ _) (get_push_old get_push_same) _)))) fun b q => .inr (.inr (.inr q))) ?_ (.inl rfl) (.inr (.inl rfl)) (.inr (.inr (.inl rfl)))⟩
  rintro b (q | q | q | q)
  · show b < h.n + 1 + 1; omega
  · show b < h.n + 1 + 1; omega
  · show b < h.n + 1 + 1; omega
  · have := row_lt hrs q; show b < h.n + 1 + 1; omega
end Go.AX.Sa

namespace Go.AX.Sa
open Go.Proofs
set_option maxRecDepth 100000
variable {K : Known}

theorem areNotes_ok (hK : NoK K) {seen : List (Int × Int)} {p qs : Option Addr} {n cap caps R : Nat} {guard : Int} {h : Heap} (hR : 1 ≤ (R : Int) ∧ (R : Int) ≤ 12) (hl : seen.length ≤ 1000) (hrs : Rd h qs (spanCells seen)) :
    CallW Tryz.prog K 61 #[.agg #[.slice p n cap, .int .i64 (R : Nat), .int .i64 guard], .slice qs seen.length caps] h (IfB (SeenP R seen) h) := by
  refine body (N := 27) Tryz.func61 rfl (hK _ _ _ rfl) rfl rfl ?_
  (repeat' (first | (apply K_seq) | (apply K_region) | (apply O_at; rfl) | (apply O_fin; rfl) | (apply C_seq) | (apply K_ifT; rfl) | (apply K_ifF; rfl) | (apply K_block) | (apply K_skip) | (apply K_exit) | (apply K_ret) | (apply C_retS) | (apply C_retL) | (apply C_retB) | (apply C_exit) | (apply C_exitS) | (apply C_exitL) | (apply C_blockN) | (apply C_nil) | (apply P_skip; rfl; rfl; rfl) | (apply P_move; rfl; rfl; rfl; rfl) | (apply P_assign; rfl; rfl; rfl; rfl) | (apply P_fa; rfl; rfl; rfl; rfl; exact fo_ok rfl; (first | exact Nat.zero_add _ | exact Nat.add_zero _ | rfl)) | (apply P_len; rfl; rfl; rfl; rfl; rfl; rfl; exact un_ok rfl) | (apply P_pick; rfl; rfl; rfl; rfl; rfl; rfl) | (apply P_not; rfl; rfl; rfl; rfl) | (apply P_lss; rfl; rfl; rfl; rfl; rfl; all_goals intro _) | (apply P_gtr; rfl; rfl; rfl; rfl; rfl; all_goals intro _) | (apply P_add; rfl; rfl; rfl; rfl; rfl; (unfold fit; omega)) | (apply P_idxB; rfl; rfl; rfl; rfl; rfl; exact un_ok rfl; exact sz_ok rfl; (first | rfl | exact (Int.toNat_of_nonneg (by omega)).symm); omega) | (apply P_load1; rfl; rfl; rfl; rfl; exact on_ok rfl; (focus repeat' first | exact get_push_same | assumption | apply get_push_old | (apply Ext.get; assumption)); (first | rfl | assumption)) | (apply P_loadA; rfl; rfl; rfl; rfl; exact ag_ok rfl; (focus repeat' first | exact get_push_same | assumption | apply get_push_old | (apply Ext.get; assumption)); (first | exact Nat.le_of_ble_eq_true rfl | (simp; done) | (simp; omega) | (rw [spanCells_len]; omega) | (rw [ints_len]; omega)); (first | exact spans_take (by omega) | rfl)) | (apply P_storeTop; rfl; rfl; rfl; rfl; exact sz_ok rfl; rfl; rfl; rfl) | (apply P_box; rfl; rfl; rfl; rfl; exact sz_ok rfl; rfl; rfl) | (apply P_alloc; rfl; rfl; rfl; rfl; exact sz_ok rfl; rfl; rfl) | fail))
  · rename_i hne
    refine ⟨.inr rfl, _, rfl, .inr ⟨rfl, fun q => by have := q.1; omega, ?_⟩⟩
    (focus repeat' first | exact Ext.refl _ | assumption | apply Ext.push | (refine Ext.trans ?_ (by assumption)) | (refine Ext.set ?_ (Nat.le_succ _) (get_push_old get_push_same) _))
  rename_i hle
  have hb1 : (h.push (.cells (Value.agg #[.slice p n cap, .int .i64 (R : Nat), .int .i64 guard]).cells.toList 24 true)).get? h.n = some (.cells [.slice p n cap, .int .i64 (R : Nat), .int .i64 guard] 24 true) := get_push_same
  have hx2 : Ext h (h.push (.cells (Value.agg #[.slice p n cap, .int .i64 (R : Nat), .int .i64 guard]).cells.toList 24 true)) := by (focus repeat' first | exact Ext.refl _ | assumption | apply Ext.push | (refine Ext.trans ?_ (by assumption)) | (refine Ext.set ?_ (Nat.le_succ _) (get_push_old get_push_same) _))
  generalize h.push (.cells (Value.agg #[.slice p n cap, .int .i64 (R : Nat), .int .i64 guard]).cells.toList 24 true) = h2 at hb1 hx2 ⊢
  refine K_loopE (fun k : Nat => [(12, .int .i64 (k : Nat)), (11, .int .i64 (seen.length : Nat)), (10, .slice qs seen.length caps), (2, .pointer (some ⟨h.n, 0, none⟩))])
    (fun k h' => k ≤ seen.length ∧ Ext h2 h' ∧ ∀ j, j < k → (0 ≤ (seen.getD j (0, 0)).1 ∧ (seen.getD j (0, 0)).1 ≤ (R : Int) - 1) ∧ NearP (seen.getD j (0, 0)).2) (fun k => seen.length - k) ?_ 0 ?_ ?_
  · intro k h' ⟨hk, hx, hj⟩ ih
    have hb := hx.get hb1
    by_cases hlt : k < seen.length
    · obtain ⟨b, e, own, rfl, hg⟩ := hrs.at (by rw [spanCells_len]; omega)
      have hg2 := hx.get (hx2.get hg)
      clear hg
      (repeat' (first | (apply K_seq) | (apply K_region) | (apply O_at; rfl) | (apply O_fin; rfl) | (apply C_seq) | (apply K_ifT; rfl) | (apply K_ifF; rfl) | (apply K_block) | (apply K_skip) | (apply K_exit) | (apply K_ret) | (apply C_retS) | (apply C_retL) | (apply C_retB) | (apply C_exit) | (apply C_exitS) | (apply C_exitL) | (apply C_blockN) | (apply C_nil) | (apply P_skip; rfl; rfl; rfl) | (apply P_move; rfl; rfl; rfl; rfl) | (apply P_assign; rfl; rfl; rfl; rfl) | (apply P_fa; rfl; rfl; rfl; rfl; exact fo_ok rfl; (first | exact Nat.zero_add _ | exact Nat.add_zero _ | rfl)) | (apply P_len; rfl; rfl; rfl; rfl; rfl; rfl; exact un_ok rfl) | (apply P_pick; rfl; rfl; rfl; rfl; rfl; rfl) | (apply P_not; rfl; rfl; rfl; rfl) | (apply P_lss; rfl; rfl; rfl; rfl; rfl; all_goals intro _) | (apply P_gtr; rfl; rfl; rfl; rfl; rfl; all_goals intro _) | (apply P_add; rfl; rfl; rfl; rfl; rfl; (unfold fit; omega)) | (apply P_idxB; rfl; rfl; rfl; rfl; rfl; exact un_ok rfl; exact sz_ok rfl; (first | rfl | exact (Int.toNat_of_nonneg (by omega)).symm); omega) | (apply P_load1; rfl; rfl; rfl; rfl; exact on_ok rfl; (focus repeat' first | exact get_push_same | assumption | apply get_push_old | (apply Ext.get; assumption)); (first | rfl | assumption)) | (apply P_loadA; rfl; rfl; rfl; rfl; exact ag_ok rfl; (focus repeat' first | exact get_push_same | assumption | apply get_push_old | (apply Ext.get; assumption)); (first | exact Nat.le_of_ble_eq_true rfl | (simp; done) | (simp; omega) | (rw [spanCells_len]; omega) | (rw [ints_len]; omega)); (first | exact spans_take (by omega) | rfl)) | (apply P_storeTop; rfl; rfl; rfl; rfl; exact sz_ok rfl; rfl; rfl; rfl) | (apply P_box; rfl; rfl; rfl; rfl; exact sz_ok rfl; rfl; rfl) | (apply P_alloc; rfl; rfl; rfl; rfl; exact sz_ok rfl; rfl; rfl) | (apply P_call; rfl; rfl; rfl; rfl; rfl; rfl; exact isRow_ok hK hR; (rintro _ _ (⟨rfl, _, _⟩ | ⟨rfl, _, _⟩))) | (apply P_call; rfl; rfl; rfl; rfl; rfl; rfl; exact isFar_ok hK; (rintro _ _ (⟨rfl, _, _⟩ | ⟨rfl, _, _⟩))) | fail))
      · rename_i hns _
        refine ⟨.inr rfl, _, rfl, .inr ⟨rfl, fun q => hns (q.2 k hlt).2, ?_⟩⟩
        (focus repeat' first | exact Ext.refl _ | assumption | apply Ext.push | (refine Ext.trans ?_ (by assumption)) | (refine Ext.set ?_ (Nat.le_succ _) (get_push_old get_push_same) _))
      · rename_i hrow _ _ hns _
        refine C_again (ih (k + 1) _ ?_ ⟨hlt, ?_, fun j hj' => ?_⟩) ?_
        · omega
        · (focus repeat' first | exact Ext.refl _ | assumption | apply Ext.push | (refine Ext.trans ?_ (by assumption)) | (refine Ext.set ?_ (Nat.le_succ _) (get_push_old get_push_same) _))
        · by_cases hjk : j = k
          · subst hjk; exact ⟨hrow, Classical.not_not.1 hns⟩
          · exact hj j (by omega)
        · (focus repeat' first | rfl | exact trivial | apply And.intro)
      · rename_i hns _
        refine ⟨.inr rfl, _, rfl, .inr ⟨rfl, fun q => hns (q.2 k hlt).1, ?_⟩⟩
        (focus repeat' first | exact Ext.refl _ | assumption | apply Ext.push | (refine Ext.trans ?_ (by assumption)) | (refine Ext.set ?_ (Nat.le_succ _) (get_push_old get_push_same) _))
      · omega
    · (repeat' (first | (apply K_seq) | (apply K_region) | (apply O_at; rfl) | (apply O_fin; rfl) | (apply C_seq) | (apply K_ifT; rfl) | (apply K_ifF; rfl) | (apply K_block) | (apply K_skip) | (apply K_exit) | (apply K_ret) | (apply C_retS) | (apply C_retL) | (apply C_retB) | (apply C_exit) | (apply C_exitS) | (apply C_exitL) | (apply C_blockN) | (apply C_nil) | (apply P_skip; rfl; rfl; rfl) | (apply P_move; rfl; rfl; rfl; rfl) | (apply P_assign; rfl; rfl; rfl; rfl) | (apply P_fa; rfl; rfl; rfl; rfl; exact fo_ok rfl; (first | exact Nat.zero_add _ | exact Nat.add_zero _ | rfl)) | (apply P_len; rfl; rfl; rfl; rfl; rfl; rfl; exact un_ok rfl) | (apply P_pick; rfl; rfl; rfl; rfl; rfl; rfl) | (apply P_not; rfl; rfl; rfl; rfl) | (apply P_lss; rfl; rfl; rfl; rfl; rfl; all_goals intro _) | (apply P_gtr; rfl; rfl; rfl; rfl; rfl; all_goals intro _) | (apply P_add; rfl; rfl; rfl; rfl; rfl; (unfold fit; omega)) | (apply P_idxB; rfl; rfl; rfl; rfl; rfl; exact un_ok rfl; exact sz_ok rfl; (first | rfl | exact (Int.toNat_of_nonneg (by omega)).symm); omega) | (apply P_load1; rfl; rfl; rfl; rfl; exact on_ok rfl; (focus repeat' first | exact get_push_same | assumption | apply get_push_old | (apply Ext.get; assumption)); (first | rfl | assumption)) | (apply P_loadA; rfl; rfl; rfl; rfl; exact ag_ok rfl; (focus repeat' first | exact get_push_same | assumption | apply get_push_old | (apply Ext.get; assumption)); (first | exact Nat.le_of_ble_eq_true rfl | (simp; done) | (simp; omega) | (rw [spanCells_len]; omega) | (rw [ints_len]; omega)); (first | exact spans_take (by omega) | rfl)) | (apply P_storeTop; rfl; rfl; rfl; rfl; exact sz_ok rfl; rfl; rfl; rfl) | (apply P_box; rfl; rfl; rfl; rfl; exact sz_ok rfl; rfl; rfl) | (apply P_alloc; rfl; rfl; rfl; rfl; exact sz_ok rfl; rfl; rfl) | fail))
      · omega
      · refine ⟨.inr rfl, _, rfl, .inl ⟨rfl, ⟨by omega, fun j hj' => hj j (by omega)⟩, ?_⟩⟩
        (focus repeat' first | exact Ext.refl _ | assumption | apply Ext.push | (refine Ext.trans ?_ (by assumption)) | (refine Ext.set ?_ (Nat.le_succ _) (get_push_old get_push_same) _))
  · exact ⟨Nat.zero_le _, Ext.refl _, fun j hj => by omega⟩
  · (focus repeat' first | rfl | exact trivial | apply And.intro)
theorem spanL_len (p : Int × Int) : (spanL p).length = (p.2 - p.1 + 1).toNat := by simp [spanL, rng]
theorem allT_len : ∀ {l : List (Int × Int)}, AllStarts l → (allT l).length ≤ 7 ^ l.length := by
  intro l
  induction l with
  | nil => intro _; exact Nat.le_refl _
  | cons p l ih =>
    intro hA
    have h0 := hA 0 (by simp)
    have hA' : AllStarts l := fun k hk => by simpa using hA (k + 1) (by simpa using hk)
    have h1 := ih hA'
    have h2 : (spanL p).length ≤ 7 := by
      rw [spanL_len]
      simp [StartP] at h0
      omega
    have key : ∀ (L : List Int), (L.flatMap fun n => (allT l).map (n :: ·)).length = L.length * (allT l).length := by
      intro L
      induction L with
      | nil => simp
      | cons a L ihL => rw [List.flatMap_cons, List.length_append, ihL, List.length_map, List.length_cons, Nat.succ_mul, Nat.add_comm]
    rw [allT, key, List.length_cons, Nat.pow_succ, Nat.mul_comm (7 ^ l.length) 7]
    exact Nat.mul_le_mul h2 h1
theorem agrT_len {l seen : List (Int × Int)} (hl : l.length ≤ 4) (hA : AllStarts l) : (agrT l seen).length ≤ 2401 :=
  Nat.le_trans (List.length_filter_le _ _) (Nat.le_trans (allT_len hA) (Nat.pow_le_pow_right (by omega) hl))
theorem agrT_truth {l seen : List (Int × Int)} {t : List Int} (h : t ∈ agrT l seen) : TruthP l t ∧ FitsP t seen := by
  unfold agrT at h
  rw [List.mem_filter] at h
  exact ⟨allT_mem.1 h.1, by simpa using h.2⟩
def IsT (ws : List Value) (h : Heap) (v : Value) (h1 : Heap) : Prop := v = .tuple ws.toArray ∧ Ext h h1
theorem agree_ok (hK : NoK K) {l seen : List (Int × Int)} {p qs : Option Addr} {cap caps R : Nat} {guard : Int} {h : Heap} (hl : l.length ≤ 1000) (hr : Rd h p (spanCells l)) (hls : seen.length ≤ 1000) (hrs : Rd h qs (spanCells seen)) (hP : PlanP l R guard) (hS : SeenP R seen) :
    CallW Tryz.prog K 18 #[.agg #[.slice p l.length cap, .int .i64 (R : Nat), .int .i64 guard], .slice qs seen.length caps] h (IsT [.int .i64 ((agrT l seen).length : Nat), .int .i64 0] h) := by
  have hl4 := hP.1
  have hRb := hP.2.2.1
  obtain ⟨bq, eq, oq, rfl, hq⟩ := hr.at (by rw [spanCells_len]; omega)
  have hqn := Heap.get_lt hq
  refine body_rangeH (N := 23) 5 Tryz.func18 rfl (hK _ _ _ rfl) rfl rfl (by rfl) (by rfl) ?_
  (repeat' (first | (apply K_seq) | (apply K_region) | (apply O_at; rfl) | (apply O_fin; rfl) | (apply C_seq) | (apply K_ifF; rfl) | (apply K_block) | (apply K_skip) | (apply K_ret) | (apply C_retS) | (apply C_blockN) | (apply C_nil) | (apply P_move; rfl; rfl; rfl; rfl) | (apply P_assign; rfl; rfl; rfl; rfl) | (apply P_pick; rfl; rfl; rfl; rfl; rfl; rfl) | (apply P_not; rfl; rfl; rfl; rfl) | (apply P_add; rfl; rfl; rfl; rfl; rfl; (unfold fit; omega)) | (apply P_load1; rfl; rfl; rfl; rfl; exact on_ok rfl; (focus repeat' first | exact get_push_same | assumption | apply get_push_old | (apply Ext.get; assumption) | (apply ExtBut.get; assumption; assumption)); (first | rfl | assumption)) | (apply P_loadA; rfl; rfl; rfl; rfl; exact ag_ok rfl; (focus repeat' first | exact get_push_same | assumption | apply get_push_old | (apply Ext.get; assumption) | (apply ExtBut.get; assumption; assumption)); (first | exact Nat.le_of_ble_eq_true rfl | (simp; done) | (simp; omega) | (rw [spanCells_len]; omega) | (rw [ints_len]; omega)); rfl) | (apply P_storeTop; rfl; rfl; rfl; rfl; exact sz_ok rfl; rfl; rfl; rfl) | (apply P_box; rfl; rfl; rfl; rfl; exact sz_ok rfl; rfl; rfl) | (apply P_alloc; rfl; rfl; rfl; rfl; exact sz_ok rfl; rfl; rfl) | (apply P_call; rfl; rfl; rfl; rfl; rfl; rfl; exact yes (isPlan_ok hK hl (hr.ext (by (focus repeat' first | exact Ext.refl _ | assumption | apply Ext.push | (refine Ext.trans ?_ (by assumption)) | (refine Ext.set ?_ (Nat.le_succ _) (get_push_old get_push_same) _))))) hP; (rintro _ _ ⟨rfl, _⟩)) | (apply P_call; rfl; rfl; rfl; rfl; rfl; rfl; exact yes (areNotes_ok hK hP.2.2.1 hls (hrs.ext (by (focus repeat' first | exact Ext.refl _ | assumption | apply Ext.push | (refine Ext.trans ?_ (by assumption)) | (refine Ext.set ?_ (Nat.le_succ _) (get_push_old get_push_same) _))))) hS; (rintro _ _ ⟨rfl, _⟩)) | fail))
  rename_i h3 x3 h4 x4
  have x04 : Ext h h4 := by (focus repeat' first | exact Ext.refl _ | assumption | apply Ext.push | (refine Ext.trans ?_ (by assumption)) | (refine Ext.set ?_ (Nat.le_succ _) (get_push_old get_push_same) _))
  have n04 := x04.n
  clear x3 x4
  have hxp : Ext h (h4.push (.cells (Value.int .i64 0).cells.toList 3 true)) := x04.push _
  apply P_call; rfl; rfl; rfl; rfl; rfl; rfl; exact agreeing_ok hK ⟨by omega, hl⟩ hP.2.1 (by omega) hS (hxp.get hq) (hrs.ext hxp)
  rintro _ h6 ⟨hx6, bp, bn, rfl, hbp, hbn', hit⟩
  have h6m := hx6.get (get_push_same (h := h4) (b := .cells (Value.int .i64 0).cells.toList 3 true))
  have hbp2 : h4.n + 1 ≤ bp := hbp
  have hbn2 : h4.n + 1 ≤ bn := hbn'
  have h6n : h4.n + 1 ≤ h6.n := hx6.n
  have x06 : Ext h h6 := hxp.trans hx6
  (repeat' (first | (apply K_seq) | (apply K_region) | (apply O_at; rfl) | (apply O_fin; rfl) | (apply C_seq) | (apply K_ifF; rfl) | (apply K_block) | (apply K_skip) | (apply K_ret) | (apply C_retS) | (apply C_blockN) | (apply C_nil) | (apply P_move; rfl; rfl; rfl; rfl) | (apply P_assign; rfl; rfl; rfl; rfl) | (apply P_pick; rfl; rfl; rfl; rfl; rfl; rfl) | (apply P_not; rfl; rfl; rfl; rfl) | (apply P_add; rfl; rfl; rfl; rfl; rfl; (unfold fit; omega)) | (apply P_load1; rfl; rfl; rfl; rfl; exact on_ok rfl; (focus repeat' first | exact get_push_same | assumption | apply get_push_old | (apply Ext.get; assumption) | (apply ExtBut.get; assumption; assumption)); (first | rfl | assumption)) | (apply P_loadA; rfl; rfl; rfl; rfl; exact ag_ok rfl; (focus repeat' first | exact get_push_same | assumption | apply get_push_old | (apply Ext.get; assumption) | (apply ExtBut.get; assumption; assumption)); (first | exact Nat.le_of_ble_eq_true rfl | (simp; done) | (simp; omega) | (rw [spanCells_len]; omega) | (rw [ints_len]; omega)); rfl) | (apply P_storeTop; rfl; rfl; rfl; rfl; exact sz_ok rfl; rfl; rfl; rfl) | (apply P_box; rfl; rfl; rfl; rfl; exact sz_ok rfl; rfl; rfl) | (apply P_alloc; rfl; rfl; rfl; rfl; exact sz_ok rfl; rfl; rfl) | fail))
  refine .inr ⟨rfl, _, #[], _, rfl, rfl, fun tm l2 hb hE hl2e hxb hbn hlb hdb => ?_⟩
  refine (Iter.loop hit (hb := hb) (fun b x _ g => hxb.get g) hxb.n (by omega)
    (fun (sn : List (List Int)) D1 h' => (∀ b, D1 b ↔ b = h4.n) ∧ h'.get? h4.n = some (.cells [.int .i64 (sn.length : Nat)] 3 true)) (fun b => b = h4.n)
    (fun sn D1 a b f k n => ⟨f.1, k _ _ ((f.1 _).2 rfl) f.2⟩) (fun sn D1 a f b q => by rw [(f.1 b).1 q]; exact Heap.get_lt f.2) ?_ ?_ ?_).mono ?_
  · exact ⟨fun b => Iff.rfl, hxb.get h6m⟩
  · rintro b (q | q | q | q) r
    · omega
    · omega
    · omega
    · have := row_lt hrs q; omega
  · rintro sn a D1 h' v ⟨rst, hrst⟩ _ ⟨hD, hm⟩ hD1 hkeep hn'
    have hl2 := hkeep _ _ (by omega) hlb
    have hsn : sn.length < 2401 := by
      have := agrT_len (seen := seen) hl4.2 hP.2.1
      rw [← hrst] at this
      simp at this
      omega
    refine round_of (N := 23) hl2 rfl (EnvOK.param hE rfl) ?_
    (repeat' (first | (apply K_seq) | (apply K_region) | (apply O_at; rfl) | (apply O_fin; rfl) | (apply C_seq) | (apply K_ifF; rfl) | (apply K_block) | (apply K_skip) | (apply K_ret) | (apply C_retS) | (apply C_blockN) | (apply C_nil) | (apply P_move; rfl; rfl; rfl; rfl) | (apply P_assign; rfl; rfl; rfl; rfl) | (apply P_pick; rfl; rfl; rfl; rfl; rfl; rfl) | (apply P_not; rfl; rfl; rfl; rfl) | (apply P_add; rfl; rfl; rfl; rfl; rfl; (unfold fit; omega)) | (apply P_load1; rfl; rfl; rfl; rfl; exact on_ok rfl; (focus repeat' first | exact get_push_same | assumption | apply get_push_old | (apply Ext.get; assumption) | (apply ExtBut.get; assumption; assumption)); (first | rfl | assumption)) | (apply P_loadA; rfl; rfl; rfl; rfl; exact ag_ok rfl; (focus repeat' first | exact get_push_same | assumption | apply get_push_old | (apply Ext.get; assumption) | (apply ExtBut.get; assumption; assumption)); (first | exact Nat.le_of_ble_eq_true rfl | (simp; done) | (simp; omega) | (rw [spanCells_len]; omega) | (rw [ints_len]; omega)); rfl) | (apply P_storeTop; rfl; rfl; rfl; rfl; exact sz_ok rfl; rfl; rfl; rfl) | (apply P_box; rfl; rfl; rfl; rfl; exact sz_ok rfl; rfl; rfl) | (apply P_alloc; rfl; rfl; rfl; rfl; exact sz_ok rfl; rfl; rfl) | fail))
    refine ⟨rfl, hl2, fun B hs' hsl hsk hsn => ?_⟩
    have hm' := hsk _ _ (by omega) hm
    (repeat' (first | (apply K_seq) | (apply K_region) | (apply O_at; rfl) | (apply O_fin; rfl) | (apply C_seq) | (apply K_ifF; rfl) | (apply K_block) | (apply K_skip) | (apply K_ret) | (apply C_retS) | (apply C_blockN) | (apply C_nil) | (apply P_move; rfl; rfl; rfl; rfl) | (apply P_assign; rfl; rfl; rfl; rfl) | (apply P_pick; rfl; rfl; rfl; rfl; rfl; rfl) | (apply P_not; rfl; rfl; rfl; rfl) | (apply P_add; rfl; rfl; rfl; rfl; rfl; (unfold fit; omega)) | (apply P_load1; rfl; rfl; rfl; rfl; exact on_ok rfl; (focus repeat' first | exact get_push_same | assumption | apply get_push_old | (apply Ext.get; assumption) | (apply ExtBut.get; assumption; assumption)); (first | rfl | assumption)) | (apply P_loadA; rfl; rfl; rfl; rfl; exact ag_ok rfl; (focus repeat' first | exact get_push_same | assumption | apply get_push_old | (apply Ext.get; assumption) | (apply ExtBut.get; assumption; assumption)); (first | exact Nat.le_of_ble_eq_true rfl | (simp; done) | (simp; omega) | (rw [spanCells_len]; omega) | (rw [ints_len]; omega)); rfl) | (apply P_storeTop; rfl; rfl; rfl; rfl; exact sz_ok rfl; rfl; rfl; rfl) | (apply P_box; rfl; rfl; rfl; rfl; exact sz_ok rfl; rfl; rfl) | (apply P_alloc; rfl; rfl; rfl; rfl; exact sz_ok rfl; rfl; rfl) | fail))
    apply P_storeC; rfl; rfl; rfl; rfl; exact hm'; exact sz_ok rfl; rfl; exact Nat.le_of_ble_eq_true rfl; rfl; rfl
    intro h10 h10b hx10
    (repeat' (first | (apply K_seq) | (apply K_region) | (apply O_at; rfl) | (apply O_fin; rfl) | (apply C_seq) | (apply K_ifF; rfl) | (apply K_block) | (apply K_skip) | (apply K_ret) | (apply C_retS) | (apply C_blockN) | (apply C_nil) | (apply P_move; rfl; rfl; rfl; rfl) | (apply P_assign; rfl; rfl; rfl; rfl) | (apply P_pick; rfl; rfl; rfl; rfl; rfl; rfl) | (apply P_not; rfl; rfl; rfl; rfl) | (apply P_add; rfl; rfl; rfl; rfl; rfl; (unfold fit; omega)) | (apply P_load1; rfl; rfl; rfl; rfl; exact on_ok rfl; (focus repeat' first | exact get_push_same | assumption | apply get_push_old | (apply Ext.get; assumption) | (apply ExtBut.get; assumption; assumption)); (first | rfl | assumption)) | (apply P_loadA; rfl; rfl; rfl; rfl; exact ag_ok rfl; (focus repeat' first | exact get_push_same | assumption | apply get_push_old | (apply Ext.get; assumption) | (apply ExtBut.get; assumption; assumption)); (first | exact Nat.le_of_ble_eq_true rfl | (simp; done) | (simp; omega) | (rw [spanCells_len]; omega) | (rw [ints_len]; omega)); rfl) | (apply P_storeTop; rfl; rfl; rfl; rfl; exact sz_ok rfl; rfl; rfl; rfl) | (apply P_box; rfl; rfl; rfl; rfl; exact sz_ok rfl; rfl; rfl) | (apply P_alloc; rfl; rfl; rfl; rfl; exact sz_ok rfl; rfl; rfl) | fail))
    refine ⟨rfl, hx10.get (by omega) hsl, fun hf hfl hfk hfn => ⟨D1, ⟨hD, ?_⟩, fun b q => .inl q, fun b x q g => ?_, ?_⟩⟩
    · have e : (((sn ++ [a]).length : Nat) : Int) = (sn.length : Nat) + 1 := by simp
      rw [e]
      exact hfk _ _ (by omega) h10b
    · by_cases r : b = l2
      · subst r
        rw [hl2] at g
        cases g
        exact hfl
      · exact hfk _ _ r (hx10.get (fun u => q ((hD b).2 u)) (hsk _ _ r g))
    · have := hx10.n; omega
  · rintro _ h7 ⟨D5, ⟨hD5, hm5⟩, _, hk5, hn5⟩
    refine ⟨hk5 _ _ (by omega) hlb, fun h8 hk8 hn8 => ?_⟩
    have hm8 := hk8 _ _ (by omega) hm5
    (repeat' (first | (apply K_seq) | (apply K_region) | (apply O_at; rfl) | (apply O_fin; rfl) | (apply C_seq) | (apply K_ifF; rfl) | (apply K_block) | (apply K_skip) | (apply K_ret) | (apply C_retS) | (apply C_blockN) | (apply C_nil) | (apply P_move; rfl; rfl; rfl; rfl) | (apply P_assign; rfl; rfl; rfl; rfl) | (apply P_pick; rfl; rfl; rfl; rfl; rfl; rfl) | (apply P_not; rfl; rfl; rfl; rfl) | (apply P_add; rfl; rfl; rfl; rfl; rfl; (unfold fit; omega)) | (apply P_load1; rfl; rfl; rfl; rfl; exact on_ok rfl; (focus repeat' first | exact get_push_same | assumption | apply get_push_old | (apply Ext.get; assumption) | (apply ExtBut.get; assumption; assumption)); (first | rfl | assumption)) | (apply P_loadA; rfl; rfl; rfl; rfl; exact ag_ok rfl; (focus repeat' first | exact get_push_same | assumption | apply get_push_old | (apply Ext.get; assumption) | (apply ExtBut.get; assumption; assumption)); (first | exact Nat.le_of_ble_eq_true rfl | (simp; done) | (simp; omega) | (rw [spanCells_len]; omega) | (rw [ints_len]; omega)); rfl) | (apply P_storeTop; rfl; rfl; rfl; rfl; exact sz_ok rfl; rfl; rfl; rfl) | (apply P_box; rfl; rfl; rfl; rfl; exact sz_ok rfl; rfl; rfl) | (apply P_alloc; rfl; rfl; rfl; rfl; exact sz_ok rfl; rfl; rfl) | fail))
    refine ⟨.inr rfl, hk8 _ _ (by omega) (hk5 _ _ (by omega) hdb), fun h9 hk9 hn9 => ⟨_, rfl, rfl, by omega, fun b x g => ?_⟩⟩
    have := Heap.get_lt g
    exact hk9 _ _ (by omega) (hk8 _ _ (by omega) (hk5 _ _ (by omega) (hxb.get (x06.get g))))
end Go.AX.Sa
