/- Where a single error can have entered. -/
import Derived.Test.YtbhocbogedodnaaGreatDoorSwB
namespace Go.AX.Sa
open Go.Proofs
set_option maxRecDepth 100000
variable {K : Known}
/-! Where a single error can have entered. -/
def snI (T : Tre) (p k : Nat) : Int := (T.c.getD k cop0).r.s.getD p 0
def Comes (T : Tre) (k : Nat) (o : Int) : Prop := o ∈ pathI T.c k
def ExpP (T : Tre) (p : Nat) (right : Int) (o f : Int) (n : Nat) : Prop := ∀ i, i < n → snI T p i = -1 ∨ (Comes T i o ∧ snI T p i = f) ∨ (¬ Comes T i o ∧ snI T p i = right)
def SrcP (T : Tre) (p : Nat) (right : Int) (o : Int) : Prop := ∃ f, FigP f ∧ f ≠ right ∧ ExpP T p right o f T.c.length
theorem sn_read {T : Tre} (hP : TreeP T) {p k : Nat} (hk : k < T.c.length) (hp : (p : Int) < T.places) : p < (T.c.getD k cop0).r.s.length ∧ ReadP (snI T p k) := by
  obtain ⟨_, h2, h3⟩ := hP.2.2 k hk
  have : p < (T.c.getD k cop0).r.s.length := by omega
  exact ⟨this, h3 p this⟩
def SrcInv (T : Tre) (p : Nat) (right o : Int) (k : Nat) (w : Int) : Prop :=
  (w = -1 ∧ ∀ i, i < k → snI T p i = -1 ∨ (snI T p i = right ∧ ¬ Comes T i o)) ∨ (FigP w ∧ w ≠ right ∧ (∃ j, j < k ∧ snI T p j = w ∧ Comes T j o) ∧ ExpP T p right o w k)
theorem src_end {T : Tre} {p : Nat} {right o w : Int} (h : SrcInv T p right o T.c.length w) : SrcP T p right o := by
  rcases h with ⟨_, h⟩ | ⟨h1, h2, _, h3⟩
  · by_cases q : right = 0
    · refine ⟨1, by unfold FigP; omega, by omega, fun i hi => ?_⟩
      rcases h i hi with w | ⟨w1, w2⟩
      · exact .inl w
      · exact .inr (.inr ⟨w2, w1⟩)
    · refine ⟨0, by unfold FigP; omega, by omega, fun i hi => ?_⟩
      rcases h i hi with w | ⟨w1, w2⟩
      · exact .inl w
      · exact .inr (.inr ⟨w2, w1⟩)
  · exact ⟨w, h1, h2, h3⟩
section
variable {T : Tre} {p k : Nat} {right o w : Int}
theorem src_skip (h : SrcInv T p right o k w) (e : snI T p k = -1) : SrcInv T p right o (k + 1) w := by
  rcases h with ⟨h1, h2⟩ | ⟨h1, h2, ⟨j, h3, h4, h5⟩, h6⟩
  · refine .inl ⟨h1, fun i hi => ?_⟩
    by_cases q : i = k
    · subst q; exact .inl e
    · exact h2 i (by omega)
  · refine .inr ⟨h1, h2, ⟨j, by omega, h4, h5⟩, fun i hi => ?_⟩
    by_cases q : i = k
    · subst q; exact .inl e
    · exact h6 i (by omega)
theorem src_good (h : SrcInv T p right o k w) (e : snI T p k = right) (hc : ¬ o ∈ pathI T.c k) : SrcInv T p right o (k + 1) w := by
  rcases h with ⟨h1, h2⟩ | ⟨h1, h2, ⟨j, h3, h4, h5⟩, h6⟩
  · refine .inl ⟨h1, fun i hi => ?_⟩
    by_cases q : i = k
    · subst q; exact .inr ⟨e, hc⟩
    · exact h2 i (by omega)
  · refine .inr ⟨h1, h2, ⟨j, by omega, h4, h5⟩, fun i hi => ?_⟩
    by_cases q : i = k
    · subst q; exact .inr (.inr ⟨hc, e⟩)
    · exact h6 i (by omega)
theorem src_bad (h : SrcInv T p right o k w) (hr : ReadP (snI T p k)) (e0 : ¬ snI T p k = -1) (e : ¬ snI T p k = right) (hc : o ∈ pathI T.c k) (hw : w = -1 ∨ snI T p k = w) : SrcInv T p right o (k + 1) (snI T p k) := by
  have hf : FigP (snI T p k) := by rcases hr with q | q; exact absurd q e0; exact q
  refine .inr ⟨hf, e, ⟨k, Nat.lt_succ_self _, rfl, hc⟩, fun i hi => ?_⟩
  by_cases q : i = k
  · subst q; exact .inr (.inl ⟨hc, rfl⟩)
  · rcases h with ⟨h1, h2⟩ | ⟨h1, h2, ⟨j, h3, h4, h5⟩, h6⟩
    · rcases h2 i (by omega) with r | ⟨r1, r2⟩
      · exact .inl r
      · exact .inr (.inr ⟨r2, r1⟩)
    · rcases hw with hw | hw
      · exfalso; unfold FigP at h1; omega
      · rw [hw]; exact h6 i (by omega)
theorem src_no1 (hk : k < T.c.length) (hr : FigP right) (e : snI T p k = right) (hc : o ∈ pathI T.c k) : ¬ SrcP T p right o := by
  rintro ⟨f, h1, h2, h3⟩
  rcases h3 k hk with q | ⟨_, q⟩ | ⟨q, _⟩
  · unfold FigP at hr; omega
  · exact h2 (q.symm.trans e)
  · exact q hc
theorem src_no2 (hk : k < T.c.length) (e0 : ¬ snI T p k = -1) (e : ¬ snI T p k = right) (hc : ¬ o ∈ pathI T.c k) : ¬ SrcP T p right o := by
  rintro ⟨f, h1, h2, h3⟩
  rcases h3 k hk with q | ⟨q, _⟩ | ⟨_, q⟩
  · exact e0 q
  · exact hc q
  · exact e q
theorem src_no3 (h : SrcInv T p right o k w) (hk : k < T.c.length) (e0 : ¬ snI T p k = -1) (hc : o ∈ pathI T.c k) (hw : ¬ w = -1) (e : ¬ snI T p k = w) : ¬ SrcP T p right o := by
  rintro ⟨f, h1, h2, h3⟩
  rcases h with ⟨q, _⟩ | ⟨_, _, ⟨j, j1, j2, j3⟩, _⟩
  · exact hw q
  · rcases h3 k hk with q | ⟨_, q⟩ | ⟨q, _⟩
    · exact e0 q
    · rcases h3 j (by omega) with r | ⟨_, r⟩ | ⟨r, _⟩
      · rename_i hf _ _; have := (h3 j (by omega)); exact hw (by rw [← j2]; exact r)
      · exact e (by rw [q, ← r, j2])
      · exact r j3
    · exact q hc
end
theorem isSource_ok (hK : NoK K) {T : Tre} {o right : Int} {p : Nat} {h : Heap} (hT : TreAt T h) (hs : ShortP T) (hP : TreeP T) (hp : (p : Int) < T.places) (hr : FigP right) :
    CallW Tryz.prog K 80 #[treV T, .int .i64 o, .int .i64 (p : Nat), .int .i64 right] h (IfB (SrcP T p right o) h) := by
  have hT0 := hT
  have hc8 := hP.2.1
  obtain ⟨pp, kc, pl, c⟩ := T
  obtain ⟨rc, each, hpb⟩ := hT
  dsimp only [treV] at rc each hpb hc8 hp ⊢
  refine body (N := 52) Tryz.func80 rfl (hK _ _ _ rfl) rfl rfl ?_
  (repeat' (first | (apply K_seq) | (apply K_region) | (apply O_at; rfl) | (apply O_fin; rfl) | (apply C_seq) | (apply K_ifT; rfl) | (apply K_ifF; rfl) | (apply K_block) | (apply K_skip) | (apply K_exit) | (apply K_ret) | (apply C_retS) | (apply C_retL) | (apply C_retB) | (apply C_exit) | (apply C_exitS) | (apply C_exitL) | (apply C_exitO; rfl) | (apply C_blockN) | (apply C_nil) | (apply P_skip; rfl; rfl; rfl) | (apply P_move; rfl; rfl; rfl; rfl) | (apply P_assign; rfl; rfl; rfl; rfl) | (apply P_fa; rfl; rfl; rfl; rfl; exact fo_ok rfl; (first | exact Nat.zero_add _ | exact Nat.add_zero _ | rfl)) | (apply P_len; rfl; rfl; rfl; rfl; rfl; rfl; exact un_ok rfl) | (apply P_pick; rfl; rfl; rfl; rfl; rfl; rfl) | (apply P_lssF; rfl; rfl; rfl; rfl; rfl; omega) | (apply P_lssT; rfl; rfl; rfl; rfl; rfl; omega) | (apply P_eqlF; rfl; rfl; rfl; rfl; rfl; omega) | (apply P_eqlT; rfl; rfl; rfl; rfl; rfl; omega) | (apply P_eql; rfl; rfl; rfl; rfl; rfl; all_goals intro _) | (apply P_neq; rfl; rfl; rfl; rfl; rfl; all_goals intro _) | (apply P_add; rfl; rfl; rfl; rfl; rfl; (unfold fit; omega)) | (apply P_idxA; rfl; rfl; rfl; rfl; rfl; exact un_ok rfl; exact sz_ok rfl; (first | rfl | exact (Int.toNat_of_nonneg (by omega)).symm); omega) | (apply P_idxB; rfl; rfl; rfl; rfl; rfl; exact un_ok rfl; exact sz_ok rfl; (first | rfl | exact (Int.toNat_of_nonneg (by omega)).symm); omega) | (apply P_load1; rfl; rfl; rfl; rfl; exact on_ok rfl; (focus repeat' first | exact get_push_same | assumption | apply get_push_old | (apply Ext.get; assumption)); (first | exact ints_get (by omega) | rfl | assumption)) | (apply P_loadA; rfl; rfl; rfl; rfl; exact ag_ok rfl; (focus repeat' first | exact get_push_same | assumption | apply get_push_old | (apply Ext.get; assumption)); (first | exact Nat.le_of_ble_eq_true rfl | (rw [cops_len]; omega) | (simp; done) | (simp; omega) | (rw [ints_len]; omega)); (first | exact cops_take (by omega) | rfl)) | (apply P_storeTop; rfl; rfl; rfl; rfl; exact sz_ok rfl; rfl; rfl; rfl) | (apply P_eqlB; rfl; rfl; rfl; rfl; rfl; rfl) | (apply P_box; rfl; rfl; rfl; rfl; exact sz_ok rfl; rfl; rfl) | (apply P_alloc; rfl; rfl; rfl; rfl; exact sz_ok rfl; rfl; rfl) | fail))
  refine K_loopE (fun q : Nat × Int => [(16, .int .i64 (q.1 : Nat)), (15, .int .i64 (c.length : Nat)), (14, .slice pp c.length kc), (4, .pointer (some ⟨h.n, 0, none⟩)), (9, .int .i64 q.2), (1, .int .i64 o), (2, .int .i64 (p : Nat)), (3, .int .i64 right)])
    (fun q h' => q.1 ≤ c.length ∧ Ext (h.push (.cells [.int .i64 pl, .slice pp c.length kc] 24 true)) h' ∧ SrcInv ⟨pp, kc, pl, c⟩ p right o q.1 q.2) (fun q => c.length - q.1) ?_ (0, -1) ?_ ?_
  · intro ⟨k, w⟩ h' ⟨hk, hx, hj⟩ ih
    dsimp only at hk hx hj ih ⊢
    have hg3 := hx.get get_push_same
    by_cases hlt : k < c.length
    · obtain ⟨b, e, own', rfl, hg⟩ := rc.at (by rw [cops_len]; omega)
      have hg' := hx.get (get_push_old hg)
      obtain ⟨hl, hrd⟩ := sn_read hP hlt hp
      dsimp only at hl
      obtain ⟨er, eb⟩ := each k hlt
      (repeat' (first | (apply K_seq) | (apply K_region) | (apply O_at; rfl) | (apply O_fin; rfl) | (apply C_seq) | (apply K_ifT; rfl) | (apply K_ifF; rfl) | (apply K_block) | (apply K_skip) | (apply K_exit) | (apply K_ret) | (apply C_retS) | (apply C_retL) | (apply C_retB) | (apply C_exit) | (apply C_exitS) | (apply C_exitL) | (apply C_exitO; rfl) | (apply C_blockN) | (apply C_nil) | (apply P_skip; rfl; rfl; rfl) | (apply P_move; rfl; rfl; rfl; rfl) | (apply P_assign; rfl; rfl; rfl; rfl) | (apply P_fa; rfl; rfl; rfl; rfl; exact fo_ok rfl; (first | exact Nat.zero_add _ | exact Nat.add_zero _ | rfl)) | (apply P_len; rfl; rfl; rfl; rfl; rfl; rfl; exact un_ok rfl) | (apply P_pick; rfl; rfl; rfl; rfl; rfl; rfl) | (apply P_lssF; rfl; rfl; rfl; rfl; rfl; omega) | (apply P_lssT; rfl; rfl; rfl; rfl; rfl; omega) | (apply P_eqlF; rfl; rfl; rfl; rfl; rfl; omega) | (apply P_eqlT; rfl; rfl; rfl; rfl; rfl; omega) | (apply P_eql; rfl; rfl; rfl; rfl; rfl; all_goals intro _) | (apply P_neq; rfl; rfl; rfl; rfl; rfl; all_goals intro _) | (apply P_add; rfl; rfl; rfl; rfl; rfl; (unfold fit; omega)) | (apply P_idxA; rfl; rfl; rfl; rfl; rfl; exact un_ok rfl; exact sz_ok rfl; (first | rfl | exact (Int.toNat_of_nonneg (by omega)).symm); omega) | (apply P_idxB; rfl; rfl; rfl; rfl; rfl; exact un_ok rfl; exact sz_ok rfl; (first | rfl | exact (Int.toNat_of_nonneg (by omega)).symm); omega) | (apply P_load1; rfl; rfl; rfl; rfl; exact on_ok rfl; (focus repeat' first | exact get_push_same | assumption | apply get_push_old | (apply Ext.get; assumption)); (first | exact ints_get (by omega) | rfl | assumption)) | (apply P_loadA; rfl; rfl; rfl; rfl; exact ag_ok rfl; (focus repeat' first | exact get_push_same | assumption | apply get_push_old | (apply Ext.get; assumption)); (first | exact Nat.le_of_ble_eq_true rfl | (rw [cops_len]; omega) | (simp; done) | (simp; omega) | (rw [ints_len]; omega)); (first | exact cops_take (by omega) | rfl)) | (apply P_storeTop; rfl; rfl; rfl; rfl; exact sz_ok rfl; rfl; rfl; rfl) | (apply P_eqlB; rfl; rfl; rfl; rfl; rfl; rfl) | (apply P_box; rfl; rfl; rfl; rfl; exact sz_ok rfl; rfl; rfl) | (apply P_alloc; rfl; rfl; rfl; rfl; exact sz_ok rfl; rfl; rfl) | fail))
      generalize hc : c.getD k cop0 = C at *
      obtain ⟨pr, ⟨qq, qk, qs⟩⟩ := C
      dsimp only at er eb hl
      obtain ⟨b2, e2, own2, rfl, hg5⟩ := er.at (by rw [ints_len]; omega)
      have hsn : snI ⟨some ⟨b, 0, none⟩, kc, pl, c⟩ p k = qs.getD p 0 := by unfold snI; dsimp only; rw [hc]
      rw [hsn] at hrd
      (repeat' (first | (apply K_seq) | (apply K_region) | (apply O_at; rfl) | (apply O_fin; rfl) | (apply C_seq) | (apply K_ifT; rfl) | (apply K_ifF; rfl) | (apply K_block) | (apply K_skip) | (apply K_exit) | (apply K_ret) | (apply C_retS) | (apply C_retL) | (apply C_retB) | (apply C_exit) | (apply C_exitS) | (apply C_exitL) | (apply C_exitO; rfl) | (apply C_blockN) | (apply C_nil) | (apply P_skip; rfl; rfl; rfl) | (apply P_move; rfl; rfl; rfl; rfl) | (apply P_assign; rfl; rfl; rfl; rfl) | (apply P_fa; rfl; rfl; rfl; rfl; exact fo_ok rfl; (first | exact Nat.zero_add _ | exact Nat.add_zero _ | rfl)) | (apply P_len; rfl; rfl; rfl; rfl; rfl; rfl; exact un_ok rfl) | (apply P_pick; rfl; rfl; rfl; rfl; rfl; rfl) | (apply P_lssF; rfl; rfl; rfl; rfl; rfl; omega) | (apply P_lssT; rfl; rfl; rfl; rfl; rfl; omega) | (apply P_eqlF; rfl; rfl; rfl; rfl; rfl; omega) | (apply P_eqlT; rfl; rfl; rfl; rfl; rfl; omega) | (apply P_eql; rfl; rfl; rfl; rfl; rfl; all_goals intro _) | (apply P_neq; rfl; rfl; rfl; rfl; rfl; all_goals intro _) | (apply P_add; rfl; rfl; rfl; rfl; rfl; (unfold fit; omega)) | (apply P_idxA; rfl; rfl; rfl; rfl; rfl; exact un_ok rfl; exact sz_ok rfl; (first | rfl | exact (Int.toNat_of_nonneg (by omega)).symm); omega) | (apply P_idxB; rfl; rfl; rfl; rfl; rfl; exact un_ok rfl; exact sz_ok rfl; (first | rfl | exact (Int.toNat_of_nonneg (by omega)).symm); omega) | (apply P_load1; rfl; rfl; rfl; rfl; exact on_ok rfl; (focus repeat' first | exact get_push_same | assumption | apply get_push_old | (apply Ext.get; assumption)); (first | exact ints_get (by omega) | rfl | assumption)) | (apply P_loadA; rfl; rfl; rfl; rfl; exact ag_ok rfl; (focus repeat' first | exact get_push_same | assumption | apply get_push_old | (apply Ext.get; assumption)); (first | exact Nat.le_of_ble_eq_true rfl | (rw [cops_len]; omega) | (simp; done) | (simp; omega) | (rw [ints_len]; omega)); (first | exact cops_take (by omega) | rfl)) | (apply P_storeTop; rfl; rfl; rfl; rfl; exact sz_ok rfl; rfl; rfl; rfl) | (apply P_eqlB; rfl; rfl; rfl; rfl; rfl; rfl) | (apply P_box; rfl; rfl; rfl; rfl; exact sz_ok rfl; rfl; rfl) | (apply P_alloc; rfl; rfl; rfl; rfl; exact sz_ok rfl; rfl; rfl) | (apply P_call; rfl; rfl; rfl; rfl; rfl; rfl; exact comesFrom_ok (T := ⟨some ⟨b, 0, none⟩, kc, pl, c⟩) (a := k) hK (hT0.ext (by (focus repeat' first | exact Ext.refl _ | assumption | apply Ext.push | (refine Ext.trans ?_ (by assumption))))) hP hlt; (rintro _ _ (⟨rfl, _, _⟩ | ⟨rfl, _, _⟩))) | fail))
      all_goals first
        | (refine ⟨.inr rfl, _, rfl, .inr ⟨rfl, ?_, by (focus repeat' first | exact Ext.refl _ | assumption | apply Ext.push | (refine Ext.trans ?_ (by assumption)))⟩⟩; first | (refine src_no1 (k := k) hlt hr (by rw [hsn]; first | assumption | omega) (by assumption); done) | (refine src_no2 (k := k) hlt (by rw [hsn]; first | assumption | omega) (by rw [hsn]; first | assumption | omega) (by assumption); done) | (refine src_no3 (k := k) hj hlt (by rw [hsn]; first | assumption | omega) (by assumption) (by assumption) (by rw [hsn]; assumption); done))
        | (refine C_again (ih (k + 1, w) _ ?_ ⟨hlt, ?_, src_skip hj (by rw [hsn]; first | assumption | omega)⟩) ?_ <;> first | (dsimp only; omega) | ((focus repeat' first | exact Ext.refl _ | assumption | apply Ext.push | (refine Ext.trans ?_ (by assumption))); done) | ((focus repeat' first | rfl | exact trivial | apply And.intro); done))
        | (refine C_again (ih (k + 1, w) _ ?_ ⟨hlt, ?_, src_good hj (by rw [hsn]; first | assumption | omega) (by assumption)⟩) ?_ <;> first | (dsimp only; omega) | ((focus repeat' first | exact Ext.refl _ | assumption | apply Ext.push | (refine Ext.trans ?_ (by assumption))); done) | ((focus repeat' first | rfl | exact trivial | apply And.intro); done))
        | (refine C_again (ih (k + 1, qs.getD p 0) _ ?_ ⟨hlt, ?_, ?_⟩) ?_ <;> first | (dsimp only; omega) | ((focus repeat' first | exact Ext.refl _ | assumption | apply Ext.push | (refine Ext.trans ?_ (by assumption))); done) | ((focus repeat' first | rfl | exact trivial | apply And.intro); done) | (dsimp only; rw [← hsn]; exact src_bad hj (by rw [hsn]; exact hrd) (by rw [hsn]; first | assumption | omega) (by rw [hsn]; first | assumption | omega) (by assumption) (by rw [hsn]; first | exact .inl (by omega) | exact .inr (by omega))))

    · (repeat' (first | (apply K_seq) | (apply K_region) | (apply O_at; rfl) | (apply O_fin; rfl) | (apply C_seq) | (apply K_ifT; rfl) | (apply K_ifF; rfl) | (apply K_block) | (apply K_skip) | (apply K_exit) | (apply K_ret) | (apply C_retS) | (apply C_retL) | (apply C_retB) | (apply C_exit) | (apply C_exitS) | (apply C_exitL) | (apply C_exitO; rfl) | (apply C_blockN) | (apply C_nil) | (apply P_skip; rfl; rfl; rfl) | (apply P_move; rfl; rfl; rfl; rfl) | (apply P_assign; rfl; rfl; rfl; rfl) | (apply P_fa; rfl; rfl; rfl; rfl; exact fo_ok rfl; (first | exact Nat.zero_add _ | exact Nat.add_zero _ | rfl)) | (apply P_len; rfl; rfl; rfl; rfl; rfl; rfl; exact un_ok rfl) | (apply P_pick; rfl; rfl; rfl; rfl; rfl; rfl) | (apply P_lssF; rfl; rfl; rfl; rfl; rfl; omega) | (apply P_lssT; rfl; rfl; rfl; rfl; rfl; omega) | (apply P_eqlF; rfl; rfl; rfl; rfl; rfl; omega) | (apply P_eqlT; rfl; rfl; rfl; rfl; rfl; omega) | (apply P_eql; rfl; rfl; rfl; rfl; rfl; all_goals intro _) | (apply P_neq; rfl; rfl; rfl; rfl; rfl; all_goals intro _) | (apply P_add; rfl; rfl; rfl; rfl; rfl; (unfold fit; omega)) | (apply P_idxA; rfl; rfl; rfl; rfl; rfl; exact un_ok rfl; exact sz_ok rfl; (first | rfl | exact (Int.toNat_of_nonneg (by omega)).symm); omega) | (apply P_idxB; rfl; rfl; rfl; rfl; rfl; exact un_ok rfl; exact sz_ok rfl; (first | rfl | exact (Int.toNat_of_nonneg (by omega)).symm); omega) | (apply P_load1; rfl; rfl; rfl; rfl; exact on_ok rfl; (focus repeat' first | exact get_push_same | assumption | apply get_push_old | (apply Ext.get; assumption)); (first | exact ints_get (by omega) | rfl | assumption)) | (apply P_loadA; rfl; rfl; rfl; rfl; exact ag_ok rfl; (focus repeat' first | exact get_push_same | assumption | apply get_push_old | (apply Ext.get; assumption)); (first | exact Nat.le_of_ble_eq_true rfl | (rw [cops_len]; omega) | (simp; done) | (simp; omega) | (rw [ints_len]; omega)); (first | exact cops_take (by omega) | rfl)) | (apply P_storeTop; rfl; rfl; rfl; rfl; exact sz_ok rfl; rfl; rfl; rfl) | (apply P_eqlB; rfl; rfl; rfl; rfl; rfl; rfl) | (apply P_box; rfl; rfl; rfl; rfl; exact sz_ok rfl; rfl; rfl) | (apply P_alloc; rfl; rfl; rfl; rfl; exact sz_ok rfl; rfl; rfl) | fail))
      have : k = c.length := by omega
      subst this
      exact ⟨.inr rfl, _, rfl, .inl ⟨rfl, src_end hj, by (focus repeat' first | exact Ext.refl _ | assumption | apply Ext.push | (refine Ext.trans ?_ (by assumption)))⟩⟩
  · exact ⟨Nat.zero_le _, by (focus repeat' first | exact Ext.refl _ | assumption | apply Ext.push | (refine Ext.trans ?_ (by assumption))), .inl ⟨rfl, fun i hi => by omega⟩⟩
  · (focus repeat' first | rfl | exact trivial | apply And.intro)
end Go.AX.Sa

namespace Go.AX.Sa
open Go.Proofs
set_option maxRecDepth 100000
variable {K : Known}
open Classical in
noncomputable def srcTo (T : Tre) (p : Nat) (right : Int) : Nat → List Int
  | 0 => []
  | k + 1 => srcTo T p right k ++ (if 1 ≤ k ∧ SrcP T p right (k : Nat) then [(k : Int)] else [])
theorem srcTo_one (T : Tre) (p : Nat) (right : Int) : srcTo T p right 1 = [] := by
  simp [srcTo]
theorem srcTo_yes {T : Tre} {p k : Nat} {right : Int} (h1 : 1 ≤ k) (h : SrcP T p right (k : Nat)) : srcTo T p right (k + 1) = srcTo T p right k ++ [(k : Int)] := by
  simp only [srcTo, if_pos (And.intro h1 h)]
theorem srcTo_no {T : Tre} {p k : Nat} {right : Int} (h : ¬ SrcP T p right (k : Nat)) : srcTo T p right (k + 1) = srcTo T p right k := by
  simp only [srcTo]; rw [if_neg (fun q => h q.2), List.append_nil]
theorem srcTo_len (T : Tre) (p : Nat) (right : Int) (k : Nat) : (srcTo T p right k).length ≤ k := by
  induction k with
  | zero => exact Nat.le_refl _
  | succ k ih => simp only [srcTo, List.length_append]; split <;> simp <;> omega
def IsS' (l : List Int) (h : Heap) (v : Value) (h1 : Heap) : Prop := (l = [] ∧ v = .tuple #[.slice none 0 0, .int .i64 5] ∧ Ext h h1) ∨ (l ≠ [] ∧ IsE l h v h1)
theorem source_ok (hK : NoK K) {T : Tre} {right : Int} {p : Nat} {h : Heap} (hT : TreAt T h) (hs : ShortP T) (hP : TreeP T) (hp : (p : Int) < T.places) (hr : FigP right) :
    CallW Tryz.prog K 41 #[treV T, .int .i64 (p : Nat), .int .i64 right] h (IsS' (srcTo T p right T.c.length) h) := by
  have hT0 := hT
  have hc8 := hP.2.1
  have hpl : 0 ≤ ((p : Nat) : Int) ∧ ((p : Nat) : Int) ≤ T.places - 1 := by omega
  obtain ⟨pp, kc, pl, c⟩ := T
  dsimp only [treV] at hc8 hp hpl ⊢
  refine body (N := 43) Tryz.func41 rfl (hK _ _ _ rfl) rfl rfl ?_
  (repeat' (first | (apply K_seq) | (apply K_region) | (apply O_at; rfl) | (apply O_fin; rfl) | (apply C_seq) | (apply K_ifT; rfl) | (apply K_ifF; rfl) | (apply K_block) | (apply K_skip) | (apply K_exit) | (apply K_ret) | (apply C_retS) | (apply C_exit) | (apply C_exitS) | (apply C_exitL) | (apply C_blockN) | (apply C_nil) | (apply P_move; rfl; rfl; rfl; rfl) | (apply P_assign; rfl; rfl; rfl; rfl) | (apply P_fa; rfl; rfl; rfl; rfl; exact fo_ok rfl; (first | exact Nat.zero_add _ | exact Nat.add_zero _ | rfl)) | (apply P_len; rfl; rfl; rfl; rfl; rfl; rfl; exact un_ok rfl) | (apply P_pick; rfl; rfl; rfl; rfl; rfl; rfl) | (apply P_not; rfl; rfl; rfl; rfl) | (apply P_lssF; rfl; rfl; rfl; rfl; rfl; omega) | (apply P_lssT; rfl; rfl; rfl; rfl; rfl; omega) | (apply P_eqlF; rfl; rfl; rfl; rfl; rfl; omega) | (apply P_eqlT; rfl; rfl; rfl; rfl; rfl; omega) | (apply P_add; rfl; rfl; rfl; rfl; rfl; (unfold fit; omega)) | (apply P_load1; rfl; rfl; rfl; rfl; exact on_ok rfl; (focus repeat' first | exact get_push_same | assumption | (apply Ext.get; assumption)); (first | rfl | assumption)) | (apply P_loadA; rfl; rfl; rfl; rfl; exact ag_ok rfl; (focus repeat' first | exact get_push_same | assumption | (apply Ext.get; assumption)); (first | exact Nat.le_of_ble_eq_true rfl | (simp; done) | (simp; omega)); rfl) | (apply P_build1; rfl; rfl; rfl; rfl; rfl; rfl; rfl; exact c1_ok rfl) | (apply P_appI; rfl; rfl; rfl; rfl; rfl; rfl; rfl; rfl; exact c1_ok rfl; exact un_ok rfl; (focus repeat' first | exact get_push_same | assumption | (apply Ext.get; assumption)); (apply OutI.ext; assumption; (focus repeat' first | exact Ext.refl _ | assumption | apply Ext.push | (refine Ext.trans ?_ (by assumption)))); (focus repeat' first | exact Ext.refl _ | assumption | apply Ext.push | (refine Ext.trans ?_ (by assumption))); (first | omega | (simp; omega)); (intro _ _ _ _)) | (apply P_box; rfl; rfl; rfl; rfl; exact sz_ok rfl; rfl; rfl) | (apply P_call; rfl; rfl; rfl; rfl; rfl; rfl; exact yes (isTree_ok (T := ⟨pp, kc, pl, c⟩) hK (hT0.ext (by (focus repeat' first | exact Ext.refl _ | assumption | apply Ext.push | (refine Ext.trans ?_ (by assumption))))) hs) hP; (rintro _ _ ⟨rfl, _⟩)) | (apply P_call; rfl; rfl; rfl; rfl; rfl; rfl; exact yes (isPlace_ok (T := ⟨pp, kc, pl, c⟩) (n := (p : Nat)) hK hP) hpl; (rintro _ _ ⟨rfl, _⟩)) | (apply P_call; rfl; rfl; rfl; rfl; rfl; rfl; exact no (isNoFigure_ok hK) (fun q => q hr); (rintro _ _ ⟨rfl, _⟩)) | fail))
  rename_i h1 x1 h2 x2 h3 x3
  have x0 : Ext (h.push (.cells [.int .i64 pl, .slice pp c.length kc] 24 true)) h3 := by (focus repeat' first | exact Ext.refl _ | assumption | apply Ext.push | (refine Ext.trans ?_ (by assumption)))
  have x00 : Ext h h3 := by (focus repeat' first | exact Ext.refl _ | assumption | apply Ext.push | (refine Ext.trans ?_ (by assumption)))
  clear x1 x2 x3
  refine K_loopE (fun q : Nat × Value => [(9, .int .i64 (q.1 : Nat)), (3, .pointer (some ⟨h.n, 0, none⟩)), (8, q.2), (1, .int .i64 (p : Nat)), (2, .int .i64 right)])
    (fun q h' => 1 ≤ q.1 ∧ q.1 ≤ c.length ∧ Ext h3 h' ∧ OutI 3 h3 h' q.2 (srcTo ⟨pp, kc, pl, c⟩ p right q.1)) (fun q => c.length - q.1) ?_ (1, .slice none 0 0) ?_ ?_
  · intro ⟨k, v⟩ h' ⟨hk1, hk, hx, ho⟩ ih
    dsimp only at hk1 hk hx ho ih ⊢
    have hg3 := (x0.trans hx).get get_push_same
    have hlen := srcTo_len ⟨pp, kc, pl, c⟩ p right k
    by_cases hlt : k < c.length
    · by_cases hS : SrcP ⟨pp, kc, pl, c⟩ p right (k : Nat)
      · (repeat' (first | (apply K_seq) | (apply K_region) | (apply O_at; rfl) | (apply O_fin; rfl) | (apply C_seq) | (apply K_ifT; rfl) | (apply K_ifF; rfl) | (apply K_block) | (apply K_skip) | (apply K_exit) | (apply K_ret) | (apply C_retS) | (apply C_exit) | (apply C_exitS) | (apply C_exitL) | (apply C_blockN) | (apply C_nil) | (apply P_move; rfl; rfl; rfl; rfl) | (apply P_assign; rfl; rfl; rfl; rfl) | (apply P_fa; rfl; rfl; rfl; rfl; exact fo_ok rfl; (first | exact Nat.zero_add _ | exact Nat.add_zero _ | rfl)) | (apply P_len; rfl; rfl; rfl; rfl; rfl; rfl; exact un_ok rfl) | (apply P_pick; rfl; rfl; rfl; rfl; rfl; rfl) | (apply P_not; rfl; rfl; rfl; rfl) | (apply P_lssF; rfl; rfl; rfl; rfl; rfl; omega) | (apply P_lssT; rfl; rfl; rfl; rfl; rfl; omega) | (apply P_eqlF; rfl; rfl; rfl; rfl; rfl; omega) | (apply P_eqlT; rfl; rfl; rfl; rfl; rfl; omega) | (apply P_add; rfl; rfl; rfl; rfl; rfl; (unfold fit; omega)) | (apply P_load1; rfl; rfl; rfl; rfl; exact on_ok rfl; (focus repeat' first | exact get_push_same | assumption | (apply Ext.get; assumption)); (first | rfl | assumption)) | (apply P_loadA; rfl; rfl; rfl; rfl; exact ag_ok rfl; (focus repeat' first | exact get_push_same | assumption | (apply Ext.get; assumption)); (first | exact Nat.le_of_ble_eq_true rfl | (simp; done) | (simp; omega)); rfl) | (apply P_build1; rfl; rfl; rfl; rfl; rfl; rfl; rfl; exact c1_ok rfl) | (apply P_appI; rfl; rfl; rfl; rfl; rfl; rfl; rfl; rfl; exact c1_ok rfl; exact un_ok rfl; (focus repeat' first | exact get_push_same | assumption | (apply Ext.get; assumption)); (apply OutI.ext; assumption; (focus repeat' first | exact Ext.refl _ | assumption | apply Ext.push | (refine Ext.trans ?_ (by assumption)))); (focus repeat' first | exact Ext.refl _ | assumption | apply Ext.push | (refine Ext.trans ?_ (by assumption))); (first | omega | (simp; omega)); (intro _ _ _ _)) | (apply P_box; rfl; rfl; rfl; rfl; exact sz_ok rfl; rfl; rfl) | (apply P_call; rfl; rfl; rfl; rfl; rfl; rfl; exact yes (isSource_ok (T := ⟨pp, kc, pl, c⟩) (o := (k : Nat)) hK (hT0.ext (by (focus repeat' first | exact Ext.refl _ | assumption | apply Ext.push | (refine Ext.trans ?_ (by assumption))))) hs hP hp hr) hS; (rintro _ _ ⟨rfl, _⟩)) | fail))
        rename_i v' h5 o5 x5
        refine C_again (ih (k + 1, v') h5 ?_ ⟨by omega, hlt, x5, by rw [srcTo_yes hk1 hS]; exact o5⟩) ?_
        · dsimp only; omega
        · (focus repeat' first | rfl | exact trivial | apply And.intro)
      · (repeat' (first | (apply K_seq) | (apply K_region) | (apply O_at; rfl) | (apply O_fin; rfl) | (apply C_seq) | (apply K_ifT; rfl) | (apply K_ifF; rfl) | (apply K_block) | (apply K_skip) | (apply K_exit) | (apply K_ret) | (apply C_retS) | (apply C_exit) | (apply C_exitS) | (apply C_exitL) | (apply C_blockN) | (apply C_nil) | (apply P_move; rfl; rfl; rfl; rfl) | (apply P_assign; rfl; rfl; rfl; rfl) | (apply P_fa; rfl; rfl; rfl; rfl; exact fo_ok rfl; (first | exact Nat.zero_add _ | exact Nat.add_zero _ | rfl)) | (apply P_len; rfl; rfl; rfl; rfl; rfl; rfl; exact un_ok rfl) | (apply P_pick; rfl; rfl; rfl; rfl; rfl; rfl) | (apply P_not; rfl; rfl; rfl; rfl) | (apply P_lssF; rfl; rfl; rfl; rfl; rfl; omega) | (apply P_lssT; rfl; rfl; rfl; rfl; rfl; omega) | (apply P_eqlF; rfl; rfl; rfl; rfl; rfl; omega) | (apply P_eqlT; rfl; rfl; rfl; rfl; rfl; omega) | (apply P_add; rfl; rfl; rfl; rfl; rfl; (unfold fit; omega)) | (apply P_load1; rfl; rfl; rfl; rfl; exact on_ok rfl; (focus repeat' first | exact get_push_same | assumption | (apply Ext.get; assumption)); (first | rfl | assumption)) | (apply P_loadA; rfl; rfl; rfl; rfl; exact ag_ok rfl; (focus repeat' first | exact get_push_same | assumption | (apply Ext.get; assumption)); (first | exact Nat.le_of_ble_eq_true rfl | (simp; done) | (simp; omega)); rfl) | (apply P_build1; rfl; rfl; rfl; rfl; rfl; rfl; rfl; exact c1_ok rfl) | (apply P_appI; rfl; rfl; rfl; rfl; rfl; rfl; rfl; rfl; exact c1_ok rfl; exact un_ok rfl; (focus repeat' first | exact get_push_same | assumption | (apply Ext.get; assumption)); (apply OutI.ext; assumption; (focus repeat' first | exact Ext.refl _ | assumption | apply Ext.push | (refine Ext.trans ?_ (by assumption)))); (focus repeat' first | exact Ext.refl _ | assumption | apply Ext.push | (refine Ext.trans ?_ (by assumption))); (first | omega | (simp; omega)); (intro _ _ _ _)) | (apply P_box; rfl; rfl; rfl; rfl; exact sz_ok rfl; rfl; rfl) | (apply P_call; rfl; rfl; rfl; rfl; rfl; rfl; exact no (isSource_ok (T := ⟨pp, kc, pl, c⟩) (o := (k : Nat)) hK (hT0.ext (by (focus repeat' first | exact Ext.refl _ | assumption | apply Ext.push | (refine Ext.trans ?_ (by assumption))))) hs hP hp hr) hS; (rintro _ _ ⟨rfl, _⟩)) | fail))
        rename_i h5 x5
        refine C_again (ih (k + 1, v) h5 ?_ ⟨by omega, hlt, by (focus repeat' first | exact Ext.refl _ | assumption | apply Ext.push | (refine Ext.trans ?_ (by assumption))), by rw [srcTo_no hS]; exact ho.ext (by (focus repeat' first | exact Ext.refl _ | assumption | apply Ext.push | (refine Ext.trans ?_ (by assumption))))⟩) ?_
        · dsimp only; omega
        · (focus repeat' first | rfl | exact trivial | apply And.intro)
    · have : k = c.length := by omega
      subst this
      rcases ho with ⟨hn, rfl⟩ | ⟨hl, b, rfl, h2, h3⟩
      · (repeat' (first | (apply K_seq) | (apply K_region) | (apply O_at; rfl) | (apply O_fin; rfl) | (apply C_seq) | (apply K_ifT; rfl) | (apply K_ifF; rfl) | (apply K_block) | (apply K_skip) | (apply K_exit) | (apply K_ret) | (apply C_retS) | (apply C_exit) | (apply C_exitS) | (apply C_exitL) | (apply C_blockN) | (apply C_nil) | (apply P_move; rfl; rfl; rfl; rfl) | (apply P_assign; rfl; rfl; rfl; rfl) | (apply P_fa; rfl; rfl; rfl; rfl; exact fo_ok rfl; (first | exact Nat.zero_add _ | exact Nat.add_zero _ | rfl)) | (apply P_len; rfl; rfl; rfl; rfl; rfl; rfl; exact un_ok rfl) | (apply P_pick; rfl; rfl; rfl; rfl; rfl; rfl) | (apply P_not; rfl; rfl; rfl; rfl) | (apply P_lssF; rfl; rfl; rfl; rfl; rfl; omega) | (apply P_lssT; rfl; rfl; rfl; rfl; rfl; omega) | (apply P_eqlF; rfl; rfl; rfl; rfl; rfl; omega) | (apply P_eqlT; rfl; rfl; rfl; rfl; rfl; omega) | (apply P_add; rfl; rfl; rfl; rfl; rfl; (unfold fit; omega)) | (apply P_load1; rfl; rfl; rfl; rfl; exact on_ok rfl; (focus repeat' first | exact get_push_same | assumption | (apply Ext.get; assumption)); (first | rfl | assumption)) | (apply P_loadA; rfl; rfl; rfl; rfl; exact ag_ok rfl; (focus repeat' first | exact get_push_same | assumption | (apply Ext.get; assumption)); (first | exact Nat.le_of_ble_eq_true rfl | (simp; done) | (simp; omega)); rfl) | (apply P_build1; rfl; rfl; rfl; rfl; rfl; rfl; rfl; exact c1_ok rfl) | (apply P_appI; rfl; rfl; rfl; rfl; rfl; rfl; rfl; rfl; exact c1_ok rfl; exact un_ok rfl; (focus repeat' first | exact get_push_same | assumption | (apply Ext.get; assumption)); (apply OutI.ext; assumption; (focus repeat' first | exact Ext.refl _ | assumption | apply Ext.push | (refine Ext.trans ?_ (by assumption)))); (focus repeat' first | exact Ext.refl _ | assumption | apply Ext.push | (refine Ext.trans ?_ (by assumption))); (first | omega | (simp; omega)); (intro _ _ _ _)) | (apply P_box; rfl; rfl; rfl; rfl; exact sz_ok rfl; rfl; rfl) | fail))
        exact ⟨.inr rfl, _, rfl, .inl ⟨hn, rfl, by (focus repeat' first | exact Ext.refl _ | assumption | apply Ext.push | (refine Ext.trans ?_ (by assumption)))⟩⟩
      · have hpos : 0 < (srcTo ⟨pp, kc, pl, c⟩ p right c.length).length := List.length_pos_iff.2 hl
        (repeat' (first | (apply K_seq) | (apply K_region) | (apply O_at; rfl) | (apply O_fin; rfl) | (apply C_seq) | (apply K_ifT; rfl) | (apply K_ifF; rfl) | (apply K_block) | (apply K_skip) | (apply K_exit) | (apply K_ret) | (apply C_retS) | (apply C_exit) | (apply C_exitS) | (apply C_exitL) | (apply C_blockN) | (apply C_nil) | (apply P_move; rfl; rfl; rfl; rfl) | (apply P_assign; rfl; rfl; rfl; rfl) | (apply P_fa; rfl; rfl; rfl; rfl; exact fo_ok rfl; (first | exact Nat.zero_add _ | exact Nat.add_zero _ | rfl)) | (apply P_len; rfl; rfl; rfl; rfl; rfl; rfl; exact un_ok rfl) | (apply P_pick; rfl; rfl; rfl; rfl; rfl; rfl) | (apply P_not; rfl; rfl; rfl; rfl) | (apply P_lssF; rfl; rfl; rfl; rfl; rfl; omega) | (apply P_lssT; rfl; rfl; rfl; rfl; rfl; omega) | (apply P_eqlF; rfl; rfl; rfl; rfl; rfl; omega) | (apply P_eqlT; rfl; rfl; rfl; rfl; rfl; omega) | (apply P_add; rfl; rfl; rfl; rfl; rfl; (unfold fit; omega)) | (apply P_load1; rfl; rfl; rfl; rfl; exact on_ok rfl; (focus repeat' first | exact get_push_same | assumption | (apply Ext.get; assumption)); (first | rfl | assumption)) | (apply P_loadA; rfl; rfl; rfl; rfl; exact ag_ok rfl; (focus repeat' first | exact get_push_same | assumption | (apply Ext.get; assumption)); (first | exact Nat.le_of_ble_eq_true rfl | (simp; done) | (simp; omega)); rfl) | (apply P_build1; rfl; rfl; rfl; rfl; rfl; rfl; rfl; exact c1_ok rfl) | (apply P_appI; rfl; rfl; rfl; rfl; rfl; rfl; rfl; rfl; exact c1_ok rfl; exact un_ok rfl; (focus repeat' first | exact get_push_same | assumption | (apply Ext.get; assumption)); (apply OutI.ext; assumption; (focus repeat' first | exact Ext.refl _ | assumption | apply Ext.push | (refine Ext.trans ?_ (by assumption)))); (focus repeat' first | exact Ext.refl _ | assumption | apply Ext.push | (refine Ext.trans ?_ (by assumption))); (first | omega | (simp; omega)); (intro _ _ _ _)) | (apply P_box; rfl; rfl; rfl; rfl; exact sz_ok rfl; rfl; rfl) | fail))
        exact ⟨.inr rfl, _, rfl, .inr ⟨hl, _, _, rfl, .inr ⟨b, _, true, rfl, h2⟩, by (focus repeat' first | exact Ext.refl _ | assumption | apply Ext.push | (refine Ext.trans ?_ (by assumption)))⟩⟩
  · exact ⟨Nat.le_refl _, by omega, Ext.refl _, by rw [srcTo_one]; exact OutI.nil _ _ _⟩
  · (focus repeat' first | rfl | exact trivial | apply And.intro)
end Go.AX.Sa

namespace Go.AX.Sa
open Go.Proofs
set_option maxRecDepth 100000
variable {K : Known}
def AnyF (T : Tre) (p : Nat) (right o : Int) (n : Nat) : Prop := ∃ f : Nat, f < n ∧ (f : Int) ≠ right ∧ ExpP T p right o f T.c.length
theorem comes_zero (c : List Cop) {o : Int} (h : o ∈ pathI c 0) : o = 0 := by rw [pathI_zero] at h; simpa using h
end Go.AX.Sa
