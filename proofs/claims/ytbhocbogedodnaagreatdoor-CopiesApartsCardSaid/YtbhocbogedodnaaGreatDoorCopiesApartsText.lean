/- Apart in the machine, and the law CopiesAparts at the reading. -/
import Derived.Test.YtbhocbogedodnaaGreatDoorCopiesApartsHands
namespace Go.AX.Sa
open Go.Proofs
set_option maxRecDepth 100000
variable {K : Known}
def topI (T : Tre) (x : Int) : Int := (topN T.c x.toNat : Nat)
def apartL (T : Tre) (l : List Int) : List Int := gr (topI T) l []
theorem gr_step (f : Int → Int) {l acc : List Int} {k : Nat} (hk : k < l.length) : gr f (l.drop k) acc = if acc.any (fun g => f g == f (l.getD k 0)) then gr f (l.drop (k + 1)) acc else gr f (l.drop (k + 1)) (acc ++ [l.getD k 0]) := by
  rw [List.drop_eq_getElem_cons hk, gr_cons]
  simp [hk]
theorem apart_ok (hK : NoK K) {T : Tre} {l : List Int} {p : Option Addr} {cap : Nat} {h : Heap} (hT : TreAt T h) (hs : ShortP T) (hP : TreeP T) (hH : HandsP T l) (hn : l.length ≤ 1000) (hr : Rd h p (ints l)) :
    CallW Tryz.prog K 45 #[treV T, .slice p l.length cap] h (IsE (apartL T l) h) := by
  have l1 := hs.1
  refine body (N := 44) Tryz.func45 rfl (hK _ _ _ rfl) rfl rfl ?_
  (repeat' (first | (apply K_seq) | (apply K_region) | (apply O_at; rfl) | (apply O_fin; rfl) | (apply C_seq) | (apply K_ifT; rfl) | (apply K_ifF; rfl) | (apply K_block) | (apply K_scope) | (apply K_skip) | (apply K_label) | (apply K_exit) | (apply K_ret) | (apply C_exit) | (apply C_exitS) | (apply C_exitL) | (apply C_exitO; rfl) | (apply C_blockN) | (apply C_nil) | (apply P_move; rfl; rfl; rfl; rfl) | (apply P_assign; rfl; rfl; rfl; rfl) | (apply P_len; rfl; rfl; rfl; rfl; rfl; rfl; exact un_ok rfl) | (apply P_pick; rfl; rfl; rfl; rfl; rfl; rfl) | (apply P_not; rfl; rfl; rfl; rfl) | (apply P_lssF; rfl; rfl; rfl; rfl; rfl; omega) | (apply P_lssT; rfl; rfl; rfl; rfl; rfl; omega) | (apply P_neqF; rfl; rfl; rfl; rfl; rfl; omega) | (apply P_neqT; rfl; rfl; rfl; rfl; rfl; omega) | (apply P_add; rfl; rfl; rfl; rfl; rfl; (unfold fit; omega)) | (apply P_idxA; rfl; rfl; rfl; rfl; rfl; exact un_ok rfl; exact sz_ok rfl; (first | rfl | exact (Int.toNat_of_nonneg (by omega)).symm); omega) | (apply P_load1; rfl; rfl; rfl; rfl; exact on_ok rfl; (focus repeat' first | exact get_push_same | assumption | (apply Ext.get; assumption)); (first | exact ints_get (by omega) | rfl | assumption)) | (apply P_loadA; rfl; rfl; rfl; rfl; exact ag_ok rfl; (focus repeat' first | exact get_push_same | assumption | (apply Ext.get; assumption)); (first | exact Nat.le_of_ble_eq_true rfl | (simp; done) | (simp; omega) | (rw [ints_len]; omega)); rfl) | (apply P_build1; rfl; rfl; rfl; rfl; rfl; rfl; rfl; exact c1_ok rfl) | (apply P_appI; rfl; rfl; rfl; rfl; rfl; rfl; rfl; rfl; exact c1_ok rfl; exact un_ok rfl; (focus repeat' first | exact get_push_same | assumption | (apply Ext.get; assumption)); (apply OutI.ext; assumption; (focus repeat' first | exact Ext.refl _ | assumption | apply Ext.push | (refine Ext.trans ?_ (by assumption)))); (focus repeat' first | exact Ext.refl _ | assumption | apply Ext.push | (refine Ext.trans ?_ (by assumption))); (first | omega | (simp; omega)); (intro _ _ _ _)) | (apply P_box; rfl; rfl; rfl; rfl; exact sz_ok rfl; rfl; rfl) | (apply P_call; rfl; rfl; rfl; rfl; rfl; rfl; exact yes (isTree_ok (T := T) hK (hT.ext (by (focus repeat' first | exact Ext.refl _ | assumption | apply Ext.push | (refine Ext.trans ?_ (by assumption))))) hs) hP; (rintro _ _ ⟨rfl, _⟩)) | (apply P_call; rfl; rfl; rfl; rfl; rfl; rfl; exact yes (areHands_ok (T := T) hK hs hn (hr.ext (by (focus repeat' first | exact Ext.refl _ | assumption | apply Ext.push | (refine Ext.trans ?_ (by assumption)))))) hH; (rintro _ _ ⟨rfl, _⟩)) | fail))
  rename_i h2 x2 h3 x3
  have x0 : Ext (h.push (.cells [.int .i64 T.places, .slice T.p T.c.length T.k] 24 true)) h3 := by (focus repeat' first | exact Ext.refl _ | assumption | apply Ext.push | (refine Ext.trans ?_ (by assumption)))
  have x00 : Ext h h3 := by (focus repeat' first | exact Ext.refl _ | assumption | apply Ext.push | (refine Ext.trans ?_ (by assumption)))
  clear x2 x3
  refine K_loopE (fun q : Nat × Value × List Int => [(22, .int .i64 (q.1 : Nat)), (21, .int .i64 (l.length : Nat)), (20, .slice p l.length cap), (2, .pointer (some ⟨h.n, 0, none⟩)), (6, q.2.1)])
    (fun q h' => q.1 ≤ l.length ∧ Ext h3 h' ∧ OutI 3 h3 h' q.2.1 q.2.2 ∧ q.2.2.length ≤ q.1 ∧ (∀ g ∈ q.2.2, g ∈ l) ∧ apartL T l = gr (topI T) (l.drop q.1) q.2.2) (fun q => l.length - q.1) ?_ (0, .slice none 0 0, []) ?_ ?_
  · intro ⟨k, v, acc⟩ h' ⟨hk, hx, ho, hal, ham, hj⟩ ih
    dsimp only at hk hx ho hal ham hj ih ⊢
    have hg3 := (x0.trans hx).get get_push_same
    have x0' := x00.trans hx
    by_cases hlt : k < l.length
    · obtain ⟨b, e, own', rfl, hg⟩ := hr.at (by rw [ints_len]; omega)
      have hg' := x0'.get hg
      rw [gr_step _ hlt] at hj
      have hkm : l.getD k 0 ∈ l := by simp [hlt]
      have hk1 := hands_mem hH hkm
      obtain ⟨n, hnk⟩ : ∃ n : Nat, l.getD k 0 = (n : Nat) := ⟨(l.getD k 0).toNat, by omega⟩
      have hn1 : 0 < n ∧ n < T.c.length := by omega
      obtain ⟨pv, kv, rfl, rv⟩ : ∃ pv kv, v = .slice pv acc.length kv ∧ Rd h' pv (ints acc) := by
        rcases ho with ⟨q1, q2⟩ | ⟨_, bv, q2, q3, _⟩
        · exact ⟨none, 0, by rw [q2, q1]; rfl, .inl (by rw [q1]; rfl)⟩
        · exact ⟨_, _, q2, .inr ⟨bv, _, true, rfl, q3⟩⟩
      (repeat' (first | (apply K_seq) | (apply K_region) | (apply O_at; rfl) | (apply O_fin; rfl) | (apply C_seq) | (apply K_ifT; rfl) | (apply K_ifF; rfl) | (apply K_block) | (apply K_scope) | (apply K_skip) | (apply K_label) | (apply K_exit) | (apply K_ret) | (apply C_exit) | (apply C_exitS) | (apply C_exitL) | (apply C_exitO; rfl) | (apply C_blockN) | (apply C_nil) | (apply P_move; rfl; rfl; rfl; rfl) | (apply P_assign; rfl; rfl; rfl; rfl) | (apply P_len; rfl; rfl; rfl; rfl; rfl; rfl; exact un_ok rfl) | (apply P_pick; rfl; rfl; rfl; rfl; rfl; rfl) | (apply P_not; rfl; rfl; rfl; rfl) | (apply P_lssF; rfl; rfl; rfl; rfl; rfl; omega) | (apply P_lssT; rfl; rfl; rfl; rfl; rfl; omega) | (apply P_neqF; rfl; rfl; rfl; rfl; rfl; omega) | (apply P_neqT; rfl; rfl; rfl; rfl; rfl; omega) | (apply P_add; rfl; rfl; rfl; rfl; rfl; (unfold fit; omega)) | (apply P_idxA; rfl; rfl; rfl; rfl; rfl; exact un_ok rfl; exact sz_ok rfl; (first | rfl | exact (Int.toNat_of_nonneg (by omega)).symm); omega) | (apply P_load1; rfl; rfl; rfl; rfl; exact on_ok rfl; (focus repeat' first | exact get_push_same | assumption | (apply Ext.get; assumption)); (first | exact ints_get (by omega) | rfl | assumption)) | (apply P_loadA; rfl; rfl; rfl; rfl; exact ag_ok rfl; (focus repeat' first | exact get_push_same | assumption | (apply Ext.get; assumption)); (first | exact Nat.le_of_ble_eq_true rfl | (simp; done) | (simp; omega) | (rw [ints_len]; omega)); rfl) | (apply P_build1; rfl; rfl; rfl; rfl; rfl; rfl; rfl; exact c1_ok rfl) | (apply P_appI; rfl; rfl; rfl; rfl; rfl; rfl; rfl; rfl; exact c1_ok rfl; exact un_ok rfl; (focus repeat' first | exact get_push_same | assumption | (apply Ext.get; assumption)); (apply OutI.ext; assumption; (focus repeat' first | exact Ext.refl _ | assumption | apply Ext.push | (refine Ext.trans ?_ (by assumption)))); (focus repeat' first | exact Ext.refl _ | assumption | apply Ext.push | (refine Ext.trans ?_ (by assumption))); (first | omega | (simp; omega)); (intro _ _ _ _)) | (apply P_box; rfl; rfl; rfl; rfl; exact sz_ok rfl; rfl; rfl) | fail))
      rw [hnk]
      refine K_loopE (fun j : Nat => [(28, .int .i64 (j : Nat)), (27, .int .i64 (acc.length : Nat)), (26, .slice pv acc.length kv), (8, .int .i64 (n : Nat)), (22, .int .i64 (k : Nat)), (21, .int .i64 (l.length : Nat)), (20, .slice (some ⟨b, 0, none⟩) l.length cap), (2, .pointer (some ⟨h.n, 0, none⟩)), (6, .slice pv acc.length kv)])
        (fun j h'' => j ≤ acc.length ∧ Ext h' h'' ∧ ∀ i, i < j → topI T (acc.getD i 0) ≠ topI T (l.getD k 0)) (fun j => acc.length - j) ?_ 0 ?_ ?_
      · intro j h'' ⟨hj1, hx2, hj2⟩ ih2
        have hg3' := hx2.get hg3
        by_cases hlt2 : j < acc.length
        · obtain ⟨b2, e2, o2, rfl, hg2⟩ := rv.at (by rw [ints_len]; omega)
          have hg2' := hx2.get hg2
          have ham' := hands_mem hH (ham (acc.getD j 0) (by simp [hlt2]))
          obtain ⟨m, hm⟩ : ∃ m : Nat, acc.getD j 0 = (m : Nat) := ⟨(acc.getD j 0).toNat, by omega⟩
          have hm1 : 0 < m ∧ m < T.c.length := by omega
          have hsh := shr_top (c := T.c) hm1.1 hn1.1
          have hti : topI T (acc.getD j 0) = (topN T.c m : Nat) := by unfold topI; rw [hm]; rfl
          have htk : topI T (l.getD k 0) = (topN T.c n : Nat) := by unfold topI; rw [hnk]; rfl
          have hxx : Ext h h'' := x0'.trans hx2
          have hxx3 : Ext h3 h'' := hx.trans hx2
          by_cases hq : topN T.c m = topN T.c n
          · have hnz : sharedI (pathI T.c n) (pathI T.c m) 0 ≠ 0 := hsh.2 hq
            (repeat' (first | (apply K_seq) | (apply K_region) | (apply O_at; rfl) | (apply O_fin; rfl) | (apply C_seq) | (apply K_ifT; rfl) | (apply K_ifF; rfl) | (apply K_block) | (apply K_scope) | (apply K_skip) | (apply K_label) | (apply K_exit) | (apply K_ret) | (apply C_exit) | (apply C_exitS) | (apply C_exitL) | (apply C_exitO; rfl) | (apply C_blockN) | (apply C_nil) | (apply P_move; rfl; rfl; rfl; rfl) | (apply P_assign; rfl; rfl; rfl; rfl) | (apply P_len; rfl; rfl; rfl; rfl; rfl; rfl; exact un_ok rfl) | (apply P_pick; rfl; rfl; rfl; rfl; rfl; rfl) | (apply P_not; rfl; rfl; rfl; rfl) | (apply P_lssF; rfl; rfl; rfl; rfl; rfl; omega) | (apply P_lssT; rfl; rfl; rfl; rfl; rfl; omega) | (apply P_neqF; rfl; rfl; rfl; rfl; rfl; omega) | (apply P_neqT; rfl; rfl; rfl; rfl; rfl; omega) | (apply P_add; rfl; rfl; rfl; rfl; rfl; (unfold fit; omega)) | (apply P_idxA; rfl; rfl; rfl; rfl; rfl; exact un_ok rfl; exact sz_ok rfl; (first | rfl | exact (Int.toNat_of_nonneg (by omega)).symm); omega) | (apply P_load1; rfl; rfl; rfl; rfl; exact on_ok rfl; (focus repeat' first | exact get_push_same | assumption | (apply Ext.get; assumption)); (first | exact ints_get (by omega) | rfl | assumption)) | (apply P_loadA; rfl; rfl; rfl; rfl; exact ag_ok rfl; (focus repeat' first | exact get_push_same | assumption | (apply Ext.get; assumption)); (first | exact Nat.le_of_ble_eq_true rfl | (simp; done) | (simp; omega) | (rw [ints_len]; omega)); rfl) | (apply P_build1; rfl; rfl; rfl; rfl; rfl; rfl; rfl; exact c1_ok rfl) | (apply P_appI; rfl; rfl; rfl; rfl; rfl; rfl; rfl; rfl; exact c1_ok rfl; exact un_ok rfl; (focus repeat' first | exact get_push_same | assumption | (apply Ext.get; assumption)); (apply OutI.ext; assumption; (focus repeat' first | exact Ext.refl _ | assumption | apply Ext.push | (refine Ext.trans ?_ (by assumption)))); (focus repeat' first | exact Ext.refl _ | assumption | apply Ext.push | (refine Ext.trans ?_ (by assumption))); (first | omega | (simp; omega)); (intro _ _ _ _)) | (apply P_box; rfl; rfl; rfl; rfl; exact sz_ok rfl; rfl; rfl) | fail))
            rw [hm]
            (repeat' (first | (apply K_seq) | (apply K_region) | (apply O_at; rfl) | (apply O_fin; rfl) | (apply C_seq) | (apply K_ifT; rfl) | (apply K_ifF; rfl) | (apply K_block) | (apply K_scope) | (apply K_skip) | (apply K_label) | (apply K_exit) | (apply K_ret) | (apply C_exit) | (apply C_exitS) | (apply C_exitL) | (apply C_exitO; rfl) | (apply C_blockN) | (apply C_nil) | (apply P_move; rfl; rfl; rfl; rfl) | (apply P_assign; rfl; rfl; rfl; rfl) | (apply P_len; rfl; rfl; rfl; rfl; rfl; rfl; exact un_ok rfl) | (apply P_pick; rfl; rfl; rfl; rfl; rfl; rfl) | (apply P_not; rfl; rfl; rfl; rfl) | (apply P_lssF; rfl; rfl; rfl; rfl; rfl; omega) | (apply P_lssT; rfl; rfl; rfl; rfl; rfl; omega) | (apply P_neqF; rfl; rfl; rfl; rfl; rfl; omega) | (apply P_neqT; rfl; rfl; rfl; rfl; rfl; omega) | (apply P_add; rfl; rfl; rfl; rfl; rfl; (unfold fit; omega)) | (apply P_idxA; rfl; rfl; rfl; rfl; rfl; exact un_ok rfl; exact sz_ok rfl; (first | rfl | exact (Int.toNat_of_nonneg (by omega)).symm); omega) | (apply P_load1; rfl; rfl; rfl; rfl; exact on_ok rfl; (focus repeat' first | exact get_push_same | assumption | (apply Ext.get; assumption)); (first | exact ints_get (by omega) | rfl | assumption)) | (apply P_loadA; rfl; rfl; rfl; rfl; exact ag_ok rfl; (focus repeat' first | exact get_push_same | assumption | (apply Ext.get; assumption)); (first | exact Nat.le_of_ble_eq_true rfl | (simp; done) | (simp; omega) | (rw [ints_len]; omega)); rfl) | (apply P_build1; rfl; rfl; rfl; rfl; rfl; rfl; rfl; exact c1_ok rfl) | (apply P_appI; rfl; rfl; rfl; rfl; rfl; rfl; rfl; rfl; exact c1_ok rfl; exact un_ok rfl; (focus repeat' first | exact get_push_same | assumption | (apply Ext.get; assumption)); (apply OutI.ext; assumption; (focus repeat' first | exact Ext.refl _ | assumption | apply Ext.push | (refine Ext.trans ?_ (by assumption)))); (focus repeat' first | exact Ext.refl _ | assumption | apply Ext.push | (refine Ext.trans ?_ (by assumption))); (first | omega | (simp; omega)); (intro _ _ _ _)) | (apply P_box; rfl; rfl; rfl; rfl; exact sz_ok rfl; rfl; rfl) | (apply P_call; rfl; rfl; rfl; rfl; rfl; rfl; exact shared_ok (T := T) hK (hT.ext hxx) hP hm1.2 hn1.2; (rintro _ _ ⟨rfl, _⟩)) | fail))
            have hany : acc.any (fun g => topI T g == topI T (l.getD k 0)) = true := any_iff.2 ⟨acc.getD j 0, by simp [hlt2], by rw [hti, htk, hq]⟩
            rw [if_pos hany] at hj
            refine C_again (ih (k + 1, _, acc) _ ?_ ⟨hlt, ?_, ho.ext ?_, ?_, ham, hj⟩) ?_
            · dsimp only; omega
            · (focus repeat' first | exact Ext.refl _ | assumption | apply Ext.push | (refine Ext.trans ?_ (by assumption)))
            · (focus repeat' first | exact Ext.refl _ | assumption | apply Ext.push | (refine Ext.trans ?_ (by assumption)))
            · dsimp only; omega
            · (focus repeat' first | rfl | exact trivial | apply And.intro)
          · have hz : sharedI (pathI T.c n) (pathI T.c m) 0 = 0 := Classical.not_not.1 fun q => hq (hsh.1 q)
            (repeat' (first | (apply K_seq) | (apply K_region) | (apply O_at; rfl) | (apply O_fin; rfl) | (apply C_seq) | (apply K_ifT; rfl) | (apply K_ifF; rfl) | (apply K_block) | (apply K_scope) | (apply K_skip) | (apply K_label) | (apply K_exit) | (apply K_ret) | (apply C_exit) | (apply C_exitS) | (apply C_exitL) | (apply C_exitO; rfl) | (apply C_blockN) | (apply C_nil) | (apply P_move; rfl; rfl; rfl; rfl) | (apply P_assign; rfl; rfl; rfl; rfl) | (apply P_len; rfl; rfl; rfl; rfl; rfl; rfl; exact un_ok rfl) | (apply P_pick; rfl; rfl; rfl; rfl; rfl; rfl) | (apply P_not; rfl; rfl; rfl; rfl) | (apply P_lssF; rfl; rfl; rfl; rfl; rfl; omega) | (apply P_lssT; rfl; rfl; rfl; rfl; rfl; omega) | (apply P_neqF; rfl; rfl; rfl; rfl; rfl; omega) | (apply P_neqT; rfl; rfl; rfl; rfl; rfl; omega) | (apply P_add; rfl; rfl; rfl; rfl; rfl; (unfold fit; omega)) | (apply P_idxA; rfl; rfl; rfl; rfl; rfl; exact un_ok rfl; exact sz_ok rfl; (first | rfl | exact (Int.toNat_of_nonneg (by omega)).symm); omega) | (apply P_load1; rfl; rfl; rfl; rfl; exact on_ok rfl; (focus repeat' first | exact get_push_same | assumption | (apply Ext.get; assumption)); (first | exact ints_get (by omega) | rfl | assumption)) | (apply P_loadA; rfl; rfl; rfl; rfl; exact ag_ok rfl; (focus repeat' first | exact get_push_same | assumption | (apply Ext.get; assumption)); (first | exact Nat.le_of_ble_eq_true rfl | (simp; done) | (simp; omega) | (rw [ints_len]; omega)); rfl) | (apply P_build1; rfl; rfl; rfl; rfl; rfl; rfl; rfl; exact c1_ok rfl) | (apply P_appI; rfl; rfl; rfl; rfl; rfl; rfl; rfl; rfl; exact c1_ok rfl; exact un_ok rfl; (focus repeat' first | exact get_push_same | assumption | (apply Ext.get; assumption)); (apply OutI.ext; assumption; (focus repeat' first | exact Ext.refl _ | assumption | apply Ext.push | (refine Ext.trans ?_ (by assumption)))); (focus repeat' first | exact Ext.refl _ | assumption | apply Ext.push | (refine Ext.trans ?_ (by assumption))); (first | omega | (simp; omega)); (intro _ _ _ _)) | (apply P_box; rfl; rfl; rfl; rfl; exact sz_ok rfl; rfl; rfl) | fail))
            rw [hm]
            (repeat' (first | (apply K_seq) | (apply K_region) | (apply O_at; rfl) | (apply O_fin; rfl) | (apply C_seq) | (apply K_ifT; rfl) | (apply K_ifF; rfl) | (apply K_block) | (apply K_scope) | (apply K_skip) | (apply K_label) | (apply K_exit) | (apply K_ret) | (apply C_exit) | (apply C_exitS) | (apply C_exitL) | (apply C_exitO; rfl) | (apply C_blockN) | (apply C_nil) | (apply P_move; rfl; rfl; rfl; rfl) | (apply P_assign; rfl; rfl; rfl; rfl) | (apply P_len; rfl; rfl; rfl; rfl; rfl; rfl; exact un_ok rfl) | (apply P_pick; rfl; rfl; rfl; rfl; rfl; rfl) | (apply P_not; rfl; rfl; rfl; rfl) | (apply P_lssF; rfl; rfl; rfl; rfl; rfl; omega) | (apply P_lssT; rfl; rfl; rfl; rfl; rfl; omega) | (apply P_neqF; rfl; rfl; rfl; rfl; rfl; omega) | (apply P_neqT; rfl; rfl; rfl; rfl; rfl; omega) | (apply P_add; rfl; rfl; rfl; rfl; rfl; (unfold fit; omega)) | (apply P_idxA; rfl; rfl; rfl; rfl; rfl; exact un_ok rfl; exact sz_ok rfl; (first | rfl | exact (Int.toNat_of_nonneg (by omega)).symm); omega) | (apply P_load1; rfl; rfl; rfl; rfl; exact on_ok rfl; (focus repeat' first | exact get_push_same | assumption | (apply Ext.get; assumption)); (first | exact ints_get (by omega) | rfl | assumption)) | (apply P_loadA; rfl; rfl; rfl; rfl; exact ag_ok rfl; (focus repeat' first | exact get_push_same | assumption | (apply Ext.get; assumption)); (first | exact Nat.le_of_ble_eq_true rfl | (simp; done) | (simp; omega) | (rw [ints_len]; omega)); rfl) | (apply P_build1; rfl; rfl; rfl; rfl; rfl; rfl; rfl; exact c1_ok rfl) | (apply P_appI; rfl; rfl; rfl; rfl; rfl; rfl; rfl; rfl; exact c1_ok rfl; exact un_ok rfl; (focus repeat' first | exact get_push_same | assumption | (apply Ext.get; assumption)); (apply OutI.ext; assumption; (focus repeat' first | exact Ext.refl _ | assumption | apply Ext.push | (refine Ext.trans ?_ (by assumption)))); (focus repeat' first | exact Ext.refl _ | assumption | apply Ext.push | (refine Ext.trans ?_ (by assumption))); (first | omega | (simp; omega)); (intro _ _ _ _)) | (apply P_box; rfl; rfl; rfl; rfl; exact sz_ok rfl; rfl; rfl) | (apply P_call; rfl; rfl; rfl; rfl; rfl; rfl; exact shared_ok (T := T) hK (hT.ext hxx) hP hm1.2 hn1.2; (rintro _ _ ⟨rfl, _⟩)) | fail))
            refine C_again (ih2 (j + 1) _ ?_ ⟨hlt2, by (focus repeat' first | exact Ext.refl _ | assumption | apply Ext.push | (refine Ext.trans ?_ (by assumption))), fun i hi => ?_⟩) ?_
            · omega
            · by_cases hij : i = j
              · subst hij; rw [hti, htk]; omega
              · exact hj2 i (by omega)
            · (focus repeat' first | rfl | exact trivial | apply And.intro)
        · have hjl : j = acc.length := by omega
          have hho := ho.ext hx2
          have hno : ¬ (acc.any (fun g => topI T g == topI T (l.getD k 0)) = true) := fun z => by
            obtain ⟨g, hg1, hg2⟩ := any_iff.1 z
            obtain ⟨i, hi, hie⟩ := List.getElem_of_mem hg1
            refine hj2 i (by omega) ?_
            rw [← hg2, ← hie]; simp [hi]
          rw [if_neg hno] at hj
          (repeat' (first | (apply K_seq) | (apply K_region) | (apply O_at; rfl) | (apply O_fin; rfl) | (apply C_seq) | (apply K_ifT; rfl) | (apply K_ifF; rfl) | (apply K_block) | (apply K_scope) | (apply K_skip) | (apply K_label) | (apply K_exit) | (apply K_ret) | (apply C_exit) | (apply C_exitS) | (apply C_exitL) | (apply C_exitO; rfl) | (apply C_blockN) | (apply C_nil) | (apply P_move; rfl; rfl; rfl; rfl) | (apply P_assign; rfl; rfl; rfl; rfl) | (apply P_len; rfl; rfl; rfl; rfl; rfl; rfl; exact un_ok rfl) | (apply P_pick; rfl; rfl; rfl; rfl; rfl; rfl) | (apply P_not; rfl; rfl; rfl; rfl) | (apply P_lssF; rfl; rfl; rfl; rfl; rfl; omega) | (apply P_lssT; rfl; rfl; rfl; rfl; rfl; omega) | (apply P_neqF; rfl; rfl; rfl; rfl; rfl; omega) | (apply P_neqT; rfl; rfl; rfl; rfl; rfl; omega) | (apply P_add; rfl; rfl; rfl; rfl; rfl; (unfold fit; omega)) | (apply P_idxA; rfl; rfl; rfl; rfl; rfl; exact un_ok rfl; exact sz_ok rfl; (first | rfl | exact (Int.toNat_of_nonneg (by omega)).symm); omega) | (apply P_load1; rfl; rfl; rfl; rfl; exact on_ok rfl; (focus repeat' first | exact get_push_same | assumption | (apply Ext.get; assumption)); (first | exact ints_get (by omega) | rfl | assumption)) | (apply P_loadA; rfl; rfl; rfl; rfl; exact ag_ok rfl; (focus repeat' first | exact get_push_same | assumption | (apply Ext.get; assumption)); (first | exact Nat.le_of_ble_eq_true rfl | (simp; done) | (simp; omega) | (rw [ints_len]; omega)); rfl) | (apply P_build1; rfl; rfl; rfl; rfl; rfl; rfl; rfl; exact c1_ok rfl) | (apply P_appI; rfl; rfl; rfl; rfl; rfl; rfl; rfl; rfl; exact c1_ok rfl; exact un_ok rfl; (focus repeat' first | exact get_push_same | assumption | (apply Ext.get; assumption)); (apply OutI.ext; assumption; (focus repeat' first | exact Ext.refl _ | assumption | apply Ext.push | (refine Ext.trans ?_ (by assumption)))); (focus repeat' first | exact Ext.refl _ | assumption | apply Ext.push | (refine Ext.trans ?_ (by assumption))); (first | omega | (simp; omega)); (intro _ _ _ _)) | (apply P_box; rfl; rfl; rfl; rfl; exact sz_ok rfl; rfl; rfl) | fail))
          rename_i v' h5 o5 x5
          rw [← hnk] at o5
          refine C_again (ih (k + 1, v', acc ++ [l.getD k 0]) _ ?_ ⟨hlt, ?_, o5, ?_, ?_, hj⟩) ?_
          · dsimp only; omega
          · (focus repeat' first | exact Ext.refl _ | assumption | apply Ext.push | (refine Ext.trans ?_ (by assumption)))
          · rw [List.length_append, List.length_singleton]; dsimp only; omega
          · intro g hg1
            rcases List.mem_append.1 hg1 with hg1 | hg1
            · exact ham g hg1
            · rw [List.mem_singleton.1 hg1]; exact hkm
          · (focus repeat' first | rfl | exact trivial | apply And.intro)
      · exact ⟨Nat.zero_le _, Ext.refl _, fun i hi => absurd hi (Nat.not_lt_zero _)⟩
      · (focus repeat' first | rfl | exact trivial | apply And.intro)
    · have hkl : k = l.length := by omega
      subst hkl
      rw [List.drop_eq_nil_of_le (Nat.le_refl _)] at hj
      have hjj : apartL T l = acc := hj
      obtain ⟨pv, kv, rfl, rv⟩ : ∃ pv kv, v = .slice pv acc.length kv ∧ Rd h' pv (ints acc) := by
        rcases ho with ⟨q1, q2⟩ | ⟨_, bv, q2, q3, _⟩
        · exact ⟨none, 0, by rw [q2, q1]; rfl, .inl (by rw [q1]; rfl)⟩
        · exact ⟨_, _, q2, .inr ⟨bv, _, true, rfl, q3⟩⟩
      (repeat' (first | (apply K_seq) | (apply K_region) | (apply O_at; rfl) | (apply O_fin; rfl) | (apply C_seq) | (apply K_ifT; rfl) | (apply K_ifF; rfl) | (apply K_block) | (apply K_scope) | (apply K_skip) | (apply K_label) | (apply K_exit) | (apply K_ret) | (apply C_exit) | (apply C_exitS) | (apply C_exitL) | (apply C_exitO; rfl) | (apply C_blockN) | (apply C_nil) | (apply P_move; rfl; rfl; rfl; rfl) | (apply P_assign; rfl; rfl; rfl; rfl) | (apply P_len; rfl; rfl; rfl; rfl; rfl; rfl; exact un_ok rfl) | (apply P_pick; rfl; rfl; rfl; rfl; rfl; rfl) | (apply P_not; rfl; rfl; rfl; rfl) | (apply P_lssF; rfl; rfl; rfl; rfl; rfl; omega) | (apply P_lssT; rfl; rfl; rfl; rfl; rfl; omega) | (apply P_neqF; rfl; rfl; rfl; rfl; rfl; omega) | (apply P_neqT; rfl; rfl; rfl; rfl; rfl; omega) | (apply P_add; rfl; rfl; rfl; rfl; rfl; (unfold fit; omega)) | (apply P_idxA; rfl; rfl; rfl; rfl; rfl; exact un_ok rfl; exact sz_ok rfl; (first | rfl | exact (Int.toNat_of_nonneg (by omega)).symm); omega) | (apply P_load1; rfl; rfl; rfl; rfl; exact on_ok rfl; (focus repeat' first | exact get_push_same | assumption | (apply Ext.get; assumption)); (first | exact ints_get (by omega) | rfl | assumption)) | (apply P_loadA; rfl; rfl; rfl; rfl; exact ag_ok rfl; (focus repeat' first | exact get_push_same | assumption | (apply Ext.get; assumption)); (first | exact Nat.le_of_ble_eq_true rfl | (simp; done) | (simp; omega) | (rw [ints_len]; omega)); rfl) | (apply P_build1; rfl; rfl; rfl; rfl; rfl; rfl; rfl; exact c1_ok rfl) | (apply P_appI; rfl; rfl; rfl; rfl; rfl; rfl; rfl; rfl; exact c1_ok rfl; exact un_ok rfl; (focus repeat' first | exact get_push_same | assumption | (apply Ext.get; assumption)); (apply OutI.ext; assumption; (focus repeat' first | exact Ext.refl _ | assumption | apply Ext.push | (refine Ext.trans ?_ (by assumption)))); (focus repeat' first | exact Ext.refl _ | assumption | apply Ext.push | (refine Ext.trans ?_ (by assumption))); (first | omega | (simp; omega)); (intro _ _ _ _)) | (apply P_box; rfl; rfl; rfl; rfl; exact sz_ok rfl; rfl; rfl) | fail))
      rw [hjj]
      exact ⟨.inr rfl, _, rfl, pv, kv, rfl, rv, x0'⟩
  · exact ⟨Nat.zero_le _, Ext.refl _, OutI.nil _ _ _, Nat.le_refl _, fun g hg => (nomatch hg), rfl⟩
  · (focus repeat' first | rfl | exact trivial | apply And.intro)
theorem apart_no (hK : NoK K) {T : Tre} {l : List Int} {p : Option Addr} {cap : Nat} {h : Heap} (hT : TreAt T h) (hs : ShortP T) (hn : l.length ≤ 1000) (hr : Rd h p (ints l)) (hno : ¬ (TreeP T ∧ HandsP T l)) :
    CallW Tryz.prog K 45 #[treV T, .slice p l.length cap] h (NoE [.slice none 0 0, .int .i64 2] h) := by
  have l1 := hs.1
  refine body (N := 44) Tryz.func45 rfl (hK _ _ _ rfl) rfl rfl ?_
  by_cases hP : TreeP T
  · have hH : ¬ HandsP T l := fun q => hno ⟨hP, q⟩
    (repeat' (first | (apply K_seq) | (apply K_region) | (apply O_at; rfl) | (apply O_fin; rfl) | (apply C_seq) | (apply K_ifT; rfl) | (apply K_scope) | (apply K_ret) | (apply C_retS) | (apply C_nil) | (apply P_skip; rfl; rfl; rfl) | (apply P_move; rfl; rfl; rfl; rfl) | (apply P_assign; rfl; rfl; rfl; rfl) | (apply P_pick; rfl; rfl; rfl; rfl; rfl; rfl) | (apply P_not; rfl; rfl; rfl; rfl) | (apply P_loadA; rfl; rfl; rfl; rfl; exact ag_ok rfl; (focus repeat' first | exact get_push_same | assumption | (apply Ext.get; assumption)); (first | exact Nat.le_of_ble_eq_true rfl | (simp; done) | (simp; omega)); rfl) | (apply P_box; rfl; rfl; rfl; rfl; exact sz_ok rfl; rfl; rfl) | (apply P_call; rfl; rfl; rfl; rfl; rfl; rfl; exact yes (isTree_ok (T := T) hK (hT.ext (by (focus repeat' first | exact Ext.refl _ | assumption | apply Ext.push | (refine Ext.trans ?_ (by assumption))))) hs) hP; (rintro _ _ ⟨rfl, _⟩)) | (apply P_call; rfl; rfl; rfl; rfl; rfl; rfl; exact no (areHands_ok (T := T) hK hs hn (hr.ext (by (focus repeat' first | exact Ext.refl _ | assumption | apply Ext.push | (refine Ext.trans ?_ (by assumption)))))) hH; (rintro _ _ ⟨rfl, _⟩)) | fail))
    exact ⟨.inr rfl, _, rfl, rfl, by (focus repeat' first | exact Ext.refl _ | assumption | apply Ext.push | (refine Ext.trans ?_ (by assumption)))⟩
  · (repeat' (first | (apply K_seq) | (apply K_region) | (apply O_at; rfl) | (apply O_fin; rfl) | (apply C_seq) | (apply K_ifT; rfl) | (apply K_scope) | (apply K_ret) | (apply C_retS) | (apply C_nil) | (apply P_skip; rfl; rfl; rfl) | (apply P_move; rfl; rfl; rfl; rfl) | (apply P_assign; rfl; rfl; rfl; rfl) | (apply P_pick; rfl; rfl; rfl; rfl; rfl; rfl) | (apply P_not; rfl; rfl; rfl; rfl) | (apply P_loadA; rfl; rfl; rfl; rfl; exact ag_ok rfl; (focus repeat' first | exact get_push_same | assumption | (apply Ext.get; assumption)); (first | exact Nat.le_of_ble_eq_true rfl | (simp; done) | (simp; omega)); rfl) | (apply P_box; rfl; rfl; rfl; rfl; exact sz_ok rfl; rfl; rfl) | (apply P_call; rfl; rfl; rfl; rfl; rfl; rfl; exact no (isTree_ok (T := T) hK (hT.ext (by (focus repeat' first | exact Ext.refl _ | assumption | apply Ext.push | (refine Ext.trans ?_ (by assumption))))) hs) hP; (rintro _ _ ⟨rfl, _⟩)) | fail))
    exact ⟨.inr rfl, _, rfl, rfl, by (focus repeat' first | exact Ext.refl _ | assumption | apply Ext.push | (refine Ext.trans ?_ (by assumption)))⟩
end Go.AX.Sa

namespace Go.AX.Sa
open Go.Proofs
set_option maxRecDepth 100000
variable {K : Known}
end Go.AX.Sa

namespace Go.AX.Sa
open Go.Proofs
set_option maxRecDepth 100000
variable {K : Known}
/-- No two of a list share a copy but the copy 0. -/
def Aparts (T : Tre) (l : List Int) : Prop := ∀ j k, j < k → k < l.length → shr T.c (l.getD k 0).toNat (l.getD j 0).toNat = 0
theorem aparts_diff {T : Tre} {l : List Int} (hH : HandsP T l) : Aparts T l ↔ l.Pairwise (fun a b => topI T a ≠ topI T b) := by
  have one : ∀ j k, (hj : j < l.length) → (hk : k < l.length) → (shr T.c (l.getD k 0).toNat (l.getD j 0).toNat = 0 ↔ topI T l[j] ≠ topI T l[k]) := by
    intro j k hj hk
    have e1 : l.getD j 0 = l[j] := by simp [hj]
    have e2 : l.getD k 0 = l[k] := by simp [hk]
    have m1 := hands_mem hH (List.getElem_mem hj)
    have m2 := hands_mem hH (List.getElem_mem hk)
    have := shr_top (c := T.c) (a := l[k].toNat) (b := l[j].toNat) (by omega) (by omega)
    rw [e1, e2]
    unfold topI
    constructor
    · intro z w
      exact (this.2 (by omega)) z
    · intro w
      exact Classical.not_not.1 fun z => w (by rw [this.1 z])
  rw [List.pairwise_iff_getElem]
  constructor
  · intro h j k hj hk hjk
    exact (one j k hj hk).1 (h j k hjk hk)
  · intro h j k hjk hk
    exact (one j k (by omega) hk).2 (h j k (by omega) hk hjk)
structure ApartP (T : Tre) (l A : List Int) : Prop where
  len : A.length ≤ l.length
  hands : HandsP T A
  part : ∀ x ∈ A, x ∈ l
  aparts : Aparts T A
  best : ∀ m : List Int, HandsP T m → (∀ x ∈ m, x ∈ l) → Aparts T m → m.length ≤ A.length ∧ ∀ i, i < m.length → A.getD i 0 ≤ m.getD i 0
theorem apartL_ok {T : Tre} {l : List Int} (hH : HandsP T l) : ApartP T l (apartL T l) := by
  have g : GrOK (topI T) l (apartL T l) := gr_all (hands_sorted hH)
  have hA : HandsP T (apartL T l) := hands_of g.sorted fun x hx => hands_mem hH (g.sub x hx)
  refine ⟨inj_len _ _ g.diff fun a ha => ⟨a, g.sub a ha, rfl⟩, hA, g.sub, (aparts_diff hA).2 g.diff, fun m h1 h2 h3 => ?_⟩
  have b := gr_best g h2 (hands_sorted h1) ((aparts_diff h1).1 h3)
  refine ⟨?_, fun i hi => (b i hi).2⟩
  by_cases h0 : m.length = 0
  · omega
  · have := (b (m.length - 1) (by omega)).1; omega
end Go.AX.Sa
