/- The errors of a story. -/
import Derived.Test.YtbhocbogedodnaaGreatDoorSwD
import Derived.Test.YtbhocbogedodnaaGreatDoorSwC
namespace Go.AX.Sa
open Go.Proofs
set_option maxRecDepth 100000
variable {K : Known}
/-! The errors of a story. -/
def figI (L : Lis) (j i : Nat) : Int := (L.l.getD j row0).s.getD i 0
def errRow (T : Tre) (L : Lis) (j : Nat) : Nat → List (Int × Int)
  | 0 => []
  | i + 1 => errRow T L j i ++ (if figI L j i ≠ figI L (parN T.c j) i then [((j : Int), (i : Int))] else [])
def errTo (T : Tre) (L : Lis) : Nat → List (Int × Int)
  | 0 => []
  | j + 1 => errTo T L j ++ errRow T L j T.places.toNat
def errI (T : Tre) (L : Lis) : List (Int × Int) := errTo T L T.c.length
theorem errRow_len (T : Tre) (L : Lis) (j i : Nat) : (errRow T L j i).length ≤ i := by
  induction i with
  | zero => exact Nat.le_refl _
  | succ i ih => simp only [errRow, List.length_append]; split <;> simp <;> omega
theorem errTo_len {T : Tre} (hP : TreeP T) (L : Lis) (j : Nat) : (errTo T L j).length ≤ 3 * j := by
  have hp := hP.1
  induction j with
  | zero => exact Nat.le_refl _
  | succ j ih => simp only [errTo, List.length_append]; have := errRow_len T L j T.places.toNat; omega
theorem errRow_yes {T : Tre} {L : Lis} {j i : Nat} (h : figI L j i ≠ figI L (parN T.c j) i) : errRow T L j (i + 1) = errRow T L j i ++ [((j : Int), (i : Int))] := by
  simp only [errRow, if_pos h]
theorem errRow_no {T : Tre} {L : Lis} {j i : Nat} (h : figI L j i = figI L (parN T.c j) i) : errRow T L j (i + 1) = errRow T L j i := by
  simp only [errRow, ne_eq, h, not_true_eq_false, if_false, List.append_nil]
/-- A list of errors as an answer, with no error code. -/
def IsR (l : List (Int × Int)) (h : Heap) (v : Value) (h1 : Heap) : Prop := ∃ p cap, v = .tuple #[.slice p l.length cap, .int .i64 0] ∧ (l = [] ∨ ∃ b e, p = some ⟨b, 0, none⟩ ∧ h1.get? b = some (.cells (spanCells l) e true)) ∧ Ext h h1
theorem codeErrors_ok (hK : NoK K) {T : Tre} {L : Lis} {h : Heap} (hT : TreAt T h) (hL : LisAt L h) (hsh : ShortP T) (hP : TreeP T) (hs : SmallP L) (hS : StoryP T L) :
    CallW Tryz.prog K 19 #[treV T, lisV L] h (IsR (errI T L) h) := by
  have hT0 := hT
  have hL0 := hL
  have hc8 := hP.2.1
  have hlen := hS.1
  have hfig := hS.2.1
  obtain ⟨pp, kc, pl, c⟩ := T
  obtain ⟨lp, lk, l⟩ := L
  obtain ⟨l1, l2⟩ := hs
  obtain ⟨rc, each, hpb⟩ := hT
  obtain ⟨rcl, eachl, hpbl⟩ := hL
  dsimp only [treV, lisV] at hc8 l1 l2 rc each hpb rcl eachl hpbl hlen hfig ⊢
  have hpl : 1 ≤ pl ∧ pl ≤ 3 := hP.1
  obtain ⟨b, e, own', rfl, hg⟩ := rc.at (by rw [cops_len]; omega)
  obtain ⟨bl, el, ownl, rfl, hgl⟩ := rcl.at (by rw [rows_len]; omega)
  refine body (N := 57) Tryz.func19 rfl (hK _ _ _ rfl) rfl rfl ?_
  (repeat' (first | (apply K_seq) | (apply K_region) | (apply O_at; rfl) | (apply N_at; rfl) | (apply O_fin; rfl) | (apply C_seq) | (apply K_ifT; rfl) | (apply K_ifF; rfl) | (apply K_open; exact openOK_of (by decide +kernel)) | (apply K_block) | (apply K_skip) | (apply K_exit) | (apply K_ret) | (apply N_fin; rfl; exact (.inl (Nat.le_refl 1))) | (apply N_fin; rfl; refine .inr ?_; (focus repeat' first | exact trivial | exact Keeps.nil _ _ | apply And.intro | rfl | (apply Keeps.cons; (focus repeat' first | exact get_push_same | assumption | apply get_push_old | (apply Ext.get; assumption)); (focus repeat' first | exact get_push_same | assumption | apply get_push_old | (apply Ext.get; assumption))))) | (apply C_exit) | (apply C_exitS) | (apply C_exitL) | (apply C_blockN) | (apply C_nil) | (apply P_move; rfl; rfl; rfl; rfl) | (apply P_assign; rfl; rfl; rfl; rfl) | (apply P_fa; rfl; rfl; rfl; rfl; exact fo_ok rfl; (first | exact Nat.zero_add _ | exact Nat.add_zero _ | rfl)) | (apply P_len; rfl; rfl; rfl; rfl; rfl; rfl; exact un_ok rfl) | (apply P_pick; rfl; rfl; rfl; rfl; rfl; rfl) | (apply P_not; rfl; rfl; rfl; rfl) | (apply P_lssF; rfl; rfl; rfl; rfl; rfl; omega) | (apply P_lssT; rfl; rfl; rfl; rfl; rfl; omega) | (apply P_add; rfl; rfl; rfl; rfl; rfl; (unfold fit; omega)) | (apply P_idxB; rfl; rfl; rfl; rfl; rfl; exact un_ok rfl; exact sz_ok rfl; (first | rfl | exact (Int.toNat_of_nonneg (by omega)).symm); omega) | (apply P_load1; rfl; rfl; rfl; rfl; exact on_ok rfl; (focus repeat' first | exact get_push_same | assumption | apply get_push_old | (apply Ext.get; assumption)); (first | exact ints_get (by omega) | exact rows_get (by omega) | rfl | assumption)) | (apply P_loadA; rfl; rfl; rfl; rfl; exact ag_ok rfl; (focus repeat' first | exact get_push_same | assumption | apply get_push_old | (apply Ext.get; assumption)); (first | exact Nat.le_of_ble_eq_true rfl | (rw [cops_len]; omega) | (rw [rows_len]; omega) | (simp; done) | (simp; omega) | (rw [ints_len]; omega)); (first | exact cops_take (by omega) | rfl)) | (apply P_storeTop; rfl; rfl; rfl; rfl; exact sz_ok rfl; rfl; rfl; rfl) | (apply P_build65; rfl; rfl; rfl; rfl) | (apply P_build1S; rfl; rfl; rfl; rfl; rfl; exact c2_ok rfl) | (apply P_box; rfl; rfl; rfl; rfl; exact sz_ok rfl; rfl; rfl) | (apply P_alloc; rfl; rfl; rfl; rfl; exact sz_ok rfl; rfl; rfl) | (apply M_move; rfl; rfl; rfl; rfl) | (apply M_fa; rfl; rfl; rfl; rfl; exact fo_ok rfl; (first | exact Nat.zero_add _ | exact Nat.add_zero _ | rfl)) | (apply M_neq; rfl; rfl; rfl; rfl; rfl; all_goals intro _) | (apply M_idxA; rfl; rfl; rfl; rfl; rfl; exact un_ok rfl; exact sz_ok rfl; (first | rfl | exact (Int.toNat_of_nonneg (by omega)).symm); omega) | (apply M_load1E; rfl; rfl; rfl; rfl; exact on_ok rfl; exact actsMost_0 (by decide +kernel); (focus repeat' first | exact get_push_same | assumption | apply get_push_old | (apply Ext.get; assumption)); (first | exact ints_get (by omega) | exact rows_get (by omega) | rfl | assumption); (first | assumption | exact same_yield _ | exact same_int _ _ | exact same_slice _ _ _ | rfl | exact same_treO _ _ _ _ | (focus simp [same, same.all2]; done)); (first | rfl | assumption | exact within_yield (by omega) | exact within_treO hpb (by (focus repeat' first | exact Ext.refl _ | assumption | apply Ext.push | (refine Ext.trans ?_ (by assumption)))) | exact within_optO (by assumption) (by (focus repeat' first | exact Ext.refl _ | assumption | apply Ext.push | (refine Ext.trans ?_ (by assumption)))) | (simp [within]; omega))) | (apply P_call; rfl; rfl; rfl; rfl; rfl; rfl; exact yes (isTree_ok (T := ⟨some ⟨b, 0, none⟩, kc, pl, c⟩) hK (hT0.ext (by (focus repeat' first | exact Ext.refl _ | assumption | apply Ext.push | (refine Ext.trans ?_ (by assumption))))) hsh) hP; (rintro _ _ ⟨rfl, _⟩)) | (apply P_call; rfl; rfl; rfl; rfl; rfl; rfl; exact yes (isStory_ok (T := ⟨some ⟨b, 0, none⟩, kc, pl, c⟩) (L := ⟨some ⟨bl, 0, none⟩, lk, l⟩) hK (hT0.ext (by (focus repeat' first | exact Ext.refl _ | assumption | apply Ext.push | (refine Ext.trans ?_ (by assumption))))) (hL0.ext (by (focus repeat' first | exact Ext.refl _ | assumption | apply Ext.push | (refine Ext.trans ?_ (by assumption))))) hP ⟨l1, l2⟩) hS; (rintro _ _ ⟨rfl, _⟩)) | fail))
  rename_i h1 x1 h2 x2
  have x0 : Ext (h.push (.cells [.int .i64 pl, .slice (some ⟨b, 0, none⟩) c.length kc] 24 true)) h2 := by (focus repeat' first | exact Ext.refl _ | assumption | apply Ext.push | (refine Ext.trans ?_ (by assumption)))
  have x00 : Ext h h2 := by (focus repeat' first | exact Ext.refl _ | assumption | apply Ext.push | (refine Ext.trans ?_ (by assumption)))
  clear x1 x2
  refine K_loopE (fun q : Nat × Value => [(22, .int .i64 (q.1 : Nat)), (21, .int .i64 (c.length : Nat)), (20, .slice (some ⟨b, 0, none⟩) c.length kc), (2, .pointer (some ⟨h.n, 0, none⟩)), (1, .slice (some ⟨bl, 0, none⟩) l.length lk), (6, q.2)])
    (fun q h' => q.1 ≤ c.length ∧ Ext h2 h' ∧ OutS 65 h2 h' q.2 (errTo ⟨some ⟨b, 0, none⟩, kc, pl, c⟩ ⟨some ⟨bl, 0, none⟩, lk, l⟩ q.1)) (fun q => c.length - q.1) ?_ (0, .slice none 0 0) ?_ ?_
  · intro ⟨k, v⟩ h' ⟨hk, hx, ho⟩ ih
    dsimp only at hk hx ho ih ⊢
    have hg3 := (x0.trans hx).get get_push_same
    by_cases hlt : k < c.length
    · have hp := par_of (T := ⟨some ⟨b, 0, none⟩, kc, pl, c⟩) hP hlt
      dsimp only at hp
      obtain ⟨er, eb⟩ := eachl k (by omega)
      obtain ⟨er2, eb2⟩ := eachl (parN c k) (by omega)
      have f1 := (hfig k hlt).1
      have f2 := (hfig (parN c k) (by omega)).1
      dsimp only at f1 f2
      have hgc := (x00.trans hx).get hg
      have hel := errTo_len hP ⟨some ⟨bl, 0, none⟩, lk, l⟩ k
      (repeat' (first | (apply K_seq) | (apply K_region) | (apply O_at; rfl) | (apply N_at; rfl) | (apply O_fin; rfl) | (apply C_seq) | (apply K_ifT; rfl) | (apply K_ifF; rfl) | (apply K_open; exact openOK_of (by decide +kernel)) | (apply K_block) | (apply K_skip) | (apply K_exit) | (apply K_ret) | (apply N_fin; rfl; exact (.inl (Nat.le_refl 1))) | (apply N_fin; rfl; refine .inr ?_; (focus repeat' first | exact trivial | exact Keeps.nil _ _ | apply And.intro | rfl | (apply Keeps.cons; (focus repeat' first | exact get_push_same | assumption | apply get_push_old | (apply Ext.get; assumption)); (focus repeat' first | exact get_push_same | assumption | apply get_push_old | (apply Ext.get; assumption))))) | (apply C_exit) | (apply C_exitS) | (apply C_exitL) | (apply C_blockN) | (apply C_nil) | (apply P_move; rfl; rfl; rfl; rfl) | (apply P_assign; rfl; rfl; rfl; rfl) | (apply P_fa; rfl; rfl; rfl; rfl; exact fo_ok rfl; (first | exact Nat.zero_add _ | exact Nat.add_zero _ | rfl)) | (apply P_len; rfl; rfl; rfl; rfl; rfl; rfl; exact un_ok rfl) | (apply P_pick; rfl; rfl; rfl; rfl; rfl; rfl) | (apply P_not; rfl; rfl; rfl; rfl) | (apply P_lssF; rfl; rfl; rfl; rfl; rfl; omega) | (apply P_lssT; rfl; rfl; rfl; rfl; rfl; omega) | (apply P_add; rfl; rfl; rfl; rfl; rfl; (unfold fit; omega)) | (apply P_idxB; rfl; rfl; rfl; rfl; rfl; exact un_ok rfl; exact sz_ok rfl; (first | rfl | exact (Int.toNat_of_nonneg (by omega)).symm); omega) | (apply P_load1; rfl; rfl; rfl; rfl; exact on_ok rfl; (focus repeat' first | exact get_push_same | assumption | apply get_push_old | (apply Ext.get; assumption)); (first | exact ints_get (by omega) | exact rows_get (by omega) | rfl | assumption)) | (apply P_loadA; rfl; rfl; rfl; rfl; exact ag_ok rfl; (focus repeat' first | exact get_push_same | assumption | apply get_push_old | (apply Ext.get; assumption)); (first | exact Nat.le_of_ble_eq_true rfl | (rw [cops_len]; omega) | (rw [rows_len]; omega) | (simp; done) | (simp; omega) | (rw [ints_len]; omega)); (first | exact cops_take (by omega) | rfl)) | (apply P_storeTop; rfl; rfl; rfl; rfl; exact sz_ok rfl; rfl; rfl; rfl) | (apply P_build65; rfl; rfl; rfl; rfl) | (apply P_build1S; rfl; rfl; rfl; rfl; rfl; exact c2_ok rfl) | (apply P_box; rfl; rfl; rfl; rfl; exact sz_ok rfl; rfl; rfl) | (apply P_alloc; rfl; rfl; rfl; rfl; exact sz_ok rfl; rfl; rfl) | (apply M_move; rfl; rfl; rfl; rfl) | (apply M_fa; rfl; rfl; rfl; rfl; exact fo_ok rfl; (first | exact Nat.zero_add _ | exact Nat.add_zero _ | rfl)) | (apply M_neq; rfl; rfl; rfl; rfl; rfl; all_goals intro _) | (apply M_idxA; rfl; rfl; rfl; rfl; rfl; exact un_ok rfl; exact sz_ok rfl; (first | rfl | exact (Int.toNat_of_nonneg (by omega)).symm); omega) | (apply M_load1E; rfl; rfl; rfl; rfl; exact on_ok rfl; exact actsMost_0 (by decide +kernel); (focus repeat' first | exact get_push_same | assumption | apply get_push_old | (apply Ext.get; assumption)); (first | exact ints_get (by omega) | exact rows_get (by omega) | rfl | assumption); (first | assumption | exact same_yield _ | exact same_int _ _ | exact same_slice _ _ _ | rfl | exact same_treO _ _ _ _ | (focus simp [same, same.all2]; done)); (first | rfl | assumption | exact within_yield (by omega) | exact within_treO hpb (by (focus repeat' first | exact Ext.refl _ | assumption | apply Ext.push | (refine Ext.trans ?_ (by assumption)))) | exact within_optO (by assumption) (by (focus repeat' first | exact Ext.refl _ | assumption | apply Ext.push | (refine Ext.trans ?_ (by assumption)))) | (simp [within]; omega))) | fail))
      rw [hp.1]
      refine K_loopE (fun q : Nat × Value => [(29, .int .i64 (q.1 : Nat)), (28, .int .i64 pl), (7, .int .i64 (k : Nat)), (8, .pointer (some ⟨h'.n, 0, none⟩)), (22, .int .i64 (k : Nat)), (21, .int .i64 (c.length : Nat)), (20, .slice (some ⟨b, 0, none⟩) c.length kc), (2, .pointer (some ⟨h.n, 0, none⟩)), (1, .slice (some ⟨bl, 0, none⟩) l.length lk), (6, q.2)])
        (fun q h'' => (q.1 : Int) ≤ pl ∧ Ext h2 h'' ∧ (h''.get? h'.n = some (.cells [.int .i64 (parN c k : Nat), .slice (c.getD k cop0).r.q (c.getD k cop0).r.s.length (c.getD k cop0).r.k] 49 true) ∧ OutS 65 h2 h'' q.2 (errTo ⟨some ⟨b, 0, none⟩, kc, pl, c⟩ ⟨some ⟨bl, 0, none⟩, lk, l⟩ k ++ errRow ⟨some ⟨b, 0, none⟩, kc, pl, c⟩ ⟨some ⟨bl, 0, none⟩, lk, l⟩ k q.1))) (fun q => (pl - q.1).toNat) ?_ (0, v) ?_ ?_
      · intro ⟨i, v'⟩ h'' ⟨hi, hx2, hgm, ho2⟩ ih2
        dsimp only at hi hx2 hgm ho2 ih2 ⊢
        have hrl := errRow_len ⟨some ⟨b, 0, none⟩, kc, pl, c⟩ ⟨some ⟨bl, 0, none⟩, lk, l⟩ k i
        by_cases hlt2 : (i : Int) < pl
        · obtain ⟨b2, e2, own2, hb2, hg5⟩ := er.at (by rw [ints_len]; omega)
          obtain ⟨b3, e3, own3, hb3, hg6⟩ := er2.at (by rw [ints_len]; omega)
          have hgl' := (x00.trans hx2).get hgl
          have hfe : figI ⟨some ⟨bl, 0, none⟩, lk, l⟩ k i = (l.getD k row0).s.getD i 0 := rfl
          have hfp : figI ⟨some ⟨bl, 0, none⟩, lk, l⟩ (parN c k) i = (l.getD (parN c k) row0).s.getD i 0 := rfl
          (repeat' (first | (apply K_seq) | (apply K_region) | (apply O_at; rfl) | (apply N_at; rfl) | (apply O_fin; rfl) | (apply C_seq) | (apply K_ifT; rfl) | (apply K_ifF; rfl) | (apply K_open; exact openOK_of (by decide +kernel)) | (apply K_block) | (apply K_skip) | (apply K_exit) | (apply K_ret) | (apply N_fin; rfl; exact (.inl (Nat.le_refl 1))) | (apply N_fin; rfl; refine .inr ?_; (focus repeat' first | exact trivial | exact Keeps.nil _ _ | apply And.intro | rfl | (apply Keeps.cons; (focus repeat' first | exact get_push_same | assumption | apply get_push_old | (apply Ext.get; assumption)); (focus repeat' first | exact get_push_same | assumption | apply get_push_old | (apply Ext.get; assumption))))) | (apply C_exit) | (apply C_exitS) | (apply C_exitL) | (apply C_blockN) | (apply C_nil) | (apply P_move; rfl; rfl; rfl; rfl) | (apply P_assign; rfl; rfl; rfl; rfl) | (apply P_fa; rfl; rfl; rfl; rfl; exact fo_ok rfl; (first | exact Nat.zero_add _ | exact Nat.add_zero _ | rfl)) | (apply P_len; rfl; rfl; rfl; rfl; rfl; rfl; exact un_ok rfl) | (apply P_pick; rfl; rfl; rfl; rfl; rfl; rfl) | (apply P_not; rfl; rfl; rfl; rfl) | (apply P_lssF; rfl; rfl; rfl; rfl; rfl; omega) | (apply P_lssT; rfl; rfl; rfl; rfl; rfl; omega) | (apply P_add; rfl; rfl; rfl; rfl; rfl; (unfold fit; omega)) | (apply P_idxB; rfl; rfl; rfl; rfl; rfl; exact un_ok rfl; exact sz_ok rfl; (first | rfl | exact (Int.toNat_of_nonneg (by omega)).symm); omega) | (apply P_load1; rfl; rfl; rfl; rfl; exact on_ok rfl; (focus repeat' first | exact get_push_same | assumption | apply get_push_old | (apply Ext.get; assumption)); (first | exact ints_get (by omega) | exact rows_get (by omega) | rfl | assumption)) | (apply P_loadA; rfl; rfl; rfl; rfl; exact ag_ok rfl; (focus repeat' first | exact get_push_same | assumption | apply get_push_old | (apply Ext.get; assumption)); (first | exact Nat.le_of_ble_eq_true rfl | (rw [cops_len]; omega) | (rw [rows_len]; omega) | (simp; done) | (simp; omega) | (rw [ints_len]; omega)); (first | exact cops_take (by omega) | rfl)) | (apply P_storeTop; rfl; rfl; rfl; rfl; exact sz_ok rfl; rfl; rfl; rfl) | (apply P_build65; rfl; rfl; rfl; rfl) | (apply P_build1S; rfl; rfl; rfl; rfl; rfl; exact c2_ok rfl) | (apply P_box; rfl; rfl; rfl; rfl; exact sz_ok rfl; rfl; rfl) | (apply P_alloc; rfl; rfl; rfl; rfl; exact sz_ok rfl; rfl; rfl) | (apply M_move; rfl; rfl; rfl; rfl) | (apply M_fa; rfl; rfl; rfl; rfl; exact fo_ok rfl; (first | exact Nat.zero_add _ | exact Nat.add_zero _ | rfl)) | (apply M_neq; rfl; rfl; rfl; rfl; rfl; all_goals intro _) | (apply M_idxA; rfl; rfl; rfl; rfl; rfl; exact un_ok rfl; exact sz_ok rfl; (first | rfl | exact (Int.toNat_of_nonneg (by omega)).symm); omega) | (apply M_load1E; rfl; rfl; rfl; rfl; exact on_ok rfl; exact actsMost_0 (by decide +kernel); (focus repeat' first | exact get_push_same | assumption | apply get_push_old | (apply Ext.get; assumption)); (first | exact ints_get (by omega) | exact rows_get (by omega) | rfl | assumption); (first | assumption | exact same_yield _ | exact same_int _ _ | exact same_slice _ _ _ | rfl | exact same_treO _ _ _ _ | (focus simp [same, same.all2]; done)); (first | rfl | assumption | exact within_yield (by omega) | exact within_treO hpb (by (focus repeat' first | exact Ext.refl _ | assumption | apply Ext.push | (refine Ext.trans ?_ (by assumption)))) | exact within_optO (by assumption) (by (focus repeat' first | exact Ext.refl _ | assumption | apply Ext.push | (refine Ext.trans ?_ (by assumption)))) | (simp [within]; omega))) | fail))
          rw [hb2]
          (repeat' (first | (apply K_seq) | (apply K_region) | (apply O_at; rfl) | (apply N_at; rfl) | (apply O_fin; rfl) | (apply C_seq) | (apply K_ifT; rfl) | (apply K_ifF; rfl) | (apply K_open; exact openOK_of (by decide +kernel)) | (apply K_block) | (apply K_skip) | (apply K_exit) | (apply K_ret) | (apply N_fin; rfl; exact (.inl (Nat.le_refl 1))) | (apply N_fin; rfl; refine .inr ?_; (focus repeat' first | exact trivial | exact Keeps.nil _ _ | apply And.intro | rfl | (apply Keeps.cons; (focus repeat' first | exact get_push_same | assumption | apply get_push_old | (apply Ext.get; assumption)); (focus repeat' first | exact get_push_same | assumption | apply get_push_old | (apply Ext.get; assumption))))) | (apply C_exit) | (apply C_exitS) | (apply C_exitL) | (apply C_blockN) | (apply C_nil) | (apply P_move; rfl; rfl; rfl; rfl) | (apply P_assign; rfl; rfl; rfl; rfl) | (apply P_fa; rfl; rfl; rfl; rfl; exact fo_ok rfl; (first | exact Nat.zero_add _ | exact Nat.add_zero _ | rfl)) | (apply P_len; rfl; rfl; rfl; rfl; rfl; rfl; exact un_ok rfl) | (apply P_pick; rfl; rfl; rfl; rfl; rfl; rfl) | (apply P_not; rfl; rfl; rfl; rfl) | (apply P_lssF; rfl; rfl; rfl; rfl; rfl; omega) | (apply P_lssT; rfl; rfl; rfl; rfl; rfl; omega) | (apply P_add; rfl; rfl; rfl; rfl; rfl; (unfold fit; omega)) | (apply P_idxB; rfl; rfl; rfl; rfl; rfl; exact un_ok rfl; exact sz_ok rfl; (first | rfl | exact (Int.toNat_of_nonneg (by omega)).symm); omega) | (apply P_load1; rfl; rfl; rfl; rfl; exact on_ok rfl; (focus repeat' first | exact get_push_same | assumption | apply get_push_old | (apply Ext.get; assumption)); (first | exact ints_get (by omega) | exact rows_get (by omega) | rfl | assumption)) | (apply P_loadA; rfl; rfl; rfl; rfl; exact ag_ok rfl; (focus repeat' first | exact get_push_same | assumption | apply get_push_old | (apply Ext.get; assumption)); (first | exact Nat.le_of_ble_eq_true rfl | (rw [cops_len]; omega) | (rw [rows_len]; omega) | (simp; done) | (simp; omega) | (rw [ints_len]; omega)); (first | exact cops_take (by omega) | rfl)) | (apply P_storeTop; rfl; rfl; rfl; rfl; exact sz_ok rfl; rfl; rfl; rfl) | (apply P_build65; rfl; rfl; rfl; rfl) | (apply P_build1S; rfl; rfl; rfl; rfl; rfl; exact c2_ok rfl) | (apply P_box; rfl; rfl; rfl; rfl; exact sz_ok rfl; rfl; rfl) | (apply P_alloc; rfl; rfl; rfl; rfl; exact sz_ok rfl; rfl; rfl) | (apply M_move; rfl; rfl; rfl; rfl) | (apply M_fa; rfl; rfl; rfl; rfl; exact fo_ok rfl; (first | exact Nat.zero_add _ | exact Nat.add_zero _ | rfl)) | (apply M_neq; rfl; rfl; rfl; rfl; rfl; all_goals intro _) | (apply M_idxA; rfl; rfl; rfl; rfl; rfl; exact un_ok rfl; exact sz_ok rfl; (first | rfl | exact (Int.toNat_of_nonneg (by omega)).symm); omega) | (apply M_load1E; rfl; rfl; rfl; rfl; exact on_ok rfl; exact actsMost_0 (by decide +kernel); (focus repeat' first | exact get_push_same | assumption | apply get_push_old | (apply Ext.get; assumption)); (first | exact ints_get (by omega) | exact rows_get (by omega) | rfl | assumption); (first | assumption | exact same_yield _ | exact same_int _ _ | exact same_slice _ _ _ | rfl | exact same_treO _ _ _ _ | (focus simp [same, same.all2]; done)); (first | rfl | assumption | exact within_yield (by omega) | exact within_treO hpb (by (focus repeat' first | exact Ext.refl _ | assumption | apply Ext.push | (refine Ext.trans ?_ (by assumption)))) | exact within_optO (by assumption) (by (focus repeat' first | exact Ext.refl _ | assumption | apply Ext.push | (refine Ext.trans ?_ (by assumption)))) | (simp [within]; omega))) | fail))
          rw [hb3]
          (repeat' (first | (apply K_seq) | (apply K_region) | (apply O_at; rfl) | (apply N_at; rfl) | (apply O_fin; rfl) | (apply C_seq) | (apply K_ifT; rfl) | (apply K_ifF; rfl) | (apply K_open; exact openOK_of (by decide +kernel)) | (apply K_block) | (apply K_skip) | (apply K_exit) | (apply K_ret) | (apply N_fin; rfl; exact (.inl (Nat.le_refl 1))) | (apply N_fin; rfl; refine .inr ?_; (focus repeat' first | exact trivial | exact Keeps.nil _ _ | apply And.intro | rfl | (apply Keeps.cons; (focus repeat' first | exact get_push_same | assumption | apply get_push_old | (apply Ext.get; assumption)); (focus repeat' first | exact get_push_same | assumption | apply get_push_old | (apply Ext.get; assumption))))) | (apply C_exit) | (apply C_exitS) | (apply C_exitL) | (apply C_blockN) | (apply C_nil) | (apply P_move; rfl; rfl; rfl; rfl) | (apply P_assign; rfl; rfl; rfl; rfl) | (apply P_fa; rfl; rfl; rfl; rfl; exact fo_ok rfl; (first | exact Nat.zero_add _ | exact Nat.add_zero _ | rfl)) | (apply P_len; rfl; rfl; rfl; rfl; rfl; rfl; exact un_ok rfl) | (apply P_pick; rfl; rfl; rfl; rfl; rfl; rfl) | (apply P_not; rfl; rfl; rfl; rfl) | (apply P_lssF; rfl; rfl; rfl; rfl; rfl; omega) | (apply P_lssT; rfl; rfl; rfl; rfl; rfl; omega) | (apply P_add; rfl; rfl; rfl; rfl; rfl; (unfold fit; omega)) | (apply P_idxB; rfl; rfl; rfl; rfl; rfl; exact un_ok rfl; exact sz_ok rfl; (first | rfl | exact (Int.toNat_of_nonneg (by omega)).symm); omega) | (apply P_load1; rfl; rfl; rfl; rfl; exact on_ok rfl; (focus repeat' first | exact get_push_same | assumption | apply get_push_old | (apply Ext.get; assumption)); (first | exact ints_get (by omega) | exact rows_get (by omega) | rfl | assumption)) | (apply P_loadA; rfl; rfl; rfl; rfl; exact ag_ok rfl; (focus repeat' first | exact get_push_same | assumption | apply get_push_old | (apply Ext.get; assumption)); (first | exact Nat.le_of_ble_eq_true rfl | (rw [cops_len]; omega) | (rw [rows_len]; omega) | (simp; done) | (simp; omega) | (rw [ints_len]; omega)); (first | exact cops_take (by omega) | rfl)) | (apply P_storeTop; rfl; rfl; rfl; rfl; exact sz_ok rfl; rfl; rfl; rfl) | (apply P_build65; rfl; rfl; rfl; rfl) | (apply P_build1S; rfl; rfl; rfl; rfl; rfl; exact c2_ok rfl) | (apply P_box; rfl; rfl; rfl; rfl; exact sz_ok rfl; rfl; rfl) | (apply P_alloc; rfl; rfl; rfl; rfl; exact sz_ok rfl; rfl; rfl) | (apply M_move; rfl; rfl; rfl; rfl) | (apply M_fa; rfl; rfl; rfl; rfl; exact fo_ok rfl; (first | exact Nat.zero_add _ | exact Nat.add_zero _ | rfl)) | (apply M_neq; rfl; rfl; rfl; rfl; rfl; all_goals intro _) | (apply M_idxA; rfl; rfl; rfl; rfl; rfl; exact un_ok rfl; exact sz_ok rfl; (first | rfl | exact (Int.toNat_of_nonneg (by omega)).symm); omega) | (apply M_load1E; rfl; rfl; rfl; rfl; exact on_ok rfl; exact actsMost_0 (by decide +kernel); (focus repeat' first | exact get_push_same | assumption | apply get_push_old | (apply Ext.get; assumption)); (first | exact ints_get (by omega) | exact rows_get (by omega) | rfl | assumption); (first | assumption | exact same_yield _ | exact same_int _ _ | exact same_slice _ _ _ | rfl | exact same_treO _ _ _ _ | (focus simp [same, same.all2]; done)); (first | rfl | assumption | exact within_yield (by omega) | exact within_treO hpb (by (focus repeat' first | exact Ext.refl _ | assumption | apply Ext.push | (refine Ext.trans ?_ (by assumption)))) | exact within_optO (by assumption) (by (focus repeat' first | exact Ext.refl _ | assumption | apply Ext.push | (refine Ext.trans ?_ (by assumption)))) | (simp [within]; omega))) | fail))
          · rename_i hne
            apply P_appSK; rfl; rfl; rfl; rfl; rfl; rfl; rfl; rfl; exact c2_ok rfl; exact un_ok rfl; exact get_push_same; exact ho2.ext (by (focus repeat' first | exact Ext.refl _ | assumption | apply Ext.push | (refine Ext.trans ?_ (by assumption)))); exact (by have := hx2.n; (first | omega | (simp only [Heap.push]; omega))); exact (by rw [List.length_append]; omega)
            intro v'' h5 o5 k5
            have x25 : Ext h2 h5 := ⟨by have := hx2.n; have q : h''.n + 1 ≤ h5.n := k5.n; omega, fun b y g => k5.lo (Heap.get_lt g) (get_push_old (hx2.get g))⟩
            have gm5 := k5.ne (by intro q; injection q with _ q2; exact absurd q2 (by decide)) (get_push_old hgm)
            clear k5
            (repeat' (first | (apply K_seq) | (apply K_region) | (apply O_at; rfl) | (apply N_at; rfl) | (apply O_fin; rfl) | (apply C_seq) | (apply K_ifT; rfl) | (apply K_ifF; rfl) | (apply K_open; exact openOK_of (by decide +kernel)) | (apply K_block) | (apply K_skip) | (apply K_exit) | (apply K_ret) | (apply N_fin; rfl; exact (.inl (Nat.le_refl 1))) | (apply N_fin; rfl; refine .inr ?_; (focus repeat' first | exact trivial | exact Keeps.nil _ _ | apply And.intro | rfl | (apply Keeps.cons; (focus repeat' first | exact get_push_same | assumption | apply get_push_old | (apply Ext.get; assumption)); (focus repeat' first | exact get_push_same | assumption | apply get_push_old | (apply Ext.get; assumption))))) | (apply C_exit) | (apply C_exitS) | (apply C_exitL) | (apply C_blockN) | (apply C_nil) | (apply P_move; rfl; rfl; rfl; rfl) | (apply P_assign; rfl; rfl; rfl; rfl) | (apply P_fa; rfl; rfl; rfl; rfl; exact fo_ok rfl; (first | exact Nat.zero_add _ | exact Nat.add_zero _ | rfl)) | (apply P_len; rfl; rfl; rfl; rfl; rfl; rfl; exact un_ok rfl) | (apply P_pick; rfl; rfl; rfl; rfl; rfl; rfl) | (apply P_not; rfl; rfl; rfl; rfl) | (apply P_lssF; rfl; rfl; rfl; rfl; rfl; omega) | (apply P_lssT; rfl; rfl; rfl; rfl; rfl; omega) | (apply P_add; rfl; rfl; rfl; rfl; rfl; (unfold fit; omega)) | (apply P_idxB; rfl; rfl; rfl; rfl; rfl; exact un_ok rfl; exact sz_ok rfl; (first | rfl | exact (Int.toNat_of_nonneg (by omega)).symm); omega) | (apply P_load1; rfl; rfl; rfl; rfl; exact on_ok rfl; (focus repeat' first | exact get_push_same | assumption | apply get_push_old | (apply Ext.get; assumption)); (first | exact ints_get (by omega) | exact rows_get (by omega) | rfl | assumption)) | (apply P_loadA; rfl; rfl; rfl; rfl; exact ag_ok rfl; (focus repeat' first | exact get_push_same | assumption | apply get_push_old | (apply Ext.get; assumption)); (first | exact Nat.le_of_ble_eq_true rfl | (rw [cops_len]; omega) | (rw [rows_len]; omega) | (simp; done) | (simp; omega) | (rw [ints_len]; omega)); (first | exact cops_take (by omega) | rfl)) | (apply P_storeTop; rfl; rfl; rfl; rfl; exact sz_ok rfl; rfl; rfl; rfl) | (apply P_build65; rfl; rfl; rfl; rfl) | (apply P_build1S; rfl; rfl; rfl; rfl; rfl; exact c2_ok rfl) | (apply P_box; rfl; rfl; rfl; rfl; exact sz_ok rfl; rfl; rfl) | (apply P_alloc; rfl; rfl; rfl; rfl; exact sz_ok rfl; rfl; rfl) | (apply M_move; rfl; rfl; rfl; rfl) | (apply M_fa; rfl; rfl; rfl; rfl; exact fo_ok rfl; (first | exact Nat.zero_add _ | exact Nat.add_zero _ | rfl)) | (apply M_neq; rfl; rfl; rfl; rfl; rfl; all_goals intro _) | (apply M_idxA; rfl; rfl; rfl; rfl; rfl; exact un_ok rfl; exact sz_ok rfl; (first | rfl | exact (Int.toNat_of_nonneg (by omega)).symm); omega) | (apply M_load1E; rfl; rfl; rfl; rfl; exact on_ok rfl; exact actsMost_0 (by decide +kernel); (focus repeat' first | exact get_push_same | assumption | apply get_push_old | (apply Ext.get; assumption)); (first | exact ints_get (by omega) | exact rows_get (by omega) | rfl | assumption); (first | assumption | exact same_yield _ | exact same_int _ _ | exact same_slice _ _ _ | rfl | exact same_treO _ _ _ _ | (focus simp [same, same.all2]; done)); (first | rfl | assumption | exact within_yield (by omega) | exact within_treO hpb (by (focus repeat' first | exact Ext.refl _ | assumption | apply Ext.push | (refine Ext.trans ?_ (by assumption)))) | exact within_optO (by assumption) (by (focus repeat' first | exact Ext.refl _ | assumption | apply Ext.push | (refine Ext.trans ?_ (by assumption)))) | (simp [within]; omega))) | fail))
            refine C_again (ih2 (i + 1, v'') _ ?_ ⟨by dsimp only; omega, x25, gm5, ?_⟩) ?_
            · dsimp only; omega
            · dsimp only
              rw [errRow_yes (by rw [hfe]; exact hne), ← List.append_assoc]
              exact o5
            · (focus repeat' first | rfl | exact trivial | apply And.intro)
          · rename_i heq
            refine C_again (ih2 (i + 1, v') _ ?_ ⟨by dsimp only; omega, hx2, hgm, ?_⟩) ?_
            · dsimp only; omega
            · dsimp only
              rw [errRow_no (by rw [hfe]; exact heq)]
              exact ho2
            · (focus repeat' first | rfl | exact trivial | apply And.intro)
        · (repeat' (first | (apply K_seq) | (apply K_region) | (apply O_at; rfl) | (apply N_at; rfl) | (apply O_fin; rfl) | (apply C_seq) | (apply K_ifT; rfl) | (apply K_ifF; rfl) | (apply K_open; exact openOK_of (by decide +kernel)) | (apply K_block) | (apply K_skip) | (apply K_exit) | (apply K_ret) | (apply N_fin; rfl; exact (.inl (Nat.le_refl 1))) | (apply N_fin; rfl; refine .inr ?_; (focus repeat' first | exact trivial | exact Keeps.nil _ _ | apply And.intro | rfl | (apply Keeps.cons; (focus repeat' first | exact get_push_same | assumption | apply get_push_old | (apply Ext.get; assumption)); (focus repeat' first | exact get_push_same | assumption | apply get_push_old | (apply Ext.get; assumption))))) | (apply C_exit) | (apply C_exitS) | (apply C_exitL) | (apply C_blockN) | (apply C_nil) | (apply P_move; rfl; rfl; rfl; rfl) | (apply P_assign; rfl; rfl; rfl; rfl) | (apply P_fa; rfl; rfl; rfl; rfl; exact fo_ok rfl; (first | exact Nat.zero_add _ | exact Nat.add_zero _ | rfl)) | (apply P_len; rfl; rfl; rfl; rfl; rfl; rfl; exact un_ok rfl) | (apply P_pick; rfl; rfl; rfl; rfl; rfl; rfl) | (apply P_not; rfl; rfl; rfl; rfl) | (apply P_lssF; rfl; rfl; rfl; rfl; rfl; omega) | (apply P_lssT; rfl; rfl; rfl; rfl; rfl; omega) | (apply P_add; rfl; rfl; rfl; rfl; rfl; (unfold fit; omega)) | (apply P_idxB; rfl; rfl; rfl; rfl; rfl; exact un_ok rfl; exact sz_ok rfl; (first | rfl | exact (Int.toNat_of_nonneg (by omega)).symm); omega) | (apply P_load1; rfl; rfl; rfl; rfl; exact on_ok rfl; (focus repeat' first | exact get_push_same | assumption | apply get_push_old | (apply Ext.get; assumption)); (first | exact ints_get (by omega) | exact rows_get (by omega) | rfl | assumption)) | (apply P_loadA; rfl; rfl; rfl; rfl; exact ag_ok rfl; (focus repeat' first | exact get_push_same | assumption | apply get_push_old | (apply Ext.get; assumption)); (first | exact Nat.le_of_ble_eq_true rfl | (rw [cops_len]; omega) | (rw [rows_len]; omega) | (simp; done) | (simp; omega) | (rw [ints_len]; omega)); (first | exact cops_take (by omega) | rfl)) | (apply P_storeTop; rfl; rfl; rfl; rfl; exact sz_ok rfl; rfl; rfl; rfl) | (apply P_build65; rfl; rfl; rfl; rfl) | (apply P_build1S; rfl; rfl; rfl; rfl; rfl; exact c2_ok rfl) | (apply P_box; rfl; rfl; rfl; rfl; exact sz_ok rfl; rfl; rfl) | (apply P_alloc; rfl; rfl; rfl; rfl; exact sz_ok rfl; rfl; rfl) | (apply M_move; rfl; rfl; rfl; rfl) | (apply M_fa; rfl; rfl; rfl; rfl; exact fo_ok rfl; (first | exact Nat.zero_add _ | exact Nat.add_zero _ | rfl)) | (apply M_neq; rfl; rfl; rfl; rfl; rfl; all_goals intro _) | (apply M_idxA; rfl; rfl; rfl; rfl; rfl; exact un_ok rfl; exact sz_ok rfl; (first | rfl | exact (Int.toNat_of_nonneg (by omega)).symm); omega) | (apply M_load1E; rfl; rfl; rfl; rfl; exact on_ok rfl; exact actsMost_0 (by decide +kernel); (focus repeat' first | exact get_push_same | assumption | apply get_push_old | (apply Ext.get; assumption)); (first | exact ints_get (by omega) | exact rows_get (by omega) | rfl | assumption); (first | assumption | exact same_yield _ | exact same_int _ _ | exact same_slice _ _ _ | rfl | exact same_treO _ _ _ _ | (focus simp [same, same.all2]; done)); (first | rfl | assumption | exact within_yield (by omega) | exact within_treO hpb (by (focus repeat' first | exact Ext.refl _ | assumption | apply Ext.push | (refine Ext.trans ?_ (by assumption)))) | exact within_optO (by assumption) (by (focus repeat' first | exact Ext.refl _ | assumption | apply Ext.push | (refine Ext.trans ?_ (by assumption)))) | (simp [within]; omega))) | fail))
          have hip : i = pl.toNat := by omega
          refine C_again (ih (k + 1, v') _ ?_ ⟨hlt, hx2, ?_⟩) ?_
          · dsimp only; omega
          · dsimp only [errTo]; rw [← hip]; exact ho2
          · (focus repeat' first | rfl | exact trivial | apply And.intro)
      · exact ⟨by dsimp only; omega, by (focus repeat' first | exact Ext.refl _ | assumption | apply Ext.push | (refine Ext.trans ?_ (by assumption))), get_push_same, by dsimp only [errRow]; rw [List.append_nil]; exact ho.ext (by (focus repeat' first | exact Ext.refl _ | assumption | apply Ext.push | (refine Ext.trans ?_ (by assumption))))⟩
      · (focus repeat' first | rfl | exact trivial | apply And.intro)
    · (repeat' (first | (apply K_seq) | (apply K_region) | (apply O_at; rfl) | (apply N_at; rfl) | (apply O_fin; rfl) | (apply C_seq) | (apply K_ifT; rfl) | (apply K_ifF; rfl) | (apply K_open; exact openOK_of (by decide +kernel)) | (apply K_block) | (apply K_skip) | (apply K_exit) | (apply K_ret) | (apply N_fin; rfl; exact (.inl (Nat.le_refl 1))) | (apply N_fin; rfl; refine .inr ?_; (focus repeat' first | exact trivial | exact Keeps.nil _ _ | apply And.intro | rfl | (apply Keeps.cons; (focus repeat' first | exact get_push_same | assumption | apply get_push_old | (apply Ext.get; assumption)); (focus repeat' first | exact get_push_same | assumption | apply get_push_old | (apply Ext.get; assumption))))) | (apply C_exit) | (apply C_exitS) | (apply C_exitL) | (apply C_blockN) | (apply C_nil) | (apply P_move; rfl; rfl; rfl; rfl) | (apply P_assign; rfl; rfl; rfl; rfl) | (apply P_fa; rfl; rfl; rfl; rfl; exact fo_ok rfl; (first | exact Nat.zero_add _ | exact Nat.add_zero _ | rfl)) | (apply P_len; rfl; rfl; rfl; rfl; rfl; rfl; exact un_ok rfl) | (apply P_pick; rfl; rfl; rfl; rfl; rfl; rfl) | (apply P_not; rfl; rfl; rfl; rfl) | (apply P_lssF; rfl; rfl; rfl; rfl; rfl; omega) | (apply P_lssT; rfl; rfl; rfl; rfl; rfl; omega) | (apply P_add; rfl; rfl; rfl; rfl; rfl; (unfold fit; omega)) | (apply P_idxB; rfl; rfl; rfl; rfl; rfl; exact un_ok rfl; exact sz_ok rfl; (first | rfl | exact (Int.toNat_of_nonneg (by omega)).symm); omega) | (apply P_load1; rfl; rfl; rfl; rfl; exact on_ok rfl; (focus repeat' first | exact get_push_same | assumption | apply get_push_old | (apply Ext.get; assumption)); (first | exact ints_get (by omega) | exact rows_get (by omega) | rfl | assumption)) | (apply P_loadA; rfl; rfl; rfl; rfl; exact ag_ok rfl; (focus repeat' first | exact get_push_same | assumption | apply get_push_old | (apply Ext.get; assumption)); (first | exact Nat.le_of_ble_eq_true rfl | (rw [cops_len]; omega) | (rw [rows_len]; omega) | (simp; done) | (simp; omega) | (rw [ints_len]; omega)); (first | exact cops_take (by omega) | rfl)) | (apply P_storeTop; rfl; rfl; rfl; rfl; exact sz_ok rfl; rfl; rfl; rfl) | (apply P_build65; rfl; rfl; rfl; rfl) | (apply P_build1S; rfl; rfl; rfl; rfl; rfl; exact c2_ok rfl) | (apply P_box; rfl; rfl; rfl; rfl; exact sz_ok rfl; rfl; rfl) | (apply P_alloc; rfl; rfl; rfl; rfl; exact sz_ok rfl; rfl; rfl) | (apply M_move; rfl; rfl; rfl; rfl) | (apply M_fa; rfl; rfl; rfl; rfl; exact fo_ok rfl; (first | exact Nat.zero_add _ | exact Nat.add_zero _ | rfl)) | (apply M_neq; rfl; rfl; rfl; rfl; rfl; all_goals intro _) | (apply M_idxA; rfl; rfl; rfl; rfl; rfl; exact un_ok rfl; exact sz_ok rfl; (first | rfl | exact (Int.toNat_of_nonneg (by omega)).symm); omega) | (apply M_load1E; rfl; rfl; rfl; rfl; exact on_ok rfl; exact actsMost_0 (by decide +kernel); (focus repeat' first | exact get_push_same | assumption | apply get_push_old | (apply Ext.get; assumption)); (first | exact ints_get (by omega) | exact rows_get (by omega) | rfl | assumption); (first | assumption | exact same_yield _ | exact same_int _ _ | exact same_slice _ _ _ | rfl | exact same_treO _ _ _ _ | (focus simp [same, same.all2]; done)); (first | rfl | assumption | exact within_yield (by omega) | exact within_treO hpb (by (focus repeat' first | exact Ext.refl _ | assumption | apply Ext.push | (refine Ext.trans ?_ (by assumption)))) | exact within_optO (by assumption) (by (focus repeat' first | exact Ext.refl _ | assumption | apply Ext.push | (refine Ext.trans ?_ (by assumption)))) | (simp [within]; omega))) | fail))
      have hkl : k = c.length := by omega
      subst hkl
      refine ⟨.inr rfl, _, rfl, ?_⟩
      rcases ho with ⟨hn, rfl⟩ | ⟨hl, b5, rfl, h5, h6⟩
      · unfold errI
        rw [hn]
        exact ⟨_, _, rfl, .inl rfl, by (focus repeat' first | exact Ext.refl _ | assumption | apply Ext.push | (refine Ext.trans ?_ (by assumption)))⟩
      · exact ⟨_, _, rfl, .inr ⟨b5, _, rfl, h5⟩, by (focus repeat' first | exact Ext.refl _ | assumption | apply Ext.push | (refine Ext.trans ?_ (by assumption)))⟩
  · exact ⟨Nat.zero_le _, Ext.refl _, OutS.nil _ _ _⟩
  · (focus repeat' first | rfl | exact trivial | apply And.intro)
end Go.AX.Sa

namespace Go.AX.Sa
open Go.Proofs
set_option maxRecDepth 100000
variable {K : Known}
def RdS (h : Heap) (p : Option Addr) (l : List (Int × Int)) : Prop := l = [] ∨ ∃ b e, p = some ⟨b, 0, none⟩ ∧ h.get? b = some (.cells (spanCells l) e true)
theorem RdS.ext {h h1 : Heap} {p : Option Addr} {l : List (Int × Int)} (r : RdS h p l) (x : Ext h h1) : RdS h1 p l := by
  rcases r with r | ⟨b, e, q, g⟩
  · exact .inl r
  · exact .inr ⟨b, e, q, x.get g⟩
theorem RdS.at {h : Heap} {p : Option Addr} {l : List (Int × Int)} (r : RdS h p l) (hp : 0 < l.length) : ∃ b e, p = some ⟨b, 0, none⟩ ∧ h.get? b = some (.cells (spanCells l) e true) := by
  rcases r with r | r
  · subst r; simp at hp
  · exact r
def IsRL (l : List (Int × Int)) (h : Heap) (v : Value) (h1 : Heap) : Prop := ∃ p cap, v = .slice p l.length cap ∧ RdS h1 p l ∧ Ext h h1
end Go.AX.Sa

namespace Go.AX.Sa
open Go.Proofs
set_option maxRecDepth 100000
variable {K : Known}
end Go.AX.Sa

namespace Go.AX.Sa
open Go.Proofs
set_option maxRecDepth 100000
variable {K : Known}
/-! A single error, and who comes from it. -/
theorem errRow_mem {T : Tre} {L : Lis} {j : Nat} {x : Int × Int} : ∀ i, x ∈ errRow T L j i ↔ ∃ q : Nat, q < i ∧ x = ((j : Int), (q : Int)) ∧ figI L j q ≠ figI L (parN T.c j) q := by
  intro i
  induction i with
  | zero => simp [errRow]
  | succ i ih =>
    simp only [errRow, List.mem_append, ih]
    constructor
    · rintro (⟨q, h1, h2, h3⟩ | h)
      · exact ⟨q, by omega, h2, h3⟩
      · split at h
        · rename_i hd; exact ⟨i, Nat.lt_succ_self _, by simpa using h, hd⟩
        · cases h
    · rintro ⟨q, h1, h2, h3⟩
      by_cases e : q = i
      · subst e; right; rw [if_pos h3, h2]; exact List.mem_cons_self ..
      · exact .inl ⟨q, by omega, h2, h3⟩
theorem errTo_mem {T : Tre} {L : Lis} {x : Int × Int} : ∀ k, x ∈ errTo T L k ↔ ∃ j q : Nat, j < k ∧ q < T.places.toNat ∧ x = ((j : Int), (q : Int)) ∧ figI L j q ≠ figI L (parN T.c j) q := by
  intro k
  induction k with
  | zero => simp [errTo]
  | succ k ih =>
    simp only [errTo, List.mem_append, ih, errRow_mem]
    constructor
    · rintro (⟨j, q, h1, h2, h3, h4⟩ | ⟨q, h1, h2, h3⟩)
      · exact ⟨j, q, by omega, h2, h3, h4⟩
      · exact ⟨k, q, Nat.lt_succ_self _, h1, h2, h3⟩
    · rintro ⟨j, q, h1, h2, h3, h4⟩
      by_cases e : j = k
      · subst e; exact .inr ⟨q, h2, h3, h4⟩
      · exact .inl ⟨j, q, by omega, h2, h3, h4⟩
theorem errTo_len' (T : Tre) (L : Lis) (j : Nat) : (errTo T L j).length ≤ j * T.places.toNat := by
  induction j with
  | zero => simp [errTo]
  | succ j ih => simp only [errTo, List.length_append, Nat.succ_mul]; have := errRow_len T L j T.places.toNat; omega
theorem srcTo_len' (T : Tre) (p : Nat) (right : Int) (k : Nat) : (srcTo T p right k).length ≤ k - 1 := by
  induction k with
  | zero => exact Nat.le_refl _
  | succ k ih =>
    simp only [srcTo, List.length_append]
    split
    · rename_i h; simp; omega
    · simp; omega
theorem srcTo_mem {T : Tre} {p : Nat} {right : Int} {x : Int} : ∀ k, x ∈ srcTo T p right k ↔ ∃ j : Nat, 1 ≤ j ∧ j < k ∧ x = (j : Nat) ∧ SrcP T p right (j : Nat) := by
  intro k
  induction k with
  | zero => simp [srcTo]
  | succ k ih =>
    simp only [srcTo, List.mem_append, ih]
    constructor
    · rintro (⟨j, h1, h2, h3, h4⟩ | h)
      · exact ⟨j, h1, by omega, h3, h4⟩
      · split at h
        · rename_i hd; exact ⟨k, hd.1, Nat.lt_succ_self _, by simpa using h, hd.2⟩
        · cases h
    · rintro ⟨j, h1, h2, h3, h4⟩
      by_cases e : j = k
      · subst e; right; rw [if_pos ⟨h1, h4⟩, h3]; exact List.mem_cons_self ..
      · exact .inl ⟨j, h1, by omega, h3, h4⟩
/-- How many errors there are at a place, and the last one. -/
def cnt (p : Int) : List (Int × Int) → Int → Int → Int × Int
  | [], n, a => (n, a)
  | e :: l, n, a => if e.2 = p then cnt p l (n + 1) e.1 else cnt p l n a
theorem cnt_ge {p : Int} : ∀ (l : List (Int × Int)) (n a : Int), n ≤ (cnt p l n a).1 ∧ ((cnt p l n a).1 = n → (cnt p l n a).2 = a ∧ ∀ e ∈ l, e.2 ≠ p) := by
  intro l
  induction l with
  | nil => intro n a; exact ⟨Int.le_refl _, fun _ => ⟨rfl, fun e he => by cases he⟩⟩
  | cons e l ih =>
    intro n a
    simp only [cnt]
    by_cases h : e.2 = p
    · rw [if_pos h]
      have := ih (n + 1) e.1
      exact ⟨by omega, fun q => by omega⟩
    · rw [if_neg h]
      obtain ⟨h1, h2⟩ := ih n a
      refine ⟨h1, fun q => ⟨(h2 q).1, fun e' he' => ?_⟩⟩
      rcases List.mem_cons.1 he' with rfl | he'
      · exact h
      · exact (h2 q).2 e' he'
theorem cnt_one {p : Int} : ∀ (l : List (Int × Int)) (a : Int), (cnt p l 0 a).1 = 1 → ((cnt p l 0 a).2, p) ∈ l ∧ ∀ e ∈ l, e.2 = p → e.1 = (cnt p l 0 a).2 := by
  intro l
  induction l with
  | nil => intro a h; cases h
  | cons e l ih =>
    intro a h
    simp only [cnt] at h ⊢
    by_cases hp : e.2 = p
    · rw [if_pos hp] at h ⊢
      obtain ⟨h1, h2⟩ := (cnt_ge (p := p) l (0 + 1) e.1).2 (by omega)
      rw [h1]
      refine ⟨by rw [← hp]; exact List.mem_cons_self .., fun e' he' hq => ?_⟩
      rcases List.mem_cons.1 he' with rfl | he'
      · rfl
      · exact absurd hq (h2 e' he')
    · rw [if_neg hp] at h ⊢
      obtain ⟨h1, h2⟩ := ih a h
      refine ⟨List.mem_cons_of_mem _ h1, fun e' he' hq => ?_⟩
      rcases List.mem_cons.1 he' with rfl | he'
      · exact absurd hq hp
      · exact h2 e' he' hq
theorem single_src {T : Tre} {L : Lis} (hP : TreeP T) (hS : StoryP T L) {p : Nat} (hp : (p : Int) < T.places) {at' : Int} (h1 : (at', (p : Int)) ∈ errI T L) (h2 : ∀ e ∈ errI T L, e.2 = (p : Int) → e.1 = at') :
    at' ∈ srcTo T p (figI L 0 p) T.c.length := by
  have hc8 := hP.2.1
  have hfig := hS.2.1
  obtain ⟨a, q, ha, hq, heq, hd⟩ := (errTo_mem _).1 h1
  simp only [Prod.mk.injEq] at heq
  obtain ⟨rfl, heq⟩ := heq
  obtain rfl : p = q := by omega
  have ha1 : 1 ≤ a := by
    rcases Nat.eq_zero_or_pos a with h | h
    · subst h
      have := (par_of hP (k := 0) (by omega)).2
      rw [show parN T.c 0 = 0 from by omega] at hd
      exact absurd rfl hd
    · exact h
  have same : ∀ i, i < T.c.length → i ≠ a → figI L i p = figI L (parN T.c i) p := fun i hi hne => by
    apply Classical.byContradiction
    intro hc
    have := h2 ((i : Int), (p : Int)) ((errTo_mem _).2 ⟨i, p, hi, hq, rfl, hc⟩) rfl
    simp only at this
    omega
  have all : ∀ i, i < T.c.length → (Comes T i (a : Nat) ∧ figI L i p = figI L a p) ∨ (¬ Comes T i (a : Nat) ∧ figI L i p = figI L 0 p) := by
    intro i
    induction i using Nat.strongRecOn with
    | ind i ih =>
      intro hi
      by_cases hia : i = a
      · subst hia; exact .inl ⟨path_self _ _, rfl⟩
      · by_cases h0 : i = 0
        · subst h0
          exact .inr ⟨fun q => by have := comes_zero _ q; omega, rfl⟩
        · have hp' := (par_of hP hi).2
          have e := same i hi hia
          have hpath : pathI T.c i = (i : Int) :: pathI T.c (parN T.c i) := pathI_pos hP hi (by omega)
          rcases ih (parN T.c i) (by omega) (by omega) with ⟨c1, c2⟩ | ⟨c1, c2⟩
          · exact .inl ⟨by unfold Comes; rw [hpath]; exact List.mem_cons_of_mem _ c1, e.trans c2⟩
          · refine .inr ⟨fun q => ?_, e.trans c2⟩
            unfold Comes at q
            rw [hpath, List.mem_cons] at q
            rcases q with q | q
            · omega
            · exact c1 q
  refine (srcTo_mem _).2 ⟨a, ha1, ha, rfl, figI L a p, ?_, ?_, fun i hi => ?_⟩
  · have := (hfig a ha).1
    exact (hfig a ha).2 p (by omega)
  · have hpl := (par_of hP ha).2
    have hnc : ¬ Comes T (parN T.c a) (a : Nat) := fun q => by have := path_le _ _ q; omega
    rcases all (parN T.c a) (by omega) with ⟨c1, _⟩ | ⟨_, c2⟩
    · exact absurd c1 hnc
    · rw [← c2]; exact hd
  · have hag := hS.2.2 i hi p (by have := (hP.2.2 i hi).2.1; omega)
    rcases hag with q | q
    · exact .inl q
    · have q' : snI T p i = figI L i p := q
      rcases all i hi with ⟨c1, c2⟩ | ⟨c1, c2⟩
      · exact .inr (.inl ⟨c1, q'.trans c2⟩)
      · exact .inr (.inr ⟨c1, q'.trans c2⟩)
theorem src_from {T : Tre} {p a : Nat} {good : Int} (ha : a < T.c.length) (h0 : 0 ≤ snI T p a) (hne : snI T p a ≠ good) {x : Int} (hx : x ∈ srcTo T p good T.c.length) : x ∈ pathI T.c a := by
  obtain ⟨j, h1, h2, rfl, f, h3, h4, h5⟩ := (srcTo_mem _).1 hx
  rcases h5 a ha with q | ⟨q, _⟩ | ⟨_, q⟩
  · omega
  · exact q
  · exact absurd q hne
end Go.AX.Sa
