/- Paths, and what two of them share. -/
import Derived.Test.YtbhocbogedodnaaGreatDoorSwA
namespace Go.AX.Sa
open Go.Proofs
set_option maxRecDepth 100000
variable {K : Known}
/-! Paths. -/
def parN (c : List Cop) (k : Nat) : Nat := (c.getD k cop0).par.toNat
def pathI (c : List Cop) : Nat → List Int
  | 0 => [0]
  | k + 1 => ((k + 1 : Nat) : Int) :: pathI c (min (parN c (k + 1)) k)
termination_by k => k
decreasing_by omega
theorem pathI_zero (c : List Cop) : pathI c 0 = [0] := by rw [pathI]
theorem par_of {T : Tre} (hP : TreeP T) {k : Nat} (hk : k < T.c.length) : (T.c.getD k cop0).par = (parN T.c k : Nat) ∧ parN T.c k ≤ k - 1 := by
  have := (hP.2.2 k hk).1
  unfold parN
  omega
theorem pathI_pos {T : Tre} (hP : TreeP T) {k : Nat} (hk : k < T.c.length) (h0 : 0 < k) : pathI T.c k = (k : Int) :: pathI T.c (parN T.c k) := by
  have := par_of hP hk
  match k, h0 with
  | k + 1, _ => rw [pathI, Nat.min_eq_left (by omega)]
def PathV (T : Tre) (a : Nat) (h : Heap) (v : Value) (h1 : Heap) : Prop := ∃ b1 b2, v = .func (.func 103) #[] #[.pointer (some ⟨b1, 0, none⟩), .pointer (some ⟨b2, 0, none⟩)] ∧
  h1.get? b1 = some (.cells [.int .i64 (a : Nat)] 3 true) ∧ h1.get? b2 = some (.cells [.int .i64 T.places, .slice T.p T.c.length T.k] 24 true) ∧ h.n ≤ b1 ∧ h.n ≤ b2 ∧ Ext h h1
theorem path_ok (hK : NoK K) {T : Tre} {a : Nat} {h : Heap} : CallW Tryz.prog K 67 #[treV T, .int .i64 (a : Nat)] h (PathV T a h) := by
  obtain ⟨p, kc, pl, c⟩ := T
  dsimp only [treV]
  refine body (N := 6) Tryz.func67 rfl (hK _ _ _ rfl) rfl rfl ?_
  (repeat' (first | (apply K_seq) | (apply K_region) | (apply O_at; rfl) | (apply O_fin; rfl) | (apply C_seq) | (apply K_ret) | (apply C_nil) | (apply P_assign; rfl; rfl; rfl; rfl) | (apply P_makeFunc; rfl; rfl; rfl; rfl; rfl) | (apply P_box; rfl; rfl; rfl; rfl; exact sz_ok rfl; rfl; rfl) | fail))
  exact ⟨.inr rfl, _, rfl, _, _, rfl, get_push_same, get_push_old get_push_same, by simp only [Heap.push]; omega, Nat.le_refl _, by (focus repeat' first | exact Ext.refl _ | assumption | apply Ext.push)⟩
theorem path1_ok (_hK : NoK K) {T : Tre} {b1 b2 l a : Nat} {h : Heap} (J : Nat → Heap → Prop) (Fin : Heap → Prop) (hP : TreeP T)
    (hm : ∀ a h', J a h' → h'.get? b2 = some (.cells [.int .i64 T.places, .slice T.p T.c.length T.k] 24 true) ∧ TreAt T h')
    (hr : ∀ a h', a < T.c.length → J a h' → RoundW Tryz.prog K l #[.int .i64 (a : Nat)] h' (fun r h1 => (r = .bool true ∧ (a = 0 → Fin h1) ∧ (0 < a → J (parN T.c a) h1)) ∨ (r = .bool false ∧ Fin h1)))
    (hg1 : h.get? b1 = some (.cells [.int .i64 (a : Nat)] 3 true)) (hJ : J a h) (ha : a < T.c.length) (hk : K 103 #[.func (.yield l) #[] #[], .pointer (some ⟨b1, 0, none⟩), .pointer (some ⟨b2, 0, none⟩)] h = none) :
    CallW Tryz.prog K 103 #[.func (.yield l) #[] #[], .pointer (some ⟨b1, 0, none⟩), .pointer (some ⟨b2, 0, none⟩)] h (fun _ h1 => Fin h1) := by
  have hlen := hP.2.1
  refine body (N := 19) Tryz.func103 rfl hk rfl rfl ?_
  (repeat' (first | (apply K_seq) | (apply K_region) | (apply O_at; rfl) | (apply O_fin; rfl) | (apply C_seq) | (apply K_ifT; rfl) | (apply K_ifF; rfl) | (apply K_block) | (apply K_skip) | (apply K_exit) | (apply C_exit) | (apply C_exitS) | (apply C_exitL) | (apply C_blockN) | (apply C_nil) | (apply P_skip; rfl; rfl; rfl) | (apply P_move; rfl; rfl; rfl; rfl) | (apply P_assign; rfl; rfl; rfl; rfl) | (apply P_fa; rfl; rfl; rfl; rfl; exact fo_ok rfl; (first | exact Nat.zero_add _ | exact Nat.add_zero _ | rfl)) | (apply P_pick; rfl; rfl; rfl; rfl; rfl; rfl) | (apply P_gtrF; rfl; rfl; rfl; rfl; rfl; omega) | (apply P_gtrT; rfl; rfl; rfl; rfl; rfl; omega) | (apply P_idxB; rfl; rfl; rfl; rfl; rfl; exact un_ok rfl; exact sz_ok rfl; (first | rfl | exact (Int.toNat_of_nonneg (by omega)).symm); omega) | (apply P_load1; rfl; rfl; rfl; rfl; exact on_ok rfl; (focus repeat' first | assumption); (first | exact cops_par (by omega) | rfl | assumption)) | fail))
  refine K_loopE (fun a : Nat => [(4, .int .i64 (a : Nat)), (0, .func (.yield l) #[] #[]), (2, .pointer (some ⟨b2, 0, none⟩))]) (fun a h' => a < T.c.length ∧ J a h') (fun a => a) ?_ a ⟨ha, hJ⟩ ?_
  · intro a h' ⟨ha, hJ⟩ ih
    (repeat' (first | (apply K_seq) | (apply K_region) | (apply O_at; rfl) | (apply O_fin; rfl) | (apply C_seq) | (apply K_ifT; rfl) | (apply K_ifF; rfl) | (apply K_block) | (apply K_skip) | (apply K_exit) | (apply C_exit) | (apply C_exitS) | (apply C_exitL) | (apply C_blockN) | (apply C_nil) | (apply P_skip; rfl; rfl; rfl) | (apply P_move; rfl; rfl; rfl; rfl) | (apply P_assign; rfl; rfl; rfl; rfl) | (apply P_fa; rfl; rfl; rfl; rfl; exact fo_ok rfl; (first | exact Nat.zero_add _ | exact Nat.add_zero _ | rfl)) | (apply P_pick; rfl; rfl; rfl; rfl; rfl; rfl) | (apply P_gtrF; rfl; rfl; rfl; rfl; rfl; omega) | (apply P_gtrT; rfl; rfl; rfl; rfl; rfl; omega) | (apply P_idxB; rfl; rfl; rfl; rfl; rfl; exact un_ok rfl; exact sz_ok rfl; (first | rfl | exact (Int.toNat_of_nonneg (by omega)).symm); omega) | (apply P_load1; rfl; rfl; rfl; rfl; exact on_ok rfl; (focus repeat' first | assumption); (first | exact cops_par (by omega) | rfl | assumption)) | fail))
    apply P_yield; rfl; rfl; rfl; rfl; rfl; exact hr a h' ha hJ
    rintro _ h1 (⟨rfl, q0, q1⟩ | ⟨rfl, qF⟩)
    · by_cases h0 : a = 0
      · subst h0
        (repeat' (first | (apply K_seq) | (apply K_region) | (apply O_at; rfl) | (apply O_fin; rfl) | (apply C_seq) | (apply K_ifT; rfl) | (apply K_ifF; rfl) | (apply K_block) | (apply K_skip) | (apply K_exit) | (apply C_exit) | (apply C_exitS) | (apply C_exitL) | (apply C_blockN) | (apply C_nil) | (apply P_skip; rfl; rfl; rfl) | (apply P_move; rfl; rfl; rfl; rfl) | (apply P_assign; rfl; rfl; rfl; rfl) | (apply P_fa; rfl; rfl; rfl; rfl; exact fo_ok rfl; (first | exact Nat.zero_add _ | exact Nat.add_zero _ | rfl)) | (apply P_pick; rfl; rfl; rfl; rfl; rfl; rfl) | (apply P_gtrF; rfl; rfl; rfl; rfl; rfl; omega) | (apply P_gtrT; rfl; rfl; rfl; rfl; rfl; omega) | (apply P_idxB; rfl; rfl; rfl; rfl; rfl; exact un_ok rfl; exact sz_ok rfl; (first | rfl | exact (Int.toNat_of_nonneg (by omega)).symm); omega) | (apply P_load1; rfl; rfl; rfl; rfl; exact on_ok rfl; (focus repeat' first | assumption); (first | exact cops_par (by omega) | rfl | assumption)) | fail))
        exact ⟨.inl rfl, _, rfl, q0 rfl⟩
      · have J2 := q1 (by omega)
        obtain ⟨g2, tA⟩ := hm _ _ J2
        obtain ⟨e1, e2⟩ := par_of hP ha
        obtain ⟨b, e, own', hb, hg⟩ := tA.rc.at (by rw [cops_len]; omega)
        rw [hb] at g2
        (repeat' (first | (apply K_seq) | (apply K_region) | (apply O_at; rfl) | (apply O_fin; rfl) | (apply C_seq) | (apply K_ifT; rfl) | (apply K_ifF; rfl) | (apply K_block) | (apply K_skip) | (apply K_exit) | (apply C_exit) | (apply C_exitS) | (apply C_exitL) | (apply C_blockN) | (apply C_nil) | (apply P_skip; rfl; rfl; rfl) | (apply P_move; rfl; rfl; rfl; rfl) | (apply P_assign; rfl; rfl; rfl; rfl) | (apply P_fa; rfl; rfl; rfl; rfl; exact fo_ok rfl; (first | exact Nat.zero_add _ | exact Nat.add_zero _ | rfl)) | (apply P_pick; rfl; rfl; rfl; rfl; rfl; rfl) | (apply P_gtrF; rfl; rfl; rfl; rfl; rfl; omega) | (apply P_gtrT; rfl; rfl; rfl; rfl; rfl; omega) | (apply P_idxB; rfl; rfl; rfl; rfl; rfl; exact un_ok rfl; exact sz_ok rfl; (first | rfl | exact (Int.toNat_of_nonneg (by omega)).symm); omega) | (apply P_load1; rfl; rfl; rfl; rfl; exact on_ok rfl; (focus repeat' first | assumption); (first | exact cops_par (by omega) | rfl | assumption)) | fail))
        rw [e1]
        refine C_again (ih (parN T.c a) h1 ?_ ⟨?_, J2⟩) ?_
        · omega
        · omega
        · (focus repeat' first | rfl | exact trivial | apply And.intro)
    · (repeat' (first | (apply K_seq) | (apply K_region) | (apply O_at; rfl) | (apply O_fin; rfl) | (apply C_seq) | (apply K_ifT; rfl) | (apply K_ifF; rfl) | (apply K_block) | (apply K_skip) | (apply K_exit) | (apply C_exit) | (apply C_exitS) | (apply C_exitL) | (apply C_blockN) | (apply C_nil) | (apply P_skip; rfl; rfl; rfl) | (apply P_move; rfl; rfl; rfl; rfl) | (apply P_assign; rfl; rfl; rfl; rfl) | (apply P_fa; rfl; rfl; rfl; rfl; exact fo_ok rfl; (first | exact Nat.zero_add _ | exact Nat.add_zero _ | rfl)) | (apply P_pick; rfl; rfl; rfl; rfl; rfl; rfl) | (apply P_gtrF; rfl; rfl; rfl; rfl; rfl; omega) | (apply P_gtrT; rfl; rfl; rfl; rfl; rfl; omega) | (apply P_idxB; rfl; rfl; rfl; rfl; rfl; exact un_ok rfl; exact sz_ok rfl; (first | rfl | exact (Int.toNat_of_nonneg (by omega)).symm); omega) | (apply P_load1; rfl; rfl; rfl; rfl; exact on_ok rfl; (focus repeat' first | assumption); (first | exact cops_par (by omega) | rfl | assumption)) | fail))
      exact ⟨.inl rfl, _, rfl, qF⟩
  · (focus repeat' first | rfl | exact trivial | apply And.intro)
theorem comesFrom_ok (hK : NoK K) {T : Tre} {a : Nat} {o : Int} {h : Heap} (hT : TreAt T h) (hP : TreeP T) (ha : a < T.c.length) :
    CallW Tryz.prog K 104 #[treV T, .int .i64 (a : Nat), .int .i64 o] h (IfB (o ∈ pathI T.c a) h) := by
  have hT0 := hT
  obtain ⟨p, kc, pl, c⟩ := T
  dsimp only [treV] at ha ⊢
  refine body_rangeE (N := 15) 2 Tryz.func104 rfl (hK _ _ _ rfl) rfl rfl (by rfl) (by rfl) ?_
  (repeat' (first | (apply K_seq) | (apply K_region) | (apply O_at; rfl) | (apply O_fin; rfl) | (apply C_seq) | (apply K_ifT; rfl) | (apply K_ifF; rfl) | (apply K_block) | (apply K_skip) | (apply K_ret) | (apply C_retS) | (apply C_retB) | (apply C_blockN) | (apply C_nil) | (apply P_move; rfl; rfl; rfl; rfl) | (apply P_assign; rfl; rfl; rfl; rfl) | (apply P_eql; rfl; rfl; rfl; rfl; rfl; all_goals intro _) | (apply P_load1; rfl; rfl; rfl; rfl; exact on_ok rfl; (focus repeat' first | exact get_push_same | assumption | apply get_push_old | (apply Ext.get; assumption) | (apply ExtBut.get; assumption; assumption)); (first | rfl | assumption)) | (apply P_loadA; rfl; rfl; rfl; rfl; exact ag_ok rfl; (focus repeat' first | exact get_push_same | assumption | apply get_push_old | (apply Ext.get; assumption) | (apply ExtBut.get; assumption; assumption)); (first | exact Nat.le_of_ble_eq_true rfl | (simp; done) | (simp; omega)); rfl) | (apply P_box; rfl; rfl; rfl; rfl; exact sz_ok rfl; rfl; rfl) | (apply P_alloc; rfl; rfl; rfl; rfl; exact sz_ok rfl; rfl; rfl) | fail))
  apply P_call; rfl; rfl; rfl; rfl; rfl; rfl; exact path_ok (T := ⟨p, kc, pl, c⟩) hK
  rintro _ h6 ⟨b1, b2, rfl, g1, g2, n1, n2, x6⟩
  have g5 := x6.get (b := h.n + 1) (x := .cells [.int .i64 o] 3 true) (get_push_old get_push_same)
  have gr := x6.get (b := h.n + 1 + 1) (x := .cells [.bool false] 4 true) get_push_same
  have x06 : Ext h h6 := by (focus repeat' first | exact Ext.refl _ | assumption | apply Ext.push | (refine Ext.trans ?_ (by assumption)))
  have n06 : h.n + 3 ≤ h6.n := x6.n
  have n1' : h.n + 3 ≤ b1 := n1
  have n2' : h.n + 3 ≤ b2 := n2
  have l1 := Heap.get_lt g1
  have l2 := Heap.get_lt g2
  clear x6
  (repeat' (first | (apply K_seq) | (apply K_region) | (apply O_at; rfl) | (apply O_fin; rfl) | (apply C_seq) | (apply K_ifT; rfl) | (apply K_ifF; rfl) | (apply K_block) | (apply K_skip) | (apply K_ret) | (apply C_retS) | (apply C_retB) | (apply C_blockN) | (apply C_nil) | (apply P_move; rfl; rfl; rfl; rfl) | (apply P_assign; rfl; rfl; rfl; rfl) | (apply P_eql; rfl; rfl; rfl; rfl; rfl; all_goals intro _) | (apply P_load1; rfl; rfl; rfl; rfl; exact on_ok rfl; (focus repeat' first | exact get_push_same | assumption | apply get_push_old | (apply Ext.get; assumption) | (apply ExtBut.get; assumption; assumption)); (first | rfl | assumption)) | (apply P_loadA; rfl; rfl; rfl; rfl; exact ag_ok rfl; (focus repeat' first | exact get_push_same | assumption | apply get_push_old | (apply Ext.get; assumption) | (apply ExtBut.get; assumption; assumption)); (first | exact Nat.le_of_ble_eq_true rfl | (simp; done) | (simp; omega)); rfl) | (apply P_box; rfl; rfl; rfl; rfl; exact sz_ok rfl; rfl; rfl) | (apply P_alloc; rfl; rfl; rfl; rfl; exact sz_ok rfl; rfl; rfl) | fail))
  refine .inr ⟨rfl, _, #[], _, rfl, rfl, fun tm l hb r hE hrd hle hxb hbn hlb hdb => ?_⟩
  have key := path1_ok (K := K) (T := ⟨p, kc, pl, c⟩) (b1 := b1) (b2 := b2) (l := l) (a := a) (h := hb) hK
    (fun a' h' => (o ∈ pathI c a ↔ o ∈ pathI c a') ∧ Ext h h' ∧ hb.n ≤ h'.n ∧ h'.get? b1 = some (.cells [.int .i64 (a : Nat)] 3 true) ∧ h'.get? b2 = some (.cells [.int .i64 pl, .slice p c.length kc] 24 true) ∧ h'.get? (h.n + 1) = some (.cells [.int .i64 o] 3 true) ∧ h'.get? (h.n + 1 + 1) = some (.cells [.bool false] 4 true) ∧ h'.get? l = some (.obj (.loop r)) ∧ h'.get? h6.n = some (.obj (.deferred (some []))))
    (fun h' => ∃ pd, ((o ∈ pathI c a ∧ pd = some .ret ∧ h'.get? (h.n + 1 + 1) = some (.cells [.bool true] 4 true)) ∨ (¬ o ∈ pathI c a ∧ pd = none ∧ h'.get? (h.n + 1 + 1) = some (.cells [.bool false] 4 true))) ∧ Ext h h' ∧ hb.n ≤ h'.n ∧ h'.get? l = some (.obj (.loop (left r pd))) ∧ h'.get? h6.n = some (.obj (.deferred (some []))))
    hP ?_ ?_ (hxb.get g1) ?_ ha (hK _ _ _ rfl)
  · refine key.mono ?_
    rintro _ h2 ⟨pd, hc, hx2, hn2, hl2, hd2⟩
    refine ⟨pd, hl2, fun h2' hk2 hn2' => ?_⟩
    have hx2' : Ext h h2' := hx2.keep1 (l := l) hk2 (by (first | omega | (simp only [Heap.push]; omega))) (by (first | omega | (simp only [Heap.push]; omega)))
    have hd2' := hk2 _ _ (by (first | omega | (simp only [Heap.push]; omega))) hd2
    rcases hc with ⟨hin, rfl, hg⟩ | ⟨hin, rfl, hg⟩
    · have hg' := hk2 _ _ (by (first | omega | (simp only [Heap.push]; omega))) hg
      (repeat' (first | (apply K_seq) | (apply K_region) | (apply O_at; rfl) | (apply O_fin; rfl) | (apply C_seq) | (apply K_ifT; rfl) | (apply K_ifF; rfl) | (apply K_block) | (apply K_skip) | (apply K_ret) | (apply C_retS) | (apply C_retB) | (apply C_blockN) | (apply C_nil) | (apply P_move; rfl; rfl; rfl; rfl) | (apply P_assign; rfl; rfl; rfl; rfl) | (apply P_eql; rfl; rfl; rfl; rfl; rfl; all_goals intro _) | (apply P_load1; rfl; rfl; rfl; rfl; exact on_ok rfl; (focus repeat' first | exact get_push_same | assumption | apply get_push_old | (apply Ext.get; assumption) | (apply ExtBut.get; assumption; assumption)); (first | rfl | assumption)) | (apply P_loadA; rfl; rfl; rfl; rfl; exact ag_ok rfl; (focus repeat' first | exact get_push_same | assumption | apply get_push_old | (apply Ext.get; assumption) | (apply ExtBut.get; assumption; assumption)); (first | exact Nat.le_of_ble_eq_true rfl | (simp; done) | (simp; omega)); rfl) | (apply P_box; rfl; rfl; rfl; rfl; exact sz_ok rfl; rfl; rfl) | (apply P_alloc; rfl; rfl; rfl; rfl; exact sz_ok rfl; rfl; rfl) | fail))
      refine ⟨.inr rfl, hd2', fun h4 hk4 hn4 => ⟨_, resE_c rfl (read1 (on_ok rfl) (hk4 _ _ (by (first | omega | (simp only [Heap.push]; omega))) hg') rfl) rfl, .inl ⟨rfl, hin, ?_⟩⟩⟩
      exact hx2'.keep1 (l := h6.n) hk4 (by (first | omega | (simp only [Heap.push]; omega))) (by (first | omega | (simp only [Heap.push]; omega)))
    · have hg' := hk2 _ _ (by (first | omega | (simp only [Heap.push]; omega))) hg
      (repeat' (first | (apply K_seq) | (apply K_region) | (apply O_at; rfl) | (apply O_fin; rfl) | (apply C_seq) | (apply K_ifT; rfl) | (apply K_ifF; rfl) | (apply K_block) | (apply K_skip) | (apply K_ret) | (apply C_retS) | (apply C_retB) | (apply C_blockN) | (apply C_nil) | (apply P_move; rfl; rfl; rfl; rfl) | (apply P_assign; rfl; rfl; rfl; rfl) | (apply P_eql; rfl; rfl; rfl; rfl; rfl; all_goals intro _) | (apply P_load1; rfl; rfl; rfl; rfl; exact on_ok rfl; (focus repeat' first | exact get_push_same | assumption | apply get_push_old | (apply Ext.get; assumption) | (apply ExtBut.get; assumption; assumption)); (first | rfl | assumption)) | (apply P_loadA; rfl; rfl; rfl; rfl; exact ag_ok rfl; (focus repeat' first | exact get_push_same | assumption | apply get_push_old | (apply Ext.get; assumption) | (apply ExtBut.get; assumption; assumption)); (first | exact Nat.le_of_ble_eq_true rfl | (simp; done) | (simp; omega)); rfl) | (apply P_box; rfl; rfl; rfl; rfl; exact sz_ok rfl; rfl; rfl) | (apply P_alloc; rfl; rfl; rfl; rfl; exact sz_ok rfl; rfl; rfl) | fail))
      refine P_storeC (c' := [.bool false]) rfl rfl rfl rfl hg' (sz_ok rfl) rfl (Nat.le_of_ble_eq_true rfl) rfl rfl ?_
      intro h3 g3 x3
      (repeat' (first | (apply K_seq) | (apply K_region) | (apply O_at; rfl) | (apply O_fin; rfl) | (apply C_seq) | (apply K_ifT; rfl) | (apply K_ifF; rfl) | (apply K_block) | (apply K_skip) | (apply K_ret) | (apply C_retS) | (apply C_retB) | (apply C_blockN) | (apply C_nil) | (apply P_move; rfl; rfl; rfl; rfl) | (apply P_assign; rfl; rfl; rfl; rfl) | (apply P_eql; rfl; rfl; rfl; rfl; rfl; all_goals intro _) | (apply P_load1; rfl; rfl; rfl; rfl; exact on_ok rfl; (focus repeat' first | exact get_push_same | assumption | apply get_push_old | (apply Ext.get; assumption) | (apply ExtBut.get; assumption; assumption)); (first | rfl | assumption)) | (apply P_loadA; rfl; rfl; rfl; rfl; exact ag_ok rfl; (focus repeat' first | exact get_push_same | assumption | apply get_push_old | (apply Ext.get; assumption) | (apply ExtBut.get; assumption; assumption)); (first | exact Nat.le_of_ble_eq_true rfl | (simp; done) | (simp; omega)); rfl) | (apply P_box; rfl; rfl; rfl; rfl; exact sz_ok rfl; rfl; rfl) | (apply P_alloc; rfl; rfl; rfl; rfl; exact sz_ok rfl; rfl; rfl) | fail))
      have hd3 := x3.get (by (first | omega | (simp only [Heap.push]; omega))) hd2'
      refine ⟨.inr rfl, hd3, fun h4 hk4 hn4 => ⟨_, resE_c rfl (read1 (on_ok rfl) (hk4 _ _ (by (first | omega | (simp only [Heap.push]; omega))) g3) rfl) rfl, .inr ⟨rfl, hin, ?_⟩⟩⟩
      exact (Ext.ofBut hx2' x3 (by (first | omega | (simp only [Heap.push]; omega)))).keep1 (l := h6.n) hk4 (by (first | omega | (simp only [Heap.push]; omega))) (by (first | omega | (simp only [Heap.push]; omega)))
  · rintro a' h' ⟨hiff, hx, hn, q1, q2, q5, qr, ql, qd⟩
    exact ⟨q2, hT0.ext hx⟩
  · rintro a' h' ha' ⟨hiff, hx, hn, q1, q2, q5, qr, ql, qd⟩
    refine round_ofE (N := 15) ql hrd rfl (EnvOK.param hE rfl) ?_
    (repeat' (first | (apply K_seq) | (apply K_region) | (apply O_at; rfl) | (apply O_fin; rfl) | (apply C_seq) | (apply K_ifT; rfl) | (apply K_ifF; rfl) | (apply K_block) | (apply K_skip) | (apply K_ret) | (apply C_retS) | (apply C_retB) | (apply C_blockN) | (apply C_nil) | (apply P_move; rfl; rfl; rfl; rfl) | (apply P_assign; rfl; rfl; rfl; rfl) | (apply P_eql; rfl; rfl; rfl; rfl; rfl; all_goals intro _) | (apply P_load1; rfl; rfl; rfl; rfl; exact on_ok rfl; (focus repeat' first | exact get_push_same | assumption | apply get_push_old | (apply Ext.get; assumption) | (apply ExtBut.get; assumption; assumption)); (first | rfl | assumption)) | (apply P_loadA; rfl; rfl; rfl; rfl; exact ag_ok rfl; (focus repeat' first | exact get_push_same | assumption | apply get_push_old | (apply Ext.get; assumption) | (apply ExtBut.get; assumption; assumption)); (first | exact Nat.le_of_ble_eq_true rfl | (simp; done) | (simp; omega)); rfl) | (apply P_box; rfl; rfl; rfl; rfl; exact sz_ok rfl; rfl; rfl) | (apply P_alloc; rfl; rfl; rfl; rfl; exact sz_ok rfl; rfl; rfl) | fail))
    refine ⟨rfl, ql, fun B hs hsl hsk hsn => ?_⟩
    have q5' := hsk _ _ (by (first | omega | (simp only [Heap.push]; omega))) q5
    have hxs : Ext h hs := hx.keep1 (l := l) hsk (by (first | omega | (simp only [Heap.push]; omega))) (by (first | omega | (simp only [Heap.push]; omega)))
    (repeat' (first | (apply K_seq) | (apply K_region) | (apply O_at; rfl) | (apply O_fin; rfl) | (apply C_seq) | (apply K_ifT; rfl) | (apply K_ifF; rfl) | (apply K_block) | (apply K_skip) | (apply K_ret) | (apply C_retS) | (apply C_retB) | (apply C_blockN) | (apply C_nil) | (apply P_move; rfl; rfl; rfl; rfl) | (apply P_assign; rfl; rfl; rfl; rfl) | (apply P_eql; rfl; rfl; rfl; rfl; rfl; all_goals intro _) | (apply P_load1; rfl; rfl; rfl; rfl; exact on_ok rfl; (focus repeat' first | exact get_push_same | assumption | apply get_push_old | (apply Ext.get; assumption) | (apply ExtBut.get; assumption; assumption)); (first | rfl | assumption)) | (apply P_loadA; rfl; rfl; rfl; rfl; exact ag_ok rfl; (focus repeat' first | exact get_push_same | assumption | apply get_push_old | (apply Ext.get; assumption) | (apply ExtBut.get; assumption; assumption)); (first | exact Nat.le_of_ble_eq_true rfl | (simp; done) | (simp; omega)); rfl) | (apply P_box; rfl; rfl; rfl; rfl; exact sz_ok rfl; rfl; rfl) | (apply P_alloc; rfl; rfl; rfl; rfl; exact sz_ok rfl; rfl; rfl) | fail))
    · rename_i heq
      refine P_storeC (c' := [.bool true]) rfl rfl rfl rfl (hsk _ _ (by (first | omega | (simp only [Heap.push]; omega))) qr) (sz_ok rfl) rfl (Nat.le_of_ble_eq_true rfl) rfl rfl ?_
      intro h3 g3 x3
      have n3 := x3.n
      (repeat' (first | (apply K_seq) | (apply K_region) | (apply O_at; rfl) | (apply O_fin; rfl) | (apply C_seq) | (apply K_ifT; rfl) | (apply K_ifF; rfl) | (apply K_block) | (apply K_skip) | (apply K_ret) | (apply C_retS) | (apply C_retB) | (apply C_blockN) | (apply C_nil) | (apply P_move; rfl; rfl; rfl; rfl) | (apply P_assign; rfl; rfl; rfl; rfl) | (apply P_eql; rfl; rfl; rfl; rfl; rfl; all_goals intro _) | (apply P_load1; rfl; rfl; rfl; rfl; exact on_ok rfl; (focus repeat' first | exact get_push_same | assumption | apply get_push_old | (apply Ext.get; assumption) | (apply ExtBut.get; assumption; assumption)); (first | rfl | assumption)) | (apply P_loadA; rfl; rfl; rfl; rfl; exact ag_ok rfl; (focus repeat' first | exact get_push_same | assumption | apply get_push_old | (apply Ext.get; assumption) | (apply ExtBut.get; assumption; assumption)); (first | exact Nat.le_of_ble_eq_true rfl | (simp; done) | (simp; omega)); rfl) | (apply P_box; rfl; rfl; rfl; rfl; exact sz_ok rfl; rfl; rfl) | (apply P_alloc; rfl; rfl; rfl; rfl; exact sz_ok rfl; rfl; rfl) | fail))
      refine ⟨x3.get (by (first | omega | (simp only [Heap.push]; omega))) hsl, _, rfl, fun hf hfl hfk hfn => .inr ⟨rfl, _, .inl ⟨?_, rfl, hfk _ _ (by (first | omega | (simp only [Heap.push]; omega))) g3⟩, ?_, by (first | omega | (simp only [Heap.push]; omega)), hfl, hfk _ _ (by (first | omega | (simp only [Heap.push]; omega))) (x3.get (by (first | omega | (simp only [Heap.push]; omega))) (hsk _ _ (by (first | omega | (simp only [Heap.push]; omega))) qd))⟩⟩
      · rw [hiff, ← heq]
        match a', ha' with
        | 0, _ => rw [pathI_zero]; exact List.mem_cons_self ..
        | a' + 1, _ => rw [pathI]; exact List.mem_cons_self ..
      · exact (Ext.ofBut hxs x3 (by (first | omega | (simp only [Heap.push]; omega)))).keep1 (l := l) hfk (by (first | omega | (simp only [Heap.push]; omega))) (by (first | omega | (simp only [Heap.push]; omega)))
    · rename_i heq
      refine ⟨hsl, none, rfl, fun hf hfl hfk hfn => ?_⟩
      rw [left_none hrd] at hfl
      have hxf : Ext h hf := hxs.keep1 (l := l) hfk (by (first | omega | (simp only [Heap.push]; omega))) (by (first | omega | (simp only [Heap.push]; omega)))
      have keepf : ∀ b y, b ≠ l → h'.get? b = some y → hf.get? b = some y := fun b y q g => hfk b y q (hsk b y q g)
      refine .inl ⟨rfl, fun h0 => ⟨none, .inr ⟨?_, rfl, keepf _ _ (by (first | omega | (simp only [Heap.push]; omega))) qr⟩, hxf, by (first | omega | (simp only [Heap.push]; omega)), by rw [left_none hrd]; exact hfl, keepf _ _ (by (first | omega | (simp only [Heap.push]; omega))) qd⟩, fun h0 => ?_⟩
      · subst h0
        rw [hiff, pathI_zero]
        simp only [List.mem_singleton]
        intro w; apply heq; rw [w]; rfl
      · have hall : ∀ a'', (o ∈ pathI c a ↔ o ∈ pathI c a'') → (o ∈ pathI c a ↔ o ∈ pathI c a'') ∧ Ext h hf ∧ hb.n ≤ hf.n ∧ hf.get? b1 = some (.cells [.int .i64 (a : Nat)] 3 true) ∧ hf.get? b2 = some (.cells [.int .i64 pl, .slice p c.length kc] 24 true) ∧ hf.get? (h.n + 1) = some (.cells [.int .i64 o] 3 true) ∧ hf.get? (h.n + 1 + 1) = some (.cells [.bool false] 4 true) ∧ hf.get? l = some (.obj (.loop r)) ∧ hf.get? h6.n = some (.obj (.deferred (some []))) :=
          fun a'' e => ⟨e, hxf, by (first | omega | (simp only [Heap.push]; omega)), keepf _ _ (by (first | omega | (simp only [Heap.push]; omega))) q1, keepf _ _ (by (first | omega | (simp only [Heap.push]; omega))) q2, keepf _ _ (by (first | omega | (simp only [Heap.push]; omega))) q5, keepf _ _ (by (first | omega | (simp only [Heap.push]; omega))) qr, hfl, keepf _ _ (by (first | omega | (simp only [Heap.push]; omega))) qd⟩
        refine hall _ ?_
        rw [hiff, pathI_pos hP ha' h0]
        simp only [List.mem_cons]
        constructor
        · rintro (w | w)
          · exact absurd w.symm heq
          · exact w
        · exact .inr
  · exact ⟨Iff.rfl, x06.trans hxb, Nat.le_refl _, hxb.get g1, hxb.get g2, hxb.get g5, hxb.get gr, hlb, hdb⟩
end Go.AX.Sa

namespace Go.AX.Sa
open Go.Proofs
set_option maxRecDepth 100000
variable {K : Known}
theorem pathI_len (c : List Cop) (k : Nat) : (pathI c k).length ≤ k + 1 := by
  induction k using Nat.strongRecOn with
  | ind k ih =>
    match k with
    | 0 => rw [pathI_zero]; simp
    | k + 1 => rw [pathI, List.length_cons]; have := ih (min (parN c (k + 1)) k) (by omega); omega
/-- Answers with an error code. -/
def IsE (l : List Int) (h : Heap) (v : Value) (h1 : Heap) : Prop := ∃ p cap, v = .tuple #[.slice p l.length cap, .int .i64 0] ∧ Rd h1 p (ints l) ∧ Ext h h1
def NoE (vs : List Value) (h : Heap) (v : Value) (h1 : Heap) : Prop := v = .tuple vs.toArray ∧ Ext h h1
def CopP' (T : Tre) (n : Int) : Prop := 0 ≤ n ∧ n ≤ (T.c.length : Int) - 1
theorem nat_of {T : Tre} {n : Int} (h : CopP' T n) : ∃ a : Nat, n = (a : Nat) ∧ a < T.c.length := ⟨n.toNat, by unfold CopP' at h; omega, by unfold CopP' at h; omega⟩
end Go.AX.Sa

namespace Go.AX.Sa
open Go.Proofs
set_option maxRecDepth 100000
variable {K : Known}
theorem refPath_ok (hK : NoK K) {T : Tre} (hP : TreeP T) : ∀ (a : Nat) {h : Heap}, TreAt T h → a < T.c.length →
    CallW Tryz.prog K 28 #[treV T, .int .i64 (a : Nat)] h (IsL (pathI T.c a) h) := by
  intro a
  induction a using Nat.strongRecOn with
  | ind a ih =>
    intro h hT ha
    have hT0 := hT
    obtain ⟨p, kc, pl, c⟩ := T
    have hc8 := hP.2.1
    have hp := par_of hP ha
    obtain ⟨rc, each, hpb⟩ := hT
    dsimp only [treV] at rc each hpb ih ha hc8 hp ⊢
    obtain ⟨b, e, own', rfl, hg⟩ := rc.at (by rw [cops_len]; omega)
    refine body (N := 19) Tryz.func28 rfl (hK _ _ _ rfl) rfl rfl ?_
    by_cases h0 : a = 0
    · subst h0
      (repeat' (first | (apply K_seq) | (apply K_region) | (apply O_at; rfl) | (apply N_at; rfl) | (apply O_fin; rfl) | (apply C_seq) | (apply K_ifT; rfl) | (apply K_ifF; rfl) | (apply K_open; exact openOK_of (by decide +kernel)) | (apply K_skip) | (apply K_ret) | (apply N_fin; rfl; exact (.inl (Nat.le_refl 1))) | (apply N_fin; rfl; refine .inr ?_; (focus repeat' first | exact trivial | exact Keeps.nil _ _ | apply And.intro | rfl | (apply Keeps.cons; (focus repeat' first | exact get_push_same | assumption | apply get_push_old | (apply Ext.get; assumption)); (focus repeat' first | exact get_push_same | assumption | apply get_push_old | (apply Ext.get; assumption))))) | (apply C_retS) | (apply C_nil) | (apply P_move; rfl; rfl; rfl; rfl) | (apply P_assign; rfl; rfl; rfl; rfl) | (apply P_eqlF; rfl; rfl; rfl; rfl; rfl; omega) | (apply P_eqlT; rfl; rfl; rfl; rfl; rfl; omega) | (apply P_build1; rfl; rfl; rfl; rfl; rfl; rfl; rfl; exact c1_ok rfl) | (apply P_box; rfl; rfl; rfl; rfl; exact sz_ok rfl; rfl; rfl) | (apply M_move; rfl; rfl; rfl; rfl) | (apply M_assign; rfl; rfl; rfl; rfl) | (apply M_fa; rfl; rfl; rfl; rfl; exact fo_ok rfl; (first | exact Nat.zero_add _ | exact Nat.add_zero _ | rfl)) | (apply M_idxB; rfl; rfl; rfl; rfl; rfl; exact un_ok rfl; exact sz_ok rfl; (first | rfl | exact (Int.toNat_of_nonneg (by omega)).symm); omega) | (apply M_build1; rfl; rfl; rfl; rfl; rfl; rfl; rfl; exact c1_ok rfl) | (apply M_load1; rfl; rfl; rfl; rfl; exact on_ok rfl; (focus repeat' first | exact get_push_same | assumption | apply get_push_old | (apply Ext.get; assumption)); (first | exact cops_par (by omega) | rfl | assumption); (first | assumption | exact same_yield _ | exact same_int _ _ | exact same_slice _ _ _ | rfl | exact same_treO _ _ _ _ | (focus simp [same, same.all2]; done)); (first | rfl | assumption | exact within_yield (by omega) | (focus apply within_get; (focus repeat' first | exact get_push_same | assumption | apply get_push_old | (apply Ext.get; assumption)); done) | exact within_treO hpb (by (focus repeat' first | exact Ext.refl _ | assumption | apply Ext.push | (refine Ext.trans ?_ (by assumption)) | (refine Ext.set ?_ (Nat.le_succ _) (get_push_old get_push_same) _))) | exact within_optO (by assumption) (by (focus repeat' first | exact Ext.refl _ | assumption | apply Ext.push | (refine Ext.trans ?_ (by assumption)) | (refine Ext.set ?_ (Nat.le_succ _) (get_push_old get_push_same) _))) | (simp [within]; omega))) | (apply M_loadA; rfl; rfl; rfl; rfl; exact ag_ok rfl; (focus repeat' first | exact get_push_same | assumption | apply get_push_old | (apply Ext.get; assumption)); (first | exact Nat.le_of_ble_eq_true rfl | (rw [cops_len]; omega) | (simp; done) | (simp; omega) | (rw [ints_len]; omega)); rfl; (first | assumption | exact same_yield _ | exact same_int _ _ | exact same_slice _ _ _ | rfl | exact same_treO _ _ _ _ | (focus simp [same, same.all2]; done)); (first | rfl | assumption | exact within_yield (by omega) | (focus apply within_get; (focus repeat' first | exact get_push_same | assumption | apply get_push_old | (apply Ext.get; assumption)); done) | exact within_treO hpb (by (focus repeat' first | exact Ext.refl _ | assumption | apply Ext.push | (refine Ext.trans ?_ (by assumption)) | (refine Ext.set ?_ (Nat.le_succ _) (get_push_old get_push_same) _))) | exact within_optO (by assumption) (by (focus repeat' first | exact Ext.refl _ | assumption | apply Ext.push | (refine Ext.trans ?_ (by assumption)) | (refine Ext.set ?_ (Nat.le_succ _) (get_push_old get_push_same) _))) | (simp [within]; omega))) | fail))
      refine ⟨.inr rfl, _, rfl, ?_⟩
      rw [pathI_zero]
      exact ⟨_, _, rfl, .inr ⟨_, _, _, rfl, get_push_same⟩, by (focus repeat' first | exact Ext.refl _ | assumption | apply Ext.push | (refine Ext.trans ?_ (by assumption)) | (refine Ext.set ?_ (Nat.le_succ _) (get_push_old get_push_same) _))⟩
    · (repeat' (first | (apply K_seq) | (apply K_region) | (apply O_at; rfl) | (apply N_at; rfl) | (apply O_fin; rfl) | (apply C_seq) | (apply K_ifT; rfl) | (apply K_ifF; rfl) | (apply K_open; exact openOK_of (by decide +kernel)) | (apply K_skip) | (apply K_ret) | (apply N_fin; rfl; exact (.inl (Nat.le_refl 1))) | (apply N_fin; rfl; refine .inr ?_; (focus repeat' first | exact trivial | exact Keeps.nil _ _ | apply And.intro | rfl | (apply Keeps.cons; (focus repeat' first | exact get_push_same | assumption | apply get_push_old | (apply Ext.get; assumption)); (focus repeat' first | exact get_push_same | assumption | apply get_push_old | (apply Ext.get; assumption))))) | (apply C_retS) | (apply C_nil) | (apply P_move; rfl; rfl; rfl; rfl) | (apply P_assign; rfl; rfl; rfl; rfl) | (apply P_eqlF; rfl; rfl; rfl; rfl; rfl; omega) | (apply P_eqlT; rfl; rfl; rfl; rfl; rfl; omega) | (apply P_build1; rfl; rfl; rfl; rfl; rfl; rfl; rfl; exact c1_ok rfl) | (apply P_box; rfl; rfl; rfl; rfl; exact sz_ok rfl; rfl; rfl) | (apply M_move; rfl; rfl; rfl; rfl) | (apply M_assign; rfl; rfl; rfl; rfl) | (apply M_fa; rfl; rfl; rfl; rfl; exact fo_ok rfl; (first | exact Nat.zero_add _ | exact Nat.add_zero _ | rfl)) | (apply M_idxB; rfl; rfl; rfl; rfl; rfl; exact un_ok rfl; exact sz_ok rfl; (first | rfl | exact (Int.toNat_of_nonneg (by omega)).symm); omega) | (apply M_build1; rfl; rfl; rfl; rfl; rfl; rfl; rfl; exact c1_ok rfl) | (apply M_load1; rfl; rfl; rfl; rfl; exact on_ok rfl; (focus repeat' first | exact get_push_same | assumption | apply get_push_old | (apply Ext.get; assumption)); (first | exact cops_par (by omega) | rfl | assumption); (first | assumption | exact same_yield _ | exact same_int _ _ | exact same_slice _ _ _ | rfl | exact same_treO _ _ _ _ | (focus simp [same, same.all2]; done)); (first | rfl | assumption | exact within_yield (by omega) | (focus apply within_get; (focus repeat' first | exact get_push_same | assumption | apply get_push_old | (apply Ext.get; assumption)); done) | exact within_treO hpb (by (focus repeat' first | exact Ext.refl _ | assumption | apply Ext.push | (refine Ext.trans ?_ (by assumption)) | (refine Ext.set ?_ (Nat.le_succ _) (get_push_old get_push_same) _))) | exact within_optO (by assumption) (by (focus repeat' first | exact Ext.refl _ | assumption | apply Ext.push | (refine Ext.trans ?_ (by assumption)) | (refine Ext.set ?_ (Nat.le_succ _) (get_push_old get_push_same) _))) | (simp [within]; omega))) | (apply M_loadA; rfl; rfl; rfl; rfl; exact ag_ok rfl; (focus repeat' first | exact get_push_same | assumption | apply get_push_old | (apply Ext.get; assumption)); (first | exact Nat.le_of_ble_eq_true rfl | (rw [cops_len]; omega) | (simp; done) | (simp; omega) | (rw [ints_len]; omega)); rfl; (first | assumption | exact same_yield _ | exact same_int _ _ | exact same_slice _ _ _ | rfl | exact same_treO _ _ _ _ | (focus simp [same, same.all2]; done)); (first | rfl | assumption | exact within_yield (by omega) | (focus apply within_get; (focus repeat' first | exact get_push_same | assumption | apply get_push_old | (apply Ext.get; assumption)); done) | exact within_treO hpb (by (focus repeat' first | exact Ext.refl _ | assumption | apply Ext.push | (refine Ext.trans ?_ (by assumption)) | (refine Ext.set ?_ (Nat.le_succ _) (get_push_old get_push_same) _))) | exact within_optO (by assumption) (by (focus repeat' first | exact Ext.refl _ | assumption | apply Ext.push | (refine Ext.trans ?_ (by assumption)) | (refine Ext.set ?_ (Nat.le_succ _) (get_push_old get_push_same) _))) | (simp [within]; omega))) | fail))
      rw [hp.1]
      have hxd : Ext h (((h.push (.cells (Value.agg #[Value.int IntKind.i64 pl, Value.slice (some ⟨b, 0, none⟩) c.length kc]).cells.toList 24 true)).push (.cells [Value.int IntKind.i64 (a : Nat)] 3 true)).set (h.n + 1) .dead) :=
        Ext.set (by (focus repeat' first | exact Ext.refl _ | assumption | apply Ext.push | (refine Ext.trans ?_ (by assumption)) | (refine Ext.set ?_ (Nat.le_succ _) (get_push_old get_push_same) _))) (Nat.le_succ _) get_push_same _
      have hpl := pathI_len c (parN c a)
      apply M_callH; rfl; rfl; rfl; rfl; rfl; rfl; rfl; exact get_push_same; exact ih (parN c a) (by omega) (hT0.ext hxd) (by omega); exact fun v h1 q => by obtain ⟨_, _, _, _, x⟩ := q; exact x
      rintro _ h1 h2 ⟨q, cap, rfl, hr1, x1⟩ x2 kp
      have hdead : h1.get? (h.n + 1) = some .dead := x1.get (get_set_same get_push_same)
      obtain ⟨bq, eq, oq, rfl, hq⟩ := hr1.at (by
        rw [ints_len]
        match parN c a with
        | 0 => rw [pathI_zero]; simp
        | k + 1 => rw [pathI]; simp)
      have hbq : bq ≠ h.n + 1 := by rintro rfl; rw [hdead] at hq; cases hq
      have hq2 := kp _ _ hbq hq
      have ho2 := x2.get (b := h.n + 1) get_push_same
      have hpos : 0 < (pathI c (parN c a)).length := by
        match parN c a with
        | 0 => rw [pathI_zero]; simp
        | k + 1 => rw [pathI]; simp
      apply N_at; rfl
      apply M_append; rfl; rfl; rfl; rfl; rfl; rfl; exact app_full rfl rfl (c1_ok rfl) (un_ok rfl) hq2 (ints_len _) hpos (by omega) (ints_one _) ho2 rfl (by omega) (by omega); rfl
      (repeat' (first | (apply K_seq) | (apply K_region) | (apply O_at; rfl) | (apply N_at; rfl) | (apply O_fin; rfl) | (apply C_seq) | (apply K_ifT; rfl) | (apply K_ifF; rfl) | (apply K_open; exact openOK_of (by decide +kernel)) | (apply K_skip) | (apply K_ret) | (apply N_fin; rfl; exact (.inl (Nat.le_refl 1))) | (apply N_fin; rfl; refine .inr ?_; (focus repeat' first | exact trivial | exact Keeps.nil _ _ | apply And.intro | rfl | (apply Keeps.cons; (focus repeat' first | exact get_push_same | assumption | apply get_push_old | (apply Ext.get; assumption)); (focus repeat' first | exact get_push_same | assumption | apply get_push_old | (apply Ext.get; assumption))))) | (apply C_retS) | (apply C_nil) | (apply P_move; rfl; rfl; rfl; rfl) | (apply P_assign; rfl; rfl; rfl; rfl) | (apply P_eqlF; rfl; rfl; rfl; rfl; rfl; omega) | (apply P_eqlT; rfl; rfl; rfl; rfl; rfl; omega) | (apply P_build1; rfl; rfl; rfl; rfl; rfl; rfl; rfl; exact c1_ok rfl) | (apply P_box; rfl; rfl; rfl; rfl; exact sz_ok rfl; rfl; rfl) | (apply M_move; rfl; rfl; rfl; rfl) | (apply M_assign; rfl; rfl; rfl; rfl) | (apply M_fa; rfl; rfl; rfl; rfl; exact fo_ok rfl; (first | exact Nat.zero_add _ | exact Nat.add_zero _ | rfl)) | (apply M_idxB; rfl; rfl; rfl; rfl; rfl; exact un_ok rfl; exact sz_ok rfl; (first | rfl | exact (Int.toNat_of_nonneg (by omega)).symm); omega) | (apply M_build1; rfl; rfl; rfl; rfl; rfl; rfl; rfl; exact c1_ok rfl) | (apply M_load1; rfl; rfl; rfl; rfl; exact on_ok rfl; (focus repeat' first | exact get_push_same | assumption | apply get_push_old | (apply Ext.get; assumption)); (first | exact cops_par (by omega) | rfl | assumption); (first | assumption | exact same_yield _ | exact same_int _ _ | exact same_slice _ _ _ | rfl | exact same_treO _ _ _ _ | (focus simp [same, same.all2]; done)); (first | rfl | assumption | exact within_yield (by omega) | (focus apply within_get; (focus repeat' first | exact get_push_same | assumption | apply get_push_old | (apply Ext.get; assumption)); done) | exact within_treO hpb (by (focus repeat' first | exact Ext.refl _ | assumption | apply Ext.push | (refine Ext.trans ?_ (by assumption)) | (refine Ext.set ?_ (Nat.le_succ _) (get_push_old get_push_same) _))) | exact within_optO (by assumption) (by (focus repeat' first | exact Ext.refl _ | assumption | apply Ext.push | (refine Ext.trans ?_ (by assumption)) | (refine Ext.set ?_ (Nat.le_succ _) (get_push_old get_push_same) _))) | (simp [within]; omega))) | (apply M_loadA; rfl; rfl; rfl; rfl; exact ag_ok rfl; (focus repeat' first | exact get_push_same | assumption | apply get_push_old | (apply Ext.get; assumption)); (first | exact Nat.le_of_ble_eq_true rfl | (rw [cops_len]; omega) | (simp; done) | (simp; omega) | (rw [ints_len]; omega)); rfl; (first | assumption | exact same_yield _ | exact same_int _ _ | exact same_slice _ _ _ | rfl | exact same_treO _ _ _ _ | (focus simp [same, same.all2]; done)); (first | rfl | assumption | exact within_yield (by omega) | (focus apply within_get; (focus repeat' first | exact get_push_same | assumption | apply get_push_old | (apply Ext.get; assumption)); done) | exact within_treO hpb (by (focus repeat' first | exact Ext.refl _ | assumption | apply Ext.push | (refine Ext.trans ?_ (by assumption)) | (refine Ext.set ?_ (Nat.le_succ _) (get_push_old get_push_same) _))) | exact within_optO (by assumption) (by (focus repeat' first | exact Ext.refl _ | assumption | apply Ext.push | (refine Ext.trans ?_ (by assumption)) | (refine Ext.set ?_ (Nat.le_succ _) (get_push_old get_push_same) _))) | (simp [within]; omega))) | fail))
      refine ⟨.inr rfl, _, rfl, ?_⟩
      rw [pathI_pos hP ha (by omega)]
      refine ⟨some ⟨h2.n, 0, none⟩, unk, ?_, .inr ⟨_, _, _, rfl, get_push_same⟩, by (focus repeat' first | exact Ext.refl _ | assumption | apply Ext.push | (refine Ext.trans ?_ (by assumption)) | (refine Ext.set ?_ (Nat.le_succ _) (get_push_old get_push_same) _))⟩
      rw [List.length_cons, Nat.add_comm]; rfl
/-! Lists of numbers. -/
theorem listed_ok (hK : NoK K) {l : List Int} {n : Int} {p : Option Addr} {cap : Nat} {h : Heap} (hn : l.length ≤ 1000) (hr : Rd h p (ints l)) :
    CallW Tryz.prog K 31 #[.slice p l.length cap, .int .i64 n] h (IfB (n ∈ l) h) := by
  refine body (N := 18) Tryz.func31 rfl (hK _ _ _ rfl) rfl rfl ?_
  (repeat' (first | (apply K_seq) | (apply K_region) | (apply O_at; rfl) | (apply O_fin; rfl) | (apply C_seq) | (apply K_ifT; rfl) | (apply K_ifF; rfl) | (apply K_block) | (apply K_skip) | (apply K_exit) | (apply K_ret) | (apply C_retS) | (apply C_retL) | (apply C_retB) | (apply C_exit) | (apply C_exitS) | (apply C_exitL) | (apply C_blockN) | (apply C_nil) | (apply P_move; rfl; rfl; rfl; rfl) | (apply P_assign; rfl; rfl; rfl; rfl) | (apply P_len; rfl; rfl; rfl; rfl; rfl; rfl; exact un_ok rfl) | (apply P_lssF; rfl; rfl; rfl; rfl; rfl; omega) | (apply P_lssT; rfl; rfl; rfl; rfl; rfl; omega) | (apply P_eql; rfl; rfl; rfl; rfl; rfl; all_goals intro _) | (apply P_add; rfl; rfl; rfl; rfl; rfl; (unfold fit; omega)) | (apply P_idxA; rfl; rfl; rfl; rfl; rfl; exact un_ok rfl; exact sz_ok rfl; (first | rfl | exact (Int.toNat_of_nonneg (by omega)).symm); omega) | (apply P_load1; rfl; rfl; rfl; rfl; exact on_ok rfl; (focus repeat' first | assumption | (apply Ext.get; assumption)); (first | exact ints_get (by omega) | rfl | assumption)) | fail))
  refine K_loopE (fun k : Nat => [(0, .slice p l.length cap), (1, .int .i64 n), (5, .int .i64 (k : Nat))])
    (fun k h' => k ≤ l.length ∧ Ext h h' ∧ ∀ j, j < k → l.getD j 0 ≠ n) (fun k => l.length - k) ?_ 0 ?_ ?_
  · intro k h' ⟨hk, hx, hj⟩ ih
    by_cases hlt : k < l.length
    · obtain ⟨b, e, own', rfl, hg⟩ := hr.at (by rw [ints_len]; omega)
      (repeat' (first | (apply K_seq) | (apply K_region) | (apply O_at; rfl) | (apply O_fin; rfl) | (apply C_seq) | (apply K_ifT; rfl) | (apply K_ifF; rfl) | (apply K_block) | (apply K_skip) | (apply K_exit) | (apply K_ret) | (apply C_retS) | (apply C_retL) | (apply C_retB) | (apply C_exit) | (apply C_exitS) | (apply C_exitL) | (apply C_blockN) | (apply C_nil) | (apply P_move; rfl; rfl; rfl; rfl) | (apply P_assign; rfl; rfl; rfl; rfl) | (apply P_len; rfl; rfl; rfl; rfl; rfl; rfl; exact un_ok rfl) | (apply P_lssF; rfl; rfl; rfl; rfl; rfl; omega) | (apply P_lssT; rfl; rfl; rfl; rfl; rfl; omega) | (apply P_eql; rfl; rfl; rfl; rfl; rfl; all_goals intro _) | (apply P_add; rfl; rfl; rfl; rfl; rfl; (unfold fit; omega)) | (apply P_idxA; rfl; rfl; rfl; rfl; rfl; exact un_ok rfl; exact sz_ok rfl; (first | rfl | exact (Int.toNat_of_nonneg (by omega)).symm); omega) | (apply P_load1; rfl; rfl; rfl; rfl; exact on_ok rfl; (focus repeat' first | assumption | (apply Ext.get; assumption)); (first | exact ints_get (by omega) | rfl | assumption)) | fail))
      · rename_i q
        refine ⟨.inr rfl, _, rfl, .inl ⟨rfl, ?_, by (focus repeat' first | exact Ext.refl _ | assumption)⟩⟩
        rw [← q]; simp [hlt]
      · rename_i q
        refine C_again (ih (k + 1) _ ?_ ⟨hlt, ?_, fun j hj' => ?_⟩) ?_
        · omega
        · (focus repeat' first | exact Ext.refl _ | assumption)
        · by_cases hjk : j = k
          · subst hjk; exact q
          · exact hj j (by omega)
        · (focus repeat' first | rfl | exact trivial | apply And.intro)
    · (repeat' (first | (apply K_seq) | (apply K_region) | (apply O_at; rfl) | (apply O_fin; rfl) | (apply C_seq) | (apply K_ifT; rfl) | (apply K_ifF; rfl) | (apply K_block) | (apply K_skip) | (apply K_exit) | (apply K_ret) | (apply C_retS) | (apply C_retL) | (apply C_retB) | (apply C_exit) | (apply C_exitS) | (apply C_exitL) | (apply C_blockN) | (apply C_nil) | (apply P_move; rfl; rfl; rfl; rfl) | (apply P_assign; rfl; rfl; rfl; rfl) | (apply P_len; rfl; rfl; rfl; rfl; rfl; rfl; exact un_ok rfl) | (apply P_lssF; rfl; rfl; rfl; rfl; rfl; omega) | (apply P_lssT; rfl; rfl; rfl; rfl; rfl; omega) | (apply P_eql; rfl; rfl; rfl; rfl; rfl; all_goals intro _) | (apply P_add; rfl; rfl; rfl; rfl; rfl; (unfold fit; omega)) | (apply P_idxA; rfl; rfl; rfl; rfl; rfl; exact un_ok rfl; exact sz_ok rfl; (first | rfl | exact (Int.toNat_of_nonneg (by omega)).symm); omega) | (apply P_load1; rfl; rfl; rfl; rfl; exact on_ok rfl; (focus repeat' first | assumption | (apply Ext.get; assumption)); (first | exact ints_get (by omega) | rfl | assumption)) | fail))
      refine ⟨.inr rfl, _, rfl, .inr ⟨rfl, fun q => ?_, by (focus repeat' first | exact Ext.refl _ | assumption)⟩⟩
      obtain ⟨j, hj1, hj2⟩ := List.getElem_of_mem q
      exact hj j (by omega) (by simpa [hj1] using hj2)
  · exact ⟨Nat.zero_le _, Ext.refl _, fun j hj => by omega⟩
  · (focus repeat' first | rfl | exact trivial | apply And.intro)
theorem same_ok (hK : NoK K) {l m : List Int} {p q : Option Addr} {cap cap' : Nat} {h : Heap} (hn : l.length ≤ 1000) (_hm : m.length ≤ 1000) (hr : Rd h p (ints l)) (hq : Rd h q (ints m)) :
    CallW Tryz.prog K 27 #[.slice p l.length cap, .slice q m.length cap'] h (IfB (l = m) h) := by
  refine body (N := 26) Tryz.func27 rfl (hK _ _ _ rfl) rfl rfl ?_
  by_cases hl : l.length = m.length
  · (repeat' (first | (apply K_seq) | (apply K_region) | (apply O_at; rfl) | (apply N_at; rfl) | (apply O_fin; rfl) | (apply C_seq) | (apply K_ifT; rfl) | (apply K_ifF; rfl) | (apply K_open; exact openOK_of (by decide +kernel)) | (apply K_block) | (apply K_skip) | (apply K_exit) | (apply K_ret) | (apply N_fin; rfl; exact (.inl (Nat.le_refl 1))) | (apply N_fin; rfl; refine .inr ?_; (focus repeat' first | exact trivial | exact Keeps.nil _ _ | apply And.intro | rfl | (apply Keeps.cons; (focus repeat' first | assumption | (apply Ext.get; assumption)); (focus repeat' first | assumption | (apply Ext.get; assumption))))) | (apply C_retS) | (apply C_retL) | (apply C_retB) | (apply C_exit) | (apply C_exitS) | (apply C_exitL) | (apply C_blockN) | (apply C_nil) | (apply P_move; rfl; rfl; rfl; rfl) | (apply P_assign; rfl; rfl; rfl; rfl) | (apply P_len; rfl; rfl; rfl; rfl; rfl; rfl; exact un_ok rfl) | (apply P_lssF; rfl; rfl; rfl; rfl; rfl; omega) | (apply P_lssT; rfl; rfl; rfl; rfl; rfl; omega) | (apply P_neqF; rfl; rfl; rfl; rfl; rfl; omega) | (apply P_neqT; rfl; rfl; rfl; rfl; rfl; omega) | (apply P_add; rfl; rfl; rfl; rfl; rfl; (unfold fit; omega)) | (apply M_move; rfl; rfl; rfl; rfl) | (apply M_neq; rfl; rfl; rfl; rfl; rfl; all_goals intro _) | (apply M_idxA; rfl; rfl; rfl; rfl; rfl; exact un_ok rfl; exact sz_ok rfl; (first | rfl | exact (Int.toNat_of_nonneg (by omega)).symm); omega) | (apply M_load1E; rfl; rfl; rfl; rfl; exact on_ok rfl; exact actsMost_0 (by decide +kernel); (focus repeat' first | assumption | (apply Ext.get; assumption)); (first | exact ints_get (by omega) | rfl | assumption); (first | assumption | exact same_yield _ | exact same_int _ _ | rfl | exact same_treO _ _ _ _ | (focus simp [same, same.all2]; done)); (first | rfl | assumption | exact within_yield (by omega) | exact within_treO hpb (by (focus repeat' first | exact Ext.refl _ | assumption)) | exact within_optO (by assumption) (by (focus repeat' first | exact Ext.refl _ | assumption)) | (simp [within]; omega))) | fail))
    refine K_loopE (fun k : Nat => [(0, .slice p l.length cap), (1, .slice q m.length cap'), (5, .int .i64 (k : Nat))])
      (fun k h' => k ≤ l.length ∧ Ext h h' ∧ ∀ j, j < k → l.getD j 0 = m.getD j 0) (fun k => l.length - k) ?_ 0 ?_ ?_
    · intro k h' ⟨hk, hx, hj⟩ ih
      by_cases hlt : k < l.length
      · obtain ⟨b, e, own', rfl, hg⟩ := hr.at (by rw [ints_len]; omega)
        obtain ⟨b2, e2, own2, rfl, hg2⟩ := hq.at (by rw [ints_len]; omega)
        (repeat' (first | (apply K_seq) | (apply K_region) | (apply O_at; rfl) | (apply N_at; rfl) | (apply O_fin; rfl) | (apply C_seq) | (apply K_ifT; rfl) | (apply K_ifF; rfl) | (apply K_open; exact openOK_of (by decide +kernel)) | (apply K_block) | (apply K_skip) | (apply K_exit) | (apply K_ret) | (apply N_fin; rfl; exact (.inl (Nat.le_refl 1))) | (apply N_fin; rfl; refine .inr ?_; (focus repeat' first | exact trivial | exact Keeps.nil _ _ | apply And.intro | rfl | (apply Keeps.cons; (focus repeat' first | assumption | (apply Ext.get; assumption)); (focus repeat' first | assumption | (apply Ext.get; assumption))))) | (apply C_retS) | (apply C_retL) | (apply C_retB) | (apply C_exit) | (apply C_exitS) | (apply C_exitL) | (apply C_blockN) | (apply C_nil) | (apply P_move; rfl; rfl; rfl; rfl) | (apply P_assign; rfl; rfl; rfl; rfl) | (apply P_len; rfl; rfl; rfl; rfl; rfl; rfl; exact un_ok rfl) | (apply P_lssF; rfl; rfl; rfl; rfl; rfl; omega) | (apply P_lssT; rfl; rfl; rfl; rfl; rfl; omega) | (apply P_neqF; rfl; rfl; rfl; rfl; rfl; omega) | (apply P_neqT; rfl; rfl; rfl; rfl; rfl; omega) | (apply P_add; rfl; rfl; rfl; rfl; rfl; (unfold fit; omega)) | (apply M_move; rfl; rfl; rfl; rfl) | (apply M_neq; rfl; rfl; rfl; rfl; rfl; all_goals intro _) | (apply M_idxA; rfl; rfl; rfl; rfl; rfl; exact un_ok rfl; exact sz_ok rfl; (first | rfl | exact (Int.toNat_of_nonneg (by omega)).symm); omega) | (apply M_load1E; rfl; rfl; rfl; rfl; exact on_ok rfl; exact actsMost_0 (by decide +kernel); (focus repeat' first | assumption | (apply Ext.get; assumption)); (first | exact ints_get (by omega) | rfl | assumption); (first | assumption | exact same_yield _ | exact same_int _ _ | rfl | exact same_treO _ _ _ _ | (focus simp [same, same.all2]; done)); (first | rfl | assumption | exact within_yield (by omega) | exact within_treO hpb (by (focus repeat' first | exact Ext.refl _ | assumption)) | exact within_optO (by assumption) (by (focus repeat' first | exact Ext.refl _ | assumption)) | (simp [within]; omega))) | fail))
        · rename_i w
          exact ⟨.inr rfl, _, rfl, .inr ⟨rfl, fun z => w (by rw [z]), by (focus repeat' first | exact Ext.refl _ | assumption)⟩⟩
        · rename_i w
          refine C_again (ih (k + 1) _ ?_ ⟨hlt, ?_, fun j hj' => ?_⟩) ?_
          · omega
          · (focus repeat' first | exact Ext.refl _ | assumption)
          · by_cases hjk : j = k
            · subst hjk; exact w
            · exact hj j (by omega)
          · (focus repeat' first | rfl | exact trivial | apply And.intro)
      · (repeat' (first | (apply K_seq) | (apply K_region) | (apply O_at; rfl) | (apply N_at; rfl) | (apply O_fin; rfl) | (apply C_seq) | (apply K_ifT; rfl) | (apply K_ifF; rfl) | (apply K_open; exact openOK_of (by decide +kernel)) | (apply K_block) | (apply K_skip) | (apply K_exit) | (apply K_ret) | (apply N_fin; rfl; exact (.inl (Nat.le_refl 1))) | (apply N_fin; rfl; refine .inr ?_; (focus repeat' first | exact trivial | exact Keeps.nil _ _ | apply And.intro | rfl | (apply Keeps.cons; (focus repeat' first | assumption | (apply Ext.get; assumption)); (focus repeat' first | assumption | (apply Ext.get; assumption))))) | (apply C_retS) | (apply C_retL) | (apply C_retB) | (apply C_exit) | (apply C_exitS) | (apply C_exitL) | (apply C_blockN) | (apply C_nil) | (apply P_move; rfl; rfl; rfl; rfl) | (apply P_assign; rfl; rfl; rfl; rfl) | (apply P_len; rfl; rfl; rfl; rfl; rfl; rfl; exact un_ok rfl) | (apply P_lssF; rfl; rfl; rfl; rfl; rfl; omega) | (apply P_lssT; rfl; rfl; rfl; rfl; rfl; omega) | (apply P_neqF; rfl; rfl; rfl; rfl; rfl; omega) | (apply P_neqT; rfl; rfl; rfl; rfl; rfl; omega) | (apply P_add; rfl; rfl; rfl; rfl; rfl; (unfold fit; omega)) | (apply M_move; rfl; rfl; rfl; rfl) | (apply M_neq; rfl; rfl; rfl; rfl; rfl; all_goals intro _) | (apply M_idxA; rfl; rfl; rfl; rfl; rfl; exact un_ok rfl; exact sz_ok rfl; (first | rfl | exact (Int.toNat_of_nonneg (by omega)).symm); omega) | (apply M_load1E; rfl; rfl; rfl; rfl; exact on_ok rfl; exact actsMost_0 (by decide +kernel); (focus repeat' first | assumption | (apply Ext.get; assumption)); (first | exact ints_get (by omega) | rfl | assumption); (first | assumption | exact same_yield _ | exact same_int _ _ | rfl | exact same_treO _ _ _ _ | (focus simp [same, same.all2]; done)); (first | rfl | assumption | exact within_yield (by omega) | exact within_treO hpb (by (focus repeat' first | exact Ext.refl _ | assumption)) | exact within_optO (by assumption) (by (focus repeat' first | exact Ext.refl _ | assumption)) | (simp [within]; omega))) | fail))
        refine ⟨.inr rfl, _, rfl, .inl ⟨rfl, ?_, by (focus repeat' first | exact Ext.refl _ | assumption)⟩⟩
        apply List.ext_getElem hl
        intro j h1 h2
        have := hj j (by omega)
        simpa [h1, h2] using this
    · exact ⟨Nat.zero_le _, Ext.refl _, fun j hj => by omega⟩
    · (focus repeat' first | rfl | exact trivial | apply And.intro)
  · (repeat' (first | (apply K_seq) | (apply K_region) | (apply O_at; rfl) | (apply N_at; rfl) | (apply O_fin; rfl) | (apply C_seq) | (apply K_ifT; rfl) | (apply K_ifF; rfl) | (apply K_open; exact openOK_of (by decide +kernel)) | (apply K_block) | (apply K_skip) | (apply K_exit) | (apply K_ret) | (apply N_fin; rfl; exact (.inl (Nat.le_refl 1))) | (apply N_fin; rfl; refine .inr ?_; (focus repeat' first | exact trivial | exact Keeps.nil _ _ | apply And.intro | rfl | (apply Keeps.cons; (focus repeat' first | assumption | (apply Ext.get; assumption)); (focus repeat' first | assumption | (apply Ext.get; assumption))))) | (apply C_retS) | (apply C_retL) | (apply C_retB) | (apply C_exit) | (apply C_exitS) | (apply C_exitL) | (apply C_blockN) | (apply C_nil) | (apply P_move; rfl; rfl; rfl; rfl) | (apply P_assign; rfl; rfl; rfl; rfl) | (apply P_len; rfl; rfl; rfl; rfl; rfl; rfl; exact un_ok rfl) | (apply P_lssF; rfl; rfl; rfl; rfl; rfl; omega) | (apply P_lssT; rfl; rfl; rfl; rfl; rfl; omega) | (apply P_neqF; rfl; rfl; rfl; rfl; rfl; omega) | (apply P_neqT; rfl; rfl; rfl; rfl; rfl; omega) | (apply P_add; rfl; rfl; rfl; rfl; rfl; (unfold fit; omega)) | (apply M_move; rfl; rfl; rfl; rfl) | (apply M_neq; rfl; rfl; rfl; rfl; rfl; all_goals intro _) | (apply M_idxA; rfl; rfl; rfl; rfl; rfl; exact un_ok rfl; exact sz_ok rfl; (first | rfl | exact (Int.toNat_of_nonneg (by omega)).symm); omega) | (apply M_load1E; rfl; rfl; rfl; rfl; exact on_ok rfl; exact actsMost_0 (by decide +kernel); (focus repeat' first | assumption | (apply Ext.get; assumption)); (first | exact ints_get (by omega) | rfl | assumption); (first | assumption | exact same_yield _ | exact same_int _ _ | rfl | exact same_treO _ _ _ _ | (focus simp [same, same.all2]; done)); (first | rfl | assumption | exact within_yield (by omega) | exact within_treO hpb (by (focus repeat' first | exact Ext.refl _ | assumption)) | exact within_optO (by assumption) (by (focus repeat' first | exact Ext.refl _ | assumption)) | (simp [within]; omega))) | fail))
    exact ⟨.inr rfl, _, rfl, .inr ⟨rfl, fun q => hl (by rw [q]), by (focus repeat' first | exact Ext.refl _ | assumption)⟩⟩
end Go.AX.Sa

namespace Go.AX.Sa
open Go.Proofs
set_option maxRecDepth 100000
variable {K : Known}
/-! The greatest number that both lists have. -/
def sharedI (m : List Int) : List Int → Int → Int
  | [], g => g
  | a :: l, g => sharedI m l (if a ∈ m then max g a else g)
theorem shared_ok (hK : NoK K) {T : Tre} {a b : Nat} {h : Heap} (hT : TreAt T h) (hP : TreeP T) (ha : a < T.c.length) (hb : b < T.c.length) :
    CallW Tryz.prog K 68 #[treV T, .int .i64 (a : Nat), .int .i64 (b : Nat)] h (IsV (.int .i64 (sharedI (pathI T.c b) (pathI T.c a) 0)) h) := by
  have hT0 := hT
  have hc8 := hP.2.1
  refine body_rangeE (N := 21) 3 Tryz.func68 rfl (hK _ _ _ rfl) rfl rfl (by rfl) (by rfl) ?_
  (repeat' (first | (apply K_seq) | (apply K_region) | (apply O_at; rfl) | (apply O_fin; rfl) | (apply C_seq) | (apply K_ifT; rfl) | (apply K_ifF; rfl) | (apply K_block) | (apply K_skip) | (apply K_ret) | (apply C_retS) | (apply C_blockN) | (apply C_nil) | (apply P_move; rfl; rfl; rfl; rfl) | (apply P_assign; rfl; rfl; rfl; rfl) | (apply P_load1; rfl; rfl; rfl; rfl; exact on_ok rfl; (focus repeat' first | exact get_push_same | assumption | apply get_push_old | (apply Ext.get; assumption) | (apply ExtBut.get; assumption; assumption)); (first | rfl | assumption)) | (apply P_loadA; rfl; rfl; rfl; rfl; exact ag_ok rfl; (focus repeat' first | exact get_push_same | assumption | apply get_push_old | (apply Ext.get; assumption) | (apply ExtBut.get; assumption; assumption)); (first | exact Nat.le_of_ble_eq_true rfl | (simp; done) | (simp; omega)); rfl) | (apply P_storeTop; rfl; rfl; rfl; rfl; exact sz_ok rfl; rfl; rfl; rfl) | (apply P_box; rfl; rfl; rfl; rfl; exact sz_ok rfl; rfl; rfl) | (apply P_alloc; rfl; rfl; rfl; rfl; exact sz_ok rfl; rfl; rfl) | (apply P_max; rfl; rfl; rfl; rfl; rfl; rfl) | fail))
  apply P_call; rfl; rfl; rfl; rfl; rfl; rfl; exact path_ok (T := T) hK
  rintro _ h6 ⟨b1, b2, rfl, g1, g2, n1, n2, x6⟩
  have g3 := x6.get (b := h.n) (x := .cells [.int .i64 T.places, .slice T.p T.c.length T.k] 24 true) (by (focus repeat' first | exact get_push_same | assumption | apply get_push_old | (apply Ext.get; assumption) | (apply ExtBut.get; assumption; assumption)))
  have g5 := x6.get (b := h.n + 1) (x := .cells [.int .i64 (b : Nat)] 3 true) (by (focus repeat' first | exact get_push_same | assumption | apply get_push_old | (apply Ext.get; assumption) | (apply ExtBut.get; assumption; assumption)))
  have gr := x6.get (b := h.n + 1 + 1) (x := .cells [.int .i64 0] 3 true) (by (focus repeat' first | exact get_push_same | assumption | apply get_push_old | (apply Ext.get; assumption) | (apply ExtBut.get; assumption; assumption)))
  have x06 : Ext h h6 := by (focus repeat' first | exact Ext.refl _ | assumption | apply Ext.push | (refine Ext.trans ?_ (by assumption)))
  have n06 : h.n + 3 ≤ h6.n := x6.n
  have n1' : h.n + 3 ≤ b1 := n1
  have n2' : h.n + 3 ≤ b2 := n2
  have l1 := Heap.get_lt g1
  have l2 := Heap.get_lt g2
  clear x6
  (repeat' (first | (apply K_seq) | (apply K_region) | (apply O_at; rfl) | (apply O_fin; rfl) | (apply C_seq) | (apply K_ifT; rfl) | (apply K_ifF; rfl) | (apply K_block) | (apply K_skip) | (apply K_ret) | (apply C_retS) | (apply C_blockN) | (apply C_nil) | (apply P_move; rfl; rfl; rfl; rfl) | (apply P_assign; rfl; rfl; rfl; rfl) | (apply P_load1; rfl; rfl; rfl; rfl; exact on_ok rfl; (focus repeat' first | exact get_push_same | assumption | apply get_push_old | (apply Ext.get; assumption) | (apply ExtBut.get; assumption; assumption)); (first | rfl | assumption)) | (apply P_loadA; rfl; rfl; rfl; rfl; exact ag_ok rfl; (focus repeat' first | exact get_push_same | assumption | apply get_push_old | (apply Ext.get; assumption) | (apply ExtBut.get; assumption; assumption)); (first | exact Nat.le_of_ble_eq_true rfl | (simp; done) | (simp; omega)); rfl) | (apply P_storeTop; rfl; rfl; rfl; rfl; exact sz_ok rfl; rfl; rfl; rfl) | (apply P_box; rfl; rfl; rfl; rfl; exact sz_ok rfl; rfl; rfl) | (apply P_alloc; rfl; rfl; rfl; rfl; exact sz_ok rfl; rfl; rfl) | (apply P_max; rfl; rfl; rfl; rfl; rfl; rfl) | fail))
  refine .inr ⟨rfl, _, #[], _, rfl, rfl, fun tm l hb' r hE hrd hle hxb hbn hlb hdb => ?_⟩
  have key := path1_ok (K := K) (T := T) (b1 := b1) (b2 := b2) (l := l) (a := a) (h := hb') hK
    (fun a' h' => (∃ g, sharedI (pathI T.c b) (pathI T.c a) 0 = sharedI (pathI T.c b) (pathI T.c a') g ∧ h'.get? (h.n + 1 + 1) = some (.cells [.int .i64 g] 3 true)) ∧ Ext h h' ∧ hb'.n ≤ h'.n ∧ h'.get? l = some (.obj (.loop r)) ∧ (∀ b y, b < h6.n + 1 → b ≠ h.n + 2 → hb'.get? b = some y → h'.get? b = some y))
    (fun h' => (h'.get? (h.n + 1 + 1) = some (.cells [.int .i64 (sharedI (pathI T.c b) (pathI T.c a) 0)] 3 true)) ∧ Ext h h' ∧ hb'.n ≤ h'.n ∧ h'.get? l = some (.obj (.loop r)) ∧ (∀ b y, b < h6.n + 1 → b ≠ h.n + 2 → hb'.get? b = some y → h'.get? b = some y))
    hP ?_ ?_ (hxb.get g1) ?_ ha (hK _ _ _ rfl)
  · refine key.mono ?_
    rintro _ h2 ⟨hg, hx2, hn2, hl2, hk2⟩
    refine ⟨none, by rw [left_none hrd]; exact hl2, fun h2' hkk hn2' => ?_⟩
    have hx2' : Ext h h2' := hx2.keep1 (l := l) hkk (by (first | omega | (simp only [Heap.push]; omega))) (by (first | omega | (simp only [Heap.push]; omega)))
    have hd2' := hkk _ _ (by (first | omega | (simp only [Heap.push]; omega))) (hk2 _ _ (by (first | omega | (simp only [Heap.push]; omega))) (by (first | omega | (simp only [Heap.push]; omega))) hdb)
    have hg' := hkk _ _ (by (first | omega | (simp only [Heap.push]; omega))) hg
    (repeat' (first | (apply K_seq) | (apply K_region) | (apply O_at; rfl) | (apply O_fin; rfl) | (apply C_seq) | (apply K_ifT; rfl) | (apply K_ifF; rfl) | (apply K_block) | (apply K_skip) | (apply K_ret) | (apply C_retS) | (apply C_blockN) | (apply C_nil) | (apply P_move; rfl; rfl; rfl; rfl) | (apply P_assign; rfl; rfl; rfl; rfl) | (apply P_load1; rfl; rfl; rfl; rfl; exact on_ok rfl; (focus repeat' first | exact get_push_same | assumption | apply get_push_old | (apply Ext.get; assumption) | (apply ExtBut.get; assumption; assumption)); (first | rfl | assumption)) | (apply P_loadA; rfl; rfl; rfl; rfl; exact ag_ok rfl; (focus repeat' first | exact get_push_same | assumption | apply get_push_old | (apply Ext.get; assumption) | (apply ExtBut.get; assumption; assumption)); (first | exact Nat.le_of_ble_eq_true rfl | (simp; done) | (simp; omega)); rfl) | (apply P_storeTop; rfl; rfl; rfl; rfl; exact sz_ok rfl; rfl; rfl; rfl) | (apply P_box; rfl; rfl; rfl; rfl; exact sz_ok rfl; rfl; rfl) | (apply P_alloc; rfl; rfl; rfl; rfl; exact sz_ok rfl; rfl; rfl) | (apply P_max; rfl; rfl; rfl; rfl; rfl; rfl) | fail))
    refine ⟨.inr rfl, hd2', fun h4 hk4 hn4 => ⟨_, rfl, rfl, hx2'.keep1 (l := h6.n) hk4 (by (first | omega | (simp only [Heap.push]; omega))) (by (first | omega | (simp only [Heap.push]; omega)))⟩⟩
  · rintro a' h' ⟨_, hx, hn, ql, qk⟩
    exact ⟨qk _ _ (by (first | omega | (simp only [Heap.push]; omega))) (by (first | omega | (simp only [Heap.push]; omega))) (hxb.get g2), hT.ext hx⟩
  · rintro a' h' ha' ⟨⟨g, hsh, hg⟩, hx, hn, ql, qk⟩
    refine round_ofE (N := 21) ql hrd rfl (EnvOK.param hE rfl) ?_
    (repeat' (first | (apply K_seq) | (apply K_region) | (apply O_at; rfl) | (apply O_fin; rfl) | (apply C_seq) | (apply K_ifT; rfl) | (apply K_ifF; rfl) | (apply K_block) | (apply K_skip) | (apply K_ret) | (apply C_retS) | (apply C_blockN) | (apply C_nil) | (apply P_move; rfl; rfl; rfl; rfl) | (apply P_assign; rfl; rfl; rfl; rfl) | (apply P_load1; rfl; rfl; rfl; rfl; exact on_ok rfl; (focus repeat' first | exact get_push_same | assumption | apply get_push_old | (apply Ext.get; assumption) | (apply ExtBut.get; assumption; assumption)); (first | rfl | assumption)) | (apply P_loadA; rfl; rfl; rfl; rfl; exact ag_ok rfl; (focus repeat' first | exact get_push_same | assumption | apply get_push_old | (apply Ext.get; assumption) | (apply ExtBut.get; assumption; assumption)); (first | exact Nat.le_of_ble_eq_true rfl | (simp; done) | (simp; omega)); rfl) | (apply P_storeTop; rfl; rfl; rfl; rfl; exact sz_ok rfl; rfl; rfl; rfl) | (apply P_box; rfl; rfl; rfl; rfl; exact sz_ok rfl; rfl; rfl) | (apply P_alloc; rfl; rfl; rfl; rfl; exact sz_ok rfl; rfl; rfl) | (apply P_max; rfl; rfl; rfl; rfl; rfl; rfl) | fail))
    refine ⟨rfl, ql, fun B hs hsl hsk hsn => ?_⟩
    have hxs : Ext h hs := hx.keep1 (l := l) hsk (by (first | omega | (simp only [Heap.push]; omega))) (by (first | omega | (simp only [Heap.push]; omega)))
    have g3s := hsk _ _ (by (first | omega | (simp only [Heap.push]; omega))) (qk _ _ (by (first | omega | (simp only [Heap.push]; omega))) (by (first | omega | (simp only [Heap.push]; omega))) (hxb.get g3))
    have g5s := hsk _ _ (by (first | omega | (simp only [Heap.push]; omega))) (qk _ _ (by (first | omega | (simp only [Heap.push]; omega))) (by (first | omega | (simp only [Heap.push]; omega))) (hxb.get g5))
    have grs := hsk _ _ (by (first | omega | (simp only [Heap.push]; omega))) hg
    have fin : ∀ (h3 hf : Heap) (g' : Int), g' = (if (a' : Int) ∈ pathI T.c b then max g a' else g) → h3.get? (h.n + 1 + 1) = some (.cells [.int .i64 g'] 3 true) → Ext h h3 → hb'.n ≤ h3.n → (∀ b y, b < h6.n + 1 → b ≠ h.n + 2 → hb'.get? b = some y → h3.get? b = some y) →
        hf.get? l = some (.obj (.loop (left r none))) → (∀ b x, b ≠ l → h3.get? b = some x → hf.get? b = some x) → hf.n = h3.n → (fun (v : Value) (h1 : Heap) => (v = .bool true ∧ (a' = 0 → (h1.get? (h.n + 1 + 1) = some (.cells [.int .i64 (sharedI (pathI T.c b) (pathI T.c a) 0)] 3 true)) ∧ Ext h h1 ∧ hb'.n ≤ h1.n ∧ h1.get? l = some (.obj (.loop r)) ∧ (∀ b y, b < h6.n + 1 → b ≠ h.n + 2 → hb'.get? b = some y → h1.get? b = some y)) ∧ (0 < a' → (∃ g, sharedI (pathI T.c b) (pathI T.c a) 0 = sharedI (pathI T.c b) (pathI T.c (parN T.c a')) g ∧ h1.get? (h.n + 1 + 1) = some (.cells [.int .i64 g] 3 true)) ∧ Ext h h1 ∧ hb'.n ≤ h1.n ∧ h1.get? l = some (.obj (.loop r)) ∧ (∀ b y, b < h6.n + 1 → b ≠ h.n + 2 → hb'.get? b = some y → h1.get? b = some y)))) (.bool true) hf := by
      intro h3 hf g' eg c3 x3 n3 k3 hfl hfk hfn
      rw [left_none hrd] at hfl
      have xf : Ext h hf := x3.keep1 (l := l) hfk (by (first | omega | (simp only [Heap.push]; omega))) (by (first | omega | (simp only [Heap.push]; omega)))
      have kf : ∀ b y, b < h6.n + 1 → b ≠ h.n + 2 → hb'.get? b = some y → hf.get? b = some y := fun b y q1 q2 g => hfk _ _ (by (first | omega | (simp only [Heap.push]; omega))) (k3 b y q1 q2 g)
      have cf := hfk _ _ (by (first | omega | (simp only [Heap.push]; omega))) c3
      refine ⟨rfl, fun h0 => ⟨?_, xf, by (first | omega | (simp only [Heap.push]; omega)), hfl, kf⟩, fun h0 => ⟨⟨g', ?_, cf⟩, xf, by (first | omega | (simp only [Heap.push]; omega)), hfl, kf⟩⟩
      · subst h0
        rw [hsh, pathI_zero]
        simp only [sharedI]
        rw [eg] at cf
        exact cf
      · rw [hsh, pathI_pos hP ha' h0, eg]
        rfl
    (repeat' (first | (apply K_seq) | (apply K_region) | (apply O_at; rfl) | (apply O_fin; rfl) | (apply C_seq) | (apply K_ifT; rfl) | (apply K_ifF; rfl) | (apply K_block) | (apply K_skip) | (apply K_ret) | (apply C_retS) | (apply C_blockN) | (apply C_nil) | (apply P_move; rfl; rfl; rfl; rfl) | (apply P_assign; rfl; rfl; rfl; rfl) | (apply P_load1; rfl; rfl; rfl; rfl; exact on_ok rfl; (focus repeat' first | exact get_push_same | assumption | apply get_push_old | (apply Ext.get; assumption) | (apply ExtBut.get; assumption; assumption)); (first | rfl | assumption)) | (apply P_loadA; rfl; rfl; rfl; rfl; exact ag_ok rfl; (focus repeat' first | exact get_push_same | assumption | apply get_push_old | (apply Ext.get; assumption) | (apply ExtBut.get; assumption; assumption)); (first | exact Nat.le_of_ble_eq_true rfl | (simp; done) | (simp; omega)); rfl) | (apply P_storeTop; rfl; rfl; rfl; rfl; exact sz_ok rfl; rfl; rfl; rfl) | (apply P_box; rfl; rfl; rfl; rfl; exact sz_ok rfl; rfl; rfl) | (apply P_alloc; rfl; rfl; rfl; rfl; exact sz_ok rfl; rfl; rfl) | (apply P_max; rfl; rfl; rfl; rfl; rfl; rfl) | (apply P_call; rfl; rfl; rfl; rfl; rfl; rfl; exact comesFrom_ok (T := T) (a := b) hK (hT.ext (by (focus repeat' first | exact Ext.refl _ | assumption | apply Ext.push | (refine Ext.trans ?_ (by assumption))))) hP hb; (rintro _ _ (⟨rfl, _, _⟩ | ⟨rfl, _, _⟩))) | fail))
    · rename_i h2 q2 x2
      have n2 := x2.n
      refine P_storeC (c' := [.int .i64 (max g (a' : Nat))]) rfl rfl rfl rfl (x2.get grs) (sz_ok rfl) rfl (Nat.le_of_ble_eq_true rfl) rfl rfl ?_
      intro h3 g3' x3
      have n3 := x3.n
      (repeat' (first | (apply K_seq) | (apply K_region) | (apply O_at; rfl) | (apply O_fin; rfl) | (apply C_seq) | (apply K_ifT; rfl) | (apply K_ifF; rfl) | (apply K_block) | (apply K_skip) | (apply K_ret) | (apply C_retS) | (apply C_blockN) | (apply C_nil) | (apply P_move; rfl; rfl; rfl; rfl) | (apply P_assign; rfl; rfl; rfl; rfl) | (apply P_load1; rfl; rfl; rfl; rfl; exact on_ok rfl; (focus repeat' first | exact get_push_same | assumption | apply get_push_old | (apply Ext.get; assumption) | (apply ExtBut.get; assumption; assumption)); (first | rfl | assumption)) | (apply P_loadA; rfl; rfl; rfl; rfl; exact ag_ok rfl; (focus repeat' first | exact get_push_same | assumption | apply get_push_old | (apply Ext.get; assumption) | (apply ExtBut.get; assumption; assumption)); (first | exact Nat.le_of_ble_eq_true rfl | (simp; done) | (simp; omega)); rfl) | (apply P_storeTop; rfl; rfl; rfl; rfl; exact sz_ok rfl; rfl; rfl; rfl) | (apply P_box; rfl; rfl; rfl; rfl; exact sz_ok rfl; rfl; rfl) | (apply P_alloc; rfl; rfl; rfl; rfl; exact sz_ok rfl; rfl; rfl) | (apply P_max; rfl; rfl; rfl; rfl; rfl; rfl) | fail))
      refine ⟨x3.get (by (first | omega | (simp only [Heap.push]; omega))) (x2.get hsl), none, rfl, fun hf hfl hfk hfn => .inl (fin h3 hf _ (by rw [if_pos q2]) g3' (Ext.ofBut (hxs.trans x2) x3 (by (first | omega | (simp only [Heap.push]; omega)))) (by (first | omega | (simp only [Heap.push]; omega))) (fun b y q1 q3 g => x3.get (by (first | omega | (simp only [Heap.push]; omega))) (x2.get (hsk _ _ (by (first | omega | (simp only [Heap.push]; omega))) (qk _ _ q1 q3 g)))) hfl hfk hfn)⟩
    · rename_i h2 q2 x2
      have n2 := x2.n
      exact ⟨x2.get hsl, none, rfl, fun hf hfl hfk hfn => .inl (fin h2 hf _ (by rw [if_neg q2]) (x2.get grs) (hxs.trans x2) (by (first | omega | (simp only [Heap.push]; omega))) (fun b y q1 q3 g => x2.get (hsk _ _ (by (first | omega | (simp only [Heap.push]; omega))) (qk _ _ q1 q3 g))) hfl hfk hfn)⟩
  · exact ⟨⟨0, rfl, hxb.get gr⟩, x06.trans hxb, Nat.le_refl _, hlb, fun b y _ _ g => g⟩
theorem refShared_ok (hK : NoK K) {T : Tre} {a b : Nat} {h : Heap} (hT : TreAt T h) (hP : TreeP T) (ha : a < T.c.length) (hb : b < T.c.length) :
    CallW Tryz.prog K 29 #[treV T, .int .i64 (a : Nat), .int .i64 (b : Nat)] h (IsV (.int .i64 (sharedI (pathI T.c b) (pathI T.c a) 0)) h) := by
  have hc8 := hP.2.1
  have pl := pathI_len T.c a
  have ql := pathI_len T.c b
  have hpb := hT.b
  refine body (N := 36) Tryz.func29 rfl (hK _ _ _ rfl) rfl rfl ?_
  (repeat' (first | (apply K_seq) | (apply K_region) | (apply O_at; rfl) | (apply N_at; rfl) | (apply O_fin; rfl) | (apply C_seq) | (apply K_ifT; rfl) | (apply K_ifF; rfl) | (apply K_open; exact openOK_of (by decide +kernel)) | (apply K_block) | (apply K_skip) | (apply K_exit) | (apply K_ret) | (apply N_fin; rfl; exact (.inl (Nat.le_refl 1))) | (apply N_fin; rfl; refine .inr ?_; (focus repeat' first | exact trivial | exact Keeps.nil _ _ | apply And.intro | rfl | (apply Keeps.cons; (focus repeat' first | exact get_push_same | assumption | (apply Ext.get; assumption)); (focus repeat' first | exact get_push_same | assumption | (apply Ext.get; assumption))))) | (apply C_exit) | (apply C_exitS) | (apply C_exitL) | (apply C_blockN) | (apply C_nil) | (apply P_move; rfl; rfl; rfl; rfl) | (apply P_assign; rfl; rfl; rfl; rfl) | (apply P_len; rfl; rfl; rfl; rfl; rfl; rfl; exact un_ok rfl) | (apply P_lssF; rfl; rfl; rfl; rfl; rfl; omega) | (apply P_lssT; rfl; rfl; rfl; rfl; rfl; omega) | (apply P_add; rfl; rfl; rfl; rfl; rfl; (unfold fit; omega)) | (apply P_idxA; rfl; rfl; rfl; rfl; rfl; exact un_ok rfl; exact sz_ok rfl; (first | rfl | exact (Int.toNat_of_nonneg (by omega)).symm); omega) | (apply P_load1; rfl; rfl; rfl; rfl; exact on_ok rfl; (focus repeat' first | exact get_push_same | assumption | (apply Ext.get; assumption)); (first | exact ints_get (by omega) | rfl | assumption)) | (apply P_box; rfl; rfl; rfl; rfl; exact sz_ok rfl; rfl; rfl) | (apply P_max; rfl; rfl; rfl; rfl; rfl; rfl) | (apply M_move; rfl; rfl; rfl; rfl) | (apply M_assign; rfl; rfl; rfl; rfl) | (apply M_loadA; rfl; rfl; rfl; rfl; exact ag_ok rfl; (focus repeat' first | exact get_push_same | assumption | (apply Ext.get; assumption)); (first | exact Nat.le_of_ble_eq_true rfl | (simp; done) | (simp; omega) | (rw [ints_len]; omega)); rfl; (first | assumption | exact same_yield _ | rfl | exact same_treO _ _ _ _ | (focus simp [same, same.all2]; done)); (first | rfl | assumption | exact within_yield (by omega) | exact within_treO hpb (by (focus repeat' first | exact Ext.refl _ | assumption | apply Ext.push | (refine Ext.trans ?_ (by assumption)))) | exact within_optO (by assumption) (by (focus repeat' first | exact Ext.refl _ | assumption | apply Ext.push | (refine Ext.trans ?_ (by assumption)))) | (simp [within]; omega))) | (apply P_call; rfl; rfl; rfl; rfl; rfl; rfl; exact refPath_ok (T := T) hK hP a (hT.ext (by (focus repeat' first | exact Ext.refl _ | assumption | apply Ext.push | (refine Ext.trans ?_ (by assumption))))) ha; (rintro _ _ ⟨_, _, rfl, _, _⟩)) | (apply M_call; rfl; rfl; rfl; rfl; rfl; rfl; rfl; exact refPath_ok (T := T) hK hP a (hT.ext (by (focus repeat' first | exact Ext.refl _ | assumption | apply Ext.push | (refine Ext.trans ?_ (by assumption))))) ha; (rintro _ _ ⟨_, _, rfl, _, _⟩)) | (apply P_call; rfl; rfl; rfl; rfl; rfl; rfl; exact refPath_ok (T := T) hK hP b (hT.ext (by (focus repeat' first | exact Ext.refl _ | assumption | apply Ext.push | (refine Ext.trans ?_ (by assumption))))) hb; (rintro _ _ ⟨_, _, rfl, _, _⟩)) | (apply M_call; rfl; rfl; rfl; rfl; rfl; rfl; rfl; exact refPath_ok (T := T) hK hP b (hT.ext (by (focus repeat' first | exact Ext.refl _ | assumption | apply Ext.push | (refine Ext.trans ?_ (by assumption))))) hb; (rintro _ _ ⟨_, _, rfl, _, _⟩)) | fail))
  rename_i h1 p1 k1 r1 x1 h2 p2 k2 r2 x2
  have r1' := r1.ext x2
  have x0 : Ext h h2 := by (focus repeat' first | exact Ext.refl _ | assumption | apply Ext.push | (refine Ext.trans ?_ (by assumption)))
  clear x1 x2 r1
  refine K_loopE (fun q : Nat × Int => [(10, .int .i64 (q.1 : Nat)), (7, .slice p1 (pathI T.c a).length k1), (8, .slice p2 (pathI T.c b).length k2), (9, .int .i64 q.2)])
    (fun q h' => q.1 ≤ (pathI T.c a).length ∧ Ext h2 h' ∧ sharedI (pathI T.c b) (pathI T.c a) 0 = sharedI (pathI T.c b) ((pathI T.c a).drop q.1) q.2) (fun q => (pathI T.c a).length - q.1) ?_ (0, 0) ?_ ?_
  · intro ⟨k, g⟩ h' ⟨hk, hx, hj⟩ ih
    dsimp only at hk hx hj ih ⊢
    by_cases hlt : k < (pathI T.c a).length
    · obtain ⟨bb, e, own', rfl, hg⟩ := r1'.at (by rw [ints_len]; omega)
      have hd : (pathI T.c a).drop k = (pathI T.c a).getD k 0 :: (pathI T.c a).drop (k + 1) := by
        rw [List.drop_eq_getElem_cons hlt]; simp [hlt]
      rw [hd] at hj
      (repeat' (first | (apply K_seq) | (apply K_region) | (apply O_at; rfl) | (apply N_at; rfl) | (apply O_fin; rfl) | (apply C_seq) | (apply K_ifT; rfl) | (apply K_ifF; rfl) | (apply K_open; exact openOK_of (by decide +kernel)) | (apply K_block) | (apply K_skip) | (apply K_exit) | (apply K_ret) | (apply N_fin; rfl; exact (.inl (Nat.le_refl 1))) | (apply N_fin; rfl; refine .inr ?_; (focus repeat' first | exact trivial | exact Keeps.nil _ _ | apply And.intro | rfl | (apply Keeps.cons; (focus repeat' first | exact get_push_same | assumption | (apply Ext.get; assumption)); (focus repeat' first | exact get_push_same | assumption | (apply Ext.get; assumption))))) | (apply C_exit) | (apply C_exitS) | (apply C_exitL) | (apply C_blockN) | (apply C_nil) | (apply P_move; rfl; rfl; rfl; rfl) | (apply P_assign; rfl; rfl; rfl; rfl) | (apply P_len; rfl; rfl; rfl; rfl; rfl; rfl; exact un_ok rfl) | (apply P_lssF; rfl; rfl; rfl; rfl; rfl; omega) | (apply P_lssT; rfl; rfl; rfl; rfl; rfl; omega) | (apply P_add; rfl; rfl; rfl; rfl; rfl; (unfold fit; omega)) | (apply P_idxA; rfl; rfl; rfl; rfl; rfl; exact un_ok rfl; exact sz_ok rfl; (first | rfl | exact (Int.toNat_of_nonneg (by omega)).symm); omega) | (apply P_load1; rfl; rfl; rfl; rfl; exact on_ok rfl; (focus repeat' first | exact get_push_same | assumption | (apply Ext.get; assumption)); (first | exact ints_get (by omega) | rfl | assumption)) | (apply P_box; rfl; rfl; rfl; rfl; exact sz_ok rfl; rfl; rfl) | (apply P_max; rfl; rfl; rfl; rfl; rfl; rfl) | (apply M_move; rfl; rfl; rfl; rfl) | (apply M_assign; rfl; rfl; rfl; rfl) | (apply M_loadA; rfl; rfl; rfl; rfl; exact ag_ok rfl; (focus repeat' first | exact get_push_same | assumption | (apply Ext.get; assumption)); (first | exact Nat.le_of_ble_eq_true rfl | (simp; done) | (simp; omega) | (rw [ints_len]; omega)); rfl; (first | assumption | exact same_yield _ | rfl | exact same_treO _ _ _ _ | (focus simp [same, same.all2]; done)); (first | rfl | assumption | exact within_yield (by omega) | exact within_treO hpb (by (focus repeat' first | exact Ext.refl _ | assumption | apply Ext.push | (refine Ext.trans ?_ (by assumption)))) | exact within_optO (by assumption) (by (focus repeat' first | exact Ext.refl _ | assumption | apply Ext.push | (refine Ext.trans ?_ (by assumption)))) | (simp [within]; omega))) | (apply P_call; rfl; rfl; rfl; rfl; rfl; rfl; exact listed_ok hK (by omega) (r2.ext (by (focus repeat' first | exact Ext.refl _ | assumption | apply Ext.push | (refine Ext.trans ?_ (by assumption))))); (rintro _ _ (⟨rfl, _, _⟩ | ⟨rfl, _, _⟩))) | (apply M_call; rfl; rfl; rfl; rfl; rfl; rfl; rfl; exact listed_ok hK (by omega) (r2.ext (by (focus repeat' first | exact Ext.refl _ | assumption | apply Ext.push | (refine Ext.trans ?_ (by assumption))))); (rintro _ _ (⟨rfl, _, _⟩ | ⟨rfl, _, _⟩))) | fail))
      · rename_i q2 _
        refine C_again (ih (k + 1, max g ((pathI T.c a).getD k 0)) _ ?_ ⟨hlt, ?_, ?_⟩) ?_
        · dsimp only; omega
        · (focus repeat' first | exact Ext.refl _ | assumption | apply Ext.push | (refine Ext.trans ?_ (by assumption)))
        · rw [hj]; dsimp only [sharedI]; rw [if_pos q2]
        · (focus repeat' first | rfl | exact trivial | apply And.intro)
      · rename_i q2 _
        refine C_again (ih (k + 1, g) _ ?_ ⟨hlt, ?_, ?_⟩) ?_
        · dsimp only; omega
        · (focus repeat' first | exact Ext.refl _ | assumption | apply Ext.push | (refine Ext.trans ?_ (by assumption)))
        · rw [hj]; dsimp only [sharedI]; rw [if_neg q2]
        · (focus repeat' first | rfl | exact trivial | apply And.intro)
    · (repeat' (first | (apply K_seq) | (apply K_region) | (apply O_at; rfl) | (apply N_at; rfl) | (apply O_fin; rfl) | (apply C_seq) | (apply K_ifT; rfl) | (apply K_ifF; rfl) | (apply K_open; exact openOK_of (by decide +kernel)) | (apply K_block) | (apply K_skip) | (apply K_exit) | (apply K_ret) | (apply N_fin; rfl; exact (.inl (Nat.le_refl 1))) | (apply N_fin; rfl; refine .inr ?_; (focus repeat' first | exact trivial | exact Keeps.nil _ _ | apply And.intro | rfl | (apply Keeps.cons; (focus repeat' first | exact get_push_same | assumption | (apply Ext.get; assumption)); (focus repeat' first | exact get_push_same | assumption | (apply Ext.get; assumption))))) | (apply C_exit) | (apply C_exitS) | (apply C_exitL) | (apply C_blockN) | (apply C_nil) | (apply P_move; rfl; rfl; rfl; rfl) | (apply P_assign; rfl; rfl; rfl; rfl) | (apply P_len; rfl; rfl; rfl; rfl; rfl; rfl; exact un_ok rfl) | (apply P_lssF; rfl; rfl; rfl; rfl; rfl; omega) | (apply P_lssT; rfl; rfl; rfl; rfl; rfl; omega) | (apply P_add; rfl; rfl; rfl; rfl; rfl; (unfold fit; omega)) | (apply P_idxA; rfl; rfl; rfl; rfl; rfl; exact un_ok rfl; exact sz_ok rfl; (first | rfl | exact (Int.toNat_of_nonneg (by omega)).symm); omega) | (apply P_load1; rfl; rfl; rfl; rfl; exact on_ok rfl; (focus repeat' first | exact get_push_same | assumption | (apply Ext.get; assumption)); (first | exact ints_get (by omega) | rfl | assumption)) | (apply P_box; rfl; rfl; rfl; rfl; exact sz_ok rfl; rfl; rfl) | (apply P_max; rfl; rfl; rfl; rfl; rfl; rfl) | (apply M_move; rfl; rfl; rfl; rfl) | (apply M_assign; rfl; rfl; rfl; rfl) | (apply M_loadA; rfl; rfl; rfl; rfl; exact ag_ok rfl; (focus repeat' first | exact get_push_same | assumption | (apply Ext.get; assumption)); (first | exact Nat.le_of_ble_eq_true rfl | (simp; done) | (simp; omega) | (rw [ints_len]; omega)); rfl; (first | assumption | exact same_yield _ | rfl | exact same_treO _ _ _ _ | (focus simp [same, same.all2]; done)); (first | rfl | assumption | exact within_yield (by omega) | exact within_treO hpb (by (focus repeat' first | exact Ext.refl _ | assumption | apply Ext.push | (refine Ext.trans ?_ (by assumption)))) | exact within_optO (by assumption) (by (focus repeat' first | exact Ext.refl _ | assumption | apply Ext.push | (refine Ext.trans ?_ (by assumption)))) | (simp [within]; omega))) | fail))
      have hd : (pathI T.c a).drop k = [] := List.drop_eq_nil_of_le (by omega)
      rw [hd] at hj
      exact ⟨.inr rfl, _, rfl, by rw [hj]; rfl, by (focus repeat' first | exact Ext.refl _ | assumption | apply Ext.push | (refine Ext.trans ?_ (by assumption)))⟩
  · exact ⟨Nat.zero_le _, Ext.refl _, rfl⟩
  · (focus repeat' first | rfl | exact trivial | apply And.intro)
end Go.AX.Sa

namespace Go.AX.Sa
open Go.Proofs
set_option maxRecDepth 100000
variable {K : Known}
/-! What paths are. -/
theorem path_zero_mem (c : List Cop) (k : Nat) : (0 : Int) ∈ pathI c k := by
  induction k using Nat.strongRecOn with
  | ind k ih =>
    match k with
    | 0 => rw [pathI_zero]; exact List.mem_cons_self ..
    | k + 1 => rw [pathI]; exact List.mem_cons_of_mem _ (ih _ (by omega))
theorem path_split (c : List Cop) (k : Nat) {x : Int} (h : x ∈ pathI c k) : ∃ (j : Nat) (pre : List Int), x = (j : Nat) ∧ j ≤ k ∧ pathI c k = pre ++ pathI c j ∧ ∀ y ∈ pre, x < y := by
  induction k using Nat.strongRecOn with
  | ind k ih =>
    match k, h with
    | 0, h =>
      rw [pathI_zero] at h
      exact ⟨0, [], by simpa using h, Nat.le_refl _, rfl, fun y hy => by cases hy⟩
    | k + 1, h =>
      rw [pathI, List.mem_cons] at h
      rcases h with h | h
      · exact ⟨k + 1, [], h, Nat.le_refl _, rfl, fun y hy => by cases hy⟩
      · obtain ⟨j, pre, h1, h2, h3, h4⟩ := ih (min (parN c (k + 1)) k) (by omega) h
        refine ⟨j, ((k + 1 : Nat) : Int) :: pre, h1, by omega, by rw [pathI, h3]; rfl, fun y hy => ?_⟩
        rcases List.mem_cons.1 hy with hy | hy
        · omega
        · exact h4 y hy
theorem path_self (c : List Cop) (k : Nat) : ((k : Nat) : Int) ∈ pathI c k := by
  match k with
  | 0 => rw [pathI_zero]; exact List.mem_cons_self ..
  | k + 1 => rw [pathI]; exact List.mem_cons_self ..
/-! What two paths share. -/
theorem shared_ge {m : List Int} : ∀ (l : List Int) (g : Int), g ≤ sharedI m l g ∧ ∀ x ∈ l, x ∈ m → x ≤ sharedI m l g := by
  intro l
  induction l with
  | nil => intro g; exact ⟨Int.le_refl _, fun x hx => by cases hx⟩
  | cons a l ih =>
    intro g
    obtain ⟨h1, h2⟩ := ih (if a ∈ m then max g a else g)
    simp only [sharedI]
    refine ⟨?_, fun x hx hm => ?_⟩
    · split at h1 <;> rename_i q <;> simp only [q, if_true, if_false] at * <;> omega
    · rcases List.mem_cons.1 hx with rfl | hx
      · rw [if_pos hm] at h1 ⊢; omega
      · exact h2 x hx hm
theorem shared_in {m : List Int} : ∀ (l : List Int) (g : Int), sharedI m l g = g ∨ (sharedI m l g ∈ l ∧ sharedI m l g ∈ m) := by
  intro l
  induction l with
  | nil => intro g; exact .inl rfl
  | cons a l ih =>
    intro g
    simp only [sharedI]
    by_cases q : a ∈ m
    · rw [if_pos q]
      rcases ih (max g a) with h | ⟨h1, h2⟩
      · by_cases hg : a ≤ g
        · left; rw [h]; omega
        · right; rw [h, show max g a = a from by omega]; exact ⟨List.mem_cons_self .., q⟩
      · exact .inr ⟨List.mem_cons_of_mem _ h1, h2⟩
    · rw [if_neg q]
      rcases ih g with h | ⟨h1, h2⟩
      · exact .inl h
      · exact .inr ⟨List.mem_cons_of_mem _ h1, h2⟩
def shr (c : List Cop) (a b : Nat) : Int := sharedI (pathI c b) (pathI c a) 0
theorem shr_mem (c : List Cop) (a b : Nat) : shr c a b ∈ pathI c a ∧ shr c a b ∈ pathI c b := by
  unfold shr
  rcases shared_in (m := pathI c b) (pathI c a) 0 with h | h
  · rw [h]; exact ⟨path_zero_mem _ _, path_zero_mem _ _⟩
  · exact h
theorem shr_max {c : List Cop} {a b : Nat} {x : Int} (h1 : x ∈ pathI c a) (h2 : x ∈ pathI c b) : x ≤ shr c a b := (shared_ge _ 0).2 x h1 h2
end Go.AX.Sa
