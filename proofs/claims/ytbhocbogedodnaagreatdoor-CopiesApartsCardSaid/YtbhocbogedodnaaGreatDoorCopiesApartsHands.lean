/- Hands that are apart: the copies that each comes from; the first hand of each kind. -/
import Derived.Test.YtbhocbogedodnaaGreatDoorSwB
namespace Go.AX.Sa
open Go.Proofs
set_option maxRecDepth 100000
variable {K : Known}
/-! Hands that are apart: what each comes from that was made from the copy 0. -/
def topN (c : List Cop) : Nat → Nat
  | 0 => 0
  | k + 1 => if min (parN c (k + 1)) k = 0 then k + 1 else topN c (min (parN c (k + 1)) k)
termination_by k => k
decreasing_by omega
theorem top_mem (c : List Cop) (k : Nat) : ((topN c k : Nat) : Int) ∈ pathI c k := by
  induction k using Nat.strongRecOn with
  | ind k ih =>
    match k with
    | 0 => rw [topN, pathI_zero]; exact List.mem_cons_self ..
    | k + 1 =>
      rw [topN]
      split
      · exact path_self _ _
      · rw [pathI]; exact List.mem_cons_of_mem _ (ih _ (by omega))
theorem top_pos (c : List Cop) (k : Nat) (h : 0 < k) : 0 < topN c k := by
  induction k using Nat.strongRecOn with
  | ind k ih =>
    match k, h with
    | k + 1, _ =>
      rw [topN]
      split
      · omega
      · exact ih _ (by omega) (by omega)
theorem top_of_mem (c : List Cop) (k : Nat) {j : Nat} (hm : ((j : Nat) : Int) ∈ pathI c k) (h : 0 < j) : topN c j = topN c k := by
  induction k using Nat.strongRecOn with
  | ind k ih =>
    match k, hm with
    | 0, hm => rw [pathI_zero] at hm; simp at hm; omega
    | k + 1, hm =>
      rw [pathI, List.mem_cons] at hm
      rcases hm with q | q
      · have : j = k + 1 := by omega
        rw [this]
      · have hp : min (parN c (k + 1)) k ≠ 0 := fun z => by
          rw [z, pathI_zero] at q; simp at q; omega
        have e : topN c (k + 1) = topN c (min (parN c (k + 1)) k) := by
          rw [topN, if_neg hp]
        rw [e]
        exact ih _ (by omega) q
theorem shr_top {c : List Cop} {a b : Nat} (ha : 0 < a) (_hb : 0 < b) : shr c a b ≠ 0 ↔ topN c a = topN c b := by
  obtain ⟨m1, m2⟩ := shr_mem c a b
  constructor
  · intro h
    obtain ⟨j, _, e, _⟩ := path_split c a m1
    rw [e] at m1 m2 h
    have hj : 0 < j := by omega
    rw [← top_of_mem c a m1 hj, ← top_of_mem c b m2 hj]
  · intro h
    have t1 := top_mem c a
    have t2 := top_mem c b
    rw [← h] at t2
    have := shr_max t1 t2
    have := top_pos c a ha
    omega
/-! The first of each kind. -/
def gr (f : Int → Int) : List Int → List Int → List Int
  | [], acc => acc
  | h :: t, acc => if acc.any (fun g => f g == f h) then gr f t acc else gr f t (acc ++ [h])
theorem gr_cons (f : Int → Int) (h : Int) (t acc : List Int) : gr f (h :: t) acc = if acc.any (fun g => f g == f h) then gr f t acc else gr f t (acc ++ [h]) := rfl
theorem any_iff {f : Int → Int} {acc : List Int} {h : Int} : acc.any (fun g => f g == f h) = true ↔ ∃ g ∈ acc, f g = f h := by simp [List.any_eq_true]
/-- In order, of different kinds, and one of each kind that there is, none later. -/
structure GrOK (f : Int → Int) (l acc : List Int) : Prop where
  sub : ∀ g ∈ acc, g ∈ l
  sorted : acc.Pairwise (· < ·)
  diff : acc.Pairwise (fun a b => f a ≠ f b)
  all : ∀ h ∈ l, ∃ g ∈ acc, f g = f h ∧ g ≤ h
theorem gr_ok {f : Int → Int} : ∀ (r l acc : List Int), (l ++ r).Pairwise (· < ·) → GrOK f l acc → GrOK f (l ++ r) (gr f r acc) := by
  intro r
  induction r with
  | nil => intro l acc _ h; rw [List.append_nil]; exact h
  | cons x r ih =>
    intro l acc hs h
    have hs' : ((l ++ [x]) ++ r).Pairwise (· < ·) := by rw [List.append_assoc]; exact hs
    have hlx : ∀ y ∈ l, y < x := fun y hy => (List.pairwise_append.1 hs).2.2 y hy x (List.mem_cons_self ..)
    rw [gr_cons, show l ++ x :: r = (l ++ [x]) ++ r from by simp]
    by_cases hc : acc.any (fun g => f g == f x) = true
    · rw [if_pos hc]
      refine ih _ _ hs' ⟨fun g hg => List.mem_append_left _ (h.sub g hg), h.sorted, h.diff, fun y hy => ?_⟩
      rcases List.mem_append.1 hy with hy | hy
      · exact h.all y hy
      · obtain ⟨g, hg, e⟩ := any_iff.1 hc
        rw [List.mem_singleton.1 hy]
        exact ⟨g, hg, e, Int.le_of_lt (hlx g (h.sub g hg))⟩
    · rw [if_neg hc]
      refine ih _ _ hs' ⟨fun g hg => ?_, ?_, ?_, fun y hy => ?_⟩
      · rcases List.mem_append.1 hg with hg | hg
        · exact List.mem_append_left _ (h.sub g hg)
        · exact List.mem_append_right _ hg
      · exact List.pairwise_append.2 ⟨h.sorted, List.pairwise_singleton _ _, fun a ha b hb => by rw [List.mem_singleton.1 hb]; exact hlx a (h.sub a ha)⟩
      · exact List.pairwise_append.2 ⟨h.diff, List.pairwise_singleton _ _, fun a ha b hb => by rw [List.mem_singleton.1 hb]; exact fun e => hc (any_iff.2 ⟨a, ha, e⟩)⟩
      · rcases List.mem_append.1 hy with hy | hy
        · obtain ⟨g, hg, e⟩ := h.all y hy
          exact ⟨g, List.mem_append_left _ hg, e⟩
        · rw [List.mem_singleton.1 hy]
          exact ⟨x, List.mem_append_right _ (List.mem_cons_self ..), rfl, Int.le_refl _⟩
theorem gr_all {f : Int → Int} {l : List Int} (hs : l.Pairwise (· < ·)) : GrOK f l (gr f l []) :=
  gr_ok l [] [] hs ⟨fun _ hg => (nomatch hg), List.Pairwise.nil, List.Pairwise.nil, fun _ hh => (nomatch hh)⟩
/-- As many at most, if each is of a kind that there is. -/
theorem inj_len {f : Int → Int} : ∀ (A B : List Int), A.Pairwise (fun a b => f a ≠ f b) → (∀ a ∈ A, ∃ b ∈ B, f b = f a) → A.length ≤ B.length := by
  intro A
  induction A with
  | nil => intro B _ _; exact Nat.zero_le _
  | cons a A ih =>
    intro B hp hB
    obtain ⟨b, hb, e⟩ := hB a (List.mem_cons_self ..)
    have h1 := ih (B.erase b) (List.pairwise_cons.1 hp).2 (fun a' ha' => by
      obtain ⟨b', hb', e'⟩ := hB a' (List.mem_cons_of_mem _ ha')
      refine ⟨b', (List.mem_erase_of_ne (fun q => ?_)).2 hb', e'⟩
      subst q
      exact (List.pairwise_cons.1 hp).1 a' ha' (e.symm.trans e'))
    have h2 := List.length_erase_of_mem hb
    have h3 : 0 < B.length := List.length_pos_of_mem hb
    rw [List.length_cons]; omega
theorem filter_prefix : ∀ (G : List Int) (x : Int) (i : Nat), G.Pairwise (· < ·) → i < (G.filter (fun g => decide (g ≤ x))).length → i < G.length ∧ G.getD i 0 ≤ x := by
  intro G
  induction G with
  | nil => intro x i _ h; simp at h
  | cons g G ih =>
    intro x i hp h
    obtain ⟨p1, p2⟩ := List.pairwise_cons.1 hp
    by_cases hg : g ≤ x
    · rw [List.filter_cons_of_pos (by simpa using hg), List.length_cons] at h
      cases i with
      | zero => exact ⟨Nat.succ_pos _, hg⟩
      | succ i =>
        obtain ⟨q1, q2⟩ := ih x i p2 (by omega)
        exact ⟨by rw [List.length_cons]; omega, by rw [List.getD_cons_succ]; exact q2⟩
    · exfalso
      have : (g :: G).filter (fun g => decide (g ≤ x)) = [] := by
        rw [List.filter_eq_nil_iff]
        intro y hy
        rcases List.mem_cons.1 hy with rfl | hy
        · simpa using hg
        · have := p1 y hy; simp; omega
      rw [this] at h; simp at h
/-- Others of different kinds are no more, and none of them comes before. -/
theorem gr_best {f : Int → Int} {l G O : List Int} (h : GrOK f l G) (hO : ∀ o ∈ O, o ∈ l) (hs : O.Pairwise (· < ·)) (hd : O.Pairwise (fun a b => f a ≠ f b)) : ∀ i, i < O.length → i < G.length ∧ G.getD i 0 ≤ O.getD i 0 := by
  intro i hi
  refine filter_prefix G (O.getD i 0) i h.sorted ?_
  have e : O.getD i 0 = O[i] := by simp [hi]
  have h1 := inj_len (f := f) (O.take (i + 1)) (G.filter (fun g => decide (g ≤ O.getD i 0))) (hd.sublist (List.take_sublist _ _)) (fun a ha => by
    obtain ⟨g, hg, q1, q2⟩ := h.all a (hO a (List.mem_of_mem_take ha))
    refine ⟨g, List.mem_filter.2 ⟨hg, ?_⟩, q1⟩
    obtain ⟨j, hj1, hj2⟩ := List.getElem_of_mem ha
    rw [List.length_take] at hj1
    rw [List.getElem_take] at hj2
    have : a ≤ O[i] := by
      rw [← hj2]
      by_cases hji : j = i
      · subst hji; exact Int.le_refl _
      · exact Int.le_of_lt (List.pairwise_iff_getElem.1 hs j i (by omega) hi (by omega))
    rw [e]; simp; omega)
  rw [List.length_take] at h1
  omega
end Go.AX.Sa

namespace Go.AX.Sa
open Go.Proofs
set_option maxRecDepth 100000
variable {K : Known}
/-- Hands: an increasing list of copies, without the copy 0. -/
def HandsTo (n : Nat) (l : List Int) (k : Nat) : Prop := ∀ i, i < k → (1 ≤ l.getD i 0 ∧ l.getD i 0 ≤ (n : Int) - 1) ∧ (0 < i → l.getD (i - 1) 0 < l.getD i 0)
def HandsP (T : Tre) (l : List Int) : Prop := HandsTo T.c.length l l.length
theorem hands_sorted {T : Tre} {l : List Int} (h : HandsP T l) : l.Pairwise (· < ·) := by
  have step : ∀ (d i : Nat), i + d + 1 < l.length → l.getD i 0 < l.getD (i + d + 1) 0 := by
    intro d
    induction d with
    | zero => intro i hi; exact (h (i + 0 + 1) hi).2 (by omega)
    | succ d ih =>
      intro i hi
      have h1 := ih i (by omega)
      have h2 := (h (i + (d + 1) + 1) hi).2 (by omega)
      rw [show i + (d + 1) + 1 - 1 = i + d + 1 from by omega] at h2
      omega
  rw [List.pairwise_iff_getElem]
  intro i j hi hj hij
  have := step (j - i - 1) i (by omega)
  rw [show i + (j - i - 1) + 1 = j from by omega] at this
  simpa [hi, hj] using this
theorem hands_mem {T : Tre} {l : List Int} (h : HandsP T l) {x : Int} (hx : x ∈ l) : 1 ≤ x ∧ x ≤ (T.c.length : Int) - 1 := by
  obtain ⟨i, hi, e⟩ := List.getElem_of_mem hx
  have := (h i hi).1
  have q : l.getD i 0 = x := by simp [hi, e]
  rw [q] at this; exact this
theorem hands_of {T : Tre} {l : List Int} (hs : l.Pairwise (· < ·)) (hm : ∀ x ∈ l, 1 ≤ x ∧ x ≤ (T.c.length : Int) - 1) : HandsP T l := by
  intro i hi
  have e : l.getD i 0 = l[i] := by simp [hi]
  refine ⟨by rw [e]; exact hm _ (List.getElem_mem hi), fun h0 => ?_⟩
  have hi1 : i - 1 < l.length := by omega
  have e1 : l.getD (i - 1) 0 = l[i - 1] := by simp [hi1]
  rw [e, e1]
  exact List.pairwise_iff_getElem.1 hs (i - 1) i hi1 hi (by omega)
theorem refHands_ok (hK : NoK K) {T : Tre} {l : List Int} {p : Option Addr} {cap : Nat} {h : Heap} (hT : TreAt T h) (hs : ShortP T) (hn : l.length ≤ 1000) (hr : Rd h p (ints l)) :
    CallW Tryz.prog K 46 #[treV T, .slice p l.length cap] h (IfB (HandsP T l) h) := by
  have l1 := hs.1
  have hpb := hT.b
  refine body (N := 38) Tryz.func46 rfl (hK _ _ _ rfl) rfl rfl ?_
  (repeat' (first | (apply K_seq) | (apply K_region) | (apply O_at; rfl) | (apply N_at; rfl) | (apply O_fin; rfl) | (apply C_seq) | (apply K_ifT; rfl) | (apply K_ifF; rfl) | (apply K_open; exact openOK_of (by decide +kernel)) | (apply K_block) | (apply K_skip) | (apply K_exit) | (apply K_ret) | (apply N_fin; rfl; exact (.inl (Nat.le_refl 1))) | (apply N_fin; rfl; refine .inr ?_; (focus repeat' first | exact trivial | exact Keeps.nil _ _ | apply And.intro | rfl | (apply Keeps.cons; (focus repeat' first | exact get_push_same | assumption | apply get_push_old | (apply Ext.get; assumption)); (focus repeat' first | exact get_push_same | assumption | apply get_push_old | (apply Ext.get; assumption))))) | (apply C_retS) | (apply C_retL) | (apply C_retB) | (apply C_exit) | (apply C_exitS) | (apply C_exitL) | (apply C_blockN) | (apply C_nil) | (apply P_move; rfl; rfl; rfl; rfl) | (apply P_assign; rfl; rfl; rfl; rfl) | (apply P_len; rfl; rfl; rfl; rfl; rfl; rfl; exact un_ok rfl) | (apply P_lssF; rfl; rfl; rfl; rfl; rfl; omega) | (apply P_lssT; rfl; rfl; rfl; rfl; rfl; omega) | (apply P_add; rfl; rfl; rfl; rfl; rfl; (unfold fit; omega)) | (apply P_box; rfl; rfl; rfl; rfl; exact sz_ok rfl; rfl; rfl) | (apply M_skip; rfl; rfl; rfl; rfl) | (apply M_move; rfl; rfl; rfl; rfl) | (apply M_fa; rfl; rfl; rfl; rfl; exact fo_ok rfl; (first | exact Nat.zero_add _ | exact Nat.add_zero _ | rfl)) | (apply M_len; rfl; rfl; rfl; rfl; rfl; rfl; exact un_ok rfl) | (apply M_pick; rfl; rfl; rfl; rfl; rfl; rfl) | (apply M_not; rfl; rfl; rfl; rfl) | (apply M_leq; rfl; rfl; rfl; rfl; rfl; all_goals intro _) | (apply M_gtr; rfl; rfl; rfl; rfl; rfl; all_goals intro _) | (apply M_sub; rfl; rfl; rfl; rfl; rfl; (unfold fit; omega)) | (apply M_idxA; rfl; rfl; rfl; rfl; rfl; exact un_ok rfl; exact sz_ok rfl; (first | rfl | exact (Int.toNat_of_nonneg (by omega)).symm); omega) | (apply M_load1E; rfl; rfl; rfl; rfl; exact on_ok rfl; exact actsMost_0 (by decide +kernel); (focus repeat' first | exact get_push_same | assumption | apply get_push_old | (apply Ext.get; assumption)); (first | exact ints_get (by omega) | rfl | assumption); (first | assumption | exact same_yield _ | exact same_int _ _ | exact same_slice _ _ _ | rfl | exact same_treO _ _ _ _ | (focus simp [same, same.all2]; done)); (first | rfl | assumption | exact within_yield (by omega) | exact within_treO hpb (by (focus repeat' first | exact Ext.refl _ | assumption | apply Ext.push | (refine Ext.trans ?_ (by assumption)))) | exact within_optO (by assumption) (by (focus repeat' first | exact Ext.refl _ | assumption | apply Ext.push | (refine Ext.trans ?_ (by assumption)))) | (simp [within]; omega))) | (apply M_load1H; rfl; rfl; rfl; rfl; exact on_ok rfl; exact actsMost_1 (by decide +kernel); (focus repeat' first | exact get_push_same | assumption | apply get_push_old | (apply Ext.get; assumption)); (first | exact ints_get (by omega) | rfl | assumption); (first | assumption | exact same_yield _ | exact same_int _ _ | exact same_slice _ _ _ | rfl | exact same_treO _ _ _ _ | (focus simp [same, same.all2]; done)); (first | rfl | assumption | exact within_yield (by omega) | exact within_treO hpb (by (focus repeat' first | exact Ext.refl _ | assumption | apply Ext.push | (refine Ext.trans ?_ (by assumption)))) | exact within_optO (by assumption) (by (focus repeat' first | exact Ext.refl _ | assumption | apply Ext.push | (refine Ext.trans ?_ (by assumption)))) | (simp [within]; omega))) | fail))
  refine K_loopE (fun k : Nat => [(5, .int .i64 (k : Nat)), (2, .pointer (some ⟨h.n, 0, none⟩)), (1, .slice p l.length cap)])
    (fun k h' => k ≤ l.length ∧ Ext (h.push (.cells [.int .i64 T.places, .slice T.p T.c.length T.k] 24 true)) h' ∧ HandsTo T.c.length l k) (fun k => l.length - k) ?_ 0 ?_ ?_
  · intro k h' ⟨hk, hx, hj⟩ ih
    have hg3 := hx.get get_push_same
    by_cases hlt : k < l.length
    · obtain ⟨b, e, own', rfl, hg⟩ := hr.at (by rw [ints_len]; omega)
      have hq : l.getD (((k : Nat) : Int) - 1).toNat 0 = l.getD (k - 1) 0 := by rw [show (((k : Nat) : Int) - 1).toNat = k - 1 from by omega]
      (repeat' (first | (apply K_seq) | (apply K_region) | (apply O_at; rfl) | (apply N_at; rfl) | (apply O_fin; rfl) | (apply C_seq) | (apply K_ifT; rfl) | (apply K_ifF; rfl) | (apply K_open; exact openOK_of (by decide +kernel)) | (apply K_block) | (apply K_skip) | (apply K_exit) | (apply K_ret) | (apply N_fin; rfl; exact (.inl (Nat.le_refl 1))) | (apply N_fin; rfl; refine .inr ?_; (focus repeat' first | exact trivial | exact Keeps.nil _ _ | apply And.intro | rfl | (apply Keeps.cons; (focus repeat' first | exact get_push_same | assumption | apply get_push_old | (apply Ext.get; assumption)); (focus repeat' first | exact get_push_same | assumption | apply get_push_old | (apply Ext.get; assumption))))) | (apply C_retS) | (apply C_retL) | (apply C_retB) | (apply C_exit) | (apply C_exitS) | (apply C_exitL) | (apply C_blockN) | (apply C_nil) | (apply P_move; rfl; rfl; rfl; rfl) | (apply P_assign; rfl; rfl; rfl; rfl) | (apply P_len; rfl; rfl; rfl; rfl; rfl; rfl; exact un_ok rfl) | (apply P_lssF; rfl; rfl; rfl; rfl; rfl; omega) | (apply P_lssT; rfl; rfl; rfl; rfl; rfl; omega) | (apply P_add; rfl; rfl; rfl; rfl; rfl; (unfold fit; omega)) | (apply P_box; rfl; rfl; rfl; rfl; exact sz_ok rfl; rfl; rfl) | (apply M_skip; rfl; rfl; rfl; rfl) | (apply M_move; rfl; rfl; rfl; rfl) | (apply M_fa; rfl; rfl; rfl; rfl; exact fo_ok rfl; (first | exact Nat.zero_add _ | exact Nat.add_zero _ | rfl)) | (apply M_len; rfl; rfl; rfl; rfl; rfl; rfl; exact un_ok rfl) | (apply M_pick; rfl; rfl; rfl; rfl; rfl; rfl) | (apply M_not; rfl; rfl; rfl; rfl) | (apply M_leq; rfl; rfl; rfl; rfl; rfl; all_goals intro _) | (apply M_gtr; rfl; rfl; rfl; rfl; rfl; all_goals intro _) | (apply M_sub; rfl; rfl; rfl; rfl; rfl; (unfold fit; omega)) | (apply M_idxA; rfl; rfl; rfl; rfl; rfl; exact un_ok rfl; exact sz_ok rfl; (first | rfl | exact (Int.toNat_of_nonneg (by omega)).symm); omega) | (apply M_load1E; rfl; rfl; rfl; rfl; exact on_ok rfl; exact actsMost_0 (by decide +kernel); (focus repeat' first | exact get_push_same | assumption | apply get_push_old | (apply Ext.get; assumption)); (first | exact ints_get (by omega) | rfl | assumption); (first | assumption | exact same_yield _ | exact same_int _ _ | exact same_slice _ _ _ | rfl | exact same_treO _ _ _ _ | (focus simp [same, same.all2]; done)); (first | rfl | assumption | exact within_yield (by omega) | exact within_treO hpb (by (focus repeat' first | exact Ext.refl _ | assumption | apply Ext.push | (refine Ext.trans ?_ (by assumption)))) | exact within_optO (by assumption) (by (focus repeat' first | exact Ext.refl _ | assumption | apply Ext.push | (refine Ext.trans ?_ (by assumption)))) | (simp [within]; omega))) | (apply M_load1H; rfl; rfl; rfl; rfl; exact on_ok rfl; exact actsMost_1 (by decide +kernel); (focus repeat' first | exact get_push_same | assumption | apply get_push_old | (apply Ext.get; assumption)); (first | exact ints_get (by omega) | rfl | assumption); (first | assumption | exact same_yield _ | exact same_int _ _ | exact same_slice _ _ _ | rfl | exact same_treO _ _ _ _ | (focus simp [same, same.all2]; done)); (first | rfl | assumption | exact within_yield (by omega) | exact within_treO hpb (by (focus repeat' first | exact Ext.refl _ | assumption | apply Ext.push | (refine Ext.trans ?_ (by assumption)))) | exact within_optO (by assumption) (by (focus repeat' first | exact Ext.refl _ | assumption | apply Ext.push | (refine Ext.trans ?_ (by assumption)))) | (simp [within]; omega))) | (apply M_call; rfl; rfl; rfl; rfl; rfl; rfl; rfl; exact in_ok hK; (rintro _ _ (⟨rfl, _, _⟩ | ⟨rfl, _, _⟩))) | fail))
      all_goals first
        | (refine ⟨.inr rfl, _, rfl, .inr ⟨rfl, fun z => ?_, by (focus repeat' first | exact Ext.refl _ | assumption | apply Ext.push | (refine Ext.trans ?_ (by assumption)))⟩⟩; have z1 := (z k hlt).1; have z2 := (z k hlt).2; omega)
        | (refine C_again (ih (k + 1) _ ?_ ⟨hlt, ?_, fun i hi => ?_⟩) ?_ <;> first | omega | ((focus repeat' first | exact Ext.refl _ | assumption | apply Ext.push | (refine Ext.trans ?_ (by assumption))); done) | ((focus repeat' first | rfl | exact trivial | apply And.intro); done) | (by_cases hik : i = k; (subst hik; exact ⟨by omega, fun _ => by omega⟩); (exact hj i (by omega))))
    · (repeat' (first | (apply K_seq) | (apply K_region) | (apply O_at; rfl) | (apply N_at; rfl) | (apply O_fin; rfl) | (apply C_seq) | (apply K_ifT; rfl) | (apply K_ifF; rfl) | (apply K_open; exact openOK_of (by decide +kernel)) | (apply K_block) | (apply K_skip) | (apply K_exit) | (apply K_ret) | (apply N_fin; rfl; exact (.inl (Nat.le_refl 1))) | (apply N_fin; rfl; refine .inr ?_; (focus repeat' first | exact trivial | exact Keeps.nil _ _ | apply And.intro | rfl | (apply Keeps.cons; (focus repeat' first | exact get_push_same | assumption | apply get_push_old | (apply Ext.get; assumption)); (focus repeat' first | exact get_push_same | assumption | apply get_push_old | (apply Ext.get; assumption))))) | (apply C_retS) | (apply C_retL) | (apply C_retB) | (apply C_exit) | (apply C_exitS) | (apply C_exitL) | (apply C_blockN) | (apply C_nil) | (apply P_move; rfl; rfl; rfl; rfl) | (apply P_assign; rfl; rfl; rfl; rfl) | (apply P_len; rfl; rfl; rfl; rfl; rfl; rfl; exact un_ok rfl) | (apply P_lssF; rfl; rfl; rfl; rfl; rfl; omega) | (apply P_lssT; rfl; rfl; rfl; rfl; rfl; omega) | (apply P_add; rfl; rfl; rfl; rfl; rfl; (unfold fit; omega)) | (apply P_box; rfl; rfl; rfl; rfl; exact sz_ok rfl; rfl; rfl) | (apply M_skip; rfl; rfl; rfl; rfl) | (apply M_move; rfl; rfl; rfl; rfl) | (apply M_fa; rfl; rfl; rfl; rfl; exact fo_ok rfl; (first | exact Nat.zero_add _ | exact Nat.add_zero _ | rfl)) | (apply M_len; rfl; rfl; rfl; rfl; rfl; rfl; exact un_ok rfl) | (apply M_pick; rfl; rfl; rfl; rfl; rfl; rfl) | (apply M_not; rfl; rfl; rfl; rfl) | (apply M_leq; rfl; rfl; rfl; rfl; rfl; all_goals intro _) | (apply M_gtr; rfl; rfl; rfl; rfl; rfl; all_goals intro _) | (apply M_sub; rfl; rfl; rfl; rfl; rfl; (unfold fit; omega)) | (apply M_idxA; rfl; rfl; rfl; rfl; rfl; exact un_ok rfl; exact sz_ok rfl; (first | rfl | exact (Int.toNat_of_nonneg (by omega)).symm); omega) | (apply M_load1E; rfl; rfl; rfl; rfl; exact on_ok rfl; exact actsMost_0 (by decide +kernel); (focus repeat' first | exact get_push_same | assumption | apply get_push_old | (apply Ext.get; assumption)); (first | exact ints_get (by omega) | rfl | assumption); (first | assumption | exact same_yield _ | exact same_int _ _ | exact same_slice _ _ _ | rfl | exact same_treO _ _ _ _ | (focus simp [same, same.all2]; done)); (first | rfl | assumption | exact within_yield (by omega) | exact within_treO hpb (by (focus repeat' first | exact Ext.refl _ | assumption | apply Ext.push | (refine Ext.trans ?_ (by assumption)))) | exact within_optO (by assumption) (by (focus repeat' first | exact Ext.refl _ | assumption | apply Ext.push | (refine Ext.trans ?_ (by assumption)))) | (simp [within]; omega))) | (apply M_load1H; rfl; rfl; rfl; rfl; exact on_ok rfl; exact actsMost_1 (by decide +kernel); (focus repeat' first | exact get_push_same | assumption | apply get_push_old | (apply Ext.get; assumption)); (first | exact ints_get (by omega) | rfl | assumption); (first | assumption | exact same_yield _ | exact same_int _ _ | exact same_slice _ _ _ | rfl | exact same_treO _ _ _ _ | (focus simp [same, same.all2]; done)); (first | rfl | assumption | exact within_yield (by omega) | exact within_treO hpb (by (focus repeat' first | exact Ext.refl _ | assumption | apply Ext.push | (refine Ext.trans ?_ (by assumption)))) | exact within_optO (by assumption) (by (focus repeat' first | exact Ext.refl _ | assumption | apply Ext.push | (refine Ext.trans ?_ (by assumption)))) | (simp [within]; omega))) | fail))
      have : k = l.length := by omega
      subst this
      exact ⟨.inr rfl, _, rfl, .inl ⟨rfl, hj, by (focus repeat' first | exact Ext.refl _ | assumption | apply Ext.push | (refine Ext.trans ?_ (by assumption)))⟩⟩
  · exact ⟨Nat.zero_le _, by (focus repeat' first | exact Ext.refl _ | assumption | apply Ext.push | (refine Ext.trans ?_ (by assumption))), fun i hi => by omega⟩
  · (focus repeat' first | rfl | exact trivial | apply And.intro)
theorem areHands_ok (hK : NoK K) {T : Tre} {l : List Int} {p : Option Addr} {cap : Nat} {h : Heap} (hs : ShortP T) (hn : l.length ≤ 1000) (hr : Rd h p (ints l)) :
    CallW Tryz.prog K 82 #[treV T, .slice p l.length cap] h (IfB (HandsP T l) h) := by
  have l1 := hs.1
  refine body (N := 25) Tryz.func82 rfl (hK _ _ _ rfl) rfl rfl ?_
  (repeat' (first | (apply K_seq) | (apply K_region) | (apply O_at; rfl) | (apply O_fin; rfl) | (apply C_seq) | (apply K_ifT; rfl) | (apply K_ifF; rfl) | (apply K_block) | (apply K_skip) | (apply K_exit) | (apply K_ret) | (apply C_retS) | (apply C_retL) | (apply C_retB) | (apply C_exit) | (apply C_exitS) | (apply C_exitL) | (apply C_blockN) | (apply C_nil) | (apply P_move; rfl; rfl; rfl; rfl) | (apply P_assign; rfl; rfl; rfl; rfl) | (apply P_fa; rfl; rfl; rfl; rfl; exact fo_ok rfl; (first | exact Nat.zero_add _ | exact Nat.add_zero _ | rfl)) | (apply P_len; rfl; rfl; rfl; rfl; rfl; rfl; exact un_ok rfl) | (apply P_not; rfl; rfl; rfl; rfl) | (apply P_lssF; rfl; rfl; rfl; rfl; rfl; omega) | (apply P_lssT; rfl; rfl; rfl; rfl; rfl; omega) | (apply P_add; rfl; rfl; rfl; rfl; rfl; (unfold fit; omega)) | (apply P_sub; rfl; rfl; rfl; rfl; rfl; (unfold fit; omega)) | (apply P_idxA; rfl; rfl; rfl; rfl; rfl; exact un_ok rfl; exact sz_ok rfl; (first | rfl | exact (Int.toNat_of_nonneg (by omega)).symm); omega) | (apply P_load1; rfl; rfl; rfl; rfl; exact on_ok rfl; (focus repeat' first | exact get_push_same | assumption | apply get_push_old | (apply Ext.get; assumption)); (first | exact ints_get (by omega) | rfl | assumption)) | (apply P_box; rfl; rfl; rfl; rfl; exact sz_ok rfl; rfl; rfl) | fail))
  refine K_loopE (fun q : Nat × Int => [(10, .int .i64 (q.1 : Nat)), (9, .int .i64 (l.length : Nat)), (8, .slice p l.length cap), (2, .pointer (some ⟨h.n, 0, none⟩)), (5, .int .i64 q.2)])
    (fun q h' => q.1 ≤ l.length ∧ Ext (h.push (.cells [.int .i64 T.places, .slice T.p T.c.length T.k] 24 true)) h' ∧ HandsTo T.c.length l q.1 ∧ 0 ≤ q.2 ∧ q.2 ≤ 10 ∧ (q.1 = 0 → q.2 = 0) ∧ (0 < q.1 → q.2 = l.getD (q.1 - 1) 0)) (fun q => l.length - q.1) ?_ (0, 0) ?_ ?_
  · intro ⟨k, last⟩ h' ⟨hk, hx, hj, h0, h10, hl0, hl1⟩ ih
    dsimp only at hk hx hj h0 h10 hl0 hl1 ih ⊢
    have hg3 := hx.get get_push_same
    by_cases hlt : k < l.length
    · obtain ⟨b, e, own', rfl, hg⟩ := hr.at (by rw [ints_len]; omega)
      (repeat' (first | (apply K_seq) | (apply K_region) | (apply O_at; rfl) | (apply O_fin; rfl) | (apply C_seq) | (apply K_ifT; rfl) | (apply K_ifF; rfl) | (apply K_block) | (apply K_skip) | (apply K_exit) | (apply K_ret) | (apply C_retS) | (apply C_retL) | (apply C_retB) | (apply C_exit) | (apply C_exitS) | (apply C_exitL) | (apply C_blockN) | (apply C_nil) | (apply P_move; rfl; rfl; rfl; rfl) | (apply P_assign; rfl; rfl; rfl; rfl) | (apply P_fa; rfl; rfl; rfl; rfl; exact fo_ok rfl; (first | exact Nat.zero_add _ | exact Nat.add_zero _ | rfl)) | (apply P_len; rfl; rfl; rfl; rfl; rfl; rfl; exact un_ok rfl) | (apply P_not; rfl; rfl; rfl; rfl) | (apply P_lssF; rfl; rfl; rfl; rfl; rfl; omega) | (apply P_lssT; rfl; rfl; rfl; rfl; rfl; omega) | (apply P_add; rfl; rfl; rfl; rfl; rfl; (unfold fit; omega)) | (apply P_sub; rfl; rfl; rfl; rfl; rfl; (unfold fit; omega)) | (apply P_idxA; rfl; rfl; rfl; rfl; rfl; exact un_ok rfl; exact sz_ok rfl; (first | rfl | exact (Int.toNat_of_nonneg (by omega)).symm); omega) | (apply P_load1; rfl; rfl; rfl; rfl; exact on_ok rfl; (focus repeat' first | exact get_push_same | assumption | apply get_push_old | (apply Ext.get; assumption)); (first | exact ints_get (by omega) | rfl | assumption)) | (apply P_box; rfl; rfl; rfl; rfl; exact sz_ok rfl; rfl; rfl) | (apply P_call; rfl; rfl; rfl; rfl; rfl; rfl; exact within_ok hK; (rintro _ _ (⟨rfl, _, _⟩ | ⟨rfl, _, _⟩))) | fail))
      all_goals first
        | (refine ⟨.inr rfl, _, rfl, .inr ⟨rfl, fun z => ?_, by (focus repeat' first | exact Ext.refl _ | assumption | apply Ext.push | (refine Ext.trans ?_ (by assumption)))⟩⟩; have z1 := (z k hlt).1; have z2 := (z k hlt).2; omega)
        | (refine C_again (ih (k + 1, l.getD k 0) _ ?_ ⟨hlt, ?_, fun i hi => ?_, ?_, ?_, ?_, ?_⟩) ?_ <;> first | (dsimp only; omega) | ((focus repeat' first | exact Ext.refl _ | assumption | apply Ext.push | (refine Ext.trans ?_ (by assumption))); done) | ((focus repeat' first | rfl | exact trivial | apply And.intro); done) | (intro _; rfl) | (by_cases hik : i = k; (subst hik; exact ⟨by omega, fun _ => by omega⟩); (exact hj i (by dsimp only at hi; omega))))
    · (repeat' (first | (apply K_seq) | (apply K_region) | (apply O_at; rfl) | (apply O_fin; rfl) | (apply C_seq) | (apply K_ifT; rfl) | (apply K_ifF; rfl) | (apply K_block) | (apply K_skip) | (apply K_exit) | (apply K_ret) | (apply C_retS) | (apply C_retL) | (apply C_retB) | (apply C_exit) | (apply C_exitS) | (apply C_exitL) | (apply C_blockN) | (apply C_nil) | (apply P_move; rfl; rfl; rfl; rfl) | (apply P_assign; rfl; rfl; rfl; rfl) | (apply P_fa; rfl; rfl; rfl; rfl; exact fo_ok rfl; (first | exact Nat.zero_add _ | exact Nat.add_zero _ | rfl)) | (apply P_len; rfl; rfl; rfl; rfl; rfl; rfl; exact un_ok rfl) | (apply P_not; rfl; rfl; rfl; rfl) | (apply P_lssF; rfl; rfl; rfl; rfl; rfl; omega) | (apply P_lssT; rfl; rfl; rfl; rfl; rfl; omega) | (apply P_add; rfl; rfl; rfl; rfl; rfl; (unfold fit; omega)) | (apply P_sub; rfl; rfl; rfl; rfl; rfl; (unfold fit; omega)) | (apply P_idxA; rfl; rfl; rfl; rfl; rfl; exact un_ok rfl; exact sz_ok rfl; (first | rfl | exact (Int.toNat_of_nonneg (by omega)).symm); omega) | (apply P_load1; rfl; rfl; rfl; rfl; exact on_ok rfl; (focus repeat' first | exact get_push_same | assumption | apply get_push_old | (apply Ext.get; assumption)); (first | exact ints_get (by omega) | rfl | assumption)) | (apply P_box; rfl; rfl; rfl; rfl; exact sz_ok rfl; rfl; rfl) | fail))
      have : k = l.length := by omega
      subst this
      exact ⟨.inr rfl, _, rfl, .inl ⟨rfl, hj, by (focus repeat' first | exact Ext.refl _ | assumption | apply Ext.push | (refine Ext.trans ?_ (by assumption)))⟩⟩
  · exact ⟨Nat.zero_le _, by (focus repeat' first | exact Ext.refl _ | assumption | apply Ext.push | (refine Ext.trans ?_ (by assumption))), fun i hi => absurd hi (Nat.not_lt_zero _), by decide, by decide, fun _ => rfl, fun q => absurd q (Nat.lt_irrefl _)⟩
  · (focus repeat' first | rfl | exact trivial | apply And.intro)
end Go.AX.Sa

namespace Go.AX.Sa
open Go.Proofs
set_option maxRecDepth 100000
/-! All lists of hands, in the order in which they are made; the first of the longest that are apart. -/
def lp (now : List Int) : List Int → List (List Int)
  | [] => []
  | x :: r => ((now ++ [x]) :: lp (now ++ [x]) r) ++ lp now r
def ch (now r : List Int) : List (List Int) := now :: lp now r
def pick (ok : List Int → Prop) [DecidablePred ok] : List (List Int) → List Int → List Int
  | [], out => out
  | x :: t, out => pick ok t (if out.length < x.length ∧ ok x then x else out)
def Diff (f : Int → Int) (l : List Int) : Prop := l.Pairwise (fun a b => f a ≠ f b)
noncomputable instance (f : Int → Int) : DecidablePred (Diff f) := fun _ => Classical.propDecidable _
theorem pick_app (ok : List Int → Prop) [DecidablePred ok] : ∀ (a b : List (List Int)) (out : List Int), pick ok (a ++ b) out = pick ok b (pick ok a out) := by
  intro a
  induction a with
  | nil => intro b out; rfl
  | cons x a ih => intro b out; exact ih b _
theorem diff_snoc {f : Int → Int} {l : List Int} {x : Int} (h : Diff f l) : Diff f (l ++ [x]) ↔ ¬ (l.any (fun g => f g == f x) = true) := by
  unfold Diff at *
  rw [List.pairwise_append]
  constructor
  · rintro ⟨_, _, q⟩ w
    obtain ⟨g, hg, e⟩ := any_iff.1 w
    exact q g hg x (List.mem_cons_self ..) e
  · intro w
    exact ⟨h, List.pairwise_singleton _ _, fun a ha b hb => by rw [List.mem_singleton.1 hb]; exact fun e => w (any_iff.2 ⟨a, ha, e⟩)⟩
theorem not_diff {f : Int → Int} : ∀ (r now : List Int) (out : List Int), ¬ Diff f now → pick (Diff f) (lp now r) out = out := by
  intro r
  induction r with
  | nil => intro now out _; rfl
  | cons x r ih =>
    intro now out hn
    have hx : ¬ Diff f (now ++ [x]) := fun q => hn (List.pairwise_append.1 q).1
    rw [lp, pick_app, pick, if_neg (fun q => hx q.2), ih _ _ hx, ih _ _ hn]
theorem gr_kinds {f : Int → Int} : ∀ (r acc : List Int) (h : Int), (h ∈ acc ∨ h ∈ r) → ∃ g ∈ gr f r acc, f g = f h := by
  intro r
  induction r with
  | nil => intro acc h q; rcases q with q | q; exact ⟨h, q, rfl⟩; exact nomatch q
  | cons x r ih =>
    intro acc h q
    rw [gr_cons]
    by_cases hc : acc.any (fun g => f g == f x) = true
    · rw [if_pos hc]
      rcases q with q | q
      · exact ih _ _ (.inl q)
      · rcases List.mem_cons.1 q with q | q
        · subst q
          obtain ⟨g, hg, e⟩ := any_iff.1 hc
          obtain ⟨g', hg', e'⟩ := ih acc g (.inl hg)
          exact ⟨g', hg', e'.trans e⟩
        · exact ih _ _ (.inr q)
    · rw [if_neg hc]
      rcases q with q | q
      · exact ih _ _ (.inl (List.mem_append_left _ q))
      · rcases List.mem_cons.1 q with q | q
        · subst q; exact ih _ _ (.inl (List.mem_append_right _ (List.mem_cons_self ..)))
        · exact ih _ _ (.inr q)
theorem gr_sub {f : Int → Int} : ∀ (r acc : List Int) (g : Int), g ∈ gr f r acc → g ∈ acc ∨ g ∈ r := by
  intro r
  induction r with
  | nil => intro acc g h; exact .inl h
  | cons x r ih =>
    intro acc g h
    rw [gr_cons] at h
    split at h
    · rcases ih _ _ h with q | q
      · exact .inl q
      · exact .inr (List.mem_cons_of_mem _ q)
    · rcases ih _ _ h with q | q
      · rcases List.mem_append.1 q with q | q
        · exact .inl q
        · rw [List.mem_singleton.1 q]; exact .inr (List.mem_cons_self ..)
      · exact .inr (List.mem_cons_of_mem _ q)
theorem gr_diff {f : Int → Int} : ∀ (r acc : List Int), Diff f acc → Diff f (gr f r acc) := by
  intro r
  induction r with
  | nil => intro acc h; exact h
  | cons x r ih =>
    intro acc h
    rw [gr_cons]
    by_cases hc : acc.any (fun g => f g == f x) = true
    · rw [if_pos hc]; exact ih _ h
    · rw [if_neg hc]; exact ih _ ((diff_snoc h).2 hc)
theorem gr_pre {f : Int → Int} : ∀ (r acc : List Int), acc <+: gr f r acc := by
  intro r
  induction r with
  | nil => intro acc; exact List.prefix_refl _
  | cons x r ih =>
    intro acc
    rw [gr_cons]
    split
    · exact ih _
    · exact (List.prefix_append _ _).trans (ih _)
theorem gr_more {f : Int → Int} {r acc : List Int} {x : Int} (h : Diff f acc) : (gr f r acc).length ≤ (gr f r (acc ++ [x])).length :=
  inj_len _ _ (gr_diff r acc h) fun a ha => by
    rcases gr_sub r acc a ha with q | q
    · exact gr_kinds r _ a (.inl (List.mem_append_left _ q))
    · exact gr_kinds r _ a (.inr q)
/-- The first of the longest is the one that takes each that can be taken. -/
theorem pick_gr {f : Int → Int} : ∀ (r now out : List Int), Diff f now → now.length ≤ out.length → pick (Diff f) (lp now r) out = if out.length < (gr f r now).length then gr f r now else out := by
  intro r
  induction r with
  | nil => intro now out _ hl; rw [lp, pick, gr, if_neg (by omega)]
  | cons x r ih =>
    intro now out hd hl
    rw [lp, pick_app, pick, gr_cons]
    by_cases hc : now.any (fun g => f g == f x) = true
    · have hx : ¬ Diff f (now ++ [x]) := fun q => ((diff_snoc hd).1 q) hc
      rw [if_pos hc, if_neg (fun q => hx q.2), not_diff _ _ _ hx]
      exact ih now out hd hl
    · have hx : Diff f (now ++ [x]) := (diff_snoc hd).2 hc
      have hp := gr_pre (f := f) r (now ++ [x])
      have hpl := hp.length_le
      have hm := gr_more (r := r) (x := x) hd
      have hnl : (now ++ [x]).length = now.length + 1 := by simp
      rw [if_neg hc]
      by_cases ho : out.length < (now ++ [x]).length
      · rw [if_pos ⟨ho, hx⟩, ih _ _ hx (Nat.le_refl _)]
        by_cases hg : (now ++ [x]).length < (gr f r (now ++ [x])).length
        · rw [if_pos hg, ih _ _ hd (by omega), if_neg (by omega), if_pos (by omega)]
        · have e : now ++ [x] = gr f r (now ++ [x]) := hp.eq_of_length (by omega)
          rw [if_neg hg, ih _ _ hd (by omega), if_neg (by omega), if_pos (by omega)]
          exact e
      · rw [if_neg (fun q => ho q.1), ih _ _ hx (by omega)]
        by_cases hg : out.length < (gr f r (now ++ [x])).length
        · rw [if_pos hg, ih _ _ hd (by omega), if_neg (by omega)]
        · rw [if_neg hg, ih _ _ hd (by omega), if_neg (by omega)]
theorem pick_all {f : Int → Int} (l : List Int) : pick (Diff f) (ch [] l) [] = gr f l [] := by
  rw [ch, pick, if_neg (fun q => absurd q.1 (Nat.lt_irrefl _)), pick_gr l [] [] List.Pairwise.nil (Nat.le_refl _)]
  split
  · rfl
  · rename_i h
    exact (List.length_eq_zero_iff.1 (by simpa using h)).symm
end Go.AX.Sa
