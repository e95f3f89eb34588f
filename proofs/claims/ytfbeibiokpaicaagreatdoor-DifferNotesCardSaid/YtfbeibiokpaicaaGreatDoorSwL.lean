/- Between which numbers each start lies. -/
import Derived.Test.YtfbeibiokpaicaaGreatDoorSwJ
import Derived.Test.YtfbeibiokpaicaaGreatDoorAxX
namespace Go.AX.Sa
open Go.Proofs
set_option maxRecDepth 100000
variable {K : Known}

def pts (t : List Int) : List (Int × Int) := t.map fun n => (n, n)
theorem pts_len (t : List Int) : (pts t).length = t.length := by simp [pts]
theorem pts_get {t : List Int} {k : Nat} : (pts t).getD k (0, 0) = (t.getD k 0, t.getD k 0) := by
  by_cases h : k < t.length
  · simp [pts, List.getD_eq_getElem?_getD, h]
  · simp [pts, List.getD_eq_getElem?_getD, List.getElem?_eq_none (Nat.not_lt.1 h)]
theorem getD_setS {l : List (Int × Int)} {k j : Nat} {n : Int × Int} (h : k < l.length) : (l.set k n).getD j (0, 0) = if j = k then n else l.getD j (0, 0) := by
  simp only [List.getD_eq_getElem?_getD, List.getElem?_set]
  by_cases hj : k = j
  · subst hj; simp [h]
  · rw [if_neg hj, if_neg (fun q => hj q.symm)]
/-- A span of one number for each number. -/
theorem points_ok (hK : NoK K) {t : List Int} {b cap : Nat} {e : TypeId} {own : Bool} {h : Heap} (hl : t.length ≤ 1000) (hb : h.get? b = some (.cells (ints t) e own)) :
    CallW Tryz.prog K 63 #[.slice (some ⟨b, 0, none⟩) t.length cap] h fun v h1 => Ext h h1 ∧ ∃ bs c, v = .slice (some ⟨bs, 0, none⟩) t.length c ∧ h1.get? bs = some (.cells (spanCells (pts t)) 48 true) ∧ h.n ≤ bs := by
  refine body (N := 24) Tryz.func63 rfl (hK _ _ _ rfl) rfl rfl ?_
  (repeat' (first | (apply K_seq) | (apply K_region) | (apply O_at; rfl) | (apply O_fin; rfl) | (apply C_seq) | (apply K_ifT; rfl) | (apply K_ifF; rfl) | (apply K_block) | (apply K_skip) | (apply K_exit) | (apply K_ret) | (apply C_exit) | (apply C_exitS) | (apply C_exitL) | (apply C_blockN) | (apply C_nil) | (apply P_move; rfl; rfl; rfl; rfl) | (apply P_assign; rfl; rfl; rfl; rfl) | (apply P_len; rfl; rfl; rfl; rfl; rfl; rfl; exact un_ok rfl) | (apply P_lss; rfl; rfl; rfl; rfl; rfl; all_goals intro _) | (apply P_add; rfl; rfl; rfl; rfl; rfl; (unfold fit; omega)) | (apply P_idxA; rfl; rfl; rfl; rfl; rfl; exact un_ok rfl; exact sz_ok rfl; (first | rfl | exact (Int.toNat_of_nonneg (by omega)).symm); omega) | (apply P_idxB; rfl; rfl; rfl; rfl; rfl; exact un_ok rfl; exact sz_ok rfl; (first | rfl | exact (Int.toNat_of_nonneg (by omega)).symm); omega) | (apply P_load1; rfl; rfl; rfl; rfl; exact on_ok rfl; (focus repeat' first | exact get_push_same | assumption | (apply Ext.get; assumption) | (apply ExtBut.get; assumption; assumption)); (first | exact ints_get (by omega) | rfl | assumption)) | (apply P_build48; rfl; rfl; rfl; rfl) | (apply P_makeS; rfl; rfl; rfl; rfl; rfl; exact c2_ok rfl; omega; omega) | (apply P_storeS; rfl; rfl; rfl; rfl; rfl; (focus repeat' first | exact get_push_same | assumption | (apply Ext.get; assumption) | (apply ExtBut.get; assumption; assumption)); exact sz_ok rfl; omega; (intro _ _ _)) | fail))
  have hb1 : (h.push (.cells (spanCells (List.replicate (t.length : Int).toNat (0, 0))) 48 true)).get? h.n = some (.cells (spanCells (List.replicate t.length (0, 0))) 48 true) := get_push_same
  have hx1 : Ext h (h.push (.cells (spanCells (List.replicate (t.length : Int).toNat (0, 0))) 48 true)) := by (focus repeat' first | exact Ext.refl _ | assumption | apply Ext.push | (refine Ext.trans ?_ (by assumption)) | (refine Ext.set ?_ (Nat.le_succ _) (get_push_old get_push_same) _))
  have hbn := Heap.get_lt hb
  generalize h.push (.cells (spanCells (List.replicate (t.length : Int).toNat (0, 0))) 48 true) = h1 at hb1 hx1 ⊢
  have hne : b ≠ h.n := by omega
  refine K_loopE (fun (a : Nat × List (Int × Int)) => [(11, .int .i64 (a.1 : Nat)), (10, .int .i64 (t.length : Nat)), (9, .slice (some ⟨b, 0, none⟩) t.length cap), (3, .slice (some ⟨h.n, 0, none⟩) t.length t.length)])
    (fun a h' => a.1 ≤ t.length ∧ ExtBut h.n h1 h' ∧ h'.get? h.n = some (.cells (spanCells a.2) 48 true) ∧ a.2.length = t.length ∧ ∀ j, j < a.1 → a.2.getD j (0, 0) = (t.getD j 0, t.getD j 0)) (fun a => t.length - a.1) ?_ (0, List.replicate t.length (0, 0)) ?_ ?_
  · rintro ⟨k, c⟩ h' ⟨hk, hx, hc, hcl, hj⟩ ih
    dsimp only at hk hc hcl hj ih ⊢
    have hb' := hx.get hne (hx1.get hb)
    by_cases hlt : k < t.length
    · have hltc : k < c.length := by omega
      (repeat' (first | (apply K_seq) | (apply K_region) | (apply O_at; rfl) | (apply O_fin; rfl) | (apply C_seq) | (apply K_ifT; rfl) | (apply K_ifF; rfl) | (apply K_block) | (apply K_skip) | (apply K_exit) | (apply K_ret) | (apply C_exit) | (apply C_exitS) | (apply C_exitL) | (apply C_blockN) | (apply C_nil) | (apply P_move; rfl; rfl; rfl; rfl) | (apply P_assign; rfl; rfl; rfl; rfl) | (apply P_len; rfl; rfl; rfl; rfl; rfl; rfl; exact un_ok rfl) | (apply P_lss; rfl; rfl; rfl; rfl; rfl; all_goals intro _) | (apply P_add; rfl; rfl; rfl; rfl; rfl; (unfold fit; omega)) | (apply P_idxA; rfl; rfl; rfl; rfl; rfl; exact un_ok rfl; exact sz_ok rfl; (first | rfl | exact (Int.toNat_of_nonneg (by omega)).symm); omega) | (apply P_idxB; rfl; rfl; rfl; rfl; rfl; exact un_ok rfl; exact sz_ok rfl; (first | rfl | exact (Int.toNat_of_nonneg (by omega)).symm); omega) | (apply P_load1; rfl; rfl; rfl; rfl; exact on_ok rfl; (focus repeat' first | exact get_push_same | assumption | (apply Ext.get; assumption) | (apply ExtBut.get; assumption; assumption)); (first | exact ints_get (by omega) | rfl | assumption)) | (apply P_build48; rfl; rfl; rfl; rfl) | (apply P_makeS; rfl; rfl; rfl; rfl; rfl; exact c2_ok rfl; omega; omega) | (apply P_storeS; rfl; rfl; rfl; rfl; rfl; (focus repeat' first | exact get_push_same | assumption | (apply Ext.get; assumption) | (apply ExtBut.get; assumption; assumption)); exact sz_ok rfl; omega; (intro _ _ _)) | fail))
      · rename_i h3 hc3 hx3
        refine C_again (ih (k + 1, c.set k (t.getD k 0, t.getD k 0)) _ ?_ ⟨hlt, hx.trans hx3, hc3, by simpa using hcl, fun j hj' => ?_⟩) ?_
        · dsimp only; omega
        · dsimp only
          rw [getD_setS hltc]
          by_cases q : j = k
          · subst q; rw [if_pos rfl]
          · rw [if_neg q]; exact hj j (by dsimp only at hj'; omega)
        · (focus repeat' first | rfl | exact trivial | apply And.intro)
      · omega
    · (repeat' (first | (apply K_seq) | (apply K_region) | (apply O_at; rfl) | (apply O_fin; rfl) | (apply C_seq) | (apply K_ifT; rfl) | (apply K_ifF; rfl) | (apply K_block) | (apply K_skip) | (apply K_exit) | (apply K_ret) | (apply C_exit) | (apply C_exitS) | (apply C_exitL) | (apply C_blockN) | (apply C_nil) | (apply P_move; rfl; rfl; rfl; rfl) | (apply P_assign; rfl; rfl; rfl; rfl) | (apply P_len; rfl; rfl; rfl; rfl; rfl; rfl; exact un_ok rfl) | (apply P_lss; rfl; rfl; rfl; rfl; rfl; all_goals intro _) | (apply P_add; rfl; rfl; rfl; rfl; rfl; (unfold fit; omega)) | (apply P_idxA; rfl; rfl; rfl; rfl; rfl; exact un_ok rfl; exact sz_ok rfl; (first | rfl | exact (Int.toNat_of_nonneg (by omega)).symm); omega) | (apply P_idxB; rfl; rfl; rfl; rfl; rfl; exact un_ok rfl; exact sz_ok rfl; (first | rfl | exact (Int.toNat_of_nonneg (by omega)).symm); omega) | (apply P_load1; rfl; rfl; rfl; rfl; exact on_ok rfl; (focus repeat' first | exact get_push_same | assumption | (apply Ext.get; assumption) | (apply ExtBut.get; assumption; assumption)); (first | exact ints_get (by omega) | rfl | assumption)) | (apply P_build48; rfl; rfl; rfl; rfl) | (apply P_makeS; rfl; rfl; rfl; rfl; rfl; exact c2_ok rfl; omega; omega) | (apply P_storeS; rfl; rfl; rfl; rfl; rfl; (focus repeat' first | exact get_push_same | assumption | (apply Ext.get; assumption) | (apply ExtBut.get; assumption; assumption)); exact sz_ok rfl; omega; (intro _ _ _)) | fail))
      · omega
      · have e2 : c = pts t := listS_eq (by rw [hcl, pts_len]) fun j hj' => by rw [hj j (by omega), pts_get]
        subst e2
        exact ⟨.inr rfl, _, rfl, hx1.ofBut hx (Nat.le_refl _), _, _, rfl, hc, Nat.le_refl _⟩
  · exact ⟨Nat.zero_le _, ExtBut.refl _ _, hb1, by simp, fun j hj => by omega⟩
  · (focus repeat' first | rfl | exact trivial | apply And.intro)

/-! Between which numbers each start lies. -/
def loK (k : Nat) (L : List (List Int)) : Int := L.foldl (fun m u => min m (u.getD k 0)) ((L.getD 0 []).getD k 0)
def hiK (k : Nat) (L : List (List Int)) : Int := L.foldl (fun m u => max m (u.getD k 0)) ((L.getD 0 []).getD k 0)
def bndL (n : Nat) (L : List (List Int)) : List (Int × Int) := (List.range n).map fun k => (loK k L, hiK k L)
theorem bndL_len (n : Nat) (L : List (List Int)) : (bndL n L).length = n := by simp [bndL]
theorem bndL_get {n k : Nat} {L : List (List Int)} (h : k < n) : (bndL n L).getD k (0, 0) = (loK k L, hiK k L) := by
  simp [bndL, List.getD_eq_getElem?_getD, h]
theorem bnd_one {t : List Int} {k : Nat} : (loK k [t], hiK k [t]) = (min (t.getD k 0) (t.getD k 0), max (t.getD k 0) (t.getD k 0)) := rfl
theorem bnd_snoc {L : List (List Int)} {t : List Int} {k : Nat} (h : L ≠ []) : (loK k (L ++ [t]), hiK k (L ++ [t])) = (min (loK k L) (t.getD k 0), max (hiK k L) (t.getD k 0)) := by
  cases L with
  | nil => exact absurd rfl h
  | cons a L => simp [loK, hiK, List.foldl_append]

/-- The box of the spans: nil at first. -/
def SpansBox (n t6 : Nat) (sn : List (List Int)) (D : Nat → Prop) (h : Heap) : Prop :=
  (sn = [] ∧ (∀ b, D b ↔ b = t6) ∧ h.get? t6 = some (.cells [.slice none 0 0] 22 true)) ∨
  (sn ≠ [] ∧ ∃ bs c, (∀ b, D b ↔ b = t6 ∨ b = bs) ∧ bs ≠ t6 ∧ h.get? t6 = some (.cells [.slice (some ⟨bs, 0, none⟩) n c] 22 true) ∧ h.get? bs = some (.cells (spanCells (bndL n sn)) 48 true))
theorem known_okF (hK : NoK K) {l seen : List (Int × Int)} {p qs : Option Addr} {cap caps R : Nat} {guard : Int} {h : Heap} (hl : l.length ≤ 1000) (hr : Rd h p (spanCells l)) (hls : seen.length ≤ 1000) (hrs : Rd h qs (spanCells seen)) (hP : PlanP l R guard) (hS : SeenP R seen) :
    CallW Tryz.prog K 19 #[.agg #[.slice p l.length cap, .int .i64 (R : Nat), .int .i64 guard], .slice qs seen.length caps] h (fun v h1 => Ext h h1 ∧ ((agrT l seen = [] ∧ v = .tuple #[.slice none 0 0, .int .i64 7]) ∨ (agrT l seen ≠ [] ∧ ∃ b c, v = .tuple #[.slice (some ⟨b, 0, none⟩) l.length c, .int .i64 0] ∧ h1.get? b = some (.cells (spanCells (bndL l.length (agrT l seen))) 48 true)))) := by
  have hl4 := hP.1
  have hRb := hP.2.2.1
  obtain ⟨bq, eq, oq, rfl, hq⟩ := hr.at (by rw [spanCells_len]; omega)
  have hqn := Heap.get_lt hq
  refine body_rangeH (N := 57) 5 Tryz.func19 rfl (hK _ _ _ rfl) rfl rfl (by rfl) (by rfl) ?_
  (repeat' (first | (apply K_seq) | (apply K_region) | (apply O_at; rfl) | (apply O_fin; rfl) | (apply C_seq) | (apply K_ifT; rfl) | (apply K_ifF; rfl) | (apply K_block) | (apply K_skip) | (apply K_exit) | (apply K_ret) | (apply C_retS) | (apply C_exit) | (apply C_exitS) | (apply C_exitL) | (apply C_blockN) | (apply C_nil) | (apply P_move; rfl; rfl; rfl; rfl) | (apply P_assign; rfl; rfl; rfl; rfl) | (apply P_fa; rfl; rfl; rfl; rfl; exact fo_ok rfl; (first | exact Nat.zero_add _ | exact Nat.add_zero _ | rfl)) | (apply P_len; rfl; rfl; rfl; rfl; rfl; rfl; exact un_ok rfl) | (apply P_pick; rfl; rfl; rfl; rfl; rfl; rfl) | (apply P_not; rfl; rfl; rfl; rfl) | (apply P_lss; rfl; rfl; rfl; rfl; rfl; all_goals intro _) | (apply P_add; rfl; rfl; rfl; rfl; rfl; (unfold fit; omega)) | (apply P_idxA; rfl; rfl; rfl; rfl; rfl; exact un_ok rfl; exact sz_ok rfl; (first | rfl | exact (Int.toNat_of_nonneg (by omega)).symm); omega) | (apply P_idxB; rfl; rfl; rfl; rfl; rfl; exact un_ok rfl; exact sz_ok rfl; (first | rfl | exact (Int.toNat_of_nonneg (by omega)).symm); omega) | (apply P_load1; rfl; rfl; rfl; rfl; exact on_ok rfl; (focus repeat' first | exact get_push_same | assumption | apply get_push_old | (apply Ext.get; assumption) | (apply ExtBut.get; assumption; assumption)); (first | exact ints_get (by omega) | rfl | assumption)) | (apply P_loadA; rfl; rfl; rfl; rfl; exact ag_ok rfl; (focus repeat' first | exact get_push_same | assumption | apply get_push_old | (apply Ext.get; assumption) | (apply ExtBut.get; assumption; assumption)); (first | exact Nat.le_of_ble_eq_true rfl | (simp; done) | (simp; omega) | (rw [spanCells_len]; omega) | (rw [ints_len]; omega)); (first | exact spans_take (by omega) | rfl)) | (apply P_nilF; rfl; rfl; rfl; rfl; rfl; exact un_ok rfl) | (apply P_storeTop; rfl; rfl; rfl; rfl; exact sz_ok rfl; rfl; rfl; rfl) | (apply P_build48; rfl; rfl; rfl; rfl) | (apply P_storeS; rfl; rfl; rfl; rfl; rfl; (focus repeat' first | exact get_push_same | assumption | apply get_push_old | (apply Ext.get; assumption) | (apply ExtBut.get; assumption; assumption)); exact sz_ok rfl; omega; (intro _ _ _)) | (apply P_box; rfl; rfl; rfl; rfl; exact sz_ok rfl; rfl; rfl) | (apply P_alloc; rfl; rfl; rfl; rfl; exact sz_ok rfl; rfl; rfl) | (apply P_min; rfl; rfl; rfl; rfl; rfl; rfl) | (apply P_max; rfl; rfl; rfl; rfl; rfl; rfl) | (apply P_call; rfl; rfl; rfl; rfl; rfl; rfl; exact yes (isPlan_ok hK hl (hr.ext (by (focus repeat' first | exact Ext.refl _ | assumption | apply Ext.push | (refine Ext.trans ?_ (by assumption)) | (refine Ext.set ?_ (Nat.le_succ _) (get_push_old get_push_same) _))))) hP; (rintro _ _ ⟨rfl, _⟩)) | (apply P_call; rfl; rfl; rfl; rfl; rfl; rfl; exact yes (areNotes_ok hK hP.2.2.1 hls (hrs.ext (by (focus repeat' first | exact Ext.refl _ | assumption | apply Ext.push | (refine Ext.trans ?_ (by assumption)) | (refine Ext.set ?_ (Nat.le_succ _) (get_push_old get_push_same) _))))) hS; (rintro _ _ ⟨rfl, _⟩)) | fail))
  rename_i h3 x3 h4 x4
  have x04 : Ext h h4 := by (focus repeat' first | exact Ext.refl _ | assumption | apply Ext.push | (refine Ext.trans ?_ (by assumption)) | (refine Ext.set ?_ (Nat.le_succ _) (get_push_old get_push_same) _))
  have n04 := x04.n
  clear x3 x4
  have hxp : Ext h (h4.push (.cells (Value.slice none 0 0).cells.toList 22 true)) := x04.push _
  apply P_call; rfl; rfl; rfl; rfl; rfl; rfl; exact agreeing_ok hK ⟨by omega, hl⟩ hP.2.1 (by omega) hS (hxp.get hq) (hrs.ext hxp)
  rintro _ h6 ⟨hx6, bp, bn, rfl, hbp, hbn', hit⟩
  have h6m := hx6.get (get_push_same (h := h4) (b := .cells (Value.slice none 0 0).cells.toList 22 true))
  have hbp2 : h4.n + 1 ≤ bp := hbp
  have hbn2 : h4.n + 1 ≤ bn := hbn'
  have h6n : h4.n + 1 ≤ h6.n := hx6.n
  have x06 : Ext h h6 := hxp.trans hx6
  (repeat' (first | (apply K_seq) | (apply K_region) | (apply O_at; rfl) | (apply O_fin; rfl) | (apply C_seq) | (apply K_ifT; rfl) | (apply K_ifF; rfl) | (apply K_block) | (apply K_skip) | (apply K_exit) | (apply K_ret) | (apply C_retS) | (apply C_exit) | (apply C_exitS) | (apply C_exitL) | (apply C_blockN) | (apply C_nil) | (apply P_move; rfl; rfl; rfl; rfl) | (apply P_assign; rfl; rfl; rfl; rfl) | (apply P_fa; rfl; rfl; rfl; rfl; exact fo_ok rfl; (first | exact Nat.zero_add _ | exact Nat.add_zero _ | rfl)) | (apply P_len; rfl; rfl; rfl; rfl; rfl; rfl; exact un_ok rfl) | (apply P_pick; rfl; rfl; rfl; rfl; rfl; rfl) | (apply P_not; rfl; rfl; rfl; rfl) | (apply P_lss; rfl; rfl; rfl; rfl; rfl; all_goals intro _) | (apply P_add; rfl; rfl; rfl; rfl; rfl; (unfold fit; omega)) | (apply P_idxA; rfl; rfl; rfl; rfl; rfl; exact un_ok rfl; exact sz_ok rfl; (first | rfl | exact (Int.toNat_of_nonneg (by omega)).symm); omega) | (apply P_idxB; rfl; rfl; rfl; rfl; rfl; exact un_ok rfl; exact sz_ok rfl; (first | rfl | exact (Int.toNat_of_nonneg (by omega)).symm); omega) | (apply P_load1; rfl; rfl; rfl; rfl; exact on_ok rfl; (focus repeat' first | exact get_push_same | assumption | apply get_push_old | (apply Ext.get; assumption) | (apply ExtBut.get; assumption; assumption)); (first | exact ints_get (by omega) | rfl | assumption)) | (apply P_loadA; rfl; rfl; rfl; rfl; exact ag_ok rfl; (focus repeat' first | exact get_push_same | assumption | apply get_push_old | (apply Ext.get; assumption) | (apply ExtBut.get; assumption; assumption)); (first | exact Nat.le_of_ble_eq_true rfl | (simp; done) | (simp; omega) | (rw [spanCells_len]; omega) | (rw [ints_len]; omega)); (first | exact spans_take (by omega) | rfl)) | (apply P_nilF; rfl; rfl; rfl; rfl; rfl; exact un_ok rfl) | (apply P_storeTop; rfl; rfl; rfl; rfl; exact sz_ok rfl; rfl; rfl; rfl) | (apply P_build48; rfl; rfl; rfl; rfl) | (apply P_storeS; rfl; rfl; rfl; rfl; rfl; (focus repeat' first | exact get_push_same | assumption | apply get_push_old | (apply Ext.get; assumption) | (apply ExtBut.get; assumption; assumption)); exact sz_ok rfl; omega; (intro _ _ _)) | (apply P_box; rfl; rfl; rfl; rfl; exact sz_ok rfl; rfl; rfl) | (apply P_alloc; rfl; rfl; rfl; rfl; exact sz_ok rfl; rfl; rfl) | (apply P_min; rfl; rfl; rfl; rfl; rfl; rfl) | (apply P_max; rfl; rfl; rfl; rfl; rfl; rfl) | fail))
  refine .inr ⟨rfl, _, #[], _, rfl, rfl, fun tm l2 hb hE hl2e hxb hbn hlb hdb => ?_⟩
  refine (Iter.loop hit (hb := hb) (fun b x _ g => hxb.get g) hxb.n (by omega)
    (SpansBox l.length h4.n) (fun b => b = h4.n) ?_ ?_ ?_ ?_ ?_).mono ?_
  · rintro sn D1 g g' (⟨e, f1, f2⟩ | ⟨e, bs, c, f1, f2, f3, f4⟩) k n
    · exact .inl ⟨e, f1, k _ _ ((f1 _).2 rfl) f2⟩
    · exact .inr ⟨e, bs, c, f1, f2, k _ _ ((f1 _).2 (.inl rfl)) f3, k _ _ ((f1 _).2 (.inr rfl)) f4⟩
  · rintro sn D1 g (⟨e, f1, f2⟩ | ⟨e, bs, c, f1, f2, f3, f4⟩) b q
    · rw [(f1 b).1 q]; exact Heap.get_lt f2
    · rcases (f1 b).1 q with r | r
      · rw [r]; exact Heap.get_lt f3
      · rw [r]; exact Heap.get_lt f4
  · exact .inl ⟨rfl, fun b => Iff.rfl, hxb.get h6m⟩
  · rintro b (q | q | q | q) r
    · omega
    · omega
    · omega
    · have := row_lt hrs q; omega
  · rintro sn a D1 h' v ⟨rst, hrst⟩ ⟨ba, rfl, hba⟩ hJ hD1 hkeep hn'
    have hl2 := hkeep _ _ (by omega) hlb
    have hl2n := Heap.get_lt hl2
    have hT : TruthP l a := (agrT_truth (seen := seen) (by rw [← hrst]; simp)).1
    have hal := hT.1
    have hban := Heap.get_lt hba
    refine round_of (N := 57) hl2 rfl (EnvOK.param hE rfl) ?_
    (repeat' (first | (apply K_seq) | (apply K_region) | (apply O_at; rfl) | (apply O_fin; rfl) | (apply C_seq) | (apply K_ifT; rfl) | (apply K_ifF; rfl) | (apply K_block) | (apply K_skip) | (apply K_exit) | (apply K_ret) | (apply C_retS) | (apply C_exit) | (apply C_exitS) | (apply C_exitL) | (apply C_blockN) | (apply C_nil) | (apply P_move; rfl; rfl; rfl; rfl) | (apply P_assign; rfl; rfl; rfl; rfl) | (apply P_fa; rfl; rfl; rfl; rfl; exact fo_ok rfl; (first | exact Nat.zero_add _ | exact Nat.add_zero _ | rfl)) | (apply P_len; rfl; rfl; rfl; rfl; rfl; rfl; exact un_ok rfl) | (apply P_pick; rfl; rfl; rfl; rfl; rfl; rfl) | (apply P_not; rfl; rfl; rfl; rfl) | (apply P_lss; rfl; rfl; rfl; rfl; rfl; all_goals intro _) | (apply P_add; rfl; rfl; rfl; rfl; rfl; (unfold fit; omega)) | (apply P_idxA; rfl; rfl; rfl; rfl; rfl; exact un_ok rfl; exact sz_ok rfl; (first | rfl | exact (Int.toNat_of_nonneg (by omega)).symm); omega) | (apply P_idxB; rfl; rfl; rfl; rfl; rfl; exact un_ok rfl; exact sz_ok rfl; (first | rfl | exact (Int.toNat_of_nonneg (by omega)).symm); omega) | (apply P_load1; rfl; rfl; rfl; rfl; exact on_ok rfl; (focus repeat' first | exact get_push_same | assumption | apply get_push_old | (apply Ext.get; assumption) | (apply ExtBut.get; assumption; assumption)); (first | exact ints_get (by omega) | rfl | assumption)) | (apply P_loadA; rfl; rfl; rfl; rfl; exact ag_ok rfl; (focus repeat' first | exact get_push_same | assumption | apply get_push_old | (apply Ext.get; assumption) | (apply ExtBut.get; assumption; assumption)); (first | exact Nat.le_of_ble_eq_true rfl | (simp; done) | (simp; omega) | (rw [spanCells_len]; omega) | (rw [ints_len]; omega)); (first | exact spans_take (by omega) | rfl)) | (apply P_nilF; rfl; rfl; rfl; rfl; rfl; exact un_ok rfl) | (apply P_storeTop; rfl; rfl; rfl; rfl; exact sz_ok rfl; rfl; rfl; rfl) | (apply P_build48; rfl; rfl; rfl; rfl) | (apply P_storeS; rfl; rfl; rfl; rfl; rfl; (focus repeat' first | exact get_push_same | assumption | apply get_push_old | (apply Ext.get; assumption) | (apply ExtBut.get; assumption; assumption)); exact sz_ok rfl; omega; (intro _ _ _)) | (apply P_box; rfl; rfl; rfl; rfl; exact sz_ok rfl; rfl; rfl) | (apply P_alloc; rfl; rfl; rfl; rfl; exact sz_ok rfl; rfl; rfl) | (apply P_min; rfl; rfl; rfl; rfl; rfl; rfl) | (apply P_max; rfl; rfl; rfl; rfl; rfl; rfl) | fail))
    refine ⟨rfl, get_push_old hl2, fun B hs' hsl hsk hsn => ?_⟩
    have b7 := hsk _ _ (by omega) (get_push_same (h := h') (b := .cells (Value.agg #[.slice (some ⟨bq, 0, none⟩) l.length cap, .int .i64 (R : Nat), .int .i64 guard, .slice (some ⟨ba, 0, none⟩) a.length unk]).cells.toList 92 true))
    have hbl : ba ≠ l2 := fun q => by rw [q, hl2] at hba; cases hba
    have hba' := hsk _ _ hbl (get_push_old (c := .cells (Value.agg #[.slice (some ⟨bq, 0, none⟩) l.length cap, .int .i64 (R : Nat), .int .i64 guard, .slice (some ⟨ba, 0, none⟩) a.length unk]).cells.toList 92 true) hba)
    have hn1 : hs'.n = h'.n + 1 := hsn
    clear hsn
    have holdS : ∀ b x, b ≠ l2 → h'.get? b = some x → hs'.get? b = some x := fun b x r g => hsk _ _ r (get_push_old g)
    rcases hJ with ⟨rfl, f1, f2⟩ | ⟨hsn, bs, cc, f1, f2, f3, f4⟩
    · have f2' := holdS _ _ (by omega) f2
      have hba0 : ba ≠ h4.n := fun q => by rw [q, f2] at hba; injection hba with hba; injection hba with a1 a2; cases a2
      (repeat' (first | (apply K_seq) | (apply K_region) | (apply O_at; rfl) | (apply O_fin; rfl) | (apply C_seq) | (apply K_ifT; rfl) | (apply K_ifF; rfl) | (apply K_block) | (apply K_skip) | (apply K_exit) | (apply K_ret) | (apply C_retS) | (apply C_exit) | (apply C_exitS) | (apply C_exitL) | (apply C_blockN) | (apply C_nil) | (apply P_move; rfl; rfl; rfl; rfl) | (apply P_assign; rfl; rfl; rfl; rfl) | (apply P_fa; rfl; rfl; rfl; rfl; exact fo_ok rfl; (first | exact Nat.zero_add _ | exact Nat.add_zero _ | rfl)) | (apply P_len; rfl; rfl; rfl; rfl; rfl; rfl; exact un_ok rfl) | (apply P_pick; rfl; rfl; rfl; rfl; rfl; rfl) | (apply P_not; rfl; rfl; rfl; rfl) | (apply P_lss; rfl; rfl; rfl; rfl; rfl; all_goals intro _) | (apply P_add; rfl; rfl; rfl; rfl; rfl; (unfold fit; omega)) | (apply P_idxA; rfl; rfl; rfl; rfl; rfl; exact un_ok rfl; exact sz_ok rfl; (first | rfl | exact (Int.toNat_of_nonneg (by omega)).symm); omega) | (apply P_idxB; rfl; rfl; rfl; rfl; rfl; exact un_ok rfl; exact sz_ok rfl; (first | rfl | exact (Int.toNat_of_nonneg (by omega)).symm); omega) | (apply P_load1; rfl; rfl; rfl; rfl; exact on_ok rfl; (focus repeat' first | exact get_push_same | assumption | apply get_push_old | (apply Ext.get; assumption) | (apply ExtBut.get; assumption; assumption)); (first | exact ints_get (by omega) | rfl | assumption)) | (apply P_loadA; rfl; rfl; rfl; rfl; exact ag_ok rfl; (focus repeat' first | exact get_push_same | assumption | apply get_push_old | (apply Ext.get; assumption) | (apply ExtBut.get; assumption; assumption)); (first | exact Nat.le_of_ble_eq_true rfl | (simp; done) | (simp; omega) | (rw [spanCells_len]; omega) | (rw [ints_len]; omega)); (first | exact spans_take (by omega) | rfl)) | (apply P_nilF; rfl; rfl; rfl; rfl; rfl; exact un_ok rfl) | (apply P_storeTop; rfl; rfl; rfl; rfl; exact sz_ok rfl; rfl; rfl; rfl) | (apply P_build48; rfl; rfl; rfl; rfl) | (apply P_storeS; rfl; rfl; rfl; rfl; rfl; (focus repeat' first | exact get_push_same | assumption | apply get_push_old | (apply Ext.get; assumption) | (apply ExtBut.get; assumption; assumption)); exact sz_ok rfl; omega; (intro _ _ _)) | (apply P_box; rfl; rfl; rfl; rfl; exact sz_ok rfl; rfl; rfl) | (apply P_alloc; rfl; rfl; rfl; rfl; exact sz_ok rfl; rfl; rfl) | (apply P_min; rfl; rfl; rfl; rfl; rfl; rfl) | (apply P_max; rfl; rfl; rfl; rfl; rfl; rfl) | fail))
      apply P_nilT; rfl; rfl; rfl; rfl; rfl; kernel_rfl
      (repeat' (first | (apply K_seq) | (apply K_region) | (apply O_at; rfl) | (apply O_fin; rfl) | (apply C_seq) | (apply K_ifT; rfl) | (apply K_ifF; rfl) | (apply K_block) | (apply K_skip) | (apply K_exit) | (apply K_ret) | (apply C_retS) | (apply C_exit) | (apply C_exitS) | (apply C_exitL) | (apply C_blockN) | (apply C_nil) | (apply P_move; rfl; rfl; rfl; rfl) | (apply P_assign; rfl; rfl; rfl; rfl) | (apply P_fa; rfl; rfl; rfl; rfl; exact fo_ok rfl; (first | exact Nat.zero_add _ | exact Nat.add_zero _ | rfl)) | (apply P_len; rfl; rfl; rfl; rfl; rfl; rfl; exact un_ok rfl) | (apply P_pick; rfl; rfl; rfl; rfl; rfl; rfl) | (apply P_not; rfl; rfl; rfl; rfl) | (apply P_lss; rfl; rfl; rfl; rfl; rfl; all_goals intro _) | (apply P_add; rfl; rfl; rfl; rfl; rfl; (unfold fit; omega)) | (apply P_idxA; rfl; rfl; rfl; rfl; rfl; exact un_ok rfl; exact sz_ok rfl; (first | rfl | exact (Int.toNat_of_nonneg (by omega)).symm); omega) | (apply P_idxB; rfl; rfl; rfl; rfl; rfl; exact un_ok rfl; exact sz_ok rfl; (first | rfl | exact (Int.toNat_of_nonneg (by omega)).symm); omega) | (apply P_load1; rfl; rfl; rfl; rfl; exact on_ok rfl; (focus repeat' first | exact get_push_same | assumption | apply get_push_old | (apply Ext.get; assumption) | (apply ExtBut.get; assumption; assumption)); (first | exact ints_get (by omega) | rfl | assumption)) | (apply P_loadA; rfl; rfl; rfl; rfl; exact ag_ok rfl; (focus repeat' first | exact get_push_same | assumption | apply get_push_old | (apply Ext.get; assumption) | (apply ExtBut.get; assumption; assumption)); (first | exact Nat.le_of_ble_eq_true rfl | (simp; done) | (simp; omega) | (rw [spanCells_len]; omega) | (rw [ints_len]; omega)); (first | exact spans_take (by omega) | rfl)) | (apply P_nilF; rfl; rfl; rfl; rfl; rfl; exact un_ok rfl) | (apply P_storeTop; rfl; rfl; rfl; rfl; exact sz_ok rfl; rfl; rfl; rfl) | (apply P_build48; rfl; rfl; rfl; rfl) | (apply P_storeS; rfl; rfl; rfl; rfl; rfl; (focus repeat' first | exact get_push_same | assumption | apply get_push_old | (apply Ext.get; assumption) | (apply ExtBut.get; assumption; assumption)); exact sz_ok rfl; omega; (intro _ _ _)) | (apply P_box; rfl; rfl; rfl; rfl; exact sz_ok rfl; rfl; rfl) | (apply P_alloc; rfl; rfl; rfl; rfl; exact sz_ok rfl; rfl; rfl) | (apply P_min; rfl; rfl; rfl; rfl; rfl; rfl) | (apply P_max; rfl; rfl; rfl; rfl; rfl; rfl) | fail))
      apply P_call; rfl; rfl; rfl; rfl; rfl; rfl
      · rw [hal]
        have := points_ok hK (t := a) (cap := unk) (by omega) hba'
        rw [hal] at this
        exact this
      rintro _ g1 ⟨hxg, bs, cc, rfl, hbs, hbsn⟩
      have f2g := hxg.get f2'
      (repeat' (first | (apply K_seq) | (apply K_region) | (apply O_at; rfl) | (apply O_fin; rfl) | (apply C_seq) | (apply K_ifT; rfl) | (apply K_ifF; rfl) | (apply K_block) | (apply K_skip) | (apply K_exit) | (apply K_ret) | (apply C_retS) | (apply C_exit) | (apply C_exitS) | (apply C_exitL) | (apply C_blockN) | (apply C_nil) | (apply P_move; rfl; rfl; rfl; rfl) | (apply P_assign; rfl; rfl; rfl; rfl) | (apply P_fa; rfl; rfl; rfl; rfl; exact fo_ok rfl; (first | exact Nat.zero_add _ | exact Nat.add_zero _ | rfl)) | (apply P_len; rfl; rfl; rfl; rfl; rfl; rfl; exact un_ok rfl) | (apply P_pick; rfl; rfl; rfl; rfl; rfl; rfl) | (apply P_not; rfl; rfl; rfl; rfl) | (apply P_lss; rfl; rfl; rfl; rfl; rfl; all_goals intro _) | (apply P_add; rfl; rfl; rfl; rfl; rfl; (unfold fit; omega)) | (apply P_idxA; rfl; rfl; rfl; rfl; rfl; exact un_ok rfl; exact sz_ok rfl; (first | rfl | exact (Int.toNat_of_nonneg (by omega)).symm); omega) | (apply P_idxB; rfl; rfl; rfl; rfl; rfl; exact un_ok rfl; exact sz_ok rfl; (first | rfl | exact (Int.toNat_of_nonneg (by omega)).symm); omega) | (apply P_load1; rfl; rfl; rfl; rfl; exact on_ok rfl; (focus repeat' first | exact get_push_same | assumption | apply get_push_old | (apply Ext.get; assumption) | (apply ExtBut.get; assumption; assumption)); (first | exact ints_get (by omega) | rfl | assumption)) | (apply P_loadA; rfl; rfl; rfl; rfl; exact ag_ok rfl; (focus repeat' first | exact get_push_same | assumption | apply get_push_old | (apply Ext.get; assumption) | (apply ExtBut.get; assumption; assumption)); (first | exact Nat.le_of_ble_eq_true rfl | (simp; done) | (simp; omega) | (rw [spanCells_len]; omega) | (rw [ints_len]; omega)); (first | exact spans_take (by omega) | rfl)) | (apply P_nilF; rfl; rfl; rfl; rfl; rfl; exact un_ok rfl) | (apply P_storeTop; rfl; rfl; rfl; rfl; exact sz_ok rfl; rfl; rfl; rfl) | (apply P_build48; rfl; rfl; rfl; rfl) | (apply P_storeS; rfl; rfl; rfl; rfl; rfl; (focus repeat' first | exact get_push_same | assumption | apply get_push_old | (apply Ext.get; assumption) | (apply ExtBut.get; assumption; assumption)); exact sz_ok rfl; omega; (intro _ _ _)) | (apply P_box; rfl; rfl; rfl; rfl; exact sz_ok rfl; rfl; rfl) | (apply P_alloc; rfl; rfl; rfl; rfl; exact sz_ok rfl; rfl; rfl) | (apply P_min; rfl; rfl; rfl; rfl; rfl; rfl) | (apply P_max; rfl; rfl; rfl; rfl; rfl; rfl) | fail))
      apply P_storeC; rfl; rfl; rfl; rfl; exact f2g; exact sz_ok rfl; rfl; exact Nat.le_of_ble_eq_true rfl; rfl; rfl
      intro GG hb6 hxG
      have hn4 := Heap.get_lt f2g
      have hne6 : h4.n ≠ bs := by omega
      have b7' := hxG.get (by omega) (hxg.get b7)
      rw [hal] at b7'
      have hbaG := hxG.get hba0 (hxg.get hba')
      have hneb : ba ≠ bs := by omega
      have hbsG := hxG.get hne6.symm hbs
      have hnel : l2 ≠ bs := by omega
      have hBG := hxG.get (by omega) (hxg.get hsl)
      have hD6 : D1 h4.n := (f1 _).2 rfl
      have hDbs : D1 bs ∨ h'.n ≤ bs := .inr (by omega)
      have hC0 : (pts a).length = l.length := by rw [pts_len]; exact hal
      have hrel : ∀ k, k < l.length → (min ((pts a).getD k (0, 0)).1 (a.getD k 0), max ((pts a).getD k (0, 0)).2 (a.getD k 0)) = (loK k ([] ++ [a]), hiK k ([] ++ [a])) := fun k _ => by rw [pts_get]; exact bnd_one.symm
      have holdG : ∀ b x, ¬ D1 b → b ≠ l2 → h'.get? b = some x → GG.get? b = some x := fun b x q r g => hxG.get (fun u => q ((f1 b).2 u)) (hxg.get (holdS _ _ r g))
      have hGn : hs'.n ≤ GG.n := Nat.le_trans hxg.n hxG.n
      (repeat' (first | (apply K_seq) | (apply K_region) | (apply O_at; rfl) | (apply O_fin; rfl) | (apply C_seq) | (apply K_ifT; rfl) | (apply K_ifF; rfl) | (apply K_block) | (apply K_skip) | (apply K_exit) | (apply K_ret) | (apply C_retS) | (apply C_exit) | (apply C_exitS) | (apply C_exitL) | (apply C_blockN) | (apply C_nil) | (apply P_move; rfl; rfl; rfl; rfl) | (apply P_assign; rfl; rfl; rfl; rfl) | (apply P_fa; rfl; rfl; rfl; rfl; exact fo_ok rfl; (first | exact Nat.zero_add _ | exact Nat.add_zero _ | rfl)) | (apply P_len; rfl; rfl; rfl; rfl; rfl; rfl; exact un_ok rfl) | (apply P_pick; rfl; rfl; rfl; rfl; rfl; rfl) | (apply P_not; rfl; rfl; rfl; rfl) | (apply P_lss; rfl; rfl; rfl; rfl; rfl; all_goals intro _) | (apply P_add; rfl; rfl; rfl; rfl; rfl; (unfold fit; omega)) | (apply P_idxA; rfl; rfl; rfl; rfl; rfl; exact un_ok rfl; exact sz_ok rfl; (first | rfl | exact (Int.toNat_of_nonneg (by omega)).symm); omega) | (apply P_idxB; rfl; rfl; rfl; rfl; rfl; exact un_ok rfl; exact sz_ok rfl; (first | rfl | exact (Int.toNat_of_nonneg (by omega)).symm); omega) | (apply P_load1; rfl; rfl; rfl; rfl; exact on_ok rfl; (focus repeat' first | exact get_push_same | assumption | apply get_push_old | (apply Ext.get; assumption) | (apply ExtBut.get; assumption; assumption)); (first | exact ints_get (by omega) | rfl | assumption)) | (apply P_loadA; rfl; rfl; rfl; rfl; exact ag_ok rfl; (focus repeat' first | exact get_push_same | assumption | apply get_push_old | (apply Ext.get; assumption) | (apply ExtBut.get; assumption; assumption)); (first | exact Nat.le_of_ble_eq_true rfl | (simp; done) | (simp; omega) | (rw [spanCells_len]; omega) | (rw [ints_len]; omega)); (first | exact spans_take (by omega) | rfl)) | (apply P_nilF; rfl; rfl; rfl; rfl; rfl; exact un_ok rfl) | (apply P_storeTop; rfl; rfl; rfl; rfl; exact sz_ok rfl; rfl; rfl; rfl) | (apply P_build48; rfl; rfl; rfl; rfl) | (apply P_storeS; rfl; rfl; rfl; rfl; rfl; (focus repeat' first | exact get_push_same | assumption | apply get_push_old | (apply Ext.get; assumption) | (apply ExtBut.get; assumption; assumption)); exact sz_ok rfl; omega; (intro _ _ _)) | (apply P_box; rfl; rfl; rfl; rfl; exact sz_ok rfl; rfl; rfl) | (apply P_alloc; rfl; rfl; rfl; rfl; exact sz_ok rfl; rfl; rfl) | (apply P_min; rfl; rfl; rfl; rfl; rfl; rfl) | (apply P_max; rfl; rfl; rfl; rfl; rfl; rfl) | fail))
      have hba6 : ba ≠ h4.n := by omega
      refine K_loopE (fun (x : Nat × List (Int × Int)) => [(32, .int .i64 (x.1 : Nat)), (31, .int .i64 (l.length : Nat)), (30, .slice (some ⟨ba, 0, none⟩) l.length unk), (6, .pointer (some ⟨h4.n, 0, none⟩))])
        (fun x g' => x.1 ≤ l.length ∧ ExtBut bs GG g' ∧ g'.get? bs = some (.cells (spanCells x.2) 48 true) ∧ x.2.length = l.length ∧ ∀ j, j < l.length → x.2.getD j (0, 0) = if j < x.1 then (loK j ([] ++ [a]), hiK j ([] ++ [a])) else (pts a).getD j (0, 0)) (fun x => l.length - x.1) ?_ (0, (pts a)) ?_ ?_
      · rintro ⟨k, c⟩ g' ⟨hk, hx, hc, hcl, hj⟩ ih
        dsimp only at hk hc hcl hj ih ⊢
        have hb6' := hx.get hne6 hb6
        have hba' := hx.get hneb hbaG
        by_cases hlt : k < l.length
        · have hlta : k < a.length := by omega
          have hltc : k < c.length := by omega
          have hcn := Heap.get_lt hc
          have h6n' := Heap.get_lt hb6'
          have hjk := hj k hlt
          rw [if_neg (Nat.lt_irrefl k)] at hjk
          have hrk := hrel k hlt
          (repeat' (first | (apply K_seq) | (apply K_region) | (apply O_at; rfl) | (apply O_fin; rfl) | (apply C_seq) | (apply K_ifT; rfl) | (apply K_ifF; rfl) | (apply K_block) | (apply K_skip) | (apply K_exit) | (apply K_ret) | (apply C_retS) | (apply C_exit) | (apply C_exitS) | (apply C_exitL) | (apply C_blockN) | (apply C_nil) | (apply P_move; rfl; rfl; rfl; rfl) | (apply P_assign; rfl; rfl; rfl; rfl) | (apply P_fa; rfl; rfl; rfl; rfl; exact fo_ok rfl; (first | exact Nat.zero_add _ | exact Nat.add_zero _ | rfl)) | (apply P_len; rfl; rfl; rfl; rfl; rfl; rfl; exact un_ok rfl) | (apply P_pick; rfl; rfl; rfl; rfl; rfl; rfl) | (apply P_not; rfl; rfl; rfl; rfl) | (apply P_lss; rfl; rfl; rfl; rfl; rfl; all_goals intro _) | (apply P_add; rfl; rfl; rfl; rfl; rfl; (unfold fit; omega)) | (apply P_idxA; rfl; rfl; rfl; rfl; rfl; exact un_ok rfl; exact sz_ok rfl; (first | rfl | exact (Int.toNat_of_nonneg (by omega)).symm); omega) | (apply P_idxB; rfl; rfl; rfl; rfl; rfl; exact un_ok rfl; exact sz_ok rfl; (first | rfl | exact (Int.toNat_of_nonneg (by omega)).symm); omega) | (apply P_load1; rfl; rfl; rfl; rfl; exact on_ok rfl; (focus repeat' first | exact get_push_same | assumption | apply get_push_old | (apply Ext.get; assumption) | (apply ExtBut.get; assumption; assumption)); (first | exact ints_get (by omega) | rfl | assumption)) | (apply P_loadA; rfl; rfl; rfl; rfl; exact ag_ok rfl; (focus repeat' first | exact get_push_same | assumption | apply get_push_old | (apply Ext.get; assumption) | (apply ExtBut.get; assumption; assumption)); (first | exact Nat.le_of_ble_eq_true rfl | (simp; done) | (simp; omega) | (rw [spanCells_len]; omega) | (rw [ints_len]; omega)); (first | exact spans_take (by omega) | rfl)) | (apply P_nilF; rfl; rfl; rfl; rfl; rfl; exact un_ok rfl) | (apply P_storeTop; rfl; rfl; rfl; rfl; exact sz_ok rfl; rfl; rfl; rfl) | (apply P_build48; rfl; rfl; rfl; rfl) | (apply P_storeS; rfl; rfl; rfl; rfl; rfl; (focus repeat' first | exact get_push_same | assumption | apply get_push_old | (apply Ext.get; assumption) | (apply ExtBut.get; assumption; assumption)); exact sz_ok rfl; omega; (intro _ _ _)) | (apply P_box; rfl; rfl; rfl; rfl; exact sz_ok rfl; rfl; rfl) | (apply P_alloc; rfl; rfl; rfl; rfl; exact sz_ok rfl; rfl; rfl) | (apply P_min; rfl; rfl; rfl; rfl; rfl; rfl) | (apply P_max; rfl; rfl; rfl; rfl; rfl; rfl) | fail))
          · rename_i g3 hc3 hx3
            refine C_again (ih (k + 1, c.set k (min (c.getD k (0, 0)).1 (a.getD k 0), max (c.getD k (0, 0)).2 (a.getD k 0))) _ ?_ ⟨hlt, (hx.trans (((Ext.refl _).push _).but bs)).trans hx3, hc3, by simpa using hcl, fun j hj' => ?_⟩) ?_
            · dsimp only; omega
            · dsimp only
              rw [getD_setS hltc]
              by_cases q : j = k
              · subst q; rw [if_pos rfl, if_pos (Nat.lt_succ_self _), hjk]; exact hrk
              · rw [if_neg q, hj j hj']
                by_cases q2 : j < k
                · rw [if_pos q2, if_pos (by omega)]
                · rw [if_neg q2, if_neg (by omega)]
            · (focus repeat' first | rfl | exact trivial | apply And.intro)
          · omega
        · (repeat' (first | (apply K_seq) | (apply K_region) | (apply O_at; rfl) | (apply O_fin; rfl) | (apply C_seq) | (apply K_ifT; rfl) | (apply K_ifF; rfl) | (apply K_block) | (apply K_skip) | (apply K_exit) | (apply K_ret) | (apply C_retS) | (apply C_exit) | (apply C_exitS) | (apply C_exitL) | (apply C_blockN) | (apply C_nil) | (apply P_move; rfl; rfl; rfl; rfl) | (apply P_assign; rfl; rfl; rfl; rfl) | (apply P_fa; rfl; rfl; rfl; rfl; exact fo_ok rfl; (first | exact Nat.zero_add _ | exact Nat.add_zero _ | rfl)) | (apply P_len; rfl; rfl; rfl; rfl; rfl; rfl; exact un_ok rfl) | (apply P_pick; rfl; rfl; rfl; rfl; rfl; rfl) | (apply P_not; rfl; rfl; rfl; rfl) | (apply P_lss; rfl; rfl; rfl; rfl; rfl; all_goals intro _) | (apply P_add; rfl; rfl; rfl; rfl; rfl; (unfold fit; omega)) | (apply P_idxA; rfl; rfl; rfl; rfl; rfl; exact un_ok rfl; exact sz_ok rfl; (first | rfl | exact (Int.toNat_of_nonneg (by omega)).symm); omega) | (apply P_idxB; rfl; rfl; rfl; rfl; rfl; exact un_ok rfl; exact sz_ok rfl; (first | rfl | exact (Int.toNat_of_nonneg (by omega)).symm); omega) | (apply P_load1; rfl; rfl; rfl; rfl; exact on_ok rfl; (focus repeat' first | exact get_push_same | assumption | apply get_push_old | (apply Ext.get; assumption) | (apply ExtBut.get; assumption; assumption)); (first | exact ints_get (by omega) | rfl | assumption)) | (apply P_loadA; rfl; rfl; rfl; rfl; exact ag_ok rfl; (focus repeat' first | exact get_push_same | assumption | apply get_push_old | (apply Ext.get; assumption) | (apply ExtBut.get; assumption; assumption)); (first | exact Nat.le_of_ble_eq_true rfl | (simp; done) | (simp; omega) | (rw [spanCells_len]; omega) | (rw [ints_len]; omega)); (first | exact spans_take (by omega) | rfl)) | (apply P_nilF; rfl; rfl; rfl; rfl; rfl; exact un_ok rfl) | (apply P_storeTop; rfl; rfl; rfl; rfl; exact sz_ok rfl; rfl; rfl; rfl) | (apply P_build48; rfl; rfl; rfl; rfl) | (apply P_storeS; rfl; rfl; rfl; rfl; rfl; (focus repeat' first | exact get_push_same | assumption | apply get_push_old | (apply Ext.get; assumption) | (apply ExtBut.get; assumption; assumption)); exact sz_ok rfl; omega; (intro _ _ _)) | (apply P_box; rfl; rfl; rfl; rfl; exact sz_ok rfl; rfl; rfl) | (apply P_alloc; rfl; rfl; rfl; rfl; exact sz_ok rfl; rfl; rfl) | (apply P_min; rfl; rfl; rfl; rfl; rfl; rfl) | (apply P_max; rfl; rfl; rfl; rfl; rfl; rfl) | fail))
          · omega
          · have e : k = l.length := by omega
            subst e
            have e2 : c = bndL l.length ([] ++ [a]) := listS_eq (by rw [hcl, bndL_len]) fun j hj' => by rw [hj j (by omega), if_pos (by omega), bndL_get (by omega)]
            subst e2
            refine ⟨rfl, hx.get hnel hBG, fun hf hfl hfk hfn => ⟨fun b => b = h4.n ∨ b = bs, .inr ⟨by simp, bs, cc, fun b => Iff.rfl, hne6.symm, hfk _ _ (by omega) hb6', hfk _ _ (fun r => hnel r.symm) hc⟩, fun b q => ?_, fun b x q g => ?_, ?_⟩⟩
            · rcases q with q | q
              · exact .inl (by rw [q]; exact hD6)
              · rw [q]; exact hDbs
            · by_cases r : b = l2
              · subst r
                rw [hl2] at g
                cases g
                exact hfl
              · have := Heap.get_lt g
                exact hfk _ _ r (hx.get (fun u => by
                  rcases hDbs with v | v
                  · exact q (by rw [u]; exact v)
                  · omega) (holdG _ _ q r g))
            · have := hx.n; omega
      · exact ⟨Nat.zero_le _, ExtBut.refl _ _, hbsG, hC0, fun j hj => by rw [if_neg (by dsimp only; omega)]⟩
      · (focus repeat' first | rfl | exact trivial | apply And.intro)
    · have hne6 : h4.n ≠ bs := fun q => f2 q.symm
      have hneb : ba ≠ bs := fun q => by rw [q, f4] at hba; injection hba with hba; injection hba with a1 a2; cases a2
      have hb0 : ba ≠ h4.n := fun q => by rw [q, f3] at hba; injection hba with hba; injection hba with a1 a2; cases a2
      have hbsn := Heap.get_lt f4
      have hD6 : D1 h4.n := (f1 _).2 (.inl rfl)
      have hDbs : D1 bs ∨ h'.n ≤ bs := .inl ((f1 _).2 (.inr rfl))
      have hnel : l2 ≠ bs := fun q => by rw [q, f4] at hl2; cases hl2
      have hb6 := holdS _ _ (by omega) f3
      have hbsG := holdS _ _ hnel.symm f4
      have hbaG := hba'
      have hBG := hsl
      rw [hal] at b7
      have hC0 : (bndL l.length sn).length = l.length := bndL_len _ _
      have hrel : ∀ k, k < l.length → (min ((bndL l.length sn).getD k (0, 0)).1 (a.getD k 0), max ((bndL l.length sn).getD k (0, 0)).2 (a.getD k 0)) = (loK k (sn ++ [a]), hiK k (sn ++ [a])) := fun k hk => by rw [bndL_get hk]; exact (bnd_snoc hsn).symm
      have holdG : ∀ b x, ¬ D1 b → b ≠ l2 → h'.get? b = some x → hs'.get? b = some x := fun b x q r g => holdS _ _ r g
      have hGn : hs'.n ≤ hs'.n := Nat.le_refl _
      (repeat' (first | (apply K_seq) | (apply K_region) | (apply O_at; rfl) | (apply O_fin; rfl) | (apply C_seq) | (apply K_ifT; rfl) | (apply K_ifF; rfl) | (apply K_block) | (apply K_skip) | (apply K_exit) | (apply K_ret) | (apply C_retS) | (apply C_exit) | (apply C_exitS) | (apply C_exitL) | (apply C_blockN) | (apply C_nil) | (apply P_move; rfl; rfl; rfl; rfl) | (apply P_assign; rfl; rfl; rfl; rfl) | (apply P_fa; rfl; rfl; rfl; rfl; exact fo_ok rfl; (first | exact Nat.zero_add _ | exact Nat.add_zero _ | rfl)) | (apply P_len; rfl; rfl; rfl; rfl; rfl; rfl; exact un_ok rfl) | (apply P_pick; rfl; rfl; rfl; rfl; rfl; rfl) | (apply P_not; rfl; rfl; rfl; rfl) | (apply P_lss; rfl; rfl; rfl; rfl; rfl; all_goals intro _) | (apply P_add; rfl; rfl; rfl; rfl; rfl; (unfold fit; omega)) | (apply P_idxA; rfl; rfl; rfl; rfl; rfl; exact un_ok rfl; exact sz_ok rfl; (first | rfl | exact (Int.toNat_of_nonneg (by omega)).symm); omega) | (apply P_idxB; rfl; rfl; rfl; rfl; rfl; exact un_ok rfl; exact sz_ok rfl; (first | rfl | exact (Int.toNat_of_nonneg (by omega)).symm); omega) | (apply P_load1; rfl; rfl; rfl; rfl; exact on_ok rfl; (focus repeat' first | exact get_push_same | assumption | apply get_push_old | (apply Ext.get; assumption) | (apply ExtBut.get; assumption; assumption)); (first | exact ints_get (by omega) | rfl | assumption)) | (apply P_loadA; rfl; rfl; rfl; rfl; exact ag_ok rfl; (focus repeat' first | exact get_push_same | assumption | apply get_push_old | (apply Ext.get; assumption) | (apply ExtBut.get; assumption; assumption)); (first | exact Nat.le_of_ble_eq_true rfl | (simp; done) | (simp; omega) | (rw [spanCells_len]; omega) | (rw [ints_len]; omega)); (first | exact spans_take (by omega) | rfl)) | (apply P_nilF; rfl; rfl; rfl; rfl; rfl; exact un_ok rfl) | (apply P_storeTop; rfl; rfl; rfl; rfl; exact sz_ok rfl; rfl; rfl; rfl) | (apply P_build48; rfl; rfl; rfl; rfl) | (apply P_storeS; rfl; rfl; rfl; rfl; rfl; (focus repeat' first | exact get_push_same | assumption | apply get_push_old | (apply Ext.get; assumption) | (apply ExtBut.get; assumption; assumption)); exact sz_ok rfl; omega; (intro _ _ _)) | (apply P_box; rfl; rfl; rfl; rfl; exact sz_ok rfl; rfl; rfl) | (apply P_alloc; rfl; rfl; rfl; rfl; exact sz_ok rfl; rfl; rfl) | (apply P_min; rfl; rfl; rfl; rfl; rfl; rfl) | (apply P_max; rfl; rfl; rfl; rfl; rfl; rfl) | fail))
      have hba6 : ba ≠ h4.n := by omega
      refine K_loopE (fun (x : Nat × List (Int × Int)) => [(32, .int .i64 (x.1 : Nat)), (31, .int .i64 (l.length : Nat)), (30, .slice (some ⟨ba, 0, none⟩) l.length unk), (6, .pointer (some ⟨h4.n, 0, none⟩))])
        (fun x g' => x.1 ≤ l.length ∧ ExtBut bs hs' g' ∧ g'.get? bs = some (.cells (spanCells x.2) 48 true) ∧ x.2.length = l.length ∧ ∀ j, j < l.length → x.2.getD j (0, 0) = if j < x.1 then (loK j (sn ++ [a]), hiK j (sn ++ [a])) else (bndL l.length sn).getD j (0, 0)) (fun x => l.length - x.1) ?_ (0, (bndL l.length sn)) ?_ ?_
      · rintro ⟨k, c⟩ g' ⟨hk, hx, hc, hcl, hj⟩ ih
        dsimp only at hk hc hcl hj ih ⊢
        have hb6' := hx.get hne6 hb6
        have hba' := hx.get hneb hbaG
        by_cases hlt : k < l.length
        · have hlta : k < a.length := by omega
          have hltc : k < c.length := by omega
          have hcn := Heap.get_lt hc
          have h6n' := Heap.get_lt hb6'
          have hjk := hj k hlt
          rw [if_neg (Nat.lt_irrefl k)] at hjk
          have hrk := hrel k hlt
          (repeat' (first | (apply K_seq) | (apply K_region) | (apply O_at; rfl) | (apply O_fin; rfl) | (apply C_seq) | (apply K_ifT; rfl) | (apply K_ifF; rfl) | (apply K_block) | (apply K_skip) | (apply K_exit) | (apply K_ret) | (apply C_retS) | (apply C_exit) | (apply C_exitS) | (apply C_exitL) | (apply C_blockN) | (apply C_nil) | (apply P_move; rfl; rfl; rfl; rfl) | (apply P_assign; rfl; rfl; rfl; rfl) | (apply P_fa; rfl; rfl; rfl; rfl; exact fo_ok rfl; (first | exact Nat.zero_add _ | exact Nat.add_zero _ | rfl)) | (apply P_len; rfl; rfl; rfl; rfl; rfl; rfl; exact un_ok rfl) | (apply P_pick; rfl; rfl; rfl; rfl; rfl; rfl) | (apply P_not; rfl; rfl; rfl; rfl) | (apply P_lss; rfl; rfl; rfl; rfl; rfl; all_goals intro _) | (apply P_add; rfl; rfl; rfl; rfl; rfl; (unfold fit; omega)) | (apply P_idxA; rfl; rfl; rfl; rfl; rfl; exact un_ok rfl; exact sz_ok rfl; (first | rfl | exact (Int.toNat_of_nonneg (by omega)).symm); omega) | (apply P_idxB; rfl; rfl; rfl; rfl; rfl; exact un_ok rfl; exact sz_ok rfl; (first | rfl | exact (Int.toNat_of_nonneg (by omega)).symm); omega) | (apply P_load1; rfl; rfl; rfl; rfl; exact on_ok rfl; (focus repeat' first | exact get_push_same | assumption | apply get_push_old | (apply Ext.get; assumption) | (apply ExtBut.get; assumption; assumption)); (first | exact ints_get (by omega) | rfl | assumption)) | (apply P_loadA; rfl; rfl; rfl; rfl; exact ag_ok rfl; (focus repeat' first | exact get_push_same | assumption | apply get_push_old | (apply Ext.get; assumption) | (apply ExtBut.get; assumption; assumption)); (first | exact Nat.le_of_ble_eq_true rfl | (simp; done) | (simp; omega) | (rw [spanCells_len]; omega) | (rw [ints_len]; omega)); (first | exact spans_take (by omega) | rfl)) | (apply P_nilF; rfl; rfl; rfl; rfl; rfl; exact un_ok rfl) | (apply P_storeTop; rfl; rfl; rfl; rfl; exact sz_ok rfl; rfl; rfl; rfl) | (apply P_build48; rfl; rfl; rfl; rfl) | (apply P_storeS; rfl; rfl; rfl; rfl; rfl; (focus repeat' first | exact get_push_same | assumption | apply get_push_old | (apply Ext.get; assumption) | (apply ExtBut.get; assumption; assumption)); exact sz_ok rfl; omega; (intro _ _ _)) | (apply P_box; rfl; rfl; rfl; rfl; exact sz_ok rfl; rfl; rfl) | (apply P_alloc; rfl; rfl; rfl; rfl; exact sz_ok rfl; rfl; rfl) | (apply P_min; rfl; rfl; rfl; rfl; rfl; rfl) | (apply P_max; rfl; rfl; rfl; rfl; rfl; rfl) | fail))
          · rename_i g3 hc3 hx3
            refine C_again (ih (k + 1, c.set k (min (c.getD k (0, 0)).1 (a.getD k 0), max (c.getD k (0, 0)).2 (a.getD k 0))) _ ?_ ⟨hlt, (hx.trans (((Ext.refl _).push _).but bs)).trans hx3, hc3, by simpa using hcl, fun j hj' => ?_⟩) ?_
            · dsimp only; omega
            · dsimp only
              rw [getD_setS hltc]
              by_cases q : j = k
              · subst q; rw [if_pos rfl, if_pos (Nat.lt_succ_self _), hjk]; exact hrk
              · rw [if_neg q, hj j hj']
                by_cases q2 : j < k
                · rw [if_pos q2, if_pos (by omega)]
                · rw [if_neg q2, if_neg (by omega)]
            · (focus repeat' first | rfl | exact trivial | apply And.intro)
          · omega
        · (repeat' (first | (apply K_seq) | (apply K_region) | (apply O_at; rfl) | (apply O_fin; rfl) | (apply C_seq) | (apply K_ifT; rfl) | (apply K_ifF; rfl) | (apply K_block) | (apply K_skip) | (apply K_exit) | (apply K_ret) | (apply C_retS) | (apply C_exit) | (apply C_exitS) | (apply C_exitL) | (apply C_blockN) | (apply C_nil) | (apply P_move; rfl; rfl; rfl; rfl) | (apply P_assign; rfl; rfl; rfl; rfl) | (apply P_fa; rfl; rfl; rfl; rfl; exact fo_ok rfl; (first | exact Nat.zero_add _ | exact Nat.add_zero _ | rfl)) | (apply P_len; rfl; rfl; rfl; rfl; rfl; rfl; exact un_ok rfl) | (apply P_pick; rfl; rfl; rfl; rfl; rfl; rfl) | (apply P_not; rfl; rfl; rfl; rfl) | (apply P_lss; rfl; rfl; rfl; rfl; rfl; all_goals intro _) | (apply P_add; rfl; rfl; rfl; rfl; rfl; (unfold fit; omega)) | (apply P_idxA; rfl; rfl; rfl; rfl; rfl; exact un_ok rfl; exact sz_ok rfl; (first | rfl | exact (Int.toNat_of_nonneg (by omega)).symm); omega) | (apply P_idxB; rfl; rfl; rfl; rfl; rfl; exact un_ok rfl; exact sz_ok rfl; (first | rfl | exact (Int.toNat_of_nonneg (by omega)).symm); omega) | (apply P_load1; rfl; rfl; rfl; rfl; exact on_ok rfl; (focus repeat' first | exact get_push_same | assumption | apply get_push_old | (apply Ext.get; assumption) | (apply ExtBut.get; assumption; assumption)); (first | exact ints_get (by omega) | rfl | assumption)) | (apply P_loadA; rfl; rfl; rfl; rfl; exact ag_ok rfl; (focus repeat' first | exact get_push_same | assumption | apply get_push_old | (apply Ext.get; assumption) | (apply ExtBut.get; assumption; assumption)); (first | exact Nat.le_of_ble_eq_true rfl | (simp; done) | (simp; omega) | (rw [spanCells_len]; omega) | (rw [ints_len]; omega)); (first | exact spans_take (by omega) | rfl)) | (apply P_nilF; rfl; rfl; rfl; rfl; rfl; exact un_ok rfl) | (apply P_storeTop; rfl; rfl; rfl; rfl; exact sz_ok rfl; rfl; rfl; rfl) | (apply P_build48; rfl; rfl; rfl; rfl) | (apply P_storeS; rfl; rfl; rfl; rfl; rfl; (focus repeat' first | exact get_push_same | assumption | apply get_push_old | (apply Ext.get; assumption) | (apply ExtBut.get; assumption; assumption)); exact sz_ok rfl; omega; (intro _ _ _)) | (apply P_box; rfl; rfl; rfl; rfl; exact sz_ok rfl; rfl; rfl) | (apply P_alloc; rfl; rfl; rfl; rfl; exact sz_ok rfl; rfl; rfl) | (apply P_min; rfl; rfl; rfl; rfl; rfl; rfl) | (apply P_max; rfl; rfl; rfl; rfl; rfl; rfl) | fail))
          · omega
          · have e : k = l.length := by omega
            subst e
            have e2 : c = bndL l.length (sn ++ [a]) := listS_eq (by rw [hcl, bndL_len]) fun j hj' => by rw [hj j (by omega), if_pos (by omega), bndL_get (by omega)]
            subst e2
            refine ⟨rfl, hx.get hnel hBG, fun hf hfl hfk hfn => ⟨fun b => b = h4.n ∨ b = bs, .inr ⟨by simp, bs, cc, fun b => Iff.rfl, hne6.symm, hfk _ _ (by omega) hb6', hfk _ _ (fun r => hnel r.symm) hc⟩, fun b q => ?_, fun b x q g => ?_, ?_⟩⟩
            · rcases q with q | q
              · exact .inl (by rw [q]; exact hD6)
              · rw [q]; exact hDbs
            · by_cases r : b = l2
              · subst r
                rw [hl2] at g
                cases g
                exact hfl
              · have := Heap.get_lt g
                exact hfk _ _ r (hx.get (fun u => by
                  rcases hDbs with v | v
                  · exact q (by rw [u]; exact v)
                  · omega) (holdG _ _ q r g))
            · have := hx.n; omega
      · exact ⟨Nat.zero_le _, ExtBut.refl _ _, hbsG, hC0, fun j hj => by rw [if_neg (by dsimp only; omega)]⟩
      · (focus repeat' first | rfl | exact trivial | apply And.intro)
  · rintro _ h7 ⟨D5, hJ5, _, hk5, hn5⟩
    refine ⟨hk5 _ _ (by omega) hlb, fun h8 hk8 hn8 => ?_⟩
    have hdb8 := hk8 _ _ (by omega) (hk5 _ _ (by omega) hdb)
    have kp : ∀ {h9 : Heap}, (∀ b x, b ≠ h6.n → h8.get? b = some x → h9.get? b = some x) → h9.n = h8.n → Ext h h9 := fun {_} k9 n9 => ⟨by omega, fun b x g => by
      have := Heap.get_lt g
      exact k9 _ _ (by omega) (hk8 _ _ (by omega) (hk5 _ _ (by omega) (hxb.get (x06.get g))))⟩
    rcases hJ5 with ⟨e5, f1, f2⟩ | ⟨e5, bs, cc, f1, f2, f3, f4⟩
    · have f2' := hk8 _ _ (by omega) f2
      (repeat' (first | (apply K_seq) | (apply K_region) | (apply O_at; rfl) | (apply O_fin; rfl) | (apply C_seq) | (apply K_ifT; rfl) | (apply K_ifF; rfl) | (apply K_block) | (apply K_skip) | (apply K_exit) | (apply K_ret) | (apply C_retS) | (apply C_exit) | (apply C_exitS) | (apply C_exitL) | (apply C_blockN) | (apply C_nil) | (apply P_move; rfl; rfl; rfl; rfl) | (apply P_assign; rfl; rfl; rfl; rfl) | (apply P_fa; rfl; rfl; rfl; rfl; exact fo_ok rfl; (first | exact Nat.zero_add _ | exact Nat.add_zero _ | rfl)) | (apply P_len; rfl; rfl; rfl; rfl; rfl; rfl; exact un_ok rfl) | (apply P_pick; rfl; rfl; rfl; rfl; rfl; rfl) | (apply P_not; rfl; rfl; rfl; rfl) | (apply P_lss; rfl; rfl; rfl; rfl; rfl; all_goals intro _) | (apply P_add; rfl; rfl; rfl; rfl; rfl; (unfold fit; omega)) | (apply P_idxA; rfl; rfl; rfl; rfl; rfl; exact un_ok rfl; exact sz_ok rfl; (first | rfl | exact (Int.toNat_of_nonneg (by omega)).symm); omega) | (apply P_idxB; rfl; rfl; rfl; rfl; rfl; exact un_ok rfl; exact sz_ok rfl; (first | rfl | exact (Int.toNat_of_nonneg (by omega)).symm); omega) | (apply P_load1; rfl; rfl; rfl; rfl; exact on_ok rfl; (focus repeat' first | exact get_push_same | assumption | apply get_push_old | (apply Ext.get; assumption) | (apply ExtBut.get; assumption; assumption)); (first | exact ints_get (by omega) | rfl | assumption)) | (apply P_loadA; rfl; rfl; rfl; rfl; exact ag_ok rfl; (focus repeat' first | exact get_push_same | assumption | apply get_push_old | (apply Ext.get; assumption) | (apply ExtBut.get; assumption; assumption)); (first | exact Nat.le_of_ble_eq_true rfl | (simp; done) | (simp; omega) | (rw [spanCells_len]; omega) | (rw [ints_len]; omega)); (first | exact spans_take (by omega) | rfl)) | (apply P_nilF; rfl; rfl; rfl; rfl; rfl; exact un_ok rfl) | (apply P_storeTop; rfl; rfl; rfl; rfl; exact sz_ok rfl; rfl; rfl; rfl) | (apply P_build48; rfl; rfl; rfl; rfl) | (apply P_storeS; rfl; rfl; rfl; rfl; rfl; (focus repeat' first | exact get_push_same | assumption | apply get_push_old | (apply Ext.get; assumption) | (apply ExtBut.get; assumption; assumption)); exact sz_ok rfl; omega; (intro _ _ _)) | (apply P_box; rfl; rfl; rfl; rfl; exact sz_ok rfl; rfl; rfl) | (apply P_alloc; rfl; rfl; rfl; rfl; exact sz_ok rfl; rfl; rfl) | (apply P_min; rfl; rfl; rfl; rfl; rfl; rfl) | (apply P_max; rfl; rfl; rfl; rfl; rfl; rfl) | fail))
      apply P_nilT; rfl; rfl; rfl; rfl; rfl; kernel_rfl
      (repeat' (first | (apply K_seq) | (apply K_region) | (apply O_at; rfl) | (apply O_fin; rfl) | (apply C_seq) | (apply K_ifT; rfl) | (apply K_ifF; rfl) | (apply K_block) | (apply K_skip) | (apply K_exit) | (apply K_ret) | (apply C_retS) | (apply C_exit) | (apply C_exitS) | (apply C_exitL) | (apply C_blockN) | (apply C_nil) | (apply P_move; rfl; rfl; rfl; rfl) | (apply P_assign; rfl; rfl; rfl; rfl) | (apply P_fa; rfl; rfl; rfl; rfl; exact fo_ok rfl; (first | exact Nat.zero_add _ | exact Nat.add_zero _ | rfl)) | (apply P_len; rfl; rfl; rfl; rfl; rfl; rfl; exact un_ok rfl) | (apply P_pick; rfl; rfl; rfl; rfl; rfl; rfl) | (apply P_not; rfl; rfl; rfl; rfl) | (apply P_lss; rfl; rfl; rfl; rfl; rfl; all_goals intro _) | (apply P_add; rfl; rfl; rfl; rfl; rfl; (unfold fit; omega)) | (apply P_idxA; rfl; rfl; rfl; rfl; rfl; exact un_ok rfl; exact sz_ok rfl; (first | rfl | exact (Int.toNat_of_nonneg (by omega)).symm); omega) | (apply P_idxB; rfl; rfl; rfl; rfl; rfl; exact un_ok rfl; exact sz_ok rfl; (first | rfl | exact (Int.toNat_of_nonneg (by omega)).symm); omega) | (apply P_load1; rfl; rfl; rfl; rfl; exact on_ok rfl; (focus repeat' first | exact get_push_same | assumption | apply get_push_old | (apply Ext.get; assumption) | (apply ExtBut.get; assumption; assumption)); (first | exact ints_get (by omega) | rfl | assumption)) | (apply P_loadA; rfl; rfl; rfl; rfl; exact ag_ok rfl; (focus repeat' first | exact get_push_same | assumption | apply get_push_old | (apply Ext.get; assumption) | (apply ExtBut.get; assumption; assumption)); (first | exact Nat.le_of_ble_eq_true rfl | (simp; done) | (simp; omega) | (rw [spanCells_len]; omega) | (rw [ints_len]; omega)); (first | exact spans_take (by omega) | rfl)) | (apply P_nilF; rfl; rfl; rfl; rfl; rfl; exact un_ok rfl) | (apply P_storeTop; rfl; rfl; rfl; rfl; exact sz_ok rfl; rfl; rfl; rfl) | (apply P_build48; rfl; rfl; rfl; rfl) | (apply P_storeS; rfl; rfl; rfl; rfl; rfl; (focus repeat' first | exact get_push_same | assumption | apply get_push_old | (apply Ext.get; assumption) | (apply ExtBut.get; assumption; assumption)); exact sz_ok rfl; omega; (intro _ _ _)) | (apply P_box; rfl; rfl; rfl; rfl; exact sz_ok rfl; rfl; rfl) | (apply P_alloc; rfl; rfl; rfl; rfl; exact sz_ok rfl; rfl; rfl) | (apply P_min; rfl; rfl; rfl; rfl; rfl; rfl) | (apply P_max; rfl; rfl; rfl; rfl; rfl; rfl) | fail))
      refine ⟨.inr rfl, hdb8, fun h9 hk9 hn9 => ⟨_, rfl, kp hk9 hn9, .inl ⟨e5, rfl⟩⟩⟩
    · have hbs2 : bs ≠ l2 := fun q => by rw [q, hk5 _ _ (by omega) hlb] at f4; cases f4
      have f3' := hk8 _ _ (by omega) f3
      (repeat' (first | (apply K_seq) | (apply K_region) | (apply O_at; rfl) | (apply O_fin; rfl) | (apply C_seq) | (apply K_ifT; rfl) | (apply K_ifF; rfl) | (apply K_block) | (apply K_skip) | (apply K_exit) | (apply K_ret) | (apply C_retS) | (apply C_exit) | (apply C_exitS) | (apply C_exitL) | (apply C_blockN) | (apply C_nil) | (apply P_move; rfl; rfl; rfl; rfl) | (apply P_assign; rfl; rfl; rfl; rfl) | (apply P_fa; rfl; rfl; rfl; rfl; exact fo_ok rfl; (first | exact Nat.zero_add _ | exact Nat.add_zero _ | rfl)) | (apply P_len; rfl; rfl; rfl; rfl; rfl; rfl; exact un_ok rfl) | (apply P_pick; rfl; rfl; rfl; rfl; rfl; rfl) | (apply P_not; rfl; rfl; rfl; rfl) | (apply P_lss; rfl; rfl; rfl; rfl; rfl; all_goals intro _) | (apply P_add; rfl; rfl; rfl; rfl; rfl; (unfold fit; omega)) | (apply P_idxA; rfl; rfl; rfl; rfl; rfl; exact un_ok rfl; exact sz_ok rfl; (first | rfl | exact (Int.toNat_of_nonneg (by omega)).symm); omega) | (apply P_idxB; rfl; rfl; rfl; rfl; rfl; exact un_ok rfl; exact sz_ok rfl; (first | rfl | exact (Int.toNat_of_nonneg (by omega)).symm); omega) | (apply P_load1; rfl; rfl; rfl; rfl; exact on_ok rfl; (focus repeat' first | exact get_push_same | assumption | apply get_push_old | (apply Ext.get; assumption) | (apply ExtBut.get; assumption; assumption)); (first | exact ints_get (by omega) | rfl | assumption)) | (apply P_loadA; rfl; rfl; rfl; rfl; exact ag_ok rfl; (focus repeat' first | exact get_push_same | assumption | apply get_push_old | (apply Ext.get; assumption) | (apply ExtBut.get; assumption; assumption)); (first | exact Nat.le_of_ble_eq_true rfl | (simp; done) | (simp; omega) | (rw [spanCells_len]; omega) | (rw [ints_len]; omega)); (first | exact spans_take (by omega) | rfl)) | (apply P_nilF; rfl; rfl; rfl; rfl; rfl; exact un_ok rfl) | (apply P_storeTop; rfl; rfl; rfl; rfl; exact sz_ok rfl; rfl; rfl; rfl) | (apply P_build48; rfl; rfl; rfl; rfl) | (apply P_storeS; rfl; rfl; rfl; rfl; rfl; (focus repeat' first | exact get_push_same | assumption | apply get_push_old | (apply Ext.get; assumption) | (apply ExtBut.get; assumption; assumption)); exact sz_ok rfl; omega; (intro _ _ _)) | (apply P_box; rfl; rfl; rfl; rfl; exact sz_ok rfl; rfl; rfl) | (apply P_alloc; rfl; rfl; rfl; rfl; exact sz_ok rfl; rfl; rfl) | (apply P_min; rfl; rfl; rfl; rfl; rfl; rfl) | (apply P_max; rfl; rfl; rfl; rfl; rfl; rfl) | fail))
      refine ⟨.inr rfl, hdb8, fun h9 hk9 hn9 => ⟨_, rfl, kp hk9 hn9, .inr ⟨e5, bs, cc, rfl, hk9 _ _ (fun q => by rw [q, hk5 _ _ (by omega) hdb] at f4; cases f4) (hk8 _ _ hbs2 f4)⟩⟩⟩
end Go.AX.Sa
