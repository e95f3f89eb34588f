/- Tables, by additions; spans; which numbers are far. -/
import Derived.Test.YtfbeibiokpaicaaGreatDoorSwA
namespace Go.AX.Sa
open Go.Proofs
set_option maxRecDepth 100000
variable {K : Known}

/-- The table in a truth. -/
def tabL (t : List Int) (R : Nat) : List Int := (List.range R).map fun r => w64 (sumC t r 0)
theorem tabL_len (t : List Int) (R : Nat) : (tabL t R).length = R := by simp [tabL]
/-- The state of a row. -/
def atP (t : List Int) (r i : Nat) : List Int := (List.range i).map fun j => w64 (st t r j)
end Go.AX.Sa

namespace Go.AX.Sa
open Go.Proofs
set_option maxRecDepth 100000
variable {K : Known}

theorem getD_set {l : List Int} {k j : Nat} {n : Int} (h : k < l.length) : (l.set k n).getD j 0 = if j = k then n else l.getD j 0 := by
  simp only [List.getD_eq_getElem?_getD, List.getElem?_set]
  by_cases hj : k = j
  · subst hj; simp [h]
  · rw [if_neg hj, if_neg (fun q => hj q.symm)]

/-- A row of numbers is made that of the next row. -/
theorem add_ok (hK : NoK K) {m : List Int} {b cap : Nat} {h : Heap} (hl : m.length ≤ 1000) (hb : h.get? b = some (.cells (ints m) 3 true)) :
    CallW Tryz.prog K 96 #[.slice (some ⟨b, 0, none⟩) m.length cap] h fun _ h1 => ExtBut b h h1 ∧ ∃ m', h1.get? b = some (.cells (ints m') 3 true) ∧ m'.length = m.length ∧ ∀ j, m'.getD j 0 = if j + 1 < m.length then w64 (m.getD j 0 + m.getD (j + 1) 0) else m.getD j 0 := by
  refine body (N := 21) Tryz.func96 rfl (hK _ _ _ rfl) rfl rfl ?_
  (repeat' (first | (apply K_seq) | (apply K_region) | (apply O_at; rfl) | (apply N_at; rfl) | (apply O_fin; rfl) | (apply C_seq) | (apply K_ifT; rfl) | (apply K_ifF; rfl) | (apply K_open; kernel_rfl) | (apply K_block) | (apply K_skip) | (apply K_exit) | (apply N_fin; rfl; exact (.inl (Nat.le_refl 1))) | (apply N_fin; rfl; refine .inr ?_; (focus repeat' first | exact trivial | exact Keeps.nil _ _ | apply And.intro | rfl | (apply Keeps.cons; (focus repeat' first | assumption); (focus repeat' first | assumption)))) | (apply C_exit) | (apply C_exitS) | (apply C_exitL) | (apply C_blockN) | (apply C_nil) | (apply P_move; rfl; rfl; rfl; rfl) | (apply P_assign; rfl; rfl; rfl; rfl) | (apply P_len; rfl; rfl; rfl; rfl; rfl; rfl; exact un_ok rfl) | (apply P_lss; rfl; rfl; rfl; rfl; rfl; all_goals intro _) | (apply P_add; rfl; rfl; rfl; rfl; rfl; (unfold fit; omega)) | (apply P_sub; rfl; rfl; rfl; rfl; rfl; (unfold fit; omega)) | (apply M_move; rfl; rfl; rfl; rfl) | (apply M_add; rfl; rfl; rfl; rfl; rfl; (unfold fit; omega)) | (apply M_idxA; rfl; rfl; rfl; rfl; rfl; exact un_ok rfl; exact sz_ok rfl; (first | exact zqs _ | rfl | exact (Int.toNat_of_nonneg (by omega)).symm); omega) | (apply M_load1E; rfl; rfl; rfl; rfl; exact on_ok rfl; decide +kernel; (focus repeat' first | assumption); (first | exact ints_get (by omega) | rfl | assumption); (first | assumption | exact same_yield _ | exact same_int _ _ | rfl | (simp [same, same.all2]; done)); (first | rfl | assumption | exact within_yield (by omega) | exact within_planO hpb (by (focus repeat' first | exact Ext.refl _ | assumption | apply Ext.push | (refine Ext.trans ?_ (by assumption)) | (refine Ext.set ?_ (Nat.le_succ _) (get_push_old get_push_same) _))) | exact within_optO hpb (by (focus repeat' first | exact Ext.refl _ | assumption | apply Ext.push | (refine Ext.trans ?_ (by assumption)) | (refine Ext.set ?_ (Nat.le_succ _) (get_push_old get_push_same) _))) | (simp [within]; omega))) | (apply M_addW; rfl; rfl; rfl; rfl; rfl) | (apply M_storeI; rfl; rfl; rfl; rfl; (focus repeat' first | assumption); exact sz_ok rfl; omega; rfl; (intro _ _ _)) | fail))
  refine K_loopE (fun (a : Nat × List Int) => [(6, .int .i64 (a.1 : Nat)), (5, .int .i64 ((m.length : Nat) - 1)), (0, .slice (some ⟨b, 0, none⟩) m.length cap)])
    (fun a h' => (a.1 = 0 ∨ a.1 + 1 ≤ m.length) ∧ ExtBut b h h' ∧ h'.get? b = some (.cells (ints a.2) 3 true) ∧ a.2.length = m.length ∧ ∀ j, a.2.getD j 0 = if j < a.1 then w64 (m.getD j 0 + m.getD (j + 1) 0) else m.getD j 0) (fun a => m.length - a.1) ?_ (0, m) ?_ ?_
  · rintro ⟨k, c⟩ h' ⟨hk, hx, hc, hcl, hj⟩ ih
    dsimp only at hk hc hcl hj ih ⊢
    by_cases hlt : k + 1 < m.length
    · have hlt1 : k < c.length := by omega
      have hlt2 : k + 1 < c.length := by omega
      (repeat' (first | (apply K_seq) | (apply K_region) | (apply O_at; rfl) | (apply N_at; rfl) | (apply O_fin; rfl) | (apply C_seq) | (apply K_ifT; rfl) | (apply K_ifF; rfl) | (apply K_open; kernel_rfl) | (apply K_block) | (apply K_skip) | (apply K_exit) | (apply N_fin; rfl; exact (.inl (Nat.le_refl 1))) | (apply N_fin; rfl; refine .inr ?_; (focus repeat' first | exact trivial | exact Keeps.nil _ _ | apply And.intro | rfl | (apply Keeps.cons; (focus repeat' first | assumption); (focus repeat' first | assumption)))) | (apply C_exit) | (apply C_exitS) | (apply C_exitL) | (apply C_blockN) | (apply C_nil) | (apply P_move; rfl; rfl; rfl; rfl) | (apply P_assign; rfl; rfl; rfl; rfl) | (apply P_len; rfl; rfl; rfl; rfl; rfl; rfl; exact un_ok rfl) | (apply P_lss; rfl; rfl; rfl; rfl; rfl; all_goals intro _) | (apply P_add; rfl; rfl; rfl; rfl; rfl; (unfold fit; omega)) | (apply P_sub; rfl; rfl; rfl; rfl; rfl; (unfold fit; omega)) | (apply M_move; rfl; rfl; rfl; rfl) | (apply M_add; rfl; rfl; rfl; rfl; rfl; (unfold fit; omega)) | (apply M_idxA; rfl; rfl; rfl; rfl; rfl; exact un_ok rfl; exact sz_ok rfl; (first | exact zqs _ | rfl | exact (Int.toNat_of_nonneg (by omega)).symm); omega) | (apply M_load1E; rfl; rfl; rfl; rfl; exact on_ok rfl; decide +kernel; (focus repeat' first | assumption); (first | exact ints_get (by omega) | rfl | assumption); (first | assumption | exact same_yield _ | exact same_int _ _ | rfl | (simp [same, same.all2]; done)); (first | rfl | assumption | exact within_yield (by omega) | exact within_planO hpb (by (focus repeat' first | exact Ext.refl _ | assumption | apply Ext.push | (refine Ext.trans ?_ (by assumption)) | (refine Ext.set ?_ (Nat.le_succ _) (get_push_old get_push_same) _))) | exact within_optO hpb (by (focus repeat' first | exact Ext.refl _ | assumption | apply Ext.push | (refine Ext.trans ?_ (by assumption)) | (refine Ext.set ?_ (Nat.le_succ _) (get_push_old get_push_same) _))) | (simp [within]; omega))) | (apply M_addW; rfl; rfl; rfl; rfl; rfl) | (apply M_storeI; rfl; rfl; rfl; rfl; (focus repeat' first | assumption); exact sz_ok rfl; omega; rfl; (intro _ _ _)) | fail))
      · rename_i h3 hc3 hx3
        refine C_again (ih (k + 1, c.set k (w64 (c.getD k 0 + c.getD (k + 1) 0))) _ ?_ ⟨?_, hx.trans hx3, hc3, ?_, fun j => ?_⟩) ?_
        · dsimp only; omega
        · dsimp only; omega
        · simpa using hcl
        · dsimp only
          rw [getD_set hlt1]
          by_cases q : j = k
          · subst q
            rw [if_pos rfl, if_pos (by omega), hj j, hj (j + 1), if_neg (by omega), if_neg (by omega)]
          · rw [if_neg q, hj j]
            by_cases q2 : j < k
            · rw [if_pos q2, if_pos (by omega)]
            · rw [if_neg q2, if_neg (by omega)]
        · (focus repeat' first | rfl | exact trivial | apply And.intro)
      · omega
    · (repeat' (first | (apply K_seq) | (apply K_region) | (apply O_at; rfl) | (apply N_at; rfl) | (apply O_fin; rfl) | (apply C_seq) | (apply K_ifT; rfl) | (apply K_ifF; rfl) | (apply K_open; kernel_rfl) | (apply K_block) | (apply K_skip) | (apply K_exit) | (apply N_fin; rfl; exact (.inl (Nat.le_refl 1))) | (apply N_fin; rfl; refine .inr ?_; (focus repeat' first | exact trivial | exact Keeps.nil _ _ | apply And.intro | rfl | (apply Keeps.cons; (focus repeat' first | assumption); (focus repeat' first | assumption)))) | (apply C_exit) | (apply C_exitS) | (apply C_exitL) | (apply C_blockN) | (apply C_nil) | (apply P_move; rfl; rfl; rfl; rfl) | (apply P_assign; rfl; rfl; rfl; rfl) | (apply P_len; rfl; rfl; rfl; rfl; rfl; rfl; exact un_ok rfl) | (apply P_lss; rfl; rfl; rfl; rfl; rfl; all_goals intro _) | (apply P_add; rfl; rfl; rfl; rfl; rfl; (unfold fit; omega)) | (apply P_sub; rfl; rfl; rfl; rfl; rfl; (unfold fit; omega)) | (apply M_move; rfl; rfl; rfl; rfl) | (apply M_add; rfl; rfl; rfl; rfl; rfl; (unfold fit; omega)) | (apply M_idxA; rfl; rfl; rfl; rfl; rfl; exact un_ok rfl; exact sz_ok rfl; (first | exact zqs _ | rfl | exact (Int.toNat_of_nonneg (by omega)).symm); omega) | (apply M_load1E; rfl; rfl; rfl; rfl; exact on_ok rfl; decide +kernel; (focus repeat' first | assumption); (first | exact ints_get (by omega) | rfl | assumption); (first | assumption | exact same_yield _ | exact same_int _ _ | rfl | (simp [same, same.all2]; done)); (first | rfl | assumption | exact within_yield (by omega) | exact within_planO hpb (by (focus repeat' first | exact Ext.refl _ | assumption | apply Ext.push | (refine Ext.trans ?_ (by assumption)) | (refine Ext.set ?_ (Nat.le_succ _) (get_push_old get_push_same) _))) | exact within_optO hpb (by (focus repeat' first | exact Ext.refl _ | assumption | apply Ext.push | (refine Ext.trans ?_ (by assumption)) | (refine Ext.set ?_ (Nat.le_succ _) (get_push_old get_push_same) _))) | (simp [within]; omega))) | (apply M_addW; rfl; rfl; rfl; rfl; rfl) | (apply M_storeI; rfl; rfl; rfl; rfl; (focus repeat' first | assumption); exact sz_ok rfl; omega; rfl; (intro _ _ _)) | fail))
      · omega
      · refine ⟨.inl rfl, _, rfl, hx, c, hc, hcl, fun j => ?_⟩
        rw [hj j]
        by_cases q : j < k
        · rw [if_pos q, if_pos (by omega)]
        · rw [if_neg q, if_neg (by omega)]
  · exact ⟨.inl rfl, ExtBut.refl _ _, hb, rfl, fun j => by rw [if_neg (by dsimp only; omega)]⟩
  · (focus repeat' first | rfl | exact trivial | apply And.intro)

theorem list_eq {a b : List Int} (hl : a.length = b.length) (h : ∀ j, j < a.length → a.getD j 0 = b.getD j 0) : a = b := by
  apply List.ext_getElem hl
  intro j h1 h2
  have := h j h1
  simpa [List.getD_eq_getElem?_getD, h1, h2] using this
theorem tabL_get {t : List Int} {R j : Nat} (h : j < R) : (tabL t R).getD j 0 = w64 (sumC t j 0) := by
  simp [tabL, List.getD_eq_getElem?_getD, h]

/-- slices.Clone of a list that is not empty. -/
theorem clone_ok (hK : NoK K) {t : List Int} {q : Option Addr} {cap : Nat} {h : Heap} (hp : 0 < t.length) (hl : t.length ≤ 1000) (hr : Rd h q (ints t)) :
    CallW Tryz.prog K 83 #[.slice q t.length cap] h fun v h1 => Ext h h1 ∧ ∃ b, v = .slice (some ⟨b, 0, none⟩) t.length unk ∧ h1.get? b = some (.cells (ints t) 3 true) ∧ h.n ≤ b := by
  obtain ⟨b, e, own, rfl, hg⟩ := hr.at (by rw [ints_len]; omega)
  refine body (N := 8) Tryz.func83 rfl (hK _ _ _ rfl) rfl rfl ?_
  (repeat' (first | (apply K_seq) | (apply K_region) | (apply O_at; rfl) | (apply O_fin; rfl) | (apply C_seq) | (apply K_ifF; rfl) | (apply K_skip) | (apply K_ret) | (apply C_nil) | (apply P_move; rfl; rfl; rfl; rfl) | (apply P_assign; rfl; rfl; rfl; rfl) | (apply P_nilF; rfl; rfl; rfl; rfl; rfl; exact un_ok rfl) | (apply P_build0; rfl; rfl; rfl; rfl; exact c1_ok rfl) | (apply P_append; rfl; rfl; rfl; rfl; rfl; rfl; (apply app_nil; rfl; rfl; exact c1_ok rfl; exact un_ok rfl; (focus repeat' first | exact get_push_same | assumption | apply get_push_old); (first | rfl | exact ints_len _); (first | decide | omega); (first | decide | omega); (first | rfl | exact ints_one _))) | (apply P_append; rfl; rfl; rfl; rfl; rfl; rfl; (apply app_unk; rfl; rfl; exact c1_ok rfl; exact un_ok rfl; (focus repeat' first | exact get_push_same | assumption | apply get_push_old); (first | rfl | exact ints_len _); (first | decide | omega); (first | decide | omega); (first | rfl | exact ints_one _); (focus repeat' first | exact get_push_same | assumption | apply get_push_old); (first | rfl | exact ints_len _))) | (apply P_append; rfl; rfl; rfl; rfl; rfl; rfl; (apply app_full; rfl; rfl; exact c1_ok rfl; exact un_ok rfl; (focus repeat' first | exact get_push_same | assumption | apply get_push_old); (first | rfl | exact ints_len _); (first | decide | omega); (first | decide | omega); (first | rfl | exact ints_one _); (focus repeat' first | exact get_push_same | assumption | apply get_push_old); (first | rfl | exact ints_len _); omega; omega)) | fail))
  refine ⟨.inr rfl, _, rfl, ?_, (h.push (.cells [] 3 true)).n, ?_, ?_, ?_⟩
  · (focus repeat' first | exact Ext.refl _ | assumption | apply Ext.push | (refine Ext.trans ?_ (by assumption)) | (refine Ext.set ?_ (Nat.le_succ _) (get_push_old get_push_same) _))
  · simp [resV]
  · exact get_push_same
  · exact Nat.le_succ _

/-- What a truth's numbers become. -/
def Now (t : List Int) (r b : Nat) (h : Heap) : Prop := ∃ c, h.get? b = some (.cells (ints c) 3 true) ∧ c.length = t.length ∧ ∀ j, j < t.length → c.getD j 0 = w64 (st t r j)
theorem now_next {t m m' : List Int} {r : Nat} (hm : m.length = t.length) (h : ∀ j, j < t.length → m.getD j 0 = w64 (st t r j)) (h' : ∀ j, m'.getD j 0 = if j + 1 < m.length then w64 (m.getD j 0 + m.getD (j + 1) 0) else m.getD j 0) :
    ∀ j, j < t.length → m'.getD j 0 = w64 (st t (r + 1) j) := by
  intro j hj
  rw [h' j]
  by_cases q : j + 1 < t.length
  · rw [if_pos (by omega), h j hj, h (j + 1) q, w64_add, st_next t r j q]
  · rw [if_neg (by omega), h j hj, st_last t r j (by omega)]

/-- The table in a truth, by additions. -/
theorem table_ok (hK : NoK K) {t : List Int} {p q : Option Addr} {n cap cap' R : Nat} {guard : Int} {h : Heap} (hp : 0 < t.length) (hl : t.length ≤ 1000) (hr : Rd h q (ints t)) (hn : R ≤ 1000) (hf : ∀ j, w64 (t.getD j 0) = t.getD j 0) :
    CallW Tryz.prog K 67 #[.agg #[.slice p n cap, .int .i64 (R : Nat), .int .i64 guard, .slice q t.length cap']] h (IsL (tabL t R) h) := by
  refine body (N := 29) Tryz.func67 rfl (hK _ _ _ rfl) rfl rfl ?_
  (repeat' (first | (apply K_seq) | (apply K_region) | (apply O_at; rfl) | (apply O_fin; rfl) | (apply C_seq) | (apply K_ifT; rfl) | (apply K_ifF; rfl) | (apply K_block) | (apply K_skip) | (apply K_exit) | (apply K_ret) | (apply C_exit) | (apply C_exitS) | (apply C_exitL) | (apply C_blockN) | (apply C_nil) | (apply P_move; rfl; rfl; rfl; rfl) | (apply P_assign; rfl; rfl; rfl; rfl) | (apply P_fa; rfl; rfl; rfl; rfl; exact fo_ok rfl; (first | exact Nat.zero_add _ | exact Nat.add_zero _ | rfl)) | (apply P_lss; rfl; rfl; rfl; rfl; rfl; all_goals intro _) | (apply P_add; rfl; rfl; rfl; rfl; rfl; (unfold fit; omega)) | (apply P_idxA; rfl; rfl; rfl; rfl; rfl; exact un_ok rfl; exact sz_ok rfl; (first | exact zq0 | rfl | exact (Int.toNat_of_nonneg (by omega)).symm); omega) | (apply P_load1; rfl; rfl; rfl; rfl; exact on_ok rfl; (focus repeat' first | exact get_push_same | assumption | apply get_push_old | (apply Ext.get; assumption) | (apply ExtBut.get; assumption; assumption)); (first | exact ints_get (by omega) | rfl | assumption)) | (apply P_makeI; rfl; rfl; rfl; rfl; rfl; exact c1_ok rfl; exact zero3; omega; omega) | (apply P_storeI; rfl; rfl; rfl; rfl; (focus repeat' first | exact get_push_same | assumption | apply get_push_old | (apply Ext.get; assumption) | (apply ExtBut.get; assumption; assumption)); exact sz_ok rfl; omega; (intro _ _ _)) | (apply P_box; rfl; rfl; rfl; rfl; exact sz_ok rfl; rfl; rfl) | fail))
  have hb1 : (h.push (.cells (Value.agg #[.slice p n cap, .int .i64 (R : Nat), .int .i64 guard, .slice q t.length cap']).cells.toList 92 true)).get? h.n = some (.cells [.slice p n cap, .int .i64 (R : Nat), .int .i64 guard, .slice q t.length cap'] 92 true) := get_push_same
  have hx1 : Ext h (h.push (.cells (Value.agg #[.slice p n cap, .int .i64 (R : Nat), .int .i64 guard, .slice q t.length cap']).cells.toList 92 true)) := by (focus repeat' first | exact Ext.refl _ | assumption | apply Ext.push | (refine Ext.trans ?_ (by assumption)) | (refine Ext.set ?_ (Nat.le_succ _) (get_push_old get_push_same) _))
  generalize h.push (.cells (Value.agg #[.slice p n cap, .int .i64 (R : Nat), .int .i64 guard, .slice q t.length cap']).cells.toList 92 true) = h1 at hb1 hx1 ⊢
  have hbT : (h1.push (.cells (ints (List.replicate (R : Int).toNat 0)) 3 true)).get? h1.n = some (.cells (ints (List.replicate R 0)) 3 true) := get_push_same
  have hxT : Ext h1 (h1.push (.cells (ints (List.replicate (R : Int).toNat 0)) 3 true)) := by (focus repeat' first | exact Ext.refl _ | assumption | apply Ext.push | (refine Ext.trans ?_ (by assumption)) | (refine Ext.set ?_ (Nat.le_succ _) (get_push_old get_push_same) _))
  have hnT : h1.n < (h1.push (.cells (ints (List.replicate (R : Int).toNat 0)) 3 true)).n := Nat.lt_succ_self _
  generalize h1.push (.cells (ints (List.replicate (R : Int).toNat 0)) 3 true) = h2 at hbT hxT hnT ⊢
  have hx2 : Ext h h2 := hx1.trans hxT
  have hbt : h.n ≤ h1.n := hx1.n
  generalize h1.n = bt at hbT hnT hbt ⊢
  apply P_call; rfl; rfl; rfl; rfl; rfl; rfl; exact clone_ok hK hp hl (hr.ext hx2)
  rintro _ h3 ⟨hx3, bn, rfl, hbn, hnn⟩
  have hb3 := hx3.get (hxT.get hb1)
  (repeat' (first | (apply K_seq) | (apply K_region) | (apply O_at; rfl) | (apply O_fin; rfl) | (apply C_seq) | (apply K_ifT; rfl) | (apply K_ifF; rfl) | (apply K_block) | (apply K_skip) | (apply K_exit) | (apply K_ret) | (apply C_exit) | (apply C_exitS) | (apply C_exitL) | (apply C_blockN) | (apply C_nil) | (apply P_move; rfl; rfl; rfl; rfl) | (apply P_assign; rfl; rfl; rfl; rfl) | (apply P_fa; rfl; rfl; rfl; rfl; exact fo_ok rfl; (first | exact Nat.zero_add _ | exact Nat.add_zero _ | rfl)) | (apply P_lss; rfl; rfl; rfl; rfl; rfl; all_goals intro _) | (apply P_add; rfl; rfl; rfl; rfl; rfl; (unfold fit; omega)) | (apply P_idxA; rfl; rfl; rfl; rfl; rfl; exact un_ok rfl; exact sz_ok rfl; (first | exact zq0 | rfl | exact (Int.toNat_of_nonneg (by omega)).symm); omega) | (apply P_load1; rfl; rfl; rfl; rfl; exact on_ok rfl; (focus repeat' first | exact get_push_same | assumption | apply get_push_old | (apply Ext.get; assumption) | (apply ExtBut.get; assumption; assumption)); (first | exact ints_get (by omega) | rfl | assumption)) | (apply P_makeI; rfl; rfl; rfl; rfl; rfl; exact c1_ok rfl; exact zero3; omega; omega) | (apply P_storeI; rfl; rfl; rfl; rfl; (focus repeat' first | exact get_push_same | assumption | apply get_push_old | (apply Ext.get; assumption) | (apply ExtBut.get; assumption; assumption)); exact sz_ok rfl; omega; (intro _ _ _)) | (apply P_box; rfl; rfl; rfl; rfl; exact sz_ok rfl; rfl; rfl) | fail))
  refine K_loopE (fun k : Nat => [(16, .int .i64 (k : Nat)), (15, .int .i64 (R : Nat)), (3, .slice (some ⟨bt, 0, none⟩) R R), (4, .slice (some ⟨bn, 0, none⟩) t.length unk)])
    (fun k h' => k ≤ R ∧ Ext h h' ∧ Now t k bn h' ∧ ∃ cT, h'.get? bt = some (.cells (ints cT) 3 true) ∧ cT.length = R ∧ ∀ j, j < k → cT.getD j 0 = w64 (sumC t j 0)) (fun k => R - k) ?_ 0 ?_ ?_
  · intro k h' ⟨hk, hx, ⟨c, hc, hcl, hj⟩, cT, hT, hTl, hTj⟩ ih
    have hne : bn ≠ bt := by omega
    have hne' : bt ≠ bn := by omega
    by_cases hlt : k < R
    · (repeat' (first | (apply K_seq) | (apply K_region) | (apply O_at; rfl) | (apply O_fin; rfl) | (apply C_seq) | (apply K_ifT; rfl) | (apply K_ifF; rfl) | (apply K_block) | (apply K_skip) | (apply K_exit) | (apply K_ret) | (apply C_exit) | (apply C_exitS) | (apply C_exitL) | (apply C_blockN) | (apply C_nil) | (apply P_move; rfl; rfl; rfl; rfl) | (apply P_assign; rfl; rfl; rfl; rfl) | (apply P_fa; rfl; rfl; rfl; rfl; exact fo_ok rfl; (first | exact Nat.zero_add _ | exact Nat.add_zero _ | rfl)) | (apply P_lss; rfl; rfl; rfl; rfl; rfl; all_goals intro _) | (apply P_add; rfl; rfl; rfl; rfl; rfl; (unfold fit; omega)) | (apply P_idxA; rfl; rfl; rfl; rfl; rfl; exact un_ok rfl; exact sz_ok rfl; (first | exact zq0 | rfl | exact (Int.toNat_of_nonneg (by omega)).symm); omega) | (apply P_load1; rfl; rfl; rfl; rfl; exact on_ok rfl; (focus repeat' first | exact get_push_same | assumption | apply get_push_old | (apply Ext.get; assumption) | (apply ExtBut.get; assumption; assumption)); (first | exact ints_get (by omega) | rfl | assumption)) | (apply P_makeI; rfl; rfl; rfl; rfl; rfl; exact c1_ok rfl; exact zero3; omega; omega) | (apply P_storeI; rfl; rfl; rfl; rfl; (focus repeat' first | exact get_push_same | assumption | apply get_push_old | (apply Ext.get; assumption) | (apply ExtBut.get; assumption; assumption)); exact sz_ok rfl; omega; (intro _ _ _)) | (apply P_box; rfl; rfl; rfl; rfl; exact sz_ok rfl; rfl; rfl) | fail))
      · rename_i h4 hT4 hx4
        have hc4 := hx4.get hne hc
        apply P_call; rfl; rfl; rfl; rfl; rfl; rfl
        · rw [← hcl]; exact add_ok hK (by omega) hc4
        rintro _ h5 ⟨hx5, m', hm1, hm2, hm3⟩
        (repeat' (first | (apply K_seq) | (apply K_region) | (apply O_at; rfl) | (apply O_fin; rfl) | (apply C_seq) | (apply K_ifT; rfl) | (apply K_ifF; rfl) | (apply K_block) | (apply K_skip) | (apply K_exit) | (apply K_ret) | (apply C_exit) | (apply C_exitS) | (apply C_exitL) | (apply C_blockN) | (apply C_nil) | (apply P_move; rfl; rfl; rfl; rfl) | (apply P_assign; rfl; rfl; rfl; rfl) | (apply P_fa; rfl; rfl; rfl; rfl; exact fo_ok rfl; (first | exact Nat.zero_add _ | exact Nat.add_zero _ | rfl)) | (apply P_lss; rfl; rfl; rfl; rfl; rfl; all_goals intro _) | (apply P_add; rfl; rfl; rfl; rfl; rfl; (unfold fit; omega)) | (apply P_idxA; rfl; rfl; rfl; rfl; rfl; exact un_ok rfl; exact sz_ok rfl; (first | exact zq0 | rfl | exact (Int.toNat_of_nonneg (by omega)).symm); omega) | (apply P_load1; rfl; rfl; rfl; rfl; exact on_ok rfl; (focus repeat' first | exact get_push_same | assumption | apply get_push_old | (apply Ext.get; assumption) | (apply ExtBut.get; assumption; assumption)); (first | exact ints_get (by omega) | rfl | assumption)) | (apply P_makeI; rfl; rfl; rfl; rfl; rfl; exact c1_ok rfl; exact zero3; omega; omega) | (apply P_storeI; rfl; rfl; rfl; rfl; (focus repeat' first | exact get_push_same | assumption | apply get_push_old | (apply Ext.get; assumption) | (apply ExtBut.get; assumption; assumption)); exact sz_ok rfl; omega; (intro _ _ _)) | (apply P_box; rfl; rfl; rfl; rfl; exact sz_ok rfl; rfl; rfl) | fail))
        refine C_again (ih (k + 1) _ ?_ ⟨hlt, (hx.ofBut hx4 hbt).ofBut hx5 (by have := hx2.n; omega), ⟨m', hm1, by omega, now_next hcl hj hm3⟩, _, hx5.get hne' hT4, ?_, fun j hj' => ?_⟩) ?_
        · omega
        · simpa using hTl
        · rw [getD_set (by omega)]
          by_cases q : j = k
          · subst q; rw [if_pos rfl, hj 0 hp]; rfl
          · rw [if_neg q]; exact hTj j (by omega)
        · (focus repeat' first | rfl | exact trivial | apply And.intro)
      · omega
    · (repeat' (first | (apply K_seq) | (apply K_region) | (apply O_at; rfl) | (apply O_fin; rfl) | (apply C_seq) | (apply K_ifT; rfl) | (apply K_ifF; rfl) | (apply K_block) | (apply K_skip) | (apply K_exit) | (apply K_ret) | (apply C_exit) | (apply C_exitS) | (apply C_exitL) | (apply C_blockN) | (apply C_nil) | (apply P_move; rfl; rfl; rfl; rfl) | (apply P_assign; rfl; rfl; rfl; rfl) | (apply P_fa; rfl; rfl; rfl; rfl; exact fo_ok rfl; (first | exact Nat.zero_add _ | exact Nat.add_zero _ | rfl)) | (apply P_lss; rfl; rfl; rfl; rfl; rfl; all_goals intro _) | (apply P_add; rfl; rfl; rfl; rfl; rfl; (unfold fit; omega)) | (apply P_idxA; rfl; rfl; rfl; rfl; rfl; exact un_ok rfl; exact sz_ok rfl; (first | exact zq0 | rfl | exact (Int.toNat_of_nonneg (by omega)).symm); omega) | (apply P_load1; rfl; rfl; rfl; rfl; exact on_ok rfl; (focus repeat' first | exact get_push_same | assumption | apply get_push_old | (apply Ext.get; assumption) | (apply ExtBut.get; assumption; assumption)); (first | exact ints_get (by omega) | rfl | assumption)) | (apply P_makeI; rfl; rfl; rfl; rfl; rfl; exact c1_ok rfl; exact zero3; omega; omega) | (apply P_storeI; rfl; rfl; rfl; rfl; (focus repeat' first | exact get_push_same | assumption | apply get_push_old | (apply Ext.get; assumption) | (apply ExtBut.get; assumption; assumption)); exact sz_ok rfl; omega; (intro _ _ _)) | (apply P_box; rfl; rfl; rfl; rfl; exact sz_ok rfl; rfl; rfl) | fail))
      · omega
      · have e : k = R := by omega
        subst e
        have e2 : cT = tabL t k := list_eq (by rw [hTl, tabL_len]) fun j hj' => by rw [hTj j (by omega), tabL_get (by omega)]
        subst e2
        exact ⟨.inr rfl, _, rfl, _, _, by rw [tabL_len]; rfl, .inr ⟨bt, 3, true, rfl, hT⟩, hx⟩
  · exact ⟨Nat.zero_le _, hx2.trans hx3, ⟨t, hbn, rfl, fun j hj => by rw [st_zero t j hj, hf]⟩, _, hx3.get hbT, by simp, fun j hj => by omega⟩
  · (focus repeat' first | rfl | exact trivial | apply And.intro)
end Go.AX.Sa

namespace Go.AX.Sa
open Go.Proofs
set_option maxRecDepth 100000
variable {K : Known}

theorem isRow_ok (hK : NoK K) {p : Option Addr} {n cap : Nat} {rows guard row : Int} {h : Heap} (hr : 1 ≤ rows ∧ rows ≤ 12) :
    CallW Tryz.prog K 51 #[.agg #[.slice p n cap, .int .i64 rows, .int .i64 guard], .int .i64 row] h (IfB (0 ≤ row ∧ row ≤ rows - 1) h) := by
  refine body (N := 10) Tryz.func51 rfl (hK _ _ _ rfl) rfl rfl ?_
  (repeat' (first | (apply K_seq) | (apply K_region) | (apply O_at; rfl) | (apply O_fin; rfl) | (apply C_seq) | (apply K_ret) | (apply C_nil) | (apply P_move; rfl; rfl; rfl; rfl) | (apply P_assign; rfl; rfl; rfl; rfl) | (apply P_fa; rfl; rfl; rfl; rfl; exact fo_ok rfl; (first | exact Nat.zero_add _ | exact Nat.add_zero _ | rfl)) | (apply P_sub; rfl; rfl; rfl; rfl; rfl; (unfold fit; omega)) | (apply P_load1; rfl; rfl; rfl; rfl; exact on_ok rfl; (focus repeat' first | exact get_push_same | assumption); (first | rfl | assumption)) | (apply P_box; rfl; rfl; rfl; rfl; exact sz_ok rfl; rfl; rfl) | (apply P_call; rfl; rfl; rfl; rfl; rfl; rfl; exact within_ok hK; (rintro _ _ (⟨rfl, _, _⟩ | ⟨rfl, _, _⟩))) | fail))
  all_goals (refine ⟨.inr rfl, _, rfl, ?_⟩; first | (refine .inl ⟨rfl, by omega, ?_⟩; (focus repeat' first | exact Ext.refl _ | assumption | apply Ext.push | (refine Ext.trans ?_ (by assumption)) | (refine Ext.set ?_ (Nat.le_succ _) (get_push_old get_push_same) _)); done) | (refine .inr ⟨rfl, by omega, ?_⟩; (focus repeat' first | exact Ext.refl _ | assumption | apply Ext.push | (refine Ext.trans ?_ (by assumption)) | (refine Ext.set ?_ (Nat.le_succ _) (get_push_old get_push_same) _)); done))
theorem line_ok (hK : NoK K) {p : Option Addr} {n cap : Nat} {rows guard row : Int} {h : Heap} (hr : 1 ≤ rows ∧ rows ≤ 12) :
    CallW Tryz.prog K 16 #[.agg #[.slice p n cap, .int .i64 rows, .int .i64 guard], .int .i64 row] h (IfB (0 ≤ row ∧ row ≤ rows - 1) h) := by
  refine body (N := 10) Tryz.func16 rfl (hK _ _ _ rfl) rfl rfl ?_
  (repeat' (first | (apply K_seq) | (apply K_region) | (apply O_at; rfl) | (apply O_fin; rfl) | (apply C_seq) | (apply K_ret) | (apply C_nil) | (apply P_move; rfl; rfl; rfl; rfl) | (apply P_assign; rfl; rfl; rfl; rfl) | (apply P_fa; rfl; rfl; rfl; rfl; exact fo_ok rfl; (first | exact Nat.zero_add _ | exact Nat.add_zero _ | rfl)) | (apply P_sub; rfl; rfl; rfl; rfl; rfl; (unfold fit; omega)) | (apply P_load1; rfl; rfl; rfl; rfl; exact on_ok rfl; (focus repeat' first | exact get_push_same | assumption); (first | rfl | assumption)) | (apply P_box; rfl; rfl; rfl; rfl; exact sz_ok rfl; rfl; rfl) | (apply P_call; rfl; rfl; rfl; rfl; rfl; rfl; exact in_ok hK; (rintro _ _ (⟨rfl, _, _⟩ | ⟨rfl, _, _⟩))) | fail))
  all_goals (refine ⟨.inr rfl, _, rfl, ?_⟩; first | (refine .inl ⟨rfl, by omega, ?_⟩; (focus repeat' first | exact Ext.refl _ | assumption | apply Ext.push | (refine Ext.trans ?_ (by assumption)) | (refine Ext.set ?_ (Nat.le_succ _) (get_push_old get_push_same) _)); done) | (refine .inr ⟨rfl, by omega, ?_⟩; (focus repeat' first | exact Ext.refl _ | assumption | apply Ext.push | (refine Ext.trans ?_ (by assumption)) | (refine Ext.set ?_ (Nat.le_succ _) (get_push_old get_push_same) _)); done))
theorem short_ok (hK : NoK K) {p : Option Addr} {n cap : Nat} {rows guard : Int} {h : Heap} :
    CallW Tryz.prog K 9 #[.agg #[.slice p n cap, .int .i64 rows, .int .i64 guard]] h (IfB (n ≤ 6) h) := by
  refine body (N := Tryz.f9.ntmps) Tryz.func9 rfl (hK _ _ _ rfl) rfl rfl ?_
  (repeat' (first | (apply K_seq) | (apply K_region) | (apply O_at; rfl) | (apply O_fin; rfl) | (apply C_seq) | (apply K_ret) | (apply C_nil) | (apply P_assign; rfl; rfl; rfl; rfl) | (apply P_fa; rfl; rfl; rfl; rfl; exact fo_ok rfl; (first | exact Nat.zero_add _ | exact Nat.add_zero _ | rfl)) | (apply P_len; rfl; rfl; rfl; rfl; rfl; rfl; exact un_ok rfl) | (apply P_leq; rfl; rfl; rfl; rfl; rfl; all_goals intro _) | (apply P_load1; rfl; rfl; rfl; rfl; exact on_ok rfl; (focus repeat' first | exact get_push_same | assumption); (first | rfl | assumption)) | (apply P_box; rfl; rfl; rfl; rfl; exact sz_ok rfl; rfl; rfl) | fail))
  all_goals (refine ⟨.inr rfl, _, rfl, ?_⟩; first | (refine .inl ⟨rfl, by omega, ?_⟩; (focus repeat' first | exact Ext.refl _ | assumption | apply Ext.push | (refine Ext.trans ?_ (by assumption)) | (refine Ext.set ?_ (Nat.le_succ _) (get_push_old get_push_same) _)); done) | (refine .inr ⟨rfl, by omega, ?_⟩; (focus repeat' first | exact Ext.refl _ | assumption | apply Ext.push | (refine Ext.trans ?_ (by assumption)) | (refine Ext.set ?_ (Nat.le_succ _) (get_push_old get_push_same) _)); done))
/-- An error or none. -/
def OrErr (p : Prop) (h : Heap) (v : Value) (h1 : Heap) : Prop := (v = .int .i64 0 ∧ p ∧ Ext h h1) ∨ (v = .int .i64 2 ∧ ¬ p ∧ Ext h h1)
theorem w64_small {n : Int} (h : -9223372036854775808 ≤ n ∧ n < 9223372036854775808) : w64 n = n := fit_wrap h
theorem truth_small {l : List (Int × Int)} {t : List Int} (hA : AllStarts l) (hT : TruthP l t) (j : Nat) : w64 (t.getD j 0) = t.getD j 0 := by
  by_cases hj : j < t.length
  · have h1 := hT.2 j hj
    have h2 := hA j (by rw [← hT.1]; exact hj)
    unfold StartP at h2
    exact w64_small (by omega)
  · rw [show t.getD j 0 = 0 from by simp [List.getD_eq_getElem?_getD, List.getElem?_eq_none (Nat.not_lt.1 hj)]]; rfl
theorem fill92 (a b c : Value) (x : Option Addr) (n m : Nat) : fillB Tryz.prog 92 [(0, .agg #[a, b, c]), (1, .slice x n m)] = some (.agg #[a, b, c, .slice x n m]) := by kernel_rfl
/-- A list and no error. -/
def OkL (l : List Int) (h : Heap) (v : Value) (h1 : Heap) : Prop := ∃ q cap, v = .tuple #[.slice q l.length cap, .int .i64 0] ∧ Rd h1 q (ints l) ∧ Ext h h1
/-- No list and an error. -/
def NoL (h : Heap) (v : Value) (h1 : Heap) : Prop := v = .tuple #[.slice none 0 0, .int .i64 2] ∧ Ext h h1
section
variable {f : FuncId} {args : Array Value} {h : Heap} {p : Prop}
theorem yes (c : CallW Tryz.prog K f args h (IfB p h)) (hp : p) : CallW Tryz.prog K f args h (IsV (.bool true) h) :=
  c.mono fun _ _ q => by
    rcases q with ⟨rfl, _, x⟩ | ⟨_, n, _⟩
    · exact ⟨rfl, x⟩
    · exact absurd hp n
theorem no (c : CallW Tryz.prog K f args h (IfB p h)) (hp : ¬ p) : CallW Tryz.prog K f args h (IsV (.bool false) h) :=
  c.mono fun _ _ q => by
    rcases q with ⟨_, n, _⟩ | ⟨rfl, _, x⟩
    · exact absurd n hp
    · exact ⟨rfl, x⟩
end

end Go.AX.Sa

namespace Go.AX.Sa
open Go.Proofs
set_option maxRecDepth 100000
variable {K : Known}

theorem fill48 (a b : Int) : fillB Tryz.prog 48 [(0, .int .i64 a), (1, .int .i64 b)] = some (.agg #[.int .i64 a, .int .i64 b]) := by kernel_rfl
def arTab : List (Nat × Nat × Nat) := [(120, 2, 43)]
def c2Tab : List (Nat × Nat) := [(22, 48), (34, 50)]
theorem c2_ok {t n : Nat} (e : tget c2Tab t = some n) : cell2 Tryz.prog t = some n := tab_ok (f := cell2 Tryz.prog) (by kernel_rfl) e
section
variable {x : Ctx} {N : Nat} {E : Env} {h : Heap} {ops : Array Oper} {F : Ex → Env → Heap → Prop} {i : Nat} {Hs : List Heap} {L : List Heap → Prop} {nw : List (Nat × Nat × Blk)}
variable {d : Nat} {ty : TypeId} {pos : String} {af : Array Edge} {g : Option (Nat × Bool)}
theorem P_build48 {ps : Array (Nat × Operand)} {a b : Int} (hN : Nat.blt d N = true) (hg : gval ops E g = some true) (hk : opsOK Tryz.prog ⟨some d, .build 48 ps, ty, pos, af, g⟩ = true)
    (hps : E.parts ps.toList = some [(0, .int .i64 a), (1, .int .i64 b)]) (k : R1 Tryz.prog K x N ops F (i + 1) ((d, .agg #[.int .i64 a, .int .i64 b]) :: E) h) : R2 Tryz.prog K x N ops F i ⟨some d, .build 48 ps, ty, pos, af, g⟩ E h := P_build hN hg hk hps (fill48 a b) k
theorem P_build92 {ps : Array (Nat × Operand)} {a b c : Value} {y : Option Addr} {n m : Nat} (hN : Nat.blt d N = true) (hg : gval ops E g = some true) (hk : opsOK Tryz.prog ⟨some d, .build 92 ps, ty, pos, af, g⟩ = true)
    (hps : E.parts ps.toList = some [(0, .agg #[a, b, c]), (1, .slice y n m)]) (k : R1 Tryz.prog K x N ops F (i + 1) ((d, .agg #[a, b, c, .slice y n m]) :: E) h) : R2 Tryz.prog K x N ops F i ⟨some d, .build 92 ps, ty, pos, af, g⟩ E h := P_build hN hg hk hps (fill92 a b c y n m) k
theorem M_build92 {ps : Array (Nat × Operand)} {a b c : Value} {y : Option Addr} {n m : Nat} (hN : Nat.blt d N = true) (hg : gval ops E g = some true) (hk : opsOK Tryz.prog ⟨some d, .build 92 ps, ty, pos, af, g⟩ = true)
    (hps : E.parts ps.toList = some [(0, .agg #[a, b, c]), (1, .slice y n m)]) (k : S1 Tryz.prog K x N ops F (i + 1) ((d, .agg #[a, b, c, .slice y n m]) :: E) h Hs L nw) : S2 Tryz.prog K x N ops F i ⟨some d, .build 92 ps, ty, pos, af, g⟩ E h Hs L nw := M_build hN hg hk hps (fill92 a b c y n m) k
end

theorem listS_eq {a b : List (Int × Int)} (hl : a.length = b.length) (h : ∀ j, j < a.length → a.getD j (0, 0) = b.getD j (0, 0)) : a = b := by
  apply List.ext_getElem hl
  intro j h1 h2
  have := h j h1
  simpa [List.getD_eq_getElem?_getD, h1, h2] using this
end Go.AX.Sa

namespace Go.AX.Sa
open Go.Proofs
set_option maxRecDepth 100000
variable {K : Known}

/-- The examples are known. -/
def Kn (K : Known) : Prop := ∀ h, K 10 #[] h = some (.bool true, [])
theorem known_ok' (hKn : Kn K) {h : Heap} : CallW Tryz.prog K 10 #[] h (IsV (.bool true) h) := CallW.of_known (hKn h) ⟨rfl, Ext.refl h⟩

end Go.AX.Sa

namespace Go.AX.Sa
open Go.Proofs
set_option maxRecDepth 100000
variable {K : Known}

/-! States from which one can climb. -/
def NearP (n : Int) : Prop := -1000000000 ≤ n ∧ n ≤ 1000000000
theorem isFar_ok (hK : NoK K) {n : Int} {h : Heap} : CallW Tryz.prog K 92 #[.int .i64 n] h (IfB (¬ NearP n) h) := by
  refine body (N := 6) Tryz.func92 rfl (hK _ _ _ rfl) rfl rfl ?_
  (repeat' (first | (apply K_seq) | (apply K_region) | (apply O_at; rfl) | (apply O_fin; rfl) | (apply C_seq) | (apply K_ret) | (apply C_nil) | (apply P_move; rfl; rfl; rfl; rfl) | (apply P_assign; rfl; rfl; rfl; rfl) | (apply P_not; rfl; rfl; rfl; rfl) | (apply P_call; rfl; rfl; rfl; rfl; rfl; rfl; exact within_ok hK; (rintro _ _ (⟨rfl, _, _⟩ | ⟨rfl, _, _⟩))) | fail))
  all_goals (refine ⟨.inr rfl, _, rfl, ?_⟩; first | (refine .inl ⟨rfl, by unfold NearP at *; omega, ?_⟩; (focus repeat' first | exact Ext.refl _ | assumption | apply Ext.push | (refine Ext.trans ?_ (by assumption)) | (refine Ext.set ?_ (Nat.le_succ _) (get_push_old get_push_same) _)); done) | (refine .inr ⟨rfl, by unfold NearP at *; omega, ?_⟩; (focus repeat' first | exact Ext.refl _ | assumption | apply Ext.push | (refine Ext.trans ?_ (by assumption)) | (refine Ext.set ?_ (Nat.le_succ _) (get_push_old get_push_same) _)); done))
end Go.AX.Sa
