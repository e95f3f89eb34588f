/- Tables and states of rows: by additions, and as the document has them. -/
import Derived.Test.YtippnehdneojlaaGreatDoorSwA
namespace Go.AX.Sa
open Go.Proofs
set_option maxRecDepth 100000
variable {K : Known}

/-- The table in a truth. -/
def tabL (t : List Int) (R : Nat) : List Int := (List.range R).map fun r => w64 (sumC t r 0)
theorem tabL_succ (t : List Int) (R : Nat) : tabL t (R + 1) = tabL t R ++ [w64 (sumC t R 0)] := by simp [tabL, List.range_succ]
theorem tabL_len (t : List Int) (R : Nat) : (tabL t R).length = R := by simp [tabL]
theorem refTable_ok (hK : NoK K) {t : List Int} {p q : Option Addr} {n cap cap' R : Nat} {guard : Int} {h : Heap} (hl : t.length ≤ 4) (hr : Rd h q (ints t)) (hn : R < 13) :
    CallW Tryz.prog K 17 #[.agg #[.slice p n cap, .int .i64 (R : Nat), .int .i64 guard], .slice q t.length cap'] h (IsL (tabL t R) h) := by
  refine body (N := 20) Tryz.func17 rfl (hK _ _ _ rfl) rfl rfl ?_
  (repeat' (first | (apply K_seq) | (apply K_region) | (apply O_at; rfl) | (apply O_fin; rfl) | (apply C_seq) | (apply K_ifT; rfl) | (apply K_ifF; rfl) | (apply K_block) | (apply K_skip) | (apply K_exit) | (apply K_ret) | (apply C_exit) | (apply C_exitS) | (apply C_exitL) | (apply C_blockN) | (apply C_nil) | (apply P_move; rfl; rfl; rfl; rfl) | (apply P_assign; rfl; rfl; rfl; rfl) | (apply P_fa; rfl; rfl; rfl; rfl; exact fo_ok rfl; (first | exact Nat.zero_add _ | exact Nat.add_zero _ | rfl)) | (apply P_lss; rfl; rfl; rfl; rfl; rfl; all_goals intro _) | (apply P_add; rfl; rfl; rfl; rfl; rfl; (unfold fit; omega)) | (apply P_load1; rfl; rfl; rfl; rfl; exact on_ok rfl; (focus repeat' first | exact get_push_same | assumption | (apply Ext.get; assumption)); (first | rfl | assumption)) | (apply P_build1; rfl; rfl; rfl; rfl; rfl; rfl; rfl; exact c1_ok rfl) | (apply P_appI; rfl; rfl; rfl; rfl; rfl; rfl; rfl; rfl; exact c1_ok rfl; exact un_ok rfl; (focus repeat' first | exact get_push_same | assumption | (apply Ext.get; assumption)); (apply OutI.ext; assumption; (focus repeat' first | exact Ext.refl _ | assumption | apply Ext.push | (refine Ext.trans ?_ (by assumption)))); (focus repeat' first | exact Ext.refl _ | assumption | apply Ext.push | (refine Ext.trans ?_ (by assumption))); (first | omega | (simp; omega)); (intro _ _ _ _)) | (apply P_box; rfl; rfl; rfl; rfl; exact sz_ok rfl; rfl; rfl) | fail))
  have hb1 : (h.push (.cells (Value.agg #[.slice p n cap, .int .i64 (R : Nat), .int .i64 guard]).cells.toList 24 true)).get? h.n = some (.cells [.slice p n cap, .int .i64 (R : Nat), .int .i64 guard] 24 true) := get_push_same
  have hx2 : Ext h (h.push (.cells (Value.agg #[.slice p n cap, .int .i64 (R : Nat), .int .i64 guard]).cells.toList 24 true)) := by (focus repeat' first | exact Ext.refl _ | assumption | apply Ext.push | (refine Ext.trans ?_ (by assumption)))
  generalize h.push (.cells (Value.agg #[.slice p n cap, .int .i64 (R : Nat), .int .i64 guard]).cells.toList 24 true) = h2 at hb1 hx2 ⊢
  refine K_loopE (fun (a : Nat × Value) => [(6, .int .i64 (a.1 : Nat)), (5, a.2), (1, .slice q t.length cap'), (2, .pointer (some ⟨h.n, 0, none⟩))])
    (fun a h' => a.1 ≤ R ∧ Ext h2 h' ∧ OutI 3 h2 h' a.2 (tabL t a.1)) (fun a => R - a.1) ?_ (0, .slice none 0 0) ?_ ?_
  · rintro ⟨k, o⟩ h' ⟨hk, hx, hj⟩ ih
    dsimp only at hk hj ih ⊢
    have hkl := tabL_len t k
    have hb : h'.get? h.n = some (.cells [.slice p n cap, .int .i64 (R : Nat), .int .i64 guard] 24 true) := hx.get hb1
    by_cases hlt : k < R
    · (repeat' (first | (apply K_seq) | (apply K_region) | (apply O_at; rfl) | (apply O_fin; rfl) | (apply C_seq) | (apply K_ifT; rfl) | (apply K_ifF; rfl) | (apply K_block) | (apply K_skip) | (apply K_exit) | (apply K_ret) | (apply C_exit) | (apply C_exitS) | (apply C_exitL) | (apply C_blockN) | (apply C_nil) | (apply P_move; rfl; rfl; rfl; rfl) | (apply P_assign; rfl; rfl; rfl; rfl) | (apply P_fa; rfl; rfl; rfl; rfl; exact fo_ok rfl; (first | exact Nat.zero_add _ | exact Nat.add_zero _ | rfl)) | (apply P_lss; rfl; rfl; rfl; rfl; rfl; all_goals intro _) | (apply P_add; rfl; rfl; rfl; rfl; rfl; (unfold fit; omega)) | (apply P_load1; rfl; rfl; rfl; rfl; exact on_ok rfl; (focus repeat' first | exact get_push_same | assumption | (apply Ext.get; assumption)); (first | rfl | assumption)) | (apply P_build1; rfl; rfl; rfl; rfl; rfl; rfl; rfl; exact c1_ok rfl) | (apply P_appI; rfl; rfl; rfl; rfl; rfl; rfl; rfl; rfl; exact c1_ok rfl; exact un_ok rfl; (focus repeat' first | exact get_push_same | assumption | (apply Ext.get; assumption)); (apply OutI.ext; assumption; (focus repeat' first | exact Ext.refl _ | assumption | apply Ext.push | (refine Ext.trans ?_ (by assumption)))); (focus repeat' first | exact Ext.refl _ | assumption | apply Ext.push | (refine Ext.trans ?_ (by assumption))); (first | omega | (simp; omega)); (intro _ _ _ _)) | (apply P_box; rfl; rfl; rfl; rfl; exact sz_ok rfl; rfl; rfl) | (apply P_call; rfl; rfl; rfl; rfl; rfl; rfl; exact value_ok hK hl ((hr.ext hx2).ext (by (focus repeat' first | exact Ext.refl _ | assumption | apply Ext.push | (refine Ext.trans ?_ (by assumption))))) (r := k) (by omega); (rintro _ _ ⟨rfl, _⟩)) | fail))
      · rename_i v1 h3 ho hx3
        refine C_again (ih (k + 1, v1) _ ?_ ⟨hlt, hx3, ?_⟩) ?_
        · dsimp only; omega
        · rw [tabL_succ]; exact ho
        · (focus repeat' first | rfl | exact trivial | apply And.intro)
      · omega
    · (repeat' (first | (apply K_seq) | (apply K_region) | (apply O_at; rfl) | (apply O_fin; rfl) | (apply C_seq) | (apply K_ifT; rfl) | (apply K_ifF; rfl) | (apply K_block) | (apply K_skip) | (apply K_exit) | (apply K_ret) | (apply C_exit) | (apply C_exitS) | (apply C_exitL) | (apply C_blockN) | (apply C_nil) | (apply P_move; rfl; rfl; rfl; rfl) | (apply P_assign; rfl; rfl; rfl; rfl) | (apply P_fa; rfl; rfl; rfl; rfl; exact fo_ok rfl; (first | exact Nat.zero_add _ | exact Nat.add_zero _ | rfl)) | (apply P_lss; rfl; rfl; rfl; rfl; rfl; all_goals intro _) | (apply P_add; rfl; rfl; rfl; rfl; rfl; (unfold fit; omega)) | (apply P_load1; rfl; rfl; rfl; rfl; exact on_ok rfl; (focus repeat' first | exact get_push_same | assumption | (apply Ext.get; assumption)); (first | rfl | assumption)) | (apply P_build1; rfl; rfl; rfl; rfl; rfl; rfl; rfl; exact c1_ok rfl) | (apply P_appI; rfl; rfl; rfl; rfl; rfl; rfl; rfl; rfl; exact c1_ok rfl; exact un_ok rfl; (focus repeat' first | exact get_push_same | assumption | (apply Ext.get; assumption)); (apply OutI.ext; assumption; (focus repeat' first | exact Ext.refl _ | assumption | apply Ext.push | (refine Ext.trans ?_ (by assumption)))); (focus repeat' first | exact Ext.refl _ | assumption | apply Ext.push | (refine Ext.trans ?_ (by assumption))); (first | omega | (simp; omega)); (intro _ _ _ _)) | (apply P_box; rfl; rfl; rfl; rfl; exact sz_ok rfl; rfl; rfl) | fail))
      · omega
      · refine ⟨.inr rfl, _, rfl, ?_⟩
        have e : k = R := by omega
        subst e
        obtain ⟨p, cap, h1, h2, h3⟩ := hj.isL hx
        exact ⟨p, cap, h1, h2, hx2.trans h3⟩
  · exact ⟨Nat.zero_le _, Ext.refl _, OutI.nil _ _ _⟩
  · (focus repeat' first | rfl | exact trivial | apply And.intro)

/-- The state of a row. -/
def atP (t : List Int) (r i : Nat) : List Int := (List.range i).map fun j => w64 (st t r j)
theorem atP_succ (t : List Int) (r i : Nat) : atP t r (i + 1) = atP t r i ++ [w64 (st t r i)] := by simp [atP, List.range_succ]
theorem atP_len (t : List Int) (r i : Nat) : (atP t r i).length = i := by simp [atP]
theorem refAt_ok (hK : NoK K) {t : List Int} {q : Option Addr} {cap r : Nat} {h : Heap} (hl : t.length ≤ 4) (hr : Rd h q (ints t)) (hn : r < 13) :
    CallW Tryz.prog K 19 #[.slice q t.length cap, .int .i64 (r : Nat)] h (IsL (atP t r t.length) h) := by
  refine body (N := 39) Tryz.func19 rfl (hK _ _ _ rfl) rfl rfl ?_
  (repeat' (first | (apply K_seq) | (apply K_region) | (apply O_at; rfl) | (apply N_at; rfl) | (apply O_fin; rfl) | (apply C_seq) | (apply K_ifT; rfl) | (apply K_ifF; rfl) | (apply K_open; kernel_rfl) | (apply K_block) | (apply K_skip) | (apply K_exit) | (apply K_ret) | (apply N_fin; rfl; exact (.inl (Nat.le_refl 1))) | (apply N_fin; rfl; refine .inr ?_; (focus repeat' first | exact trivial | exact Keeps.nil _ _ | apply And.intro | rfl | (apply Keeps.cons; (focus repeat' first | exact get_push_same | assumption | (apply Ext.get; assumption)); (focus repeat' first | exact get_push_same | assumption | (apply Ext.get; assumption))))) | (apply C_exit) | (apply C_exitS) | (apply C_exitL) | (apply C_blockN) | (apply C_nil) | (apply P_move; rfl; rfl; rfl; rfl) | (apply P_assign; rfl; rfl; rfl; rfl) | (apply P_len; rfl; rfl; rfl; rfl; rfl; rfl; exact un_ok rfl) | (apply P_lss; rfl; rfl; rfl; rfl; rfl; all_goals intro _) | (apply P_add; rfl; rfl; rfl; rfl; rfl; (unfold fit; omega)) | (apply P_build1; rfl; rfl; rfl; rfl; rfl; rfl; rfl; exact c1_ok rfl) | (apply P_appI; rfl; rfl; rfl; rfl; rfl; rfl; rfl; rfl; exact c1_ok rfl; exact un_ok rfl; (focus repeat' first | exact get_push_same | assumption | (apply Ext.get; assumption)); (apply OutI.ext; assumption; (focus repeat' first | exact Ext.refl _ | assumption | apply Ext.push | (refine Ext.trans ?_ (by assumption)))); (focus repeat' first | exact Ext.refl _ | assumption | apply Ext.push | (refine Ext.trans ?_ (by assumption))); (first | omega | (simp; omega)); (intro _ _ _ _)) | (apply M_move; rfl; rfl; rfl; rfl) | (apply M_assign; rfl; rfl; rfl; rfl) | (apply M_sub; rfl; rfl; rfl; rfl; rfl; (unfold fit; omega)) | (apply M_idxA; rfl; rfl; rfl; rfl; rfl; exact un_ok rfl; exact sz_ok rfl; (first | rfl | exact (Int.toNat_of_nonneg (by omega)).symm); omega) | (apply M_load1; rfl; rfl; rfl; rfl; exact on_ok rfl; (focus repeat' first | exact get_push_same | assumption | (apply Ext.get; assumption)); (first | exact ints_get (by omega) | rfl | assumption); (first | exact same_int _ _ | rfl | (simp [same, same.all2]; done)); (first | rfl | (simp [within]; omega))) | (apply M_addW; rfl; rfl; rfl; rfl; rfl) | (apply M_mulW; rfl; rfl; rfl; rfl; rfl) | fail))
  refine K_loopE (fun (a : Nat × Value) => [(6, .int .i64 (a.1 : Nat)), (5, a.2), (0, .slice q t.length cap), (1, .int .i64 (r : Nat))])
    (fun a h' => a.1 ≤ t.length ∧ Ext h h' ∧ OutI 3 h h' a.2 (atP t r a.1)) (fun a => t.length - a.1) ?_ (0, .slice none 0 0) ?_ ?_
  · rintro ⟨i, o⟩ h' ⟨hk, hx, hj⟩ ih
    dsimp only at hk hj ih ⊢
    have hkl := atP_len t r i
    by_cases hlt : i < t.length
    · (repeat' (first | (apply K_seq) | (apply K_region) | (apply O_at; rfl) | (apply N_at; rfl) | (apply O_fin; rfl) | (apply C_seq) | (apply K_ifT; rfl) | (apply K_ifF; rfl) | (apply K_open; kernel_rfl) | (apply K_block) | (apply K_skip) | (apply K_exit) | (apply K_ret) | (apply N_fin; rfl; exact (.inl (Nat.le_refl 1))) | (apply N_fin; rfl; refine .inr ?_; (focus repeat' first | exact trivial | exact Keeps.nil _ _ | apply And.intro | rfl | (apply Keeps.cons; (focus repeat' first | exact get_push_same | assumption | (apply Ext.get; assumption)); (focus repeat' first | exact get_push_same | assumption | (apply Ext.get; assumption))))) | (apply C_exit) | (apply C_exitS) | (apply C_exitL) | (apply C_blockN) | (apply C_nil) | (apply P_move; rfl; rfl; rfl; rfl) | (apply P_assign; rfl; rfl; rfl; rfl) | (apply P_len; rfl; rfl; rfl; rfl; rfl; rfl; exact un_ok rfl) | (apply P_lss; rfl; rfl; rfl; rfl; rfl; all_goals intro _) | (apply P_add; rfl; rfl; rfl; rfl; rfl; (unfold fit; omega)) | (apply P_build1; rfl; rfl; rfl; rfl; rfl; rfl; rfl; exact c1_ok rfl) | (apply P_appI; rfl; rfl; rfl; rfl; rfl; rfl; rfl; rfl; exact c1_ok rfl; exact un_ok rfl; (focus repeat' first | exact get_push_same | assumption | (apply Ext.get; assumption)); (apply OutI.ext; assumption; (focus repeat' first | exact Ext.refl _ | assumption | apply Ext.push | (refine Ext.trans ?_ (by assumption)))); (focus repeat' first | exact Ext.refl _ | assumption | apply Ext.push | (refine Ext.trans ?_ (by assumption))); (first | omega | (simp; omega)); (intro _ _ _ _)) | (apply M_move; rfl; rfl; rfl; rfl) | (apply M_assign; rfl; rfl; rfl; rfl) | (apply M_sub; rfl; rfl; rfl; rfl; rfl; (unfold fit; omega)) | (apply M_idxA; rfl; rfl; rfl; rfl; rfl; exact un_ok rfl; exact sz_ok rfl; (first | rfl | exact (Int.toNat_of_nonneg (by omega)).symm); omega) | (apply M_load1; rfl; rfl; rfl; rfl; exact on_ok rfl; (focus repeat' first | exact get_push_same | assumption | (apply Ext.get; assumption)); (first | exact ints_get (by omega) | rfl | assumption); (first | exact same_int _ _ | rfl | (simp [same, same.all2]; done)); (first | rfl | (simp [within]; omega))) | (apply M_addW; rfl; rfl; rfl; rfl; rfl) | (apply M_mulW; rfl; rfl; rfl; rfl; rfl) | fail))
      · refine K_loopE (fun (a : Nat × Int) => [(8, .int .i64 (a.1 : Nat)), (7, .int .i64 a.2), (6, .int .i64 (i : Nat)), (5, o), (0, .slice q t.length cap), (1, .int .i64 (r : Nat))])
          (fun a h2 => i ≤ a.1 ∧ a.1 ≤ t.length ∧ Ext h' h2 ∧ a.2 = w64 (sumC ((t.drop i).take (a.1 - i)) r 0)) (fun a => t.length - a.1) ?_ (i, 0) ?_ ?_
        · rintro ⟨k, n⟩ h2 ⟨hik, hk2, hx2, hj2⟩ ih2
          dsimp only at hik hk2 hj2 ih2 ⊢
          by_cases hlt2 : k < t.length
          · obtain ⟨b, e, own, rfl, hg⟩ := hr.at (by rw [ints_len]; omega)
            have hg2 := hx2.get (hx.get hg)
            clear hg
            (repeat' (first | (apply K_seq) | (apply K_region) | (apply O_at; rfl) | (apply N_at; rfl) | (apply O_fin; rfl) | (apply C_seq) | (apply K_ifT; rfl) | (apply K_ifF; rfl) | (apply K_open; kernel_rfl) | (apply K_block) | (apply K_skip) | (apply K_exit) | (apply K_ret) | (apply N_fin; rfl; exact (.inl (Nat.le_refl 1))) | (apply N_fin; rfl; refine .inr ?_; (focus repeat' first | exact trivial | exact Keeps.nil _ _ | apply And.intro | rfl | (apply Keeps.cons; (focus repeat' first | exact get_push_same | assumption | (apply Ext.get; assumption)); (focus repeat' first | exact get_push_same | assumption | (apply Ext.get; assumption))))) | (apply C_exit) | (apply C_exitS) | (apply C_exitL) | (apply C_blockN) | (apply C_nil) | (apply P_move; rfl; rfl; rfl; rfl) | (apply P_assign; rfl; rfl; rfl; rfl) | (apply P_len; rfl; rfl; rfl; rfl; rfl; rfl; exact un_ok rfl) | (apply P_lss; rfl; rfl; rfl; rfl; rfl; all_goals intro _) | (apply P_add; rfl; rfl; rfl; rfl; rfl; (unfold fit; omega)) | (apply P_build1; rfl; rfl; rfl; rfl; rfl; rfl; rfl; exact c1_ok rfl) | (apply P_appI; rfl; rfl; rfl; rfl; rfl; rfl; rfl; rfl; exact c1_ok rfl; exact un_ok rfl; (focus repeat' first | exact get_push_same | assumption | (apply Ext.get; assumption)); (apply OutI.ext; assumption; (focus repeat' first | exact Ext.refl _ | assumption | apply Ext.push | (refine Ext.trans ?_ (by assumption)))); (focus repeat' first | exact Ext.refl _ | assumption | apply Ext.push | (refine Ext.trans ?_ (by assumption))); (first | omega | (simp; omega)); (intro _ _ _ _)) | (apply M_move; rfl; rfl; rfl; rfl) | (apply M_assign; rfl; rfl; rfl; rfl) | (apply M_sub; rfl; rfl; rfl; rfl; rfl; (unfold fit; omega)) | (apply M_idxA; rfl; rfl; rfl; rfl; rfl; exact un_ok rfl; exact sz_ok rfl; (first | rfl | exact (Int.toNat_of_nonneg (by omega)).symm); omega) | (apply M_load1; rfl; rfl; rfl; rfl; exact on_ok rfl; (focus repeat' first | exact get_push_same | assumption | (apply Ext.get; assumption)); (first | exact ints_get (by omega) | rfl | assumption); (first | exact same_int _ _ | rfl | (simp [same, same.all2]; done)); (first | rfl | (simp [within]; omega))) | (apply M_addW; rfl; rfl; rfl; rfl; rfl) | (apply M_mulW; rfl; rfl; rfl; rfl; rfl) | (apply M_call; rfl; rfl; rfl; rfl; rfl; rfl; rfl; exact choose_any hK (k := k - i) hn (by omega) rfl (by omega); (rintro _ _ ⟨rfl, _⟩)) | fail))
            · refine C_again (ih2 (k + 1, w64 (n + w64 (t.getD k 0 * (choose r (k - i) : Nat)))) _ ?_ ⟨?_, hlt2, ?_, ?_⟩) ?_
              · dsimp only; omega
              · dsimp only; omega
              · (focus repeat' first | exact Ext.refl _ | assumption | apply Ext.push | (refine Ext.trans ?_ (by assumption)))
              · dsimp only
                have e1 : (t.drop i).getD (k - i) 0 = t.getD k 0 := by
                  simp only [List.getD_eq_getElem?_getD, List.getElem?_drop]; rw [show i + (k - i) = k from by omega]
                rw [show k + 1 - i = (k - i) + 1 from by omega, take_snoc (by simp; omega), sumC_snoc, hj2, w64_add, e1, List.length_take_of_le (by simp; omega), Nat.zero_add]
              · (focus repeat' first | rfl | exact trivial | apply And.intro)
            · omega
          · (repeat' (first | (apply K_seq) | (apply K_region) | (apply O_at; rfl) | (apply N_at; rfl) | (apply O_fin; rfl) | (apply C_seq) | (apply K_ifT; rfl) | (apply K_ifF; rfl) | (apply K_open; kernel_rfl) | (apply K_block) | (apply K_skip) | (apply K_exit) | (apply K_ret) | (apply N_fin; rfl; exact (.inl (Nat.le_refl 1))) | (apply N_fin; rfl; refine .inr ?_; (focus repeat' first | exact trivial | exact Keeps.nil _ _ | apply And.intro | rfl | (apply Keeps.cons; (focus repeat' first | exact get_push_same | assumption | (apply Ext.get; assumption)); (focus repeat' first | exact get_push_same | assumption | (apply Ext.get; assumption))))) | (apply C_exit) | (apply C_exitS) | (apply C_exitL) | (apply C_blockN) | (apply C_nil) | (apply P_move; rfl; rfl; rfl; rfl) | (apply P_assign; rfl; rfl; rfl; rfl) | (apply P_len; rfl; rfl; rfl; rfl; rfl; rfl; exact un_ok rfl) | (apply P_lss; rfl; rfl; rfl; rfl; rfl; all_goals intro _) | (apply P_add; rfl; rfl; rfl; rfl; rfl; (unfold fit; omega)) | (apply P_build1; rfl; rfl; rfl; rfl; rfl; rfl; rfl; exact c1_ok rfl) | (apply P_appI; rfl; rfl; rfl; rfl; rfl; rfl; rfl; rfl; exact c1_ok rfl; exact un_ok rfl; (focus repeat' first | exact get_push_same | assumption | (apply Ext.get; assumption)); (apply OutI.ext; assumption; (focus repeat' first | exact Ext.refl _ | assumption | apply Ext.push | (refine Ext.trans ?_ (by assumption)))); (focus repeat' first | exact Ext.refl _ | assumption | apply Ext.push | (refine Ext.trans ?_ (by assumption))); (first | omega | (simp; omega)); (intro _ _ _ _)) | (apply M_move; rfl; rfl; rfl; rfl) | (apply M_assign; rfl; rfl; rfl; rfl) | (apply M_sub; rfl; rfl; rfl; rfl; rfl; (unfold fit; omega)) | (apply M_idxA; rfl; rfl; rfl; rfl; rfl; exact un_ok rfl; exact sz_ok rfl; (first | rfl | exact (Int.toNat_of_nonneg (by omega)).symm); omega) | (apply M_load1; rfl; rfl; rfl; rfl; exact on_ok rfl; (focus repeat' first | exact get_push_same | assumption | (apply Ext.get; assumption)); (first | exact ints_get (by omega) | rfl | assumption); (first | exact same_int _ _ | rfl | (simp [same, same.all2]; done)); (first | rfl | (simp [within]; omega))) | (apply M_addW; rfl; rfl; rfl; rfl; rfl) | (apply M_mulW; rfl; rfl; rfl; rfl; rfl) | fail))
            · omega
            · rename_i v1 h3 ho hx3
              refine C_again (ih (i + 1, v1) _ ?_ ⟨hlt, hx3, ?_⟩) ?_
              · dsimp only; omega
              · dsimp only
                rw [atP_succ]
                have : n = w64 (st t r i) := by rw [hj2, List.take_of_length_le (by simp; omega)]; rfl
                rw [← this]; exact ho
              · (focus repeat' first | rfl | exact trivial | apply And.intro)
        · refine ⟨Nat.le_refl _, hk, Ext.refl _, ?_⟩
          dsimp only
          rw [Nat.sub_self, List.take_zero]; rfl
        · (focus repeat' first | rfl | exact trivial | apply And.intro)
      · omega
    · (repeat' (first | (apply K_seq) | (apply K_region) | (apply O_at; rfl) | (apply N_at; rfl) | (apply O_fin; rfl) | (apply C_seq) | (apply K_ifT; rfl) | (apply K_ifF; rfl) | (apply K_open; kernel_rfl) | (apply K_block) | (apply K_skip) | (apply K_exit) | (apply K_ret) | (apply N_fin; rfl; exact (.inl (Nat.le_refl 1))) | (apply N_fin; rfl; refine .inr ?_; (focus repeat' first | exact trivial | exact Keeps.nil _ _ | apply And.intro | rfl | (apply Keeps.cons; (focus repeat' first | exact get_push_same | assumption | (apply Ext.get; assumption)); (focus repeat' first | exact get_push_same | assumption | (apply Ext.get; assumption))))) | (apply C_exit) | (apply C_exitS) | (apply C_exitL) | (apply C_blockN) | (apply C_nil) | (apply P_move; rfl; rfl; rfl; rfl) | (apply P_assign; rfl; rfl; rfl; rfl) | (apply P_len; rfl; rfl; rfl; rfl; rfl; rfl; exact un_ok rfl) | (apply P_lss; rfl; rfl; rfl; rfl; rfl; all_goals intro _) | (apply P_add; rfl; rfl; rfl; rfl; rfl; (unfold fit; omega)) | (apply P_build1; rfl; rfl; rfl; rfl; rfl; rfl; rfl; exact c1_ok rfl) | (apply P_appI; rfl; rfl; rfl; rfl; rfl; rfl; rfl; rfl; exact c1_ok rfl; exact un_ok rfl; (focus repeat' first | exact get_push_same | assumption | (apply Ext.get; assumption)); (apply OutI.ext; assumption; (focus repeat' first | exact Ext.refl _ | assumption | apply Ext.push | (refine Ext.trans ?_ (by assumption)))); (focus repeat' first | exact Ext.refl _ | assumption | apply Ext.push | (refine Ext.trans ?_ (by assumption))); (first | omega | (simp; omega)); (intro _ _ _ _)) | (apply M_move; rfl; rfl; rfl; rfl) | (apply M_assign; rfl; rfl; rfl; rfl) | (apply M_sub; rfl; rfl; rfl; rfl; rfl; (unfold fit; omega)) | (apply M_idxA; rfl; rfl; rfl; rfl; rfl; exact un_ok rfl; exact sz_ok rfl; (first | rfl | exact (Int.toNat_of_nonneg (by omega)).symm); omega) | (apply M_load1; rfl; rfl; rfl; rfl; exact on_ok rfl; (focus repeat' first | exact get_push_same | assumption | (apply Ext.get; assumption)); (first | exact ints_get (by omega) | rfl | assumption); (first | exact same_int _ _ | rfl | (simp [same, same.all2]; done)); (first | rfl | (simp [within]; omega))) | (apply M_addW; rfl; rfl; rfl; rfl; rfl) | (apply M_mulW; rfl; rfl; rfl; rfl; rfl) | fail))
      · omega
      · refine ⟨.inr rfl, _, rfl, ?_⟩
        have e : i = t.length := by omega
        subst e
        exact hj.isL hx
  · exact ⟨Nat.zero_le _, Ext.refl _, OutI.nil _ _ _⟩
  · (focus repeat' first | rfl | exact trivial | apply And.intro)
end Go.AX.Sa

namespace Go.AX.Sa
open Go.Proofs
set_option maxRecDepth 100000
variable {K : Known}

theorem getD_set {l : List Int} {k j : Nat} {n : Int} (h : k < l.length) : (l.set k n).getD j 0 = if j = k then n else l.getD j 0 := by
  simp only [List.getD_eq_getElem?_getD, List.getElem?_set]
  by_cases hj : k = j
  · subst hj; simp [h]
  · rw [if_neg hj, if_neg (fun q => hj q.symm)]

/-- A row of numbers is made that of the next row. -/
theorem add_ok (hK : NoK K) {m : List Int} {b cap : Nat} {h : Heap} (hl : m.length ≤ 1000) (hb : h.get? b = some (.cells (ints m) 3 true)) :
    CallW Tryz.prog K 88 #[.slice (some ⟨b, 0, none⟩) m.length cap] h fun _ h1 => ExtBut b h h1 ∧ ∃ m', h1.get? b = some (.cells (ints m') 3 true) ∧ m'.length = m.length ∧ ∀ j, m'.getD j 0 = if j + 1 < m.length then w64 (m.getD j 0 + m.getD (j + 1) 0) else m.getD j 0 := by
  refine body (N := 21) Tryz.func88 rfl (hK _ _ _ rfl) rfl rfl ?_
  (repeat' (first | (apply K_seq) | (apply K_region) | (apply O_at; rfl) | (apply N_at; rfl) | (apply O_fin; rfl) | (apply C_seq) | (apply K_ifT; rfl) | (apply K_ifF; rfl) | (apply K_open; kernel_rfl) | (apply K_block) | (apply K_skip) | (apply K_exit) | (apply N_fin; rfl; exact (.inl (Nat.le_refl 1))) | (apply N_fin; rfl; refine .inr ?_; (focus repeat' first | exact trivial | exact Keeps.nil _ _ | apply And.intro | rfl | (apply Keeps.cons; (focus repeat' first | assumption); (focus repeat' first | assumption)))) | (apply C_exit) | (apply C_exitS) | (apply C_exitL) | (apply C_blockN) | (apply C_nil) | (apply P_move; rfl; rfl; rfl; rfl) | (apply P_assign; rfl; rfl; rfl; rfl) | (apply P_len; rfl; rfl; rfl; rfl; rfl; rfl; exact un_ok rfl) | (apply P_lss; rfl; rfl; rfl; rfl; rfl; all_goals intro _) | (apply P_add; rfl; rfl; rfl; rfl; rfl; (unfold fit; omega)) | (apply P_sub; rfl; rfl; rfl; rfl; rfl; (unfold fit; omega)) | (apply M_move; rfl; rfl; rfl; rfl) | (apply M_add; rfl; rfl; rfl; rfl; rfl; (unfold fit; omega)) | (apply M_idxA; rfl; rfl; rfl; rfl; rfl; exact un_ok rfl; exact sz_ok rfl; (first | exact zqs _ | rfl | exact (Int.toNat_of_nonneg (by omega)).symm); omega) | (apply M_load1E; rfl; rfl; rfl; rfl; exact on_ok rfl; decide +kernel; (focus repeat' first | assumption); (first | exact ints_get (by omega) | rfl | assumption); (first | exact same_int _ _ | rfl | (simp [same, same.all2]; done)); (first | rfl | (simp [within]; omega))) | (apply M_addW; rfl; rfl; rfl; rfl; rfl) | (apply M_storeI; rfl; rfl; rfl; rfl; (focus repeat' first | assumption); exact sz_ok rfl; omega; rfl; (intro _ _ _)) | fail))
  refine K_loopE (fun (a : Nat × List Int) => [(6, .int .i64 (a.1 : Nat)), (5, .int .i64 ((m.length : Nat) - 1)), (0, .slice (some ⟨b, 0, none⟩) m.length cap)])
    (fun a h' => (a.1 = 0 ∨ a.1 + 1 ≤ m.length) ∧ ExtBut b h h' ∧ h'.get? b = some (.cells (ints a.2) 3 true) ∧ a.2.length = m.length ∧ ∀ j, a.2.getD j 0 = if j < a.1 then w64 (m.getD j 0 + m.getD (j + 1) 0) else m.getD j 0) (fun a => m.length - a.1) ?_ (0, m) ?_ ?_
  · rintro ⟨k, c⟩ h' ⟨hk, hx, hc, hcl, hj⟩ ih
    dsimp only at hk hc hcl hj ih ⊢
    by_cases hlt : k + 1 < m.length
    · have hlt1 : k < c.length := by omega
      have hlt2 : k + 1 < c.length := by omega
      (repeat' (first | (apply K_seq) | (apply K_region) | (apply O_at; rfl) | (apply N_at; rfl) | (apply O_fin; rfl) | (apply C_seq) | (apply K_ifT; rfl) | (apply K_ifF; rfl) | (apply K_open; kernel_rfl) | (apply K_block) | (apply K_skip) | (apply K_exit) | (apply N_fin; rfl; exact (.inl (Nat.le_refl 1))) | (apply N_fin; rfl; refine .inr ?_; (focus repeat' first | exact trivial | exact Keeps.nil _ _ | apply And.intro | rfl | (apply Keeps.cons; (focus repeat' first | assumption); (focus repeat' first | assumption)))) | (apply C_exit) | (apply C_exitS) | (apply C_exitL) | (apply C_blockN) | (apply C_nil) | (apply P_move; rfl; rfl; rfl; rfl) | (apply P_assign; rfl; rfl; rfl; rfl) | (apply P_len; rfl; rfl; rfl; rfl; rfl; rfl; exact un_ok rfl) | (apply P_lss; rfl; rfl; rfl; rfl; rfl; all_goals intro _) | (apply P_add; rfl; rfl; rfl; rfl; rfl; (unfold fit; omega)) | (apply P_sub; rfl; rfl; rfl; rfl; rfl; (unfold fit; omega)) | (apply M_move; rfl; rfl; rfl; rfl) | (apply M_add; rfl; rfl; rfl; rfl; rfl; (unfold fit; omega)) | (apply M_idxA; rfl; rfl; rfl; rfl; rfl; exact un_ok rfl; exact sz_ok rfl; (first | exact zqs _ | rfl | exact (Int.toNat_of_nonneg (by omega)).symm); omega) | (apply M_load1E; rfl; rfl; rfl; rfl; exact on_ok rfl; decide +kernel; (focus repeat' first | assumption); (first | exact ints_get (by omega) | rfl | assumption); (first | exact same_int _ _ | rfl | (simp [same, same.all2]; done)); (first | rfl | (simp [within]; omega))) | (apply M_addW; rfl; rfl; rfl; rfl; rfl) | (apply M_storeI; rfl; rfl; rfl; rfl; (focus repeat' first | assumption); exact sz_ok rfl; omega; rfl; (intro _ _ _)) | fail))
      · rename_i h3 hc3 hx3
        refine C_again (ih (k + 1, c.set k (w64 (c.getD k 0 + c.getD (k + 1) 0))) _ ?_ ⟨?_, hx.trans hx3, hc3, ?_, fun j => ?_⟩) ?_
        · dsimp only; omega
        · dsimp only; omega
        · simpa using hcl
        · dsimp only
          rw [getD_set hlt1]
          by_cases q : j = k
          · subst q
            rw [if_pos rfl, if_pos (by omega), hj j, hj (j + 1), if_neg (by omega), if_neg (by omega)]
          · rw [if_neg q, hj j]
            by_cases q2 : j < k
            · rw [if_pos q2, if_pos (by omega)]
            · rw [if_neg q2, if_neg (by omega)]
        · (focus repeat' first | rfl | exact trivial | apply And.intro)
      · omega
    · (repeat' (first | (apply K_seq) | (apply K_region) | (apply O_at; rfl) | (apply N_at; rfl) | (apply O_fin; rfl) | (apply C_seq) | (apply K_ifT; rfl) | (apply K_ifF; rfl) | (apply K_open; kernel_rfl) | (apply K_block) | (apply K_skip) | (apply K_exit) | (apply N_fin; rfl; exact (.inl (Nat.le_refl 1))) | (apply N_fin; rfl; refine .inr ?_; (focus repeat' first | exact trivial | exact Keeps.nil _ _ | apply And.intro | rfl | (apply Keeps.cons; (focus repeat' first | assumption); (focus repeat' first | assumption)))) | (apply C_exit) | (apply C_exitS) | (apply C_exitL) | (apply C_blockN) | (apply C_nil) | (apply P_move; rfl; rfl; rfl; rfl) | (apply P_assign; rfl; rfl; rfl; rfl) | (apply P_len; rfl; rfl; rfl; rfl; rfl; rfl; exact un_ok rfl) | (apply P_lss; rfl; rfl; rfl; rfl; rfl; all_goals intro _) | (apply P_add; rfl; rfl; rfl; rfl; rfl; (unfold fit; omega)) | (apply P_sub; rfl; rfl; rfl; rfl; rfl; (unfold fit; omega)) | (apply M_move; rfl; rfl; rfl; rfl) | (apply M_add; rfl; rfl; rfl; rfl; rfl; (unfold fit; omega)) | (apply M_idxA; rfl; rfl; rfl; rfl; rfl; exact un_ok rfl; exact sz_ok rfl; (first | exact zqs _ | rfl | exact (Int.toNat_of_nonneg (by omega)).symm); omega) | (apply M_load1E; rfl; rfl; rfl; rfl; exact on_ok rfl; decide +kernel; (focus repeat' first | assumption); (first | exact ints_get (by omega) | rfl | assumption); (first | exact same_int _ _ | rfl | (simp [same, same.all2]; done)); (first | rfl | (simp [within]; omega))) | (apply M_addW; rfl; rfl; rfl; rfl; rfl) | (apply M_storeI; rfl; rfl; rfl; rfl; (focus repeat' first | assumption); exact sz_ok rfl; omega; rfl; (intro _ _ _)) | fail))
      · omega
      · refine ⟨.inl rfl, _, rfl, hx, c, hc, hcl, fun j => ?_⟩
        rw [hj j]
        by_cases q : j < k
        · rw [if_pos q, if_pos (by omega)]
        · rw [if_neg q, if_neg (by omega)]
  · exact ⟨.inl rfl, ExtBut.refl _ _, hb, rfl, fun j => by rw [if_neg (by dsimp only; omega)]⟩
  · (focus repeat' first | rfl | exact trivial | apply And.intro)

theorem list_eq {a b : List Int} (hl : a.length = b.length) (h : ∀ j, j < a.length → a.getD j 0 = b.getD j 0) : a = b := by
  apply List.ext_getElem hl
  intro j h1 h2
  have := h j h1
  simpa [List.getD_eq_getElem?_getD, h1, h2] using this
theorem atP_get {t : List Int} {r n j : Nat} (h : j < n) : (atP t r n).getD j 0 = w64 (st t r j) := by
  simp [atP, List.getD_eq_getElem?_getD, h]
theorem tabL_get {t : List Int} {R j : Nat} (h : j < R) : (tabL t R).getD j 0 = w64 (sumC t j 0) := by
  simp [tabL, List.getD_eq_getElem?_getD, h]

/-- slices.Clone of a list that is not empty. -/
theorem clone_ok (hK : NoK K) {t : List Int} {q : Option Addr} {cap : Nat} {h : Heap} (hp : 0 < t.length) (hl : t.length ≤ 1000) (hr : Rd h q (ints t)) :
    CallW Tryz.prog K 62 #[.slice q t.length cap] h fun v h1 => Ext h h1 ∧ ∃ b, v = .slice (some ⟨b, 0, none⟩) t.length unk ∧ h1.get? b = some (.cells (ints t) 3 true) ∧ h.n ≤ b := by
  obtain ⟨b, e, own, rfl, hg⟩ := hr.at (by rw [ints_len]; omega)
  refine body (N := 8) Tryz.func62 rfl (hK _ _ _ rfl) rfl rfl ?_
  (repeat' (first | (apply K_seq) | (apply K_region) | (apply O_at; rfl) | (apply O_fin; rfl) | (apply C_seq) | (apply K_ifF; rfl) | (apply K_skip) | (apply K_ret) | (apply C_nil) | (apply P_move; rfl; rfl; rfl; rfl) | (apply P_assign; rfl; rfl; rfl; rfl) | (apply P_nilF; rfl; rfl; rfl; rfl; rfl; exact un_ok rfl) | (apply P_build0; rfl; rfl; rfl; rfl; exact c1_ok rfl) | (apply P_append; rfl; rfl; rfl; rfl; rfl; rfl; (apply app_nil; rfl; rfl; exact c1_ok rfl; exact un_ok rfl; (focus repeat' first | exact get_push_same | assumption | apply get_push_old); (first | rfl | exact ints_len _); (first | decide | omega); (first | decide | omega); (first | rfl | exact ints_one _))) | (apply P_append; rfl; rfl; rfl; rfl; rfl; rfl; (apply app_unk; rfl; rfl; exact c1_ok rfl; exact un_ok rfl; (focus repeat' first | exact get_push_same | assumption | apply get_push_old); (first | rfl | exact ints_len _); (first | decide | omega); (first | decide | omega); (first | rfl | exact ints_one _); (focus repeat' first | exact get_push_same | assumption | apply get_push_old); (first | rfl | exact ints_len _))) | (apply P_append; rfl; rfl; rfl; rfl; rfl; rfl; (apply app_full; rfl; rfl; exact c1_ok rfl; exact un_ok rfl; (focus repeat' first | exact get_push_same | assumption | apply get_push_old); (first | rfl | exact ints_len _); (first | decide | omega); (first | decide | omega); (first | rfl | exact ints_one _); (focus repeat' first | exact get_push_same | assumption | apply get_push_old); (first | rfl | exact ints_len _); omega; omega)) | fail))
  refine ⟨.inr rfl, _, rfl, ?_, (h.push (.cells [] 3 true)).n, ?_, ?_, ?_⟩
  · (focus repeat' first | exact Ext.refl _ | assumption | apply Ext.push | (refine Ext.trans ?_ (by assumption)))
  · simp [resV]
  · exact get_push_same
  · exact Nat.le_succ _

/-- What a truth's numbers become. -/
def Now (t : List Int) (r b : Nat) (h : Heap) : Prop := ∃ c, h.get? b = some (.cells (ints c) 3 true) ∧ c.length = t.length ∧ ∀ j, j < t.length → c.getD j 0 = w64 (st t r j)
theorem now_next {t m m' : List Int} {r : Nat} (hm : m.length = t.length) (h : ∀ j, j < t.length → m.getD j 0 = w64 (st t r j)) (h' : ∀ j, m'.getD j 0 = if j + 1 < m.length then w64 (m.getD j 0 + m.getD (j + 1) 0) else m.getD j 0) :
    ∀ j, j < t.length → m'.getD j 0 = w64 (st t (r + 1) j) := by
  intro j hj
  rw [h' j]
  by_cases q : j + 1 < t.length
  · rw [if_pos (by omega), h j hj, h (j + 1) q, w64_add, st_next t r j q]
  · rw [if_neg (by omega), h j hj, st_last t r j (by omega)]

theorem down_ok (hK : NoK K) {t : List Int} {q : Option Addr} {cap r : Nat} {h : Heap} (hp : 0 < t.length) (hl : t.length ≤ 1000) (hr : Rd h q (ints t)) (hn : r ≤ 1000) (hf : ∀ j, w64 (t.getD j 0) = t.getD j 0) :
    CallW Tryz.prog K 52 #[.slice q t.length cap, .int .i64 (r : Nat)] h (IsL (atP t r t.length) h) := by
  refine body (N := 15) Tryz.func52 rfl (hK _ _ _ rfl) rfl rfl ?_
  (repeat' (first | (apply K_seq) | (apply K_region) | (apply O_at; rfl) | (apply O_fin; rfl) | (apply C_seq) | (apply K_ifT; rfl) | (apply K_ifF; rfl) | (apply K_block) | (apply K_skip) | (apply K_exit) | (apply K_ret) | (apply C_exit) | (apply C_exitS) | (apply C_exitL) | (apply C_blockN) | (apply C_nil) | (apply P_move; rfl; rfl; rfl; rfl) | (apply P_assign; rfl; rfl; rfl; rfl) | (apply P_lss; rfl; rfl; rfl; rfl; rfl; all_goals intro _) | (apply P_add; rfl; rfl; rfl; rfl; rfl; (unfold fit; omega)) | fail))
  apply P_call; rfl; rfl; rfl; rfl; rfl; rfl; exact clone_ok hK hp hl hr
  rintro _ h2 ⟨hx2, b, rfl, hb, hbn⟩
  (repeat' (first | (apply K_seq) | (apply K_region) | (apply O_at; rfl) | (apply O_fin; rfl) | (apply C_seq) | (apply K_ifT; rfl) | (apply K_ifF; rfl) | (apply K_block) | (apply K_skip) | (apply K_exit) | (apply K_ret) | (apply C_exit) | (apply C_exitS) | (apply C_exitL) | (apply C_blockN) | (apply C_nil) | (apply P_move; rfl; rfl; rfl; rfl) | (apply P_assign; rfl; rfl; rfl; rfl) | (apply P_lss; rfl; rfl; rfl; rfl; rfl; all_goals intro _) | (apply P_add; rfl; rfl; rfl; rfl; rfl; (unfold fit; omega)) | fail))
  refine K_loopE (fun k : Nat => [(9, .int .i64 (k : Nat)), (8, .int .i64 (r : Nat)), (5, .slice (some ⟨b, 0, none⟩) t.length unk)])
    (fun k h' => k ≤ r ∧ Ext h h' ∧ Now t k b h') (fun k => r - k) ?_ 0 ?_ ?_
  · intro k h' ⟨hk, hx, c, hc, hcl, hj⟩ ih
    by_cases hlt : k < r
    · (repeat' (first | (apply K_seq) | (apply K_region) | (apply O_at; rfl) | (apply O_fin; rfl) | (apply C_seq) | (apply K_ifT; rfl) | (apply K_ifF; rfl) | (apply K_block) | (apply K_skip) | (apply K_exit) | (apply K_ret) | (apply C_exit) | (apply C_exitS) | (apply C_exitL) | (apply C_blockN) | (apply C_nil) | (apply P_move; rfl; rfl; rfl; rfl) | (apply P_assign; rfl; rfl; rfl; rfl) | (apply P_lss; rfl; rfl; rfl; rfl; rfl; all_goals intro _) | (apply P_add; rfl; rfl; rfl; rfl; rfl; (unfold fit; omega)) | fail))
      · apply P_call; rfl; rfl; rfl; rfl; rfl; rfl
        · rw [← hcl]; exact add_ok hK (by omega) hc
        rintro _ h3 ⟨hx3, m', hm1, hm2, hm3⟩
        (repeat' (first | (apply K_seq) | (apply K_region) | (apply O_at; rfl) | (apply O_fin; rfl) | (apply C_seq) | (apply K_ifT; rfl) | (apply K_ifF; rfl) | (apply K_block) | (apply K_skip) | (apply K_exit) | (apply K_ret) | (apply C_exit) | (apply C_exitS) | (apply C_exitL) | (apply C_blockN) | (apply C_nil) | (apply P_move; rfl; rfl; rfl; rfl) | (apply P_assign; rfl; rfl; rfl; rfl) | (apply P_lss; rfl; rfl; rfl; rfl; rfl; all_goals intro _) | (apply P_add; rfl; rfl; rfl; rfl; rfl; (unfold fit; omega)) | fail))
        refine C_again (ih (k + 1) _ ?_ ⟨hlt, hx.ofBut hx3 hbn, m', hm1, by omega, now_next hcl hj hm3⟩) ?_
        · omega
        · (focus repeat' first | rfl | exact trivial | apply And.intro)
      · omega
    · (repeat' (first | (apply K_seq) | (apply K_region) | (apply O_at; rfl) | (apply O_fin; rfl) | (apply C_seq) | (apply K_ifT; rfl) | (apply K_ifF; rfl) | (apply K_block) | (apply K_skip) | (apply K_exit) | (apply K_ret) | (apply C_exit) | (apply C_exitS) | (apply C_exitL) | (apply C_blockN) | (apply C_nil) | (apply P_move; rfl; rfl; rfl; rfl) | (apply P_assign; rfl; rfl; rfl; rfl) | (apply P_lss; rfl; rfl; rfl; rfl; rfl; all_goals intro _) | (apply P_add; rfl; rfl; rfl; rfl; rfl; (unfold fit; omega)) | fail))
      · omega
      · have e : k = r := by omega
        subst e
        have e2 : c = atP t k t.length := list_eq (by rw [hcl, atP_len]) fun j hj' => by rw [hj j (by omega), atP_get (by omega)]
        subst e2
        exact ⟨.inr rfl, _, rfl, _, _, by rw [atP_len]; rfl, .inr ⟨b, 3, true, rfl, hc⟩, hx⟩
  · exact ⟨Nat.zero_le _, hx2, t, hb, rfl, fun j hj => by rw [st_zero t j hj, hf]⟩
  · (focus repeat' first | rfl | exact trivial | apply And.intro)

/-- The table in a truth, by additions. -/
theorem table_ok (hK : NoK K) {t : List Int} {p q : Option Addr} {n cap cap' R : Nat} {guard : Int} {h : Heap} (hp : 0 < t.length) (hl : t.length ≤ 1000) (hr : Rd h q (ints t)) (hn : R ≤ 1000) (hf : ∀ j, w64 (t.getD j 0) = t.getD j 0) :
    CallW Tryz.prog K 50 #[.agg #[.slice p n cap, .int .i64 (R : Nat), .int .i64 guard, .slice q t.length cap']] h (IsL (tabL t R) h) := by
  refine body (N := 29) Tryz.func50 rfl (hK _ _ _ rfl) rfl rfl ?_
  (repeat' (first | (apply K_seq) | (apply K_region) | (apply O_at; rfl) | (apply O_fin; rfl) | (apply C_seq) | (apply K_ifT; rfl) | (apply K_ifF; rfl) | (apply K_block) | (apply K_skip) | (apply K_exit) | (apply K_ret) | (apply C_exit) | (apply C_exitS) | (apply C_exitL) | (apply C_blockN) | (apply C_nil) | (apply P_move; rfl; rfl; rfl; rfl) | (apply P_assign; rfl; rfl; rfl; rfl) | (apply P_fa; rfl; rfl; rfl; rfl; exact fo_ok rfl; (first | exact Nat.zero_add _ | exact Nat.add_zero _ | rfl)) | (apply P_lss; rfl; rfl; rfl; rfl; rfl; all_goals intro _) | (apply P_add; rfl; rfl; rfl; rfl; rfl; (unfold fit; omega)) | (apply P_idxA; rfl; rfl; rfl; rfl; rfl; exact un_ok rfl; exact sz_ok rfl; (first | exact zq0 | rfl | exact (Int.toNat_of_nonneg (by omega)).symm); omega) | (apply P_load1; rfl; rfl; rfl; rfl; exact on_ok rfl; (focus repeat' first | exact get_push_same | assumption | apply get_push_old | (apply Ext.get; assumption) | (apply ExtBut.get; assumption; assumption)); (first | exact ints_get (by omega) | rfl | assumption)) | (apply P_makeI; rfl; rfl; rfl; rfl; rfl; exact c1_ok rfl; exact zero3; omega; omega) | (apply P_storeI; rfl; rfl; rfl; rfl; (focus repeat' first | exact get_push_same | assumption | apply get_push_old | (apply Ext.get; assumption) | (apply ExtBut.get; assumption; assumption)); exact sz_ok rfl; omega; (intro _ _ _)) | (apply P_box; rfl; rfl; rfl; rfl; exact sz_ok rfl; rfl; rfl) | fail))
  have hb1 : (h.push (.cells (Value.agg #[.slice p n cap, .int .i64 (R : Nat), .int .i64 guard, .slice q t.length cap']).cells.toList 73 true)).get? h.n = some (.cells [.slice p n cap, .int .i64 (R : Nat), .int .i64 guard, .slice q t.length cap'] 73 true) := get_push_same
  have hx1 : Ext h (h.push (.cells (Value.agg #[.slice p n cap, .int .i64 (R : Nat), .int .i64 guard, .slice q t.length cap']).cells.toList 73 true)) := by (focus repeat' first | exact Ext.refl _ | assumption | apply Ext.push | (refine Ext.trans ?_ (by assumption)))
  generalize h.push (.cells (Value.agg #[.slice p n cap, .int .i64 (R : Nat), .int .i64 guard, .slice q t.length cap']).cells.toList 73 true) = h1 at hb1 hx1 ⊢
  have hbT : (h1.push (.cells (ints (List.replicate (R : Int).toNat 0)) 3 true)).get? h1.n = some (.cells (ints (List.replicate R 0)) 3 true) := get_push_same
  have hxT : Ext h1 (h1.push (.cells (ints (List.replicate (R : Int).toNat 0)) 3 true)) := by (focus repeat' first | exact Ext.refl _ | assumption | apply Ext.push | (refine Ext.trans ?_ (by assumption)))
  have hnT : h1.n < (h1.push (.cells (ints (List.replicate (R : Int).toNat 0)) 3 true)).n := Nat.lt_succ_self _
  generalize h1.push (.cells (ints (List.replicate (R : Int).toNat 0)) 3 true) = h2 at hbT hxT hnT ⊢
  have hx2 : Ext h h2 := hx1.trans hxT
  have hbt : h.n ≤ h1.n := hx1.n
  generalize h1.n = bt at hbT hnT hbt ⊢
  apply P_call; rfl; rfl; rfl; rfl; rfl; rfl; exact clone_ok hK hp hl (hr.ext hx2)
  rintro _ h3 ⟨hx3, bn, rfl, hbn, hnn⟩
  have hb3 := hx3.get (hxT.get hb1)
  (repeat' (first | (apply K_seq) | (apply K_region) | (apply O_at; rfl) | (apply O_fin; rfl) | (apply C_seq) | (apply K_ifT; rfl) | (apply K_ifF; rfl) | (apply K_block) | (apply K_skip) | (apply K_exit) | (apply K_ret) | (apply C_exit) | (apply C_exitS) | (apply C_exitL) | (apply C_blockN) | (apply C_nil) | (apply P_move; rfl; rfl; rfl; rfl) | (apply P_assign; rfl; rfl; rfl; rfl) | (apply P_fa; rfl; rfl; rfl; rfl; exact fo_ok rfl; (first | exact Nat.zero_add _ | exact Nat.add_zero _ | rfl)) | (apply P_lss; rfl; rfl; rfl; rfl; rfl; all_goals intro _) | (apply P_add; rfl; rfl; rfl; rfl; rfl; (unfold fit; omega)) | (apply P_idxA; rfl; rfl; rfl; rfl; rfl; exact un_ok rfl; exact sz_ok rfl; (first | exact zq0 | rfl | exact (Int.toNat_of_nonneg (by omega)).symm); omega) | (apply P_load1; rfl; rfl; rfl; rfl; exact on_ok rfl; (focus repeat' first | exact get_push_same | assumption | apply get_push_old | (apply Ext.get; assumption) | (apply ExtBut.get; assumption; assumption)); (first | exact ints_get (by omega) | rfl | assumption)) | (apply P_makeI; rfl; rfl; rfl; rfl; rfl; exact c1_ok rfl; exact zero3; omega; omega) | (apply P_storeI; rfl; rfl; rfl; rfl; (focus repeat' first | exact get_push_same | assumption | apply get_push_old | (apply Ext.get; assumption) | (apply ExtBut.get; assumption; assumption)); exact sz_ok rfl; omega; (intro _ _ _)) | (apply P_box; rfl; rfl; rfl; rfl; exact sz_ok rfl; rfl; rfl) | fail))
  refine K_loopE (fun k : Nat => [(16, .int .i64 (k : Nat)), (15, .int .i64 (R : Nat)), (3, .slice (some ⟨bt, 0, none⟩) R R), (4, .slice (some ⟨bn, 0, none⟩) t.length unk)])
    (fun k h' => k ≤ R ∧ Ext h h' ∧ Now t k bn h' ∧ ∃ cT, h'.get? bt = some (.cells (ints cT) 3 true) ∧ cT.length = R ∧ ∀ j, j < k → cT.getD j 0 = w64 (sumC t j 0)) (fun k => R - k) ?_ 0 ?_ ?_
  · intro k h' ⟨hk, hx, ⟨c, hc, hcl, hj⟩, cT, hT, hTl, hTj⟩ ih
    have hne : bn ≠ bt := by omega
    have hne' : bt ≠ bn := by omega
    by_cases hlt : k < R
    · (repeat' (first | (apply K_seq) | (apply K_region) | (apply O_at; rfl) | (apply O_fin; rfl) | (apply C_seq) | (apply K_ifT; rfl) | (apply K_ifF; rfl) | (apply K_block) | (apply K_skip) | (apply K_exit) | (apply K_ret) | (apply C_exit) | (apply C_exitS) | (apply C_exitL) | (apply C_blockN) | (apply C_nil) | (apply P_move; rfl; rfl; rfl; rfl) | (apply P_assign; rfl; rfl; rfl; rfl) | (apply P_fa; rfl; rfl; rfl; rfl; exact fo_ok rfl; (first | exact Nat.zero_add _ | exact Nat.add_zero _ | rfl)) | (apply P_lss; rfl; rfl; rfl; rfl; rfl; all_goals intro _) | (apply P_add; rfl; rfl; rfl; rfl; rfl; (unfold fit; omega)) | (apply P_idxA; rfl; rfl; rfl; rfl; rfl; exact un_ok rfl; exact sz_ok rfl; (first | exact zq0 | rfl | exact (Int.toNat_of_nonneg (by omega)).symm); omega) | (apply P_load1; rfl; rfl; rfl; rfl; exact on_ok rfl; (focus repeat' first | exact get_push_same | assumption | apply get_push_old | (apply Ext.get; assumption) | (apply ExtBut.get; assumption; assumption)); (first | exact ints_get (by omega) | rfl | assumption)) | (apply P_makeI; rfl; rfl; rfl; rfl; rfl; exact c1_ok rfl; exact zero3; omega; omega) | (apply P_storeI; rfl; rfl; rfl; rfl; (focus repeat' first | exact get_push_same | assumption | apply get_push_old | (apply Ext.get; assumption) | (apply ExtBut.get; assumption; assumption)); exact sz_ok rfl; omega; (intro _ _ _)) | (apply P_box; rfl; rfl; rfl; rfl; exact sz_ok rfl; rfl; rfl) | fail))
      · rename_i h4 hT4 hx4
        have hc4 := hx4.get hne hc
        apply P_call; rfl; rfl; rfl; rfl; rfl; rfl
        · rw [← hcl]; exact add_ok hK (by omega) hc4
        rintro _ h5 ⟨hx5, m', hm1, hm2, hm3⟩
        (repeat' (first | (apply K_seq) | (apply K_region) | (apply O_at; rfl) | (apply O_fin; rfl) | (apply C_seq) | (apply K_ifT; rfl) | (apply K_ifF; rfl) | (apply K_block) | (apply K_skip) | (apply K_exit) | (apply K_ret) | (apply C_exit) | (apply C_exitS) | (apply C_exitL) | (apply C_blockN) | (apply C_nil) | (apply P_move; rfl; rfl; rfl; rfl) | (apply P_assign; rfl; rfl; rfl; rfl) | (apply P_fa; rfl; rfl; rfl; rfl; exact fo_ok rfl; (first | exact Nat.zero_add _ | exact Nat.add_zero _ | rfl)) | (apply P_lss; rfl; rfl; rfl; rfl; rfl; all_goals intro _) | (apply P_add; rfl; rfl; rfl; rfl; rfl; (unfold fit; omega)) | (apply P_idxA; rfl; rfl; rfl; rfl; rfl; exact un_ok rfl; exact sz_ok rfl; (first | exact zq0 | rfl | exact (Int.toNat_of_nonneg (by omega)).symm); omega) | (apply P_load1; rfl; rfl; rfl; rfl; exact on_ok rfl; (focus repeat' first | exact get_push_same | assumption | apply get_push_old | (apply Ext.get; assumption) | (apply ExtBut.get; assumption; assumption)); (first | exact ints_get (by omega) | rfl | assumption)) | (apply P_makeI; rfl; rfl; rfl; rfl; rfl; exact c1_ok rfl; exact zero3; omega; omega) | (apply P_storeI; rfl; rfl; rfl; rfl; (focus repeat' first | exact get_push_same | assumption | apply get_push_old | (apply Ext.get; assumption) | (apply ExtBut.get; assumption; assumption)); exact sz_ok rfl; omega; (intro _ _ _)) | (apply P_box; rfl; rfl; rfl; rfl; exact sz_ok rfl; rfl; rfl) | fail))
        refine C_again (ih (k + 1) _ ?_ ⟨hlt, (hx.ofBut hx4 hbt).ofBut hx5 (by have := hx2.n; omega), ⟨m', hm1, by omega, now_next hcl hj hm3⟩, _, hx5.get hne' hT4, ?_, fun j hj' => ?_⟩) ?_
        · omega
        · simpa using hTl
        · rw [getD_set (by omega)]
          by_cases q : j = k
          · subst q; rw [if_pos rfl, hj 0 hp]; rfl
          · rw [if_neg q]; exact hTj j (by omega)
        · (focus repeat' first | rfl | exact trivial | apply And.intro)
      · omega
    · (repeat' (first | (apply K_seq) | (apply K_region) | (apply O_at; rfl) | (apply O_fin; rfl) | (apply C_seq) | (apply K_ifT; rfl) | (apply K_ifF; rfl) | (apply K_block) | (apply K_skip) | (apply K_exit) | (apply K_ret) | (apply C_exit) | (apply C_exitS) | (apply C_exitL) | (apply C_blockN) | (apply C_nil) | (apply P_move; rfl; rfl; rfl; rfl) | (apply P_assign; rfl; rfl; rfl; rfl) | (apply P_fa; rfl; rfl; rfl; rfl; exact fo_ok rfl; (first | exact Nat.zero_add _ | exact Nat.add_zero _ | rfl)) | (apply P_lss; rfl; rfl; rfl; rfl; rfl; all_goals intro _) | (apply P_add; rfl; rfl; rfl; rfl; rfl; (unfold fit; omega)) | (apply P_idxA; rfl; rfl; rfl; rfl; rfl; exact un_ok rfl; exact sz_ok rfl; (first | exact zq0 | rfl | exact (Int.toNat_of_nonneg (by omega)).symm); omega) | (apply P_load1; rfl; rfl; rfl; rfl; exact on_ok rfl; (focus repeat' first | exact get_push_same | assumption | apply get_push_old | (apply Ext.get; assumption) | (apply ExtBut.get; assumption; assumption)); (first | exact ints_get (by omega) | rfl | assumption)) | (apply P_makeI; rfl; rfl; rfl; rfl; rfl; exact c1_ok rfl; exact zero3; omega; omega) | (apply P_storeI; rfl; rfl; rfl; rfl; (focus repeat' first | exact get_push_same | assumption | apply get_push_old | (apply Ext.get; assumption) | (apply ExtBut.get; assumption; assumption)); exact sz_ok rfl; omega; (intro _ _ _)) | (apply P_box; rfl; rfl; rfl; rfl; exact sz_ok rfl; rfl; rfl) | fail))
      · omega
      · have e : k = R := by omega
        subst e
        have e2 : cT = tabL t k := list_eq (by rw [hTl, tabL_len]) fun j hj' => by rw [hTj j (by omega), tabL_get (by omega)]
        subst e2
        exact ⟨.inr rfl, _, rfl, _, _, by rw [tabL_len]; rfl, .inr ⟨bt, 3, true, rfl, hT⟩, hx⟩
  · exact ⟨Nat.zero_le _, hx2.trans hx3, ⟨t, hbn, rfl, fun j hj => by rw [st_zero t j hj, hf]⟩, _, hx3.get hbT, by simp, fun j hj => by omega⟩
  · (focus repeat' first | rfl | exact trivial | apply And.intro)
end Go.AX.Sa
