/- Quotients, units, figures; the bounds of all rows and of all figures, as the document has them. -/
import Derived.Test.YtippnehdneojlaaGreatDoorSwC
import Derived.Test.YtippnehdneojlaaGreatDoorAxX
import Derived.Test.YtippnehdneojlaaGreatDoorSwA
namespace Go.AX
section
variable {P : Program} {K : Known} {x : Ctx} {N : Nat} {E : Env} {h : Heap} {ops : Array Oper} {F : Env → Heap → Prop} {i : Nat}
variable {d : Nat} {ty : TypeId} {pos : String} {af : Array Edge} {g : Option (Nat × Bool)}
theorem neg_op {P : Program} {tm : Array Value} {o : Oper} {t : TypeId} {a : Operand} {n : Int} (ho : o.op = .unOp .neg t a) (ha : ev tm a = .int .i64 n) : plainOp P tm o = some (.int .i64 (w64 (0 - n))) := by
  have hp : (plainKind o && o.op.operands.toList.all fun x => plain deep (ev tm x)) = true := by
    simp [plainKind, ho, Op.operands, ha, plain, deep]
  unfold plainOp
  rw [if_pos hp]
  have he : pe P (execOp (ev tm) o) = some (.value (.int .i64 (w64 (0 - n)))) := by
    unfold execOp; rw [ho]; simp only [ha]; rfl
  rw [he]; rfl
theorem P_neg {t : TypeId} {a : Operand} {n : Int} (hN : Nat.blt d N = true) (hg : gval ops E g = some true) (hk : opsOK P ⟨some d, .unOp .neg t a, ty, pos, af, g⟩ = true)
    (ha : E.ev a = some (.int .i64 n)) (hf : fit (0 - n)) (k : R1 P K x N ops F (i + 1) ((d, .int .i64 (0 - n)) :: E) h) : R2 P K x N ops F i ⟨some d, .unOp .neg t a, ty, pos, af, g⟩ E h :=
  ⟨fun ho => O_simple ho rfl hN hg hk (fun tm hE => by
    show (plainOp P tm ⟨some d, .unOp .neg t a, ty, pos, af, g⟩).map (fun v => (v, h)) = _
    rw [neg_op rfl (hE.ev ha), show w64 (0 - n) = 0 - n from fit_wrap hf]; rfl) k.out⟩
end
end Go.AX
namespace Go.AX.Sa
open Go.Proofs
set_option maxRecDepth 100000
variable {K : Known}
theorem quo_floor (n u : Int) (hu : 0 < u) : (if n.tmod u < 0 then n.tdiv u - 1 else n.tdiv u) = n / u := by
  have hs : u.sign = 1 := Int.sign_eq_one_of_pos hu
  have h := Int.emod_nonneg n (by omega : u ≠ 0)
  have h2 := Int.emod_lt_of_pos n hu
  by_cases h0 : 0 ≤ n
  · rw [Int.tdiv_eq_ediv_of_nonneg h0, Int.tmod_eq_emod_of_nonneg h0, if_neg (by omega)]
  · by_cases hd : u ∣ n
    · have e1 : n.tmod u = 0 := Int.tmod_eq_zero_of_dvd hd
      have e2 : n.tdiv u = n / u := by rw [Int.tdiv_eq_ediv, if_pos (.inr hd)]; omega
      rw [e1, e2]; simp
    · have e2 : n.tdiv u = n / u + 1 := by rw [Int.tdiv_eq_ediv, if_neg (by simp [hd]; omega), hs]
      have e1 : n.tmod u = n % u - u := by
        have a := Int.tmod_add_mul_tdiv n u
        have b := Int.emod_add_mul_ediv n u
        rw [e2, Int.mul_add] at a
        omega
      rw [e1, if_pos (by omega), e2]; omega
/-- A quotient, rounded down. -/
theorem quotient_ok (hK : NoK K) {n u : Int} {h : Heap} (hu : u = 1 ∨ u = 10 ∨ u = 100 ∨ u = 1000) (hn : -4611686018427387904 ≤ n ∧ n ≤ 4611686018427387904) :
    CallW Tryz.prog K 89 #[.int .i64 n, .int .i64 u] h (IsV (.int .i64 (n / u)) h) := by
  have hu0 : 0 < u := by omega
  have hq := quo_floor n u hu0
  have hb : -4611686018427387904 ≤ n / u ∧ n / u ≤ 4611686018427387904 := by rcases hu with rfl | rfl | rfl | rfl <;> omega
  refine body (N := 16) Tryz.func89 rfl (hK _ _ _ rfl) rfl rfl ?_
  by_cases hm : n.tmod u < 0
  · rw [if_pos hm] at hq
    (repeat' (first | (apply K_seq) | (apply K_region) | (apply O_at; rfl) | (apply O_fin; rfl) | (apply C_seq) | (apply K_ifT; rfl) | (apply K_ifF; rfl) | (apply K_skip) | (apply K_ret) | (apply C_nil) | (apply P_move; rfl; rfl; rfl; rfl) | (apply P_assign; rfl; rfl; rfl; rfl) | (apply P_lss; rfl; rfl; rfl; rfl; rfl; all_goals intro _) | (apply P_sub; rfl; rfl; rfl; rfl; rfl; (unfold fit; omega)) | fail))
    apply P_quo; rfl; rfl; rfl; rfl; rfl; omega
    · unfold fit; omega
    (repeat' (first | (apply K_seq) | (apply K_region) | (apply O_at; rfl) | (apply O_fin; rfl) | (apply C_seq) | (apply K_ifT; rfl) | (apply K_ifF; rfl) | (apply K_skip) | (apply K_ret) | (apply C_nil) | (apply P_move; rfl; rfl; rfl; rfl) | (apply P_assign; rfl; rfl; rfl; rfl) | (apply P_lss; rfl; rfl; rfl; rfl; rfl; all_goals intro _) | (apply P_sub; rfl; rfl; rfl; rfl; rfl; (unfold fit; omega)) | fail))
    apply P_rem; rfl; rfl; rfl; rfl; rfl; omega
    (repeat' (first | (apply K_seq) | (apply K_region) | (apply O_at; rfl) | (apply O_fin; rfl) | (apply C_seq) | (apply K_ifT; rfl) | (apply K_ifF; rfl) | (apply K_skip) | (apply K_ret) | (apply C_nil) | (apply P_move; rfl; rfl; rfl; rfl) | (apply P_assign; rfl; rfl; rfl; rfl) | (apply P_lss; rfl; rfl; rfl; rfl; rfl; all_goals intro _) | (apply P_sub; rfl; rfl; rfl; rfl; rfl; (unfold fit; omega)) | fail))
    · refine ⟨.inr rfl, _, rfl, ?_, Ext.refl _⟩
      rw [← hq]; rfl
    · omega
  · rw [if_neg hm] at hq
    (repeat' (first | (apply K_seq) | (apply K_region) | (apply O_at; rfl) | (apply O_fin; rfl) | (apply C_seq) | (apply K_ifT; rfl) | (apply K_ifF; rfl) | (apply K_skip) | (apply K_ret) | (apply C_nil) | (apply P_move; rfl; rfl; rfl; rfl) | (apply P_assign; rfl; rfl; rfl; rfl) | (apply P_lss; rfl; rfl; rfl; rfl; rfl; all_goals intro _) | (apply P_sub; rfl; rfl; rfl; rfl; rfl; (unfold fit; omega)) | fail))
    apply P_quo; rfl; rfl; rfl; rfl; rfl; omega
    · unfold fit; omega
    (repeat' (first | (apply K_seq) | (apply K_region) | (apply O_at; rfl) | (apply O_fin; rfl) | (apply C_seq) | (apply K_ifT; rfl) | (apply K_ifF; rfl) | (apply K_skip) | (apply K_ret) | (apply C_nil) | (apply P_move; rfl; rfl; rfl; rfl) | (apply P_assign; rfl; rfl; rfl; rfl) | (apply P_lss; rfl; rfl; rfl; rfl; rfl; all_goals intro _) | (apply P_sub; rfl; rfl; rfl; rfl; rfl; (unfold fit; omega)) | fail))
    apply P_rem; rfl; rfl; rfl; rfl; rfl; omega
    (repeat' (first | (apply K_seq) | (apply K_region) | (apply O_at; rfl) | (apply O_fin; rfl) | (apply C_seq) | (apply K_ifT; rfl) | (apply K_ifF; rfl) | (apply K_skip) | (apply K_ret) | (apply C_nil) | (apply P_move; rfl; rfl; rfl; rfl) | (apply P_assign; rfl; rfl; rfl; rfl) | (apply P_lss; rfl; rfl; rfl; rfl; rfl; all_goals intro _) | (apply P_sub; rfl; rfl; rfl; rfl; rfl; (unfold fit; omega)) | fail))
    · omega
    · refine ⟨.inr rfl, _, rfl, ?_, Ext.refl _⟩
      rw [← hq]; rfl

def unit (g : Nat) : Int := 10 ^ g
theorem unit_cases {g : Nat} (h : g ≤ 3) : unit g = 1 ∨ unit g = 10 ∨ unit g = 100 ∨ unit g = 1000 := by
  have : g = 0 ∨ g = 1 ∨ g = 2 ∨ g = 3 := by omega
  rcases this with rfl | rfl | rfl | rfl <;> simp [unit]
theorem unit_succ (g : Nat) : unit (g + 1) = unit g * 10 := Int.pow_succ ..
/-- A printed figure. -/
def fig (v : Int) (g : Nat) : Int := (v + unit g / 2) / unit g
theorem figure_ok (hK : NoK K) {v : Int} {g : Nat} {h : Heap} (hg : g ≤ 3) (hv : -1000000000000 ≤ v ∧ v ≤ 1000000000000) :
    CallW Tryz.prog K 59 #[.int .i64 v, .int .i64 (g : Nat)] h (IsV (.int .i64 (fig v g)) h) := by
  refine body (N := 18) Tryz.func59 rfl (hK _ _ _ rfl) rfl rfl ?_
  (repeat' (first | (apply K_seq) | (apply K_region) | (apply O_at; rfl) | (apply O_fin; rfl) | (apply C_seq) | (apply K_ifT; rfl) | (apply K_ifF; rfl) | (apply K_block) | (apply K_skip) | (apply K_exit) | (apply K_ret) | (apply C_exit) | (apply C_exitS) | (apply C_exitL) | (apply C_blockN) | (apply C_nil) | (apply P_move; rfl; rfl; rfl; rfl) | (apply P_assign; rfl; rfl; rfl; rfl) | (apply P_lss; rfl; rfl; rfl; rfl; rfl; all_goals intro _) | (apply P_add; rfl; rfl; rfl; rfl; rfl; (unfold fit; omega)) | (apply P_mul; rfl; rfl; rfl; rfl; rfl; (unfold fit; omega)) | fail))
  refine K_loopE (fun (a : Nat × Int) => [(7, .int .i64 (a.1 : Nat)), (6, .int .i64 (g : Nat)), (5, .int .i64 a.2), (0, .int .i64 v)])
    (fun a h' => a.1 ≤ g ∧ h' = h ∧ a.2 = unit a.1) (fun a => g - a.1) ?_ (0, 1) ⟨Nat.zero_le _, rfl, rfl⟩ ?_
  · rintro ⟨k, n⟩ h' ⟨hk, hx, hj⟩ ih
    dsimp only at hk hj ih ⊢
    subst hx
    have hu := unit_cases (g := k) (by omega)
    by_cases hlt : k < g
    · (repeat' (first | (apply K_seq) | (apply K_region) | (apply O_at; rfl) | (apply O_fin; rfl) | (apply C_seq) | (apply K_ifT; rfl) | (apply K_ifF; rfl) | (apply K_block) | (apply K_skip) | (apply K_exit) | (apply K_ret) | (apply C_exit) | (apply C_exitS) | (apply C_exitL) | (apply C_blockN) | (apply C_nil) | (apply P_move; rfl; rfl; rfl; rfl) | (apply P_assign; rfl; rfl; rfl; rfl) | (apply P_lss; rfl; rfl; rfl; rfl; rfl; all_goals intro _) | (apply P_add; rfl; rfl; rfl; rfl; rfl; (unfold fit; omega)) | (apply P_mul; rfl; rfl; rfl; rfl; rfl; (unfold fit; omega)) | fail))
      · refine C_again (ih (k + 1, n * 10) _ ?_ ⟨hlt, rfl, ?_⟩) ?_
        · dsimp only; omega
        · dsimp only; rw [unit_succ, hj]
        · (focus repeat' first | rfl | exact trivial | apply And.intro)
      · omega
    · obtain rfl : k = g := by omega
      have hd : n.tdiv 2 = unit k / 2 := by rw [hj]; rcases hu with e | e | e | e <;> rw [e] <;> rfl
      have hb : 0 ≤ unit k / 2 ∧ unit k / 2 ≤ 1000 := by rcases hu with e | e | e | e <;> rw [e] <;> decide
      (repeat' (first | (apply K_seq) | (apply K_region) | (apply O_at; rfl) | (apply O_fin; rfl) | (apply C_seq) | (apply K_ifT; rfl) | (apply K_ifF; rfl) | (apply K_block) | (apply K_skip) | (apply K_exit) | (apply K_ret) | (apply C_exit) | (apply C_exitS) | (apply C_exitL) | (apply C_blockN) | (apply C_nil) | (apply P_move; rfl; rfl; rfl; rfl) | (apply P_assign; rfl; rfl; rfl; rfl) | (apply P_lss; rfl; rfl; rfl; rfl; rfl; all_goals intro _) | (apply P_add; rfl; rfl; rfl; rfl; rfl; (unfold fit; omega)) | (apply P_mul; rfl; rfl; rfl; rfl; rfl; (unfold fit; omega)) | fail))
      · omega
      · apply P_quo; rfl; rfl; rfl; rfl; rfl; omega
        · unfold fit; rw [hd]; omega
        rw [hd]
        (repeat' (first | (apply K_seq) | (apply K_region) | (apply O_at; rfl) | (apply O_fin; rfl) | (apply C_seq) | (apply K_ifT; rfl) | (apply K_ifF; rfl) | (apply K_block) | (apply K_skip) | (apply K_exit) | (apply K_ret) | (apply C_exit) | (apply C_exitS) | (apply C_exitL) | (apply C_blockN) | (apply C_nil) | (apply P_move; rfl; rfl; rfl; rfl) | (apply P_assign; rfl; rfl; rfl; rfl) | (apply P_lss; rfl; rfl; rfl; rfl; rfl; all_goals intro _) | (apply P_add; rfl; rfl; rfl; rfl; rfl; (unfold fit; omega)) | (apply P_mul; rfl; rfl; rfl; rfl; rfl; (unfold fit; omega)) | (apply P_call; rfl; rfl; rfl; rfl; rfl; rfl; exact quotient_ok hK (hj ▸ hu) (by omega); (rintro _ _ ⟨rfl, _⟩)) | fail))
        refine ⟨.inr rfl, _, rfl, ?_, by (focus repeat' first | exact Ext.refl _ | assumption | apply Ext.push | (refine Ext.trans ?_ (by assumption)))⟩
        subst hj; rfl
  · (focus repeat' first | rfl | exact trivial | apply And.intro)
end Go.AX.Sa

namespace Go.AX.Sa
open Go.Proofs
set_option maxRecDepth 100000
variable {K : Known}
theorem build4 (h : Heap) : buildSliceB Tryz.prog h 25 4 [(0, .int .i64 1), (1, .int .i64 10), (2, .int .i64 100), (3, .int .i64 1000)] = some (.slice (some ⟨h.n, 0, none⟩) 4 4, h.push (.cells (ints [1, 10, 100, 1000]) 3 true)) := by kernel_rfl
theorem unit_get {g : Nat} (h : g ≤ 3) : ([1, 10, 100, 1000] : List Int).getD g 0 = unit g := by
  have : g = 0 ∨ g = 1 ∨ g = 2 ∨ g = 3 := by omega
  rcases this with rfl | rfl | rfl | rfl <;> simp [unit]
theorem unit_ok (hK : NoK K) {p : Option Addr} {n cap : Nat} {rows : Int} {g : Nat} {h : Heap} (hg : g ≤ 3) :
    CallW Tryz.prog K 60 #[.agg #[.slice p n cap, .int .i64 rows, .int .i64 (g : Nat)]] h (IsV (.int .i64 (unit g)) h) := by
  refine body (N := 8) Tryz.func60 rfl (hK _ _ _ rfl) rfl rfl ?_
  have h4 : g < ([1, 10, 100, 1000] : List Int).length := by simp only [List.length_cons, List.length_nil]; omega
  (repeat' (first | (apply K_seq) | (apply K_region) | (apply O_at; rfl) | (apply O_fin; rfl) | (apply C_seq) | (apply K_ret) | (apply C_nil) | (apply P_assign; rfl; rfl; rfl; rfl) | (apply P_fa; rfl; rfl; rfl; rfl; exact fo_ok rfl; (first | exact Nat.zero_add _ | exact Nat.add_zero _ | rfl)) | (apply P_idxA; rfl; rfl; rfl; rfl; rfl; exact un_ok rfl; exact sz_ok rfl; (first | rfl | exact (Int.toNat_of_nonneg (by omega)).symm); omega) | (apply P_load1; rfl; rfl; rfl; rfl; exact on_ok rfl; (focus repeat' first | exact get_push_same | assumption | apply get_push_old); (first | exact ints_get (by omega) | rfl | assumption)) | (apply P_box; rfl; rfl; rfl; rfl; exact sz_ok rfl; rfl; rfl) | fail))
  apply P_buildS; rfl; rfl; rfl; exact fun _ hE => hE.parts rfl; exact build4 _
  (repeat' (first | (apply K_seq) | (apply K_region) | (apply O_at; rfl) | (apply O_fin; rfl) | (apply C_seq) | (apply K_ret) | (apply C_nil) | (apply P_assign; rfl; rfl; rfl; rfl) | (apply P_fa; rfl; rfl; rfl; rfl; exact fo_ok rfl; (first | exact Nat.zero_add _ | exact Nat.add_zero _ | rfl)) | (apply P_idxA; rfl; rfl; rfl; rfl; rfl; exact un_ok rfl; exact sz_ok rfl; (first | rfl | exact (Int.toNat_of_nonneg (by omega)).symm); omega) | (apply P_load1; rfl; rfl; rfl; rfl; exact on_ok rfl; (focus repeat' first | exact get_push_same | assumption | apply get_push_old); (first | exact ints_get (by omega) | rfl | assumption)) | (apply P_box; rfl; rfl; rfl; rfl; exact sz_ok rfl; rfl; rfl) | fail))
  refine ⟨.inr rfl, _, rfl, ?_, ?_⟩
  · show Value.int .i64 _ = _
    rw [unit_get hg]
  · (focus repeat' first | exact Ext.refl _ | assumption | apply Ext.push | (refine Ext.trans ?_ (by assumption)))
theorem ref_floor {n u : Int} (hu : u = 1 ∨ u = 10 ∨ u = 100 ∨ u = 1000) (hn : n < 0) : 0 - (0 - n + u - 1).tdiv u = n / u := by
  rw [Int.tdiv_eq_ediv_of_nonneg (by omega)]
  rcases hu with rfl | rfl | rfl | rfl <;> omega
theorem refFigure_ok (hK : NoK K) {p : Option Addr} {n cap : Nat} {rows v : Int} {g : Nat} {h : Heap} (hg : g ≤ 3) (hv : -1000000000000 ≤ v ∧ v ≤ 1000000000000) :
    CallW Tryz.prog K 28 #[.agg #[.slice p n cap, .int .i64 rows, .int .i64 (g : Nat)], .int .i64 v] h (IsV (.int .i64 (fig v g)) h) := by
  have hu := unit_cases hg
  have hd : (unit g).tdiv 2 = unit g / 2 := by rcases hu with e | e | e | e <;> rw [e] <;> rfl
  have hb : 0 ≤ unit g / 2 ∧ unit g / 2 ≤ 1000 ∧ 1 ≤ unit g ∧ unit g ≤ 1000 := by rcases hu with e | e | e | e <;> rw [e] <;> decide
  refine body (N := 26) Tryz.func28 rfl (hK _ _ _ rfl) rfl rfl ?_
  (repeat' (first | (apply K_seq) | (apply K_region) | (apply O_at; rfl) | (apply O_fin; rfl) | (apply C_seq) | (apply K_ifT; rfl) | (apply K_ifF; rfl) | (apply K_skip) | (apply K_ret) | (apply C_retS) | (apply C_nil) | (apply P_move; rfl; rfl; rfl; rfl) | (apply P_assign; rfl; rfl; rfl; rfl) | (apply P_geq; rfl; rfl; rfl; rfl; rfl; all_goals intro _) | (apply P_add; rfl; rfl; rfl; rfl; rfl; (unfold fit; omega)) | (apply P_sub; rfl; rfl; rfl; rfl; rfl; (unfold fit; omega)) | (apply P_loadA; rfl; rfl; rfl; rfl; exact ag_ok rfl; (focus repeat' first | exact get_push_same | assumption); (first | exact Nat.le_of_ble_eq_true rfl | (simp; done) | (simp; omega) | (rw [spanCells_len]; omega) | (rw [ints_len]; omega)); rfl) | (apply P_box; rfl; rfl; rfl; rfl; exact sz_ok rfl; rfl; rfl) | (apply P_call; rfl; rfl; rfl; rfl; rfl; rfl; exact unit_ok hK hg; (rintro _ _ ⟨rfl, _⟩)) | fail))
  apply P_quo; rfl; rfl; rfl; rfl; rfl; omega
  · unfold fit; rw [hd]; omega
  rw [hd]
  (repeat' (first | (apply K_seq) | (apply K_region) | (apply O_at; rfl) | (apply O_fin; rfl) | (apply C_seq) | (apply K_ifT; rfl) | (apply K_ifF; rfl) | (apply K_skip) | (apply K_ret) | (apply C_retS) | (apply C_nil) | (apply P_move; rfl; rfl; rfl; rfl) | (apply P_assign; rfl; rfl; rfl; rfl) | (apply P_geq; rfl; rfl; rfl; rfl; rfl; all_goals intro _) | (apply P_add; rfl; rfl; rfl; rfl; rfl; (unfold fit; omega)) | (apply P_sub; rfl; rfl; rfl; rfl; rfl; (unfold fit; omega)) | (apply P_loadA; rfl; rfl; rfl; rfl; exact ag_ok rfl; (focus repeat' first | exact get_push_same | assumption); (first | exact Nat.le_of_ble_eq_true rfl | (simp; done) | (simp; omega) | (rw [spanCells_len]; omega) | (rw [ints_len]; omega)); rfl) | (apply P_box; rfl; rfl; rfl; rfl; exact sz_ok rfl; rfl; rfl) | fail))
  · rename_i h0
    have e1 : (v + unit g / 2).tdiv (unit g) = fig v g := by rw [Int.tdiv_eq_ediv_of_nonneg h0]; rfl
    apply P_quo; rfl; rfl; rfl; rfl; rfl; omega
    · unfold fit; rw [e1]; unfold fig; rcases hu with e | e | e | e <;> rw [e] at * <;> omega
    rw [e1]
    (repeat' (first | (apply K_seq) | (apply K_region) | (apply O_at; rfl) | (apply O_fin; rfl) | (apply C_seq) | (apply K_ifT; rfl) | (apply K_ifF; rfl) | (apply K_skip) | (apply K_ret) | (apply C_retS) | (apply C_nil) | (apply P_move; rfl; rfl; rfl; rfl) | (apply P_assign; rfl; rfl; rfl; rfl) | (apply P_geq; rfl; rfl; rfl; rfl; rfl; all_goals intro _) | (apply P_add; rfl; rfl; rfl; rfl; rfl; (unfold fit; omega)) | (apply P_sub; rfl; rfl; rfl; rfl; rfl; (unfold fit; omega)) | (apply P_loadA; rfl; rfl; rfl; rfl; exact ag_ok rfl; (focus repeat' first | exact get_push_same | assumption); (first | exact Nat.le_of_ble_eq_true rfl | (simp; done) | (simp; omega) | (rw [spanCells_len]; omega) | (rw [ints_len]; omega)); rfl) | (apply P_box; rfl; rfl; rfl; rfl; exact sz_ok rfl; rfl; rfl) | fail))
    exact ⟨.inr rfl, _, rfl, rfl, by (focus repeat' first | exact Ext.refl _ | assumption | apply Ext.push | (refine Ext.trans ?_ (by assumption)))⟩
  · rename_i h0
    have e1 := ref_floor hu (n := v + unit g / 2) (by omega)
    have e2 : 0 ≤ (0 - (v + unit g / 2) + unit g - 1).tdiv (unit g) ∧ (0 - (v + unit g / 2) + unit g - 1).tdiv (unit g) ≤ 2000000000000 := by
      rw [Int.tdiv_eq_ediv_of_nonneg (by omega)]
      rcases hu with e | e | e | e <;> rw [e] at * <;> omega
    apply P_neg; rfl; rfl; rfl; rfl; (unfold fit; omega)
    (repeat' (first | (apply K_seq) | (apply K_region) | (apply O_at; rfl) | (apply O_fin; rfl) | (apply C_seq) | (apply K_ifT; rfl) | (apply K_ifF; rfl) | (apply K_skip) | (apply K_ret) | (apply C_retS) | (apply C_nil) | (apply P_move; rfl; rfl; rfl; rfl) | (apply P_assign; rfl; rfl; rfl; rfl) | (apply P_geq; rfl; rfl; rfl; rfl; rfl; all_goals intro _) | (apply P_add; rfl; rfl; rfl; rfl; rfl; (unfold fit; omega)) | (apply P_sub; rfl; rfl; rfl; rfl; rfl; (unfold fit; omega)) | (apply P_loadA; rfl; rfl; rfl; rfl; exact ag_ok rfl; (focus repeat' first | exact get_push_same | assumption); (first | exact Nat.le_of_ble_eq_true rfl | (simp; done) | (simp; omega) | (rw [spanCells_len]; omega) | (rw [ints_len]; omega)); rfl) | (apply P_box; rfl; rfl; rfl; rfl; exact sz_ok rfl; rfl; rfl) | fail))
    apply P_quo; rfl; rfl; rfl; rfl; rfl; omega
    · unfold fit; omega
    (repeat' (first | (apply K_seq) | (apply K_region) | (apply O_at; rfl) | (apply O_fin; rfl) | (apply C_seq) | (apply K_ifT; rfl) | (apply K_ifF; rfl) | (apply K_skip) | (apply K_ret) | (apply C_retS) | (apply C_nil) | (apply P_move; rfl; rfl; rfl; rfl) | (apply P_assign; rfl; rfl; rfl; rfl) | (apply P_geq; rfl; rfl; rfl; rfl; rfl; all_goals intro _) | (apply P_add; rfl; rfl; rfl; rfl; rfl; (unfold fit; omega)) | (apply P_sub; rfl; rfl; rfl; rfl; rfl; (unfold fit; omega)) | (apply P_loadA; rfl; rfl; rfl; rfl; exact ag_ok rfl; (focus repeat' first | exact get_push_same | assumption); (first | exact Nat.le_of_ble_eq_true rfl | (simp; done) | (simp; omega) | (rw [spanCells_len]; omega) | (rw [ints_len]; omega)); rfl) | (apply P_box; rfl; rfl; rfl; rfl; exact sz_ok rfl; rfl; rfl) | fail))
    apply P_neg; rfl; rfl; rfl; rfl; (unfold fit; omega)
    (repeat' (first | (apply K_seq) | (apply K_region) | (apply O_at; rfl) | (apply O_fin; rfl) | (apply C_seq) | (apply K_ifT; rfl) | (apply K_ifF; rfl) | (apply K_skip) | (apply K_ret) | (apply C_retS) | (apply C_nil) | (apply P_move; rfl; rfl; rfl; rfl) | (apply P_assign; rfl; rfl; rfl; rfl) | (apply P_geq; rfl; rfl; rfl; rfl; rfl; all_goals intro _) | (apply P_add; rfl; rfl; rfl; rfl; rfl; (unfold fit; omega)) | (apply P_sub; rfl; rfl; rfl; rfl; rfl; (unfold fit; omega)) | (apply P_loadA; rfl; rfl; rfl; rfl; exact ag_ok rfl; (focus repeat' first | exact get_push_same | assumption); (first | exact Nat.le_of_ble_eq_true rfl | (simp; done) | (simp; omega) | (rw [spanCells_len]; omega) | (rw [ints_len]; omega)); rfl) | (apply P_box; rfl; rfl; rfl; rfl; exact sz_ok rfl; rfl; rfl) | fail))
    refine ⟨.inr rfl, _, rfl, ?_, by (focus repeat' first | exact Ext.refl _ | assumption | apply Ext.push | (refine Ext.trans ?_ (by assumption)))⟩
    show Value.int .i64 _ = _
    rw [e1]; rfl
end Go.AX.Sa

namespace Go.AX.Sa
open Go.Proofs
set_option maxRecDepth 100000
variable {K : Known}

theorem fill45 (a b : Int) : fillB Tryz.prog 45 [(0, .int .i64 a), (1, .int .i64 b)] = some (.agg #[.int .i64 a, .int .i64 b]) := by kernel_rfl
theorem fill82 : fillB Tryz.prog 82 [(0, .func (.func 57) #[] #[]), (1, .func (.func 58) #[] #[])] = some (.agg #[.func (.func 57) #[] #[], .func (.func 58) #[] #[]]) := by kernel_rfl
def arTab : List (Nat × Nat × Nat) := [(82, 2, 79), (83, 2, 25)]
theorem ar_ok {t : Nat} {n : Nat × Nat} (e : tgetP arTab t = some n) : Tryz.prog.underlying t = some (.array n.1 n.2) := arrOf_some (tabP_ok (f := arrOf Tryz.prog) (by kernel_rfl) e)
def c2Tab : List (Nat × Nat) := [(22, 45)]
theorem c2_ok {t n : Nat} (e : tget c2Tab t = some n) : cell2 Tryz.prog t = some n := tab_ok (f := cell2 Tryz.prog) (by kernel_rfl) e
theorem span45 : spanT Tryz.prog 45 = true := by kernel_rfl
theorem eqg45 : Tryz.prog.eqGuardType Tryz.prog.depth 45 = false := by kernel_rfl
section
variable {x : Ctx} {N : Nat} {E : Env} {h : Heap} {ops : Array Oper} {F : Env → Heap → Prop} {i : Nat} {Hs : List Heap} {L : List Heap → Prop} {nw : List (Nat × Nat × Blk)}
variable {d : Nat} {ty : TypeId} {pos : String} {af : Array Edge} {g : Option (Nat × Bool)}
theorem P_build45 {ps : Array (Nat × Operand)} {a b : Int} (hN : Nat.blt d N = true) (hg : gval ops E g = some true) (hk : opsOK Tryz.prog ⟨some d, .build 45 ps, ty, pos, af, g⟩ = true)
    (hps : E.parts ps.toList = some [(0, .int .i64 a), (1, .int .i64 b)]) (k : R1 Tryz.prog K x N ops F (i + 1) ((d, .agg #[.int .i64 a, .int .i64 b]) :: E) h) : R2 Tryz.prog K x N ops F i ⟨some d, .build 45 ps, ty, pos, af, g⟩ E h := P_build hN hg hk hps (fill45 a b) k
theorem M_build45 {ps : Array (Nat × Operand)} {a b : Int} (hN : Nat.blt d N = true) (hg : gval ops E g = some true) (hk : opsOK Tryz.prog ⟨some d, .build 45 ps, ty, pos, af, g⟩ = true)
    (hps : E.parts ps.toList = some [(0, .int .i64 a), (1, .int .i64 b)]) (k : S1 Tryz.prog K x N ops F (i + 1) ((d, .agg #[.int .i64 a, .int .i64 b]) :: E) h Hs L nw) : S2 Tryz.prog K x N ops F i ⟨some d, .build 45 ps, ty, pos, af, g⟩ E h Hs L nw := M_build hN hg hk hps (fill45 a b) k
theorem P_build82 {ps : Array (Nat × Operand)} (hN : Nat.blt d N = true) (hg : gval ops E g = some true) (hk : opsOK Tryz.prog ⟨some d, .build 82 ps, ty, pos, af, g⟩ = true)
    (hps : E.parts ps.toList = some [(0, .func (.func 57) #[] #[]), (1, .func (.func 58) #[] #[])]) (k : R1 Tryz.prog K x N ops F (i + 1) ((d, .agg #[.func (.func 57) #[] #[], .func (.func 58) #[] #[]]) :: E) h) : R2 Tryz.prog K x N ops F i ⟨some d, .build 82 ps, ty, pos, af, g⟩ E h := P_build hN hg hk hps fill82 k
theorem P_build73 {ps : Array (Nat × Operand)} {a b c : Value} {y : Option Addr} {n m : Nat} (hN : Nat.blt d N = true) (hg : gval ops E g = some true) (hk : opsOK Tryz.prog ⟨some d, .build 73 ps, ty, pos, af, g⟩ = true)
    (hps : E.parts ps.toList = some [(0, .agg #[a, b, c]), (1, .slice y n m)]) (k : R1 Tryz.prog K x N ops F (i + 1) ((d, .agg #[a, b, c, .slice y n m]) :: E) h) : R2 Tryz.prog K x N ops F i ⟨some d, .build 73 ps, ty, pos, af, g⟩ E h := P_build hN hg hk hps (fill73 a b c y n m) k
end

theorem least_ok (hK : NoK K) {a b : Int} {h : Heap} : CallW Tryz.prog K 57 #[.agg #[.int .i64 a, .int .i64 b]] h (IsV (.int .i64 a) h) := by
  refine body (N := 5) Tryz.func57 rfl (hK _ _ _ rfl) rfl rfl ?_
  (repeat' (first | (apply K_seq) | (apply K_region) | (apply O_at; rfl) | (apply O_fin; rfl) | (apply C_seq) | (apply K_ret) | (apply C_nil) | (apply P_assign; rfl; rfl; rfl; rfl) | (apply P_fa; rfl; rfl; rfl; rfl; exact fo_ok rfl; (first | exact Nat.zero_add _ | exact Nat.add_zero _ | rfl)) | (apply P_load1; rfl; rfl; rfl; rfl; exact on_ok rfl; (focus repeat' first | exact get_push_same | assumption); (first | rfl | assumption)) | (apply P_box; rfl; rfl; rfl; rfl; exact sz_ok rfl; rfl; rfl) | fail))
  exact ⟨.inr rfl, _, rfl, rfl, by (focus repeat' first | exact Ext.refl _ | assumption | apply Ext.push | (refine Ext.trans ?_ (by assumption)))⟩
theorem greatest_ok (hK : NoK K) {a b : Int} {h : Heap} : CallW Tryz.prog K 58 #[.agg #[.int .i64 a, .int .i64 b]] h (IsV (.int .i64 b) h) := by
  refine body (N := 5) Tryz.func58 rfl (hK _ _ _ rfl) rfl rfl ?_
  (repeat' (first | (apply K_seq) | (apply K_region) | (apply O_at; rfl) | (apply O_fin; rfl) | (apply C_seq) | (apply K_ret) | (apply C_nil) | (apply P_assign; rfl; rfl; rfl; rfl) | (apply P_fa; rfl; rfl; rfl; rfl; exact fo_ok rfl; (first | exact Nat.zero_add _ | exact Nat.add_zero _ | rfl)) | (apply P_load1; rfl; rfl; rfl; rfl; exact on_ok rfl; (focus repeat' first | exact get_push_same | assumption); (first | rfl | assumption)) | (apply P_box; rfl; rfl; rfl; rfl; exact sz_ok rfl; rfl; rfl) | fail))
  exact ⟨.inr rfl, _, rfl, rfl, by (focus repeat' first | exact Ext.refl _ | assumption | apply Ext.push | (refine Ext.trans ?_ (by assumption)))⟩

/-! The truths of all least, and of all greatest numbers. -/
def lows (l : List (Int × Int)) : List Int := l.map (·.1)
def highs (l : List (Int × Int)) : List Int := l.map (·.2)
theorem takeS_snoc {l : List (Int × Int)} {k : Nat} (h : k < l.length) : l.take (k + 1) = l.take k ++ [l.getD k (0, 0)] := by
  rw [List.take_succ_eq_append_getElem h]; simp [h]
theorem lows_snoc {l : List (Int × Int)} {k : Nat} (h : k < l.length) : lows (l.take (k + 1)) = lows (l.take k) ++ [(l.getD k (0, 0)).1] := by
  rw [takeS_snoc h]; simp [lows]
theorem highs_snoc {l : List (Int × Int)} {k : Nat} (h : k < l.length) : highs (l.take (k + 1)) = highs (l.take k) ++ [(l.getD k (0, 0)).2] := by
  rw [takeS_snoc h]; simp [highs]
theorem lows_len (l : List (Int × Int)) : (lows l).length = l.length := by simp [lows]
theorem highs_len (l : List (Int × Int)) : (highs l).length = l.length := by simp [highs]
theorem refLows_ok (hK : NoK K) {l : List (Int × Int)} {p : Option Addr} {cap : Nat} {rows guard : Int} {h : Heap} (hl : l.length ≤ 1000) (hr : Rd h p (spanCells l)) :
    CallW Tryz.prog K 26 #[.agg #[.slice p l.length cap, .int .i64 rows, .int .i64 guard]] h (IsL (lows l) h) := by
  refine body (N := 22) Tryz.func26 rfl (hK _ _ _ rfl) rfl rfl ?_
  (repeat' (first | (apply K_seq) | (apply K_region) | (apply O_at; rfl) | (apply O_fin; rfl) | (apply C_seq) | (apply K_ifT; rfl) | (apply K_ifF; rfl) | (apply K_block) | (apply K_skip) | (apply K_exit) | (apply K_ret) | (apply C_exit) | (apply C_exitS) | (apply C_exitL) | (apply C_blockN) | (apply C_nil) | (apply P_move; rfl; rfl; rfl; rfl) | (apply P_assign; rfl; rfl; rfl; rfl) | (apply P_fa; rfl; rfl; rfl; rfl; exact fo_ok rfl; (first | exact Nat.zero_add _ | exact Nat.add_zero _ | rfl)) | (apply P_len; rfl; rfl; rfl; rfl; rfl; rfl; exact un_ok rfl) | (apply P_lss; rfl; rfl; rfl; rfl; rfl; all_goals intro _) | (apply P_add; rfl; rfl; rfl; rfl; rfl; (unfold fit; omega)) | (apply P_idxB; rfl; rfl; rfl; rfl; rfl; exact un_ok rfl; exact sz_ok rfl; (first | rfl | exact (Int.toNat_of_nonneg (by omega)).symm); omega) | (apply P_load1; rfl; rfl; rfl; rfl; exact on_ok rfl; (focus repeat' first | exact get_push_same | assumption | (apply Ext.get; assumption)); (first | exact spans_lo (by omega) | rfl | assumption)) | (apply P_build1; rfl; rfl; rfl; rfl; rfl; rfl; rfl; exact c1_ok rfl) | (apply P_appI; rfl; rfl; rfl; rfl; rfl; rfl; rfl; rfl; exact c1_ok rfl; exact un_ok rfl; (focus repeat' first | exact get_push_same | assumption | (apply Ext.get; assumption)); (apply OutI.ext; assumption; (focus repeat' first | exact Ext.refl _ | assumption | apply Ext.push | (refine Ext.trans ?_ (by assumption)))); (focus repeat' first | exact Ext.refl _ | assumption | apply Ext.push | (refine Ext.trans ?_ (by assumption))); (first | omega | (simp; omega)); (intro _ _ _ _)) | (apply P_box; rfl; rfl; rfl; rfl; exact sz_ok rfl; rfl; rfl) | fail))
  have hb1 : (h.push (.cells (Value.agg #[.slice p l.length cap, .int .i64 rows, .int .i64 guard]).cells.toList 24 true)).get? h.n = some (.cells [.slice p l.length cap, .int .i64 rows, .int .i64 guard] 24 true) := get_push_same
  have hx2 : Ext h (h.push (.cells (Value.agg #[.slice p l.length cap, .int .i64 rows, .int .i64 guard]).cells.toList 24 true)) := by (focus repeat' first | exact Ext.refl _ | assumption | apply Ext.push | (refine Ext.trans ?_ (by assumption)))
  generalize h.push (.cells (Value.agg #[.slice p l.length cap, .int .i64 rows, .int .i64 guard]).cells.toList 24 true) = h2 at hb1 hx2 ⊢
  refine K_loopE (fun (a : Nat × Value) => [(4, .int .i64 (a.1 : Nat)), (3, a.2), (1, .pointer (some ⟨h.n, 0, none⟩))])
    (fun a h' => a.1 ≤ l.length ∧ Ext h2 h' ∧ OutI 3 h2 h' a.2 (lows (l.take a.1))) (fun a => l.length - a.1) ?_ (0, .slice none 0 0) ?_ ?_
  · rintro ⟨k, o⟩ h' ⟨hk, hx, hj⟩ ih
    dsimp only at hk hj ih ⊢
    have hb : h'.get? h.n = some (.cells [.slice p l.length cap, .int .i64 rows, .int .i64 guard] 24 true) := hx.get hb1
    have hkl : (lows (l.take k)).length ≤ 1000 := by rw [lows_len, List.length_take]; omega
    by_cases hlt : k < l.length
    · obtain ⟨b, e, own, rfl, hg⟩ := hr.at (by rw [spanCells_len]; omega)
      have hg' := hx.get (hx2.get hg)
      (repeat' (first | (apply K_seq) | (apply K_region) | (apply O_at; rfl) | (apply O_fin; rfl) | (apply C_seq) | (apply K_ifT; rfl) | (apply K_ifF; rfl) | (apply K_block) | (apply K_skip) | (apply K_exit) | (apply K_ret) | (apply C_exit) | (apply C_exitS) | (apply C_exitL) | (apply C_blockN) | (apply C_nil) | (apply P_move; rfl; rfl; rfl; rfl) | (apply P_assign; rfl; rfl; rfl; rfl) | (apply P_fa; rfl; rfl; rfl; rfl; exact fo_ok rfl; (first | exact Nat.zero_add _ | exact Nat.add_zero _ | rfl)) | (apply P_len; rfl; rfl; rfl; rfl; rfl; rfl; exact un_ok rfl) | (apply P_lss; rfl; rfl; rfl; rfl; rfl; all_goals intro _) | (apply P_add; rfl; rfl; rfl; rfl; rfl; (unfold fit; omega)) | (apply P_idxB; rfl; rfl; rfl; rfl; rfl; exact un_ok rfl; exact sz_ok rfl; (first | rfl | exact (Int.toNat_of_nonneg (by omega)).symm); omega) | (apply P_load1; rfl; rfl; rfl; rfl; exact on_ok rfl; (focus repeat' first | exact get_push_same | assumption | (apply Ext.get; assumption)); (first | exact spans_lo (by omega) | rfl | assumption)) | (apply P_build1; rfl; rfl; rfl; rfl; rfl; rfl; rfl; exact c1_ok rfl) | (apply P_appI; rfl; rfl; rfl; rfl; rfl; rfl; rfl; rfl; exact c1_ok rfl; exact un_ok rfl; (focus repeat' first | exact get_push_same | assumption | (apply Ext.get; assumption)); (apply OutI.ext; assumption; (focus repeat' first | exact Ext.refl _ | assumption | apply Ext.push | (refine Ext.trans ?_ (by assumption)))); (focus repeat' first | exact Ext.refl _ | assumption | apply Ext.push | (refine Ext.trans ?_ (by assumption))); (first | omega | (simp; omega)); (intro _ _ _ _)) | (apply P_box; rfl; rfl; rfl; rfl; exact sz_ok rfl; rfl; rfl) | fail))
      · rename_i v1 h3 ho hx3
        refine C_again (ih (k + 1, v1) _ ?_ ⟨hlt, hx3, ?_⟩) ?_
        · dsimp only; omega
        · rw [lows_snoc hlt]; exact ho
        · (focus repeat' first | rfl | exact trivial | apply And.intro)
      · omega
    · (repeat' (first | (apply K_seq) | (apply K_region) | (apply O_at; rfl) | (apply O_fin; rfl) | (apply C_seq) | (apply K_ifT; rfl) | (apply K_ifF; rfl) | (apply K_block) | (apply K_skip) | (apply K_exit) | (apply K_ret) | (apply C_exit) | (apply C_exitS) | (apply C_exitL) | (apply C_blockN) | (apply C_nil) | (apply P_move; rfl; rfl; rfl; rfl) | (apply P_assign; rfl; rfl; rfl; rfl) | (apply P_fa; rfl; rfl; rfl; rfl; exact fo_ok rfl; (first | exact Nat.zero_add _ | exact Nat.add_zero _ | rfl)) | (apply P_len; rfl; rfl; rfl; rfl; rfl; rfl; exact un_ok rfl) | (apply P_lss; rfl; rfl; rfl; rfl; rfl; all_goals intro _) | (apply P_add; rfl; rfl; rfl; rfl; rfl; (unfold fit; omega)) | (apply P_idxB; rfl; rfl; rfl; rfl; rfl; exact un_ok rfl; exact sz_ok rfl; (first | rfl | exact (Int.toNat_of_nonneg (by omega)).symm); omega) | (apply P_load1; rfl; rfl; rfl; rfl; exact on_ok rfl; (focus repeat' first | exact get_push_same | assumption | (apply Ext.get; assumption)); (first | exact spans_lo (by omega) | rfl | assumption)) | (apply P_build1; rfl; rfl; rfl; rfl; rfl; rfl; rfl; exact c1_ok rfl) | (apply P_appI; rfl; rfl; rfl; rfl; rfl; rfl; rfl; rfl; exact c1_ok rfl; exact un_ok rfl; (focus repeat' first | exact get_push_same | assumption | (apply Ext.get; assumption)); (apply OutI.ext; assumption; (focus repeat' first | exact Ext.refl _ | assumption | apply Ext.push | (refine Ext.trans ?_ (by assumption)))); (focus repeat' first | exact Ext.refl _ | assumption | apply Ext.push | (refine Ext.trans ?_ (by assumption))); (first | omega | (simp; omega)); (intro _ _ _ _)) | (apply P_box; rfl; rfl; rfl; rfl; exact sz_ok rfl; rfl; rfl) | fail))
      · omega
      · refine ⟨.inr rfl, _, rfl, ?_⟩
        rw [List.take_of_length_le (by omega)] at hj
        obtain ⟨p, cap, h1, h2, h3⟩ := hj.isL hx
        exact ⟨p, cap, h1, h2, hx2.trans h3⟩
  · exact ⟨Nat.zero_le _, Ext.refl _, OutI.nil _ _ _⟩
  · (focus repeat' first | rfl | exact trivial | apply And.intro)
theorem refHighs_ok (hK : NoK K) {l : List (Int × Int)} {p : Option Addr} {cap : Nat} {rows guard : Int} {h : Heap} (hl : l.length ≤ 1000) (hr : Rd h p (spanCells l)) :
    CallW Tryz.prog K 27 #[.agg #[.slice p l.length cap, .int .i64 rows, .int .i64 guard]] h (IsL (highs l) h) := by
  refine body (N := 22) Tryz.func27 rfl (hK _ _ _ rfl) rfl rfl ?_
  (repeat' (first | (apply K_seq) | (apply K_region) | (apply O_at; rfl) | (apply O_fin; rfl) | (apply C_seq) | (apply K_ifT; rfl) | (apply K_ifF; rfl) | (apply K_block) | (apply K_skip) | (apply K_exit) | (apply K_ret) | (apply C_exit) | (apply C_exitS) | (apply C_exitL) | (apply C_blockN) | (apply C_nil) | (apply P_move; rfl; rfl; rfl; rfl) | (apply P_assign; rfl; rfl; rfl; rfl) | (apply P_fa; rfl; rfl; rfl; rfl; exact fo_ok rfl; (first | exact Nat.zero_add _ | exact Nat.add_zero _ | rfl)) | (apply P_len; rfl; rfl; rfl; rfl; rfl; rfl; exact un_ok rfl) | (apply P_lss; rfl; rfl; rfl; rfl; rfl; all_goals intro _) | (apply P_add; rfl; rfl; rfl; rfl; rfl; (unfold fit; omega)) | (apply P_idxB; rfl; rfl; rfl; rfl; rfl; exact un_ok rfl; exact sz_ok rfl; (first | rfl | exact (Int.toNat_of_nonneg (by omega)).symm); omega) | (apply P_load1; rfl; rfl; rfl; rfl; exact on_ok rfl; (focus repeat' first | exact get_push_same | assumption | (apply Ext.get; assumption)); (first | exact spans_hi (by omega) | rfl | assumption)) | (apply P_build1; rfl; rfl; rfl; rfl; rfl; rfl; rfl; exact c1_ok rfl) | (apply P_appI; rfl; rfl; rfl; rfl; rfl; rfl; rfl; rfl; exact c1_ok rfl; exact un_ok rfl; (focus repeat' first | exact get_push_same | assumption | (apply Ext.get; assumption)); (apply OutI.ext; assumption; (focus repeat' first | exact Ext.refl _ | assumption | apply Ext.push | (refine Ext.trans ?_ (by assumption)))); (focus repeat' first | exact Ext.refl _ | assumption | apply Ext.push | (refine Ext.trans ?_ (by assumption))); (first | omega | (simp; omega)); (intro _ _ _ _)) | (apply P_box; rfl; rfl; rfl; rfl; exact sz_ok rfl; rfl; rfl) | fail))
  have hb1 : (h.push (.cells (Value.agg #[.slice p l.length cap, .int .i64 rows, .int .i64 guard]).cells.toList 24 true)).get? h.n = some (.cells [.slice p l.length cap, .int .i64 rows, .int .i64 guard] 24 true) := get_push_same
  have hx2 : Ext h (h.push (.cells (Value.agg #[.slice p l.length cap, .int .i64 rows, .int .i64 guard]).cells.toList 24 true)) := by (focus repeat' first | exact Ext.refl _ | assumption | apply Ext.push | (refine Ext.trans ?_ (by assumption)))
  generalize h.push (.cells (Value.agg #[.slice p l.length cap, .int .i64 rows, .int .i64 guard]).cells.toList 24 true) = h2 at hb1 hx2 ⊢
  refine K_loopE (fun (a : Nat × Value) => [(4, .int .i64 (a.1 : Nat)), (3, a.2), (1, .pointer (some ⟨h.n, 0, none⟩))])
    (fun a h' => a.1 ≤ l.length ∧ Ext h2 h' ∧ OutI 3 h2 h' a.2 (highs (l.take a.1))) (fun a => l.length - a.1) ?_ (0, .slice none 0 0) ?_ ?_
  · rintro ⟨k, o⟩ h' ⟨hk, hx, hj⟩ ih
    dsimp only at hk hj ih ⊢
    have hb : h'.get? h.n = some (.cells [.slice p l.length cap, .int .i64 rows, .int .i64 guard] 24 true) := hx.get hb1
    have hkl : (highs (l.take k)).length ≤ 1000 := by rw [highs_len, List.length_take]; omega
    by_cases hlt : k < l.length
    · obtain ⟨b, e, own, rfl, hg⟩ := hr.at (by rw [spanCells_len]; omega)
      have hg' := hx.get (hx2.get hg)
      (repeat' (first | (apply K_seq) | (apply K_region) | (apply O_at; rfl) | (apply O_fin; rfl) | (apply C_seq) | (apply K_ifT; rfl) | (apply K_ifF; rfl) | (apply K_block) | (apply K_skip) | (apply K_exit) | (apply K_ret) | (apply C_exit) | (apply C_exitS) | (apply C_exitL) | (apply C_blockN) | (apply C_nil) | (apply P_move; rfl; rfl; rfl; rfl) | (apply P_assign; rfl; rfl; rfl; rfl) | (apply P_fa; rfl; rfl; rfl; rfl; exact fo_ok rfl; (first | exact Nat.zero_add _ | exact Nat.add_zero _ | rfl)) | (apply P_len; rfl; rfl; rfl; rfl; rfl; rfl; exact un_ok rfl) | (apply P_lss; rfl; rfl; rfl; rfl; rfl; all_goals intro _) | (apply P_add; rfl; rfl; rfl; rfl; rfl; (unfold fit; omega)) | (apply P_idxB; rfl; rfl; rfl; rfl; rfl; exact un_ok rfl; exact sz_ok rfl; (first | rfl | exact (Int.toNat_of_nonneg (by omega)).symm); omega) | (apply P_load1; rfl; rfl; rfl; rfl; exact on_ok rfl; (focus repeat' first | exact get_push_same | assumption | (apply Ext.get; assumption)); (first | exact spans_hi (by omega) | rfl | assumption)) | (apply P_build1; rfl; rfl; rfl; rfl; rfl; rfl; rfl; exact c1_ok rfl) | (apply P_appI; rfl; rfl; rfl; rfl; rfl; rfl; rfl; rfl; exact c1_ok rfl; exact un_ok rfl; (focus repeat' first | exact get_push_same | assumption | (apply Ext.get; assumption)); (apply OutI.ext; assumption; (focus repeat' first | exact Ext.refl _ | assumption | apply Ext.push | (refine Ext.trans ?_ (by assumption)))); (focus repeat' first | exact Ext.refl _ | assumption | apply Ext.push | (refine Ext.trans ?_ (by assumption))); (first | omega | (simp; omega)); (intro _ _ _ _)) | (apply P_box; rfl; rfl; rfl; rfl; exact sz_ok rfl; rfl; rfl) | fail))
      · rename_i v1 h3 ho hx3
        refine C_again (ih (k + 1, v1) _ ?_ ⟨hlt, hx3, ?_⟩) ?_
        · dsimp only; omega
        · rw [highs_snoc hlt]; exact ho
        · (focus repeat' first | rfl | exact trivial | apply And.intro)
      · omega
    · (repeat' (first | (apply K_seq) | (apply K_region) | (apply O_at; rfl) | (apply O_fin; rfl) | (apply C_seq) | (apply K_ifT; rfl) | (apply K_ifF; rfl) | (apply K_block) | (apply K_skip) | (apply K_exit) | (apply K_ret) | (apply C_exit) | (apply C_exitS) | (apply C_exitL) | (apply C_blockN) | (apply C_nil) | (apply P_move; rfl; rfl; rfl; rfl) | (apply P_assign; rfl; rfl; rfl; rfl) | (apply P_fa; rfl; rfl; rfl; rfl; exact fo_ok rfl; (first | exact Nat.zero_add _ | exact Nat.add_zero _ | rfl)) | (apply P_len; rfl; rfl; rfl; rfl; rfl; rfl; exact un_ok rfl) | (apply P_lss; rfl; rfl; rfl; rfl; rfl; all_goals intro _) | (apply P_add; rfl; rfl; rfl; rfl; rfl; (unfold fit; omega)) | (apply P_idxB; rfl; rfl; rfl; rfl; rfl; exact un_ok rfl; exact sz_ok rfl; (first | rfl | exact (Int.toNat_of_nonneg (by omega)).symm); omega) | (apply P_load1; rfl; rfl; rfl; rfl; exact on_ok rfl; (focus repeat' first | exact get_push_same | assumption | (apply Ext.get; assumption)); (first | exact spans_hi (by omega) | rfl | assumption)) | (apply P_build1; rfl; rfl; rfl; rfl; rfl; rfl; rfl; exact c1_ok rfl) | (apply P_appI; rfl; rfl; rfl; rfl; rfl; rfl; rfl; rfl; exact c1_ok rfl; exact un_ok rfl; (focus repeat' first | exact get_push_same | assumption | (apply Ext.get; assumption)); (apply OutI.ext; assumption; (focus repeat' first | exact Ext.refl _ | assumption | apply Ext.push | (refine Ext.trans ?_ (by assumption)))); (focus repeat' first | exact Ext.refl _ | assumption | apply Ext.push | (refine Ext.trans ?_ (by assumption))); (first | omega | (simp; omega)); (intro _ _ _ _)) | (apply P_box; rfl; rfl; rfl; rfl; exact sz_ok rfl; rfl; rfl) | fail))
      · omega
      · refine ⟨.inr rfl, _, rfl, ?_⟩
        rw [List.take_of_length_le (by omega)] at hj
        obtain ⟨p, cap, h1, h2, h3⟩ := hj.isL hx
        exact ⟨p, cap, h1, h2, hx2.trans h3⟩
  · exact ⟨Nat.zero_le _, Ext.refl _, OutI.nil _ _ _⟩
  · (focus repeat' first | rfl | exact trivial | apply And.intro)
end Go.AX.Sa

namespace Go.AX.Sa
open Go.Proofs
set_option maxRecDepth 100000
variable {K : Known}

theorem listS_eq {a b : List (Int × Int)} (hl : a.length = b.length) (h : ∀ j, j < a.length → a.getD j (0, 0) = b.getD j (0, 0)) : a = b := by
  apply List.ext_getElem hl
  intro j h1 h2
  have := h j h1
  simpa [List.getD_eq_getElem?_getD, h1, h2] using this
theorem sameSpans_ok (hK : NoK K) {p q : Option Addr} {cap cap' : Nat} {s t : List (Int × Int)} {h : Heap} (hl : s.length ≤ 1000) (hr : Rd h p (spanCells s)) (_ : t.length ≤ 1000) (hr' : Rd h q (spanCells t)) :
    CallW Tryz.prog K 23 #[.slice p s.length cap, .slice q t.length cap'] h (IfB (s = t) h) := by
  refine body (N := 26) Tryz.func23 rfl (hK _ _ _ rfl) rfl rfl ?_
  (repeat' (first | (apply K_seq) | (apply K_region) | (apply O_at; rfl) | (apply N_at; rfl) | (apply O_fin; rfl) | (apply C_seq) | (apply K_ifT; rfl) | (apply K_ifF; rfl) | (apply K_open; kernel_rfl) | (apply K_block) | (apply K_skip) | (apply K_exit) | (apply K_ret) | (apply N_fin; rfl; exact (.inl (Nat.le_refl 1))) | (apply N_fin; rfl; refine .inr ?_; (focus repeat' first | exact trivial | exact Keeps.nil _ _ | apply And.intro | rfl | (apply Keeps.cons; (focus repeat' first | assumption); (focus repeat' first | assumption)))) | (apply C_retS) | (apply C_retL) | (apply C_retB) | (apply C_exit) | (apply C_exitS) | (apply C_exitL) | (apply C_blockN) | (apply C_nil) | (apply P_move; rfl; rfl; rfl; rfl) | (apply P_assign; rfl; rfl; rfl; rfl) | (apply P_len; rfl; rfl; rfl; rfl; rfl; rfl; exact un_ok rfl) | (apply P_lss; rfl; rfl; rfl; rfl; rfl; all_goals intro _) | (apply P_neq; rfl; rfl; rfl; rfl; rfl; all_goals intro _) | (apply P_add; rfl; rfl; rfl; rfl; rfl; (unfold fit; omega)) | (apply M_move; rfl; rfl; rfl; rfl) | (apply M_idxB; rfl; rfl; rfl; rfl; rfl; exact un_ok rfl; exact sz_ok rfl; (first | rfl | exact (Int.toNat_of_nonneg (by omega)).symm); omega) | (apply M_loadAE; rfl; rfl; rfl; rfl; exact ag_ok rfl; decide +kernel; (focus repeat' first | assumption); (first | exact Nat.le_of_ble_eq_true rfl | (simp; done) | (simp; omega) | (rw [spanCells_len]; omega) | (rw [ints_len]; omega)); (first | exact spans_take (by omega) | rfl); (first | exact same_span _ _ | rfl | (simp [same, same.all2]; done)); (first | rfl | (simp [within]; omega))) | (apply M_neqS; rfl; rfl; rfl; rfl; rfl; exact span45; exact eqg45; all_goals intro _) | fail))
  · rename_i hne
    refine ⟨.inr rfl, _, rfl, .inr ⟨rfl, fun q => hne (by rw [q]), ?_⟩⟩
    (focus repeat' first | exact Ext.refl _ | assumption | apply Ext.push | (refine Ext.trans ?_ (by assumption)))
  rename_i heq
  have heq' : s.length = t.length := by omega
  refine K_loopE (fun k : Nat => [(5, .int .i64 (k : Nat)), (0, .slice p s.length cap), (1, .slice q t.length cap')])
    (fun k h' => k ≤ t.length ∧ h' = h ∧ ∀ j, j < k → s.getD j (0, 0) = t.getD j (0, 0)) (fun k => t.length - k) ?_ 0 ?_ ?_
  · intro k h' ⟨hk, hx, hj⟩ ih
    subst hx
    by_cases hlt : k < t.length
    · obtain ⟨b, e, own, rfl, hg⟩ := hr.at (by rw [spanCells_len]; omega)
      obtain ⟨b', e', own', rfl, hg'⟩ := hr'.at (by rw [spanCells_len]; omega)
      have hlt' : k < s.length := by omega
      (repeat' (first | (apply K_seq) | (apply K_region) | (apply O_at; rfl) | (apply N_at; rfl) | (apply O_fin; rfl) | (apply C_seq) | (apply K_ifT; rfl) | (apply K_ifF; rfl) | (apply K_open; kernel_rfl) | (apply K_block) | (apply K_skip) | (apply K_exit) | (apply K_ret) | (apply N_fin; rfl; exact (.inl (Nat.le_refl 1))) | (apply N_fin; rfl; refine .inr ?_; (focus repeat' first | exact trivial | exact Keeps.nil _ _ | apply And.intro | rfl | (apply Keeps.cons; (focus repeat' first | assumption); (focus repeat' first | assumption)))) | (apply C_retS) | (apply C_retL) | (apply C_retB) | (apply C_exit) | (apply C_exitS) | (apply C_exitL) | (apply C_blockN) | (apply C_nil) | (apply P_move; rfl; rfl; rfl; rfl) | (apply P_assign; rfl; rfl; rfl; rfl) | (apply P_len; rfl; rfl; rfl; rfl; rfl; rfl; exact un_ok rfl) | (apply P_lss; rfl; rfl; rfl; rfl; rfl; all_goals intro _) | (apply P_neq; rfl; rfl; rfl; rfl; rfl; all_goals intro _) | (apply P_add; rfl; rfl; rfl; rfl; rfl; (unfold fit; omega)) | (apply M_move; rfl; rfl; rfl; rfl) | (apply M_idxB; rfl; rfl; rfl; rfl; rfl; exact un_ok rfl; exact sz_ok rfl; (first | rfl | exact (Int.toNat_of_nonneg (by omega)).symm); omega) | (apply M_loadAE; rfl; rfl; rfl; rfl; exact ag_ok rfl; decide +kernel; (focus repeat' first | assumption); (first | exact Nat.le_of_ble_eq_true rfl | (simp; done) | (simp; omega) | (rw [spanCells_len]; omega) | (rw [ints_len]; omega)); (first | exact spans_take (by omega) | rfl); (first | exact same_span _ _ | rfl | (simp [same, same.all2]; done)); (first | rfl | (simp [within]; omega))) | (apply M_neqS; rfl; rfl; rfl; rfl; rfl; exact span45; exact eqg45; all_goals intro _) | fail))
      · rename_i hns
        refine ⟨.inr rfl, _, rfl, .inr ⟨rfl, fun q => hns (by rw [q]), ?_⟩⟩
        (focus repeat' first | exact Ext.refl _ | assumption | apply Ext.push | (refine Ext.trans ?_ (by assumption)))
      · rename_i hns
        refine C_again (ih (k + 1) _ ?_ ⟨hlt, rfl, fun j hj' => ?_⟩) ?_
        · omega
        · by_cases hjk : j = k
          · subst hjk; exact hns
          · exact hj j (by omega)
        · (focus repeat' first | rfl | exact trivial | apply And.intro)
      · omega
    · (repeat' (first | (apply K_seq) | (apply K_region) | (apply O_at; rfl) | (apply N_at; rfl) | (apply O_fin; rfl) | (apply C_seq) | (apply K_ifT; rfl) | (apply K_ifF; rfl) | (apply K_open; kernel_rfl) | (apply K_block) | (apply K_skip) | (apply K_exit) | (apply K_ret) | (apply N_fin; rfl; exact (.inl (Nat.le_refl 1))) | (apply N_fin; rfl; refine .inr ?_; (focus repeat' first | exact trivial | exact Keeps.nil _ _ | apply And.intro | rfl | (apply Keeps.cons; (focus repeat' first | assumption); (focus repeat' first | assumption)))) | (apply C_retS) | (apply C_retL) | (apply C_retB) | (apply C_exit) | (apply C_exitS) | (apply C_exitL) | (apply C_blockN) | (apply C_nil) | (apply P_move; rfl; rfl; rfl; rfl) | (apply P_assign; rfl; rfl; rfl; rfl) | (apply P_len; rfl; rfl; rfl; rfl; rfl; rfl; exact un_ok rfl) | (apply P_lss; rfl; rfl; rfl; rfl; rfl; all_goals intro _) | (apply P_neq; rfl; rfl; rfl; rfl; rfl; all_goals intro _) | (apply P_add; rfl; rfl; rfl; rfl; rfl; (unfold fit; omega)) | (apply M_move; rfl; rfl; rfl; rfl) | (apply M_idxB; rfl; rfl; rfl; rfl; rfl; exact un_ok rfl; exact sz_ok rfl; (first | rfl | exact (Int.toNat_of_nonneg (by omega)).symm); omega) | (apply M_loadAE; rfl; rfl; rfl; rfl; exact ag_ok rfl; decide +kernel; (focus repeat' first | assumption); (first | exact Nat.le_of_ble_eq_true rfl | (simp; done) | (simp; omega) | (rw [spanCells_len]; omega) | (rw [ints_len]; omega)); (first | exact spans_take (by omega) | rfl); (first | exact same_span _ _ | rfl | (simp [same, same.all2]; done)); (first | rfl | (simp [within]; omega))) | (apply M_neqS; rfl; rfl; rfl; rfl; rfl; exact span45; exact eqg45; all_goals intro _) | fail))
      · omega
      · refine ⟨.inr rfl, _, rfl, .inl ⟨rfl, listS_eq heq' fun j hj' => hj j (by omega), ?_⟩⟩
        (focus repeat' first | exact Ext.refl _ | assumption | apply Ext.push | (refine Ext.trans ?_ (by assumption)))
  · exact ⟨Nat.zero_le _, rfl, fun j hj => by omega⟩
  · (focus repeat' first | rfl | exact trivial | apply And.intro)

/-! The bounds of all rows. -/
def rowsL (l : List (Int × Int)) (R : Nat) : List (Int × Int) := (List.range R).map fun r => (w64 (sumC (lows l) r 0), w64 (sumC (highs l) r 0))
theorem rowsL_succ (l : List (Int × Int)) (R : Nat) : rowsL l (R + 1) = rowsL l R ++ [(w64 (sumC (lows l) R 0), w64 (sumC (highs l) R 0))] := by simp [rowsL, List.range_succ]
theorem rowsL_len (l : List (Int × Int)) (R : Nat) : (rowsL l R).length = R := by simp [rowsL]
theorem rowsL_get {l : List (Int × Int)} {R j : Nat} (h : j < R) : (rowsL l R).getD j (0, 0) = (w64 (sumC (lows l) j 0), w64 (sumC (highs l) j 0)) := by
  simp [rowsL, List.getD_eq_getElem?_getD, h]
theorem refRows_ok (hK : NoK K) {l : List (Int × Int)} {p : Option Addr} {cap R : Nat} {guard : Int} {h : Heap} (hp : 0 < l.length) (hl : l.length ≤ 4) (hr : Rd h p (spanCells l)) (hR : R < 13) :
    CallW Tryz.prog K 24 #[.agg #[.slice p l.length cap, .int .i64 (R : Nat), .int .i64 guard]] h (IsS (rowsL l R) h) := by
  refine body (N := 34) Tryz.func24 rfl (hK _ _ _ rfl) rfl rfl ?_
  have hl1 : l.length ≤ 1000 := by omega
  obtain ⟨b, e, own, rfl, hg⟩ := hr.at (by rw [spanCells_len]; omega)
  have hl4 : (lows l).length ≤ 4 := by rw [lows_len]; exact hl
  have hh4 : (highs l).length ≤ 4 := by rw [highs_len]; exact hl
  (repeat' (first | (apply K_seq) | (apply K_region) | (apply O_at; rfl) | (apply N_at; rfl) | (apply O_fin; rfl) | (apply C_seq) | (apply K_ifT; rfl) | (apply K_ifF; rfl) | (apply K_open; kernel_rfl) | (apply K_block) | (apply K_skip) | (apply K_exit) | (apply K_ret) | (apply N_fin; rfl; exact (.inl (Nat.le_refl 1))) | (apply N_fin; rfl; refine .inr ?_; (focus repeat' first | exact trivial | exact Keeps.nil _ _ | apply And.intro | rfl | (apply Keeps.cons; (focus repeat' first | exact get_push_same | assumption | apply get_push_old | (apply Ext.get; assumption)); (focus repeat' first | exact get_push_same | assumption | apply get_push_old | (apply Ext.get; assumption))))) | (apply C_exit) | (apply C_exitS) | (apply C_exitL) | (apply C_blockN) | (apply C_nil) | (apply P_move; rfl; rfl; rfl; rfl) | (apply P_assign; rfl; rfl; rfl; rfl) | (apply P_fa; rfl; rfl; rfl; rfl; exact fo_ok rfl; (first | exact Nat.zero_add _ | exact Nat.add_zero _ | rfl)) | (apply P_lss; rfl; rfl; rfl; rfl; rfl; all_goals intro _) | (apply P_add; rfl; rfl; rfl; rfl; rfl; (unfold fit; omega)) | (apply P_load1; rfl; rfl; rfl; rfl; exact on_ok rfl; (focus repeat' first | exact get_push_same | assumption | apply get_push_old | (apply Ext.get; assumption)); (first | exact ints_get (by omega) | rfl | assumption)) | (apply P_box; rfl; rfl; rfl; rfl; exact sz_ok rfl; rfl; rfl) | (apply M_move; rfl; rfl; rfl; rfl) | (apply M_assign; rfl; rfl; rfl; rfl) | (apply M_idxA; rfl; rfl; rfl; rfl; rfl; exact un_ok rfl; exact sz_ok rfl; (first | rfl | exact (Int.toNat_of_nonneg (by omega)).symm); omega) | (apply M_load1E; rfl; rfl; rfl; rfl; exact on_ok rfl; decide +kernel; (focus repeat' first | exact get_push_same | assumption | apply get_push_old | (apply Ext.get; assumption)); (first | exact ints_get (by omega) | rfl | assumption); (first | exact same_int _ _ | exact same_plan _ _ _ _ _ | rfl | (simp [same, same.all2]; done)); (first | rfl | (focus apply within_plan; (focus repeat' first | exact get_push_same | assumption | apply get_push_old | (apply Ext.get; assumption)); done) | (simp [within]; omega))) | (apply M_loadAE; rfl; rfl; rfl; rfl; exact ag_ok rfl; decide +kernel; (focus repeat' first | exact get_push_same | assumption | apply get_push_old | (apply Ext.get; assumption)); (first | exact Nat.le_of_ble_eq_true rfl | (simp; done) | (simp; omega) | (rw [spanCells_len]; omega) | (rw [ints_len]; omega)); rfl; (first | exact same_int _ _ | exact same_plan _ _ _ _ _ | rfl | (simp [same, same.all2]; done)); (first | rfl | (focus apply within_plan; (focus repeat' first | exact get_push_same | assumption | apply get_push_old | (apply Ext.get; assumption)); done) | (simp [within]; omega))) | (apply M_loadAH; rfl; rfl; rfl; rfl; exact ag_ok rfl; decide +kernel; (focus repeat' first | exact get_push_same | assumption | apply get_push_old | (apply Ext.get; assumption)); (first | exact Nat.le_of_ble_eq_true rfl | (simp; done) | (simp; omega) | (rw [spanCells_len]; omega) | (rw [ints_len]; omega)); rfl; (first | exact same_int _ _ | exact same_plan _ _ _ _ _ | rfl | (simp [same, same.all2]; done)); (first | rfl | (focus apply within_plan; (focus repeat' first | exact get_push_same | assumption | apply get_push_old | (apply Ext.get; assumption)); done) | (simp [within]; omega))) | (apply M_loadA; rfl; rfl; rfl; rfl; exact ag_ok rfl; (focus repeat' first | exact get_push_same | assumption | apply get_push_old | (apply Ext.get; assumption)); (first | exact Nat.le_of_ble_eq_true rfl | (simp; done) | (simp; omega) | (rw [spanCells_len]; omega) | (rw [ints_len]; omega)); rfl; (first | exact same_int _ _ | exact same_plan _ _ _ _ _ | rfl | (simp [same, same.all2]; done)); (first | rfl | (focus apply within_plan; (focus repeat' first | exact get_push_same | assumption | apply get_push_old | (apply Ext.get; assumption)); done) | (simp [within]; omega))) | (apply M_build45; rfl; rfl; rfl; rfl) | (apply M_build1S; rfl; rfl; rfl; rfl; rfl; exact c2_ok rfl) | (apply M_appS; rfl; rfl; rfl; rfl; rfl; rfl; rfl; rfl; exact c2_ok rfl; exact un_ok rfl; (focus repeat' first | exact get_push_same | assumption | apply get_push_old | (apply Ext.get; assumption)); (apply OutS.ext; assumption; (focus repeat' first | exact Ext.refl _ | assumption | apply Ext.push | (refine Ext.trans ?_ (by assumption)))); (focus repeat' first | exact Ext.refl _ | assumption | apply Ext.push | (refine Ext.trans ?_ (by assumption))); (first | omega | (simp; omega)); rfl; (intro _ _ _ _)) | (apply M_call; rfl; rfl; rfl; rfl; rfl; rfl; rfl; exact refLows_ok hK hl1 (hr.ext (by (focus repeat' first | exact Ext.refl _ | assumption | apply Ext.push | (refine Ext.trans ?_ (by assumption))))); (rintro _ _ ⟨_, _, rfl, _, _⟩)) | (apply M_call; rfl; rfl; rfl; rfl; rfl; rfl; rfl; exact refHighs_ok hK hl1 (hr.ext (by (focus repeat' first | exact Ext.refl _ | assumption | apply Ext.push | (refine Ext.trans ?_ (by assumption))))); (rintro _ _ ⟨_, _, rfl, _, _⟩)) | (apply M_call; rfl; rfl; rfl; rfl; rfl; rfl; rfl; exact refTable_ok hK hl4 (Rd.ext (by assumption) (by (focus repeat' first | exact Ext.refl _ | assumption | apply Ext.push | (refine Ext.trans ?_ (by assumption))))) hR; (rintro _ _ ⟨_, _, rfl, _, _⟩)) | (apply M_call; rfl; rfl; rfl; rfl; rfl; rfl; rfl; exact refTable_ok hK hh4 (Rd.ext (by assumption) (by (focus repeat' first | exact Ext.refl _ | assumption | apply Ext.push | (refine Ext.trans ?_ (by assumption))))) hR; (rintro _ _ ⟨_, _, rfl, _, _⟩)) | fail))
  rename_i h3 pl cl rl xl h4 p1 c1 r1 x1 h5 ph ch rh xh h6 p2 c2 r2 x2
  have k1 := tabL_len (lows l) R
  have k2 := tabL_len (highs l) R
  have hb1 : h6.get? h.n = some (.cells [.slice (some ⟨b, 0, none⟩) l.length cap, .int .i64 (R : Nat), .int .i64 guard] 24 true) := x2.get (xh.get (x1.get (xl.get get_push_same)))
  have r1' : Rd h6 p1 (ints (tabL (lows l) R)) := r1.ext (by (focus repeat' first | exact Ext.refl _ | assumption | apply Ext.push | (refine Ext.trans ?_ (by assumption))))
  have hx2 : Ext h h6 := by (focus repeat' first | exact Ext.refl _ | assumption | apply Ext.push | (refine Ext.trans ?_ (by assumption)))
  clear hr xl x1 xh x2 rl r1 rh
  refine K_loopE (fun (a : Nat × Value) => [(6, .int .i64 (a.1 : Nat)), (5, a.2), (4, .slice p2 (tabL (highs l) R).length c2), (3, .slice p1 (tabL (lows l) R).length c1), (1, .pointer (some ⟨h.n, 0, none⟩))])
    (fun a h' => a.1 ≤ R ∧ Ext h6 h' ∧ OutS 45 h6 h' a.2 (rowsL l a.1)) (fun a => R - a.1) ?_ (0, .slice none 0 0) ?_ ?_
  · rintro ⟨k, o⟩ h' ⟨hk, hx, hj⟩ ih
    dsimp only at hk hj ih ⊢
    have hb : h'.get? h.n = some (.cells [.slice (some ⟨b, 0, none⟩) l.length cap, .int .i64 (R : Nat), .int .i64 guard] 24 true) := hx.get hb1
    have hkl : (rowsL l k).length ≤ 1000 := by rw [rowsL_len]; omega
    by_cases hlt : k < R
    · obtain ⟨b1, e1, own1, rfl, hg1⟩ := r1'.at (by rw [ints_len]; omega)
      obtain ⟨b2, e2, own2, rfl, hg2⟩ := r2.at (by rw [ints_len]; omega)
      have hg1' := hx.get hg1
      have hg2' := hx.get hg2
      (repeat' (first | (apply K_seq) | (apply K_region) | (apply O_at; rfl) | (apply N_at; rfl) | (apply O_fin; rfl) | (apply C_seq) | (apply K_ifT; rfl) | (apply K_ifF; rfl) | (apply K_open; kernel_rfl) | (apply K_block) | (apply K_skip) | (apply K_exit) | (apply K_ret) | (apply N_fin; rfl; exact (.inl (Nat.le_refl 1))) | (apply N_fin; rfl; refine .inr ?_; (focus repeat' first | exact trivial | exact Keeps.nil _ _ | apply And.intro | rfl | (apply Keeps.cons; (focus repeat' first | exact get_push_same | assumption | apply get_push_old | (apply Ext.get; assumption)); (focus repeat' first | exact get_push_same | assumption | apply get_push_old | (apply Ext.get; assumption))))) | (apply C_exit) | (apply C_exitS) | (apply C_exitL) | (apply C_blockN) | (apply C_nil) | (apply P_move; rfl; rfl; rfl; rfl) | (apply P_assign; rfl; rfl; rfl; rfl) | (apply P_fa; rfl; rfl; rfl; rfl; exact fo_ok rfl; (first | exact Nat.zero_add _ | exact Nat.add_zero _ | rfl)) | (apply P_lss; rfl; rfl; rfl; rfl; rfl; all_goals intro _) | (apply P_add; rfl; rfl; rfl; rfl; rfl; (unfold fit; omega)) | (apply P_load1; rfl; rfl; rfl; rfl; exact on_ok rfl; (focus repeat' first | exact get_push_same | assumption | apply get_push_old | (apply Ext.get; assumption)); (first | exact ints_get (by omega) | rfl | assumption)) | (apply P_box; rfl; rfl; rfl; rfl; exact sz_ok rfl; rfl; rfl) | (apply M_move; rfl; rfl; rfl; rfl) | (apply M_assign; rfl; rfl; rfl; rfl) | (apply M_idxA; rfl; rfl; rfl; rfl; rfl; exact un_ok rfl; exact sz_ok rfl; (first | rfl | exact (Int.toNat_of_nonneg (by omega)).symm); omega) | (apply M_load1E; rfl; rfl; rfl; rfl; exact on_ok rfl; decide +kernel; (focus repeat' first | exact get_push_same | assumption | apply get_push_old | (apply Ext.get; assumption)); (first | exact ints_get (by omega) | rfl | assumption); (first | exact same_int _ _ | exact same_plan _ _ _ _ _ | rfl | (simp [same, same.all2]; done)); (first | rfl | (focus apply within_plan; (focus repeat' first | exact get_push_same | assumption | apply get_push_old | (apply Ext.get; assumption)); done) | (simp [within]; omega))) | (apply M_loadAE; rfl; rfl; rfl; rfl; exact ag_ok rfl; decide +kernel; (focus repeat' first | exact get_push_same | assumption | apply get_push_old | (apply Ext.get; assumption)); (first | exact Nat.le_of_ble_eq_true rfl | (simp; done) | (simp; omega) | (rw [spanCells_len]; omega) | (rw [ints_len]; omega)); rfl; (first | exact same_int _ _ | exact same_plan _ _ _ _ _ | rfl | (simp [same, same.all2]; done)); (first | rfl | (focus apply within_plan; (focus repeat' first | exact get_push_same | assumption | apply get_push_old | (apply Ext.get; assumption)); done) | (simp [within]; omega))) | (apply M_loadAH; rfl; rfl; rfl; rfl; exact ag_ok rfl; decide +kernel; (focus repeat' first | exact get_push_same | assumption | apply get_push_old | (apply Ext.get; assumption)); (first | exact Nat.le_of_ble_eq_true rfl | (simp; done) | (simp; omega) | (rw [spanCells_len]; omega) | (rw [ints_len]; omega)); rfl; (first | exact same_int _ _ | exact same_plan _ _ _ _ _ | rfl | (simp [same, same.all2]; done)); (first | rfl | (focus apply within_plan; (focus repeat' first | exact get_push_same | assumption | apply get_push_old | (apply Ext.get; assumption)); done) | (simp [within]; omega))) | (apply M_loadA; rfl; rfl; rfl; rfl; exact ag_ok rfl; (focus repeat' first | exact get_push_same | assumption | apply get_push_old | (apply Ext.get; assumption)); (first | exact Nat.le_of_ble_eq_true rfl | (simp; done) | (simp; omega) | (rw [spanCells_len]; omega) | (rw [ints_len]; omega)); rfl; (first | exact same_int _ _ | exact same_plan _ _ _ _ _ | rfl | (simp [same, same.all2]; done)); (first | rfl | (focus apply within_plan; (focus repeat' first | exact get_push_same | assumption | apply get_push_old | (apply Ext.get; assumption)); done) | (simp [within]; omega))) | (apply M_build45; rfl; rfl; rfl; rfl) | (apply M_build1S; rfl; rfl; rfl; rfl; rfl; exact c2_ok rfl) | (apply M_appS; rfl; rfl; rfl; rfl; rfl; rfl; rfl; rfl; exact c2_ok rfl; exact un_ok rfl; (focus repeat' first | exact get_push_same | assumption | apply get_push_old | (apply Ext.get; assumption)); (apply OutS.ext; assumption; (focus repeat' first | exact Ext.refl _ | assumption | apply Ext.push | (refine Ext.trans ?_ (by assumption)))); (focus repeat' first | exact Ext.refl _ | assumption | apply Ext.push | (refine Ext.trans ?_ (by assumption))); (first | omega | (simp; omega)); rfl; (intro _ _ _ _)) | fail))
      · rename_i v1 h3 ho hx3
        refine C_again (ih (k + 1, v1) _ ?_ ⟨hlt, hx3, ?_⟩) ?_
        · dsimp only; omega
        · rw [rowsL_succ, ← tabL_get hlt, ← tabL_get hlt]; exact ho
        · (focus repeat' first | rfl | exact trivial | apply And.intro)
      · omega
    · (repeat' (first | (apply K_seq) | (apply K_region) | (apply O_at; rfl) | (apply N_at; rfl) | (apply O_fin; rfl) | (apply C_seq) | (apply K_ifT; rfl) | (apply K_ifF; rfl) | (apply K_open; kernel_rfl) | (apply K_block) | (apply K_skip) | (apply K_exit) | (apply K_ret) | (apply N_fin; rfl; exact (.inl (Nat.le_refl 1))) | (apply N_fin; rfl; refine .inr ?_; (focus repeat' first | exact trivial | exact Keeps.nil _ _ | apply And.intro | rfl | (apply Keeps.cons; (focus repeat' first | exact get_push_same | assumption | apply get_push_old | (apply Ext.get; assumption)); (focus repeat' first | exact get_push_same | assumption | apply get_push_old | (apply Ext.get; assumption))))) | (apply C_exit) | (apply C_exitS) | (apply C_exitL) | (apply C_blockN) | (apply C_nil) | (apply P_move; rfl; rfl; rfl; rfl) | (apply P_assign; rfl; rfl; rfl; rfl) | (apply P_fa; rfl; rfl; rfl; rfl; exact fo_ok rfl; (first | exact Nat.zero_add _ | exact Nat.add_zero _ | rfl)) | (apply P_lss; rfl; rfl; rfl; rfl; rfl; all_goals intro _) | (apply P_add; rfl; rfl; rfl; rfl; rfl; (unfold fit; omega)) | (apply P_load1; rfl; rfl; rfl; rfl; exact on_ok rfl; (focus repeat' first | exact get_push_same | assumption | apply get_push_old | (apply Ext.get; assumption)); (first | exact ints_get (by omega) | rfl | assumption)) | (apply P_box; rfl; rfl; rfl; rfl; exact sz_ok rfl; rfl; rfl) | (apply M_move; rfl; rfl; rfl; rfl) | (apply M_assign; rfl; rfl; rfl; rfl) | (apply M_idxA; rfl; rfl; rfl; rfl; rfl; exact un_ok rfl; exact sz_ok rfl; (first | rfl | exact (Int.toNat_of_nonneg (by omega)).symm); omega) | (apply M_load1E; rfl; rfl; rfl; rfl; exact on_ok rfl; decide +kernel; (focus repeat' first | exact get_push_same | assumption | apply get_push_old | (apply Ext.get; assumption)); (first | exact ints_get (by omega) | rfl | assumption); (first | exact same_int _ _ | exact same_plan _ _ _ _ _ | rfl | (simp [same, same.all2]; done)); (first | rfl | (focus apply within_plan; (focus repeat' first | exact get_push_same | assumption | apply get_push_old | (apply Ext.get; assumption)); done) | (simp [within]; omega))) | (apply M_loadAE; rfl; rfl; rfl; rfl; exact ag_ok rfl; decide +kernel; (focus repeat' first | exact get_push_same | assumption | apply get_push_old | (apply Ext.get; assumption)); (first | exact Nat.le_of_ble_eq_true rfl | (simp; done) | (simp; omega) | (rw [spanCells_len]; omega) | (rw [ints_len]; omega)); rfl; (first | exact same_int _ _ | exact same_plan _ _ _ _ _ | rfl | (simp [same, same.all2]; done)); (first | rfl | (focus apply within_plan; (focus repeat' first | exact get_push_same | assumption | apply get_push_old | (apply Ext.get; assumption)); done) | (simp [within]; omega))) | (apply M_loadAH; rfl; rfl; rfl; rfl; exact ag_ok rfl; decide +kernel; (focus repeat' first | exact get_push_same | assumption | apply get_push_old | (apply Ext.get; assumption)); (first | exact Nat.le_of_ble_eq_true rfl | (simp; done) | (simp; omega) | (rw [spanCells_len]; omega) | (rw [ints_len]; omega)); rfl; (first | exact same_int _ _ | exact same_plan _ _ _ _ _ | rfl | (simp [same, same.all2]; done)); (first | rfl | (focus apply within_plan; (focus repeat' first | exact get_push_same | assumption | apply get_push_old | (apply Ext.get; assumption)); done) | (simp [within]; omega))) | (apply M_loadA; rfl; rfl; rfl; rfl; exact ag_ok rfl; (focus repeat' first | exact get_push_same | assumption | apply get_push_old | (apply Ext.get; assumption)); (first | exact Nat.le_of_ble_eq_true rfl | (simp; done) | (simp; omega) | (rw [spanCells_len]; omega) | (rw [ints_len]; omega)); rfl; (first | exact same_int _ _ | exact same_plan _ _ _ _ _ | rfl | (simp [same, same.all2]; done)); (first | rfl | (focus apply within_plan; (focus repeat' first | exact get_push_same | assumption | apply get_push_old | (apply Ext.get; assumption)); done) | (simp [within]; omega))) | (apply M_build45; rfl; rfl; rfl; rfl) | (apply M_build1S; rfl; rfl; rfl; rfl; rfl; exact c2_ok rfl) | (apply M_appS; rfl; rfl; rfl; rfl; rfl; rfl; rfl; rfl; exact c2_ok rfl; exact un_ok rfl; (focus repeat' first | exact get_push_same | assumption | apply get_push_old | (apply Ext.get; assumption)); (apply OutS.ext; assumption; (focus repeat' first | exact Ext.refl _ | assumption | apply Ext.push | (refine Ext.trans ?_ (by assumption)))); (focus repeat' first | exact Ext.refl _ | assumption | apply Ext.push | (refine Ext.trans ?_ (by assumption))); (first | omega | (simp; omega)); rfl; (intro _ _ _ _)) | fail))
      · omega
      · refine ⟨.inr rfl, _, rfl, ?_⟩
        obtain rfl : k = R := by omega
        exact hj.isS hx hx2
  · exact ⟨Nat.zero_le _, Ext.refl _, OutS.nil _ _ _⟩
  · (focus repeat' first | rfl | exact trivial | apply And.intro)
end Go.AX.Sa

namespace Go.AX.Sa
open Go.Proofs
set_option maxRecDepth 100000
variable {K : Known}

theorem lows_get (l : List (Int × Int)) (j : Nat) : (lows l).getD j 0 = (l.getD j (0, 0)).1 := by
  simp only [lows, List.getD_eq_getElem?_getD, List.getElem?_map]
  cases l[j]? <;> rfl
theorem highs_get (l : List (Int × Int)) (j : Nat) : (highs l).getD j 0 = (l.getD j (0, 0)).2 := by
  simp only [highs, List.getD_eq_getElem?_getD, List.getElem?_map]
  cases l[j]? <;> rfl
theorem lows_truth {l : List (Int × Int)} (hA : AllStarts l) : TruthP l (lows l) :=
  ⟨lows_len l, fun j hj => by rw [lows_len] at hj; rw [lows_get]; have := hA j hj; unfold StartP at this; omega⟩
theorem highs_truth {l : List (Int × Int)} (hA : AllStarts l) : TruthP l (highs l) :=
  ⟨highs_len l, fun j hj => by rw [highs_len] at hj; rw [highs_get]; have := hA j hj; unfold StartP at this; omega⟩
theorem truth_bd {l : List (Int × Int)} {t : List Int} (hA : AllStarts l) (hT : TruthP l t) (j : Nat) (hj : j < t.length) : -99999 ≤ t.getD j 0 ∧ t.getD j 0 ≤ 99999 := by
  have h1 := hT.2 j hj
  have h2 := hA j (by rw [← hT.1]; exact hj)
  unfold StartP at h2
  omega
theorem val_bd {l : List (Int × Int)} {t : List Int} {r : Nat} (hA : AllStarts l) (hl : l.length ≤ 4) (hT : TruthP l t) (hr : r < 12) : -23199768 ≤ sumC t r 0 ∧ sumC t r 0 ≤ 23199768 :=
  sumC_bd (by rw [hT.1]; exact hl) hr (truth_bd hA hT)
theorem val_w64 {l : List (Int × Int)} {t : List Int} {r : Nat} (hA : AllStarts l) (hl : l.length ≤ 4) (hT : TruthP l t) (hr : r < 12) : w64 (sumC t r 0) = sumC t r 0 :=
  w64_small (by have := val_bd hA hl hT hr; omega)
theorem rows_bd {l : List (Int × Int)} {R k : Nat} (hA : AllStarts l) (hl : l.length ≤ 4) (hR : R ≤ 12) (hk : k < R) : -1000000000000 ≤ ((rowsL l R).getD k (0, 0)).1 ∧ ((rowsL l R).getD k (0, 0)).1 ≤ 1000000000000 ∧ -1000000000000 ≤ ((rowsL l R).getD k (0, 0)).2 ∧ ((rowsL l R).getD k (0, 0)).2 ≤ 1000000000000 := by
  rw [rowsL_get hk, val_w64 hA hl (lows_truth hA) (by omega), val_w64 hA hl (highs_truth hA) (by omega)]
  have a := val_bd (r := k) hA hl (lows_truth hA) (by omega)
  have b := val_bd (r := k) hA hl (highs_truth hA) (by omega)
  dsimp only
  omega

/-! The bounds of all printed figures. -/
def figS (g : Nat) (p : Int × Int) : Int × Int := (fig p.1 g, fig p.2 g)
def printL (l : List (Int × Int)) (R g : Nat) : List (Int × Int) := (rowsL l R).map (figS g)
theorem printL_len (l : List (Int × Int)) (R g : Nat) : (printL l R g).length = R := by simp [printL, rowsL_len]
theorem printL_get {l : List (Int × Int)} {R g j : Nat} (h : j < R) : (printL l R g).getD j (0, 0) = figS g ((rowsL l R).getD j (0, 0)) := by
  have h2 : j < (rowsL l R).length := by rw [rowsL_len]; exact h
  simp [printL, List.getD_eq_getElem?_getD, h2]
theorem getD_setS {l : List (Int × Int)} {k j : Nat} {n : Int × Int} (h : k < l.length) : (l.set k n).getD j (0, 0) = if j = k then n else l.getD j (0, 0) := by
  simp only [List.getD_eq_getElem?_getD, List.getElem?_set]
  by_cases hj : k = j
  · subst hj; simp [h]
  · rw [if_neg hj, if_neg (fun q => hj q.symm)]
theorem refPrinted_ok (hK : NoK K) {l : List (Int × Int)} {p : Option Addr} {cap R g : Nat} {h : Heap} (hl1 : l.length ≤ 1000) (hr : Rd h p (spanCells l)) (hP : PlanP l (R : Nat) (g : Nat)) :
    CallW Tryz.prog K 25 #[.agg #[.slice p l.length cap, .int .i64 (R : Nat), .int .i64 (g : Nat)]] h (IsS (printL l R g) h) := by
  refine body (N := 32) Tryz.func25 rfl (hK _ _ _ rfl) rfl rfl ?_
  have hp : 0 < l.length := by have := hP.1; omega
  have hl : l.length ≤ 4 := by have := hP.1; omega
  have hR : R < 13 := by have := hP.2.2.1; omega
  have hR0 : 0 < R := by have := hP.2.2.1; omega
  have hg3 : g ≤ 3 := by have := hP.2.2.2; omega
  obtain ⟨b, e, own, rfl, hg⟩ := hr.at (by rw [spanCells_len]; omega)
  (repeat' (first | (apply K_seq) | (apply K_region) | (apply O_at; rfl) | (apply N_at; rfl) | (apply O_fin; rfl) | (apply C_seq) | (apply K_ifT; rfl) | (apply K_ifF; rfl) | (apply K_open; kernel_rfl) | (apply K_block) | (apply K_skip) | (apply K_exit) | (apply K_ret) | (apply N_fin; rfl; exact (.inl (Nat.le_refl 1))) | (apply N_fin; rfl; refine .inr ?_; (focus repeat' first | exact trivial | exact Keeps.nil _ _ | apply And.intro | rfl | (apply Keeps.cons; (focus repeat' first | exact get_push_same | assumption | (apply Ext.get; assumption) | (apply ExtBut.get; assumption; assumption)); (focus repeat' first | exact get_push_same | assumption | (apply Ext.get; assumption) | (apply ExtBut.get; assumption; assumption))))) | (apply C_exit) | (apply C_exitS) | (apply C_exitL) | (apply C_blockN) | (apply C_nil) | (apply P_move; rfl; rfl; rfl; rfl) | (apply P_assign; rfl; rfl; rfl; rfl) | (apply P_len; rfl; rfl; rfl; rfl; rfl; rfl; exact un_ok rfl) | (apply P_lss; rfl; rfl; rfl; rfl; rfl; all_goals intro _) | (apply P_add; rfl; rfl; rfl; rfl; rfl; (unfold fit; omega)) | (apply P_loadA; rfl; rfl; rfl; rfl; exact ag_ok rfl; (focus repeat' first | exact get_push_same | assumption | (apply Ext.get; assumption) | (apply ExtBut.get; assumption; assumption)); (first | exact Nat.le_of_ble_eq_true rfl | (simp; done) | (simp; omega) | (rw [spanCells_len]; omega) | (rw [ints_len]; omega)); rfl) | (apply P_box; rfl; rfl; rfl; rfl; exact sz_ok rfl; rfl; rfl) | (apply M_move; rfl; rfl; rfl; rfl) | (apply M_fa; rfl; rfl; rfl; rfl; exact fo_ok rfl; (first | exact Nat.zero_add _ | exact Nat.add_zero _ | rfl)) | (apply M_idxB; rfl; rfl; rfl; rfl; rfl; exact un_ok rfl; exact sz_ok rfl; (first | rfl | exact (Int.toNat_of_nonneg (by omega)).symm); omega) | (apply M_load1E; rfl; rfl; rfl; rfl; exact on_ok rfl; decide +kernel; (focus repeat' first | exact get_push_same | assumption | (apply Ext.get; assumption) | (apply ExtBut.get; assumption; assumption)); (first | exact spans_lo (by omega) | exact spans_hi (by omega) | rfl | assumption); (first | exact same_int _ _ | exact same_plan _ _ _ _ _ | rfl | (simp [same, same.all2]; done)); (first | rfl | (focus apply within_plan; (focus repeat' first | exact get_push_same | assumption | (apply Ext.get; assumption) | (apply ExtBut.get; assumption; assumption)); done) | (simp [within]; omega))) | (apply M_loadAE; rfl; rfl; rfl; rfl; exact ag_ok rfl; decide +kernel; (focus repeat' first | exact get_push_same | assumption | (apply Ext.get; assumption) | (apply ExtBut.get; assumption; assumption)); (first | exact Nat.le_of_ble_eq_true rfl | (simp; done) | (simp; omega) | (rw [spanCells_len]; omega) | (rw [ints_len]; omega)); rfl; (first | exact same_int _ _ | exact same_plan _ _ _ _ _ | rfl | (simp [same, same.all2]; done)); (first | rfl | (focus apply within_plan; (focus repeat' first | exact get_push_same | assumption | (apply Ext.get; assumption) | (apply ExtBut.get; assumption; assumption)); done) | (simp [within]; omega))) | (apply M_load1H; rfl; rfl; rfl; rfl; exact on_ok rfl; decide +kernel; (focus repeat' first | exact get_push_same | assumption | (apply Ext.get; assumption) | (apply ExtBut.get; assumption; assumption)); (first | exact spans_lo (by omega) | exact spans_hi (by omega) | rfl | assumption); (first | exact same_int _ _ | exact same_plan _ _ _ _ _ | rfl | (simp [same, same.all2]; done)); (first | rfl | (focus apply within_plan; (focus repeat' first | exact get_push_same | assumption | (apply Ext.get; assumption) | (apply ExtBut.get; assumption; assumption)); done) | (simp [within]; omega))) | (apply M_loadAH; rfl; rfl; rfl; rfl; exact ag_ok rfl; decide +kernel; (focus repeat' first | exact get_push_same | assumption | (apply Ext.get; assumption) | (apply ExtBut.get; assumption; assumption)); (first | exact Nat.le_of_ble_eq_true rfl | (simp; done) | (simp; omega) | (rw [spanCells_len]; omega) | (rw [ints_len]; omega)); rfl; (first | exact same_int _ _ | exact same_plan _ _ _ _ _ | rfl | (simp [same, same.all2]; done)); (first | rfl | (focus apply within_plan; (focus repeat' first | exact get_push_same | assumption | (apply Ext.get; assumption) | (apply ExtBut.get; assumption; assumption)); done) | (simp [within]; omega))) | (apply M_build45; rfl; rfl; rfl; rfl) | (apply M_storeS; rfl; rfl; rfl; rfl; rfl; (focus repeat' first | exact get_push_same | assumption | (apply Ext.get; assumption) | (apply ExtBut.get; assumption; assumption)); exact sz_ok rfl; omega; rfl; (intro _ _ _)) | fail))
  apply P_call; rfl; rfl; rfl; rfl; rfl; rfl; exact refRows_ok hK hp hl (hr.ext (by (focus repeat' first | exact Ext.refl _ | assumption | apply Ext.push | (refine Ext.trans ?_ (by assumption))))) hR
  intro v h2 hv
  obtain ⟨bt, ct, rfl, hbt, hnt, hx2⟩ := hv.at (by rw [rowsL_len]; exact hR0)
  have hb1 : h2.get? h.n = some (.cells [.slice (some ⟨b, 0, none⟩) l.length cap, .int .i64 (R : Nat), .int .i64 (g : Nat)] 24 true) := hx2.get get_push_same
  have hlen := rowsL_len l R
  have hne : h.n ≠ bt := by have : (h.push (.cells (Value.agg #[.slice (some ⟨b, 0, none⟩) l.length cap, .int .i64 (R : Nat), .int .i64 (g : Nat)]).cells.toList 24 true)).n = h.n + 1 := rfl; omega
  have hx : Ext h h2 := by (focus repeat' first | exact Ext.refl _ | assumption | apply Ext.push | (refine Ext.trans ?_ (by assumption)))
  (repeat' (first | (apply K_seq) | (apply K_region) | (apply O_at; rfl) | (apply N_at; rfl) | (apply O_fin; rfl) | (apply C_seq) | (apply K_ifT; rfl) | (apply K_ifF; rfl) | (apply K_open; kernel_rfl) | (apply K_block) | (apply K_skip) | (apply K_exit) | (apply K_ret) | (apply N_fin; rfl; exact (.inl (Nat.le_refl 1))) | (apply N_fin; rfl; refine .inr ?_; (focus repeat' first | exact trivial | exact Keeps.nil _ _ | apply And.intro | rfl | (apply Keeps.cons; (focus repeat' first | exact get_push_same | assumption | (apply Ext.get; assumption) | (apply ExtBut.get; assumption; assumption)); (focus repeat' first | exact get_push_same | assumption | (apply Ext.get; assumption) | (apply ExtBut.get; assumption; assumption))))) | (apply C_exit) | (apply C_exitS) | (apply C_exitL) | (apply C_blockN) | (apply C_nil) | (apply P_move; rfl; rfl; rfl; rfl) | (apply P_assign; rfl; rfl; rfl; rfl) | (apply P_len; rfl; rfl; rfl; rfl; rfl; rfl; exact un_ok rfl) | (apply P_lss; rfl; rfl; rfl; rfl; rfl; all_goals intro _) | (apply P_add; rfl; rfl; rfl; rfl; rfl; (unfold fit; omega)) | (apply P_loadA; rfl; rfl; rfl; rfl; exact ag_ok rfl; (focus repeat' first | exact get_push_same | assumption | (apply Ext.get; assumption) | (apply ExtBut.get; assumption; assumption)); (first | exact Nat.le_of_ble_eq_true rfl | (simp; done) | (simp; omega) | (rw [spanCells_len]; omega) | (rw [ints_len]; omega)); rfl) | (apply P_box; rfl; rfl; rfl; rfl; exact sz_ok rfl; rfl; rfl) | (apply M_move; rfl; rfl; rfl; rfl) | (apply M_fa; rfl; rfl; rfl; rfl; exact fo_ok rfl; (first | exact Nat.zero_add _ | exact Nat.add_zero _ | rfl)) | (apply M_idxB; rfl; rfl; rfl; rfl; rfl; exact un_ok rfl; exact sz_ok rfl; (first | rfl | exact (Int.toNat_of_nonneg (by omega)).symm); omega) | (apply M_load1E; rfl; rfl; rfl; rfl; exact on_ok rfl; decide +kernel; (focus repeat' first | exact get_push_same | assumption | (apply Ext.get; assumption) | (apply ExtBut.get; assumption; assumption)); (first | exact spans_lo (by omega) | exact spans_hi (by omega) | rfl | assumption); (first | exact same_int _ _ | exact same_plan _ _ _ _ _ | rfl | (simp [same, same.all2]; done)); (first | rfl | (focus apply within_plan; (focus repeat' first | exact get_push_same | assumption | (apply Ext.get; assumption) | (apply ExtBut.get; assumption; assumption)); done) | (simp [within]; omega))) | (apply M_loadAE; rfl; rfl; rfl; rfl; exact ag_ok rfl; decide +kernel; (focus repeat' first | exact get_push_same | assumption | (apply Ext.get; assumption) | (apply ExtBut.get; assumption; assumption)); (first | exact Nat.le_of_ble_eq_true rfl | (simp; done) | (simp; omega) | (rw [spanCells_len]; omega) | (rw [ints_len]; omega)); rfl; (first | exact same_int _ _ | exact same_plan _ _ _ _ _ | rfl | (simp [same, same.all2]; done)); (first | rfl | (focus apply within_plan; (focus repeat' first | exact get_push_same | assumption | (apply Ext.get; assumption) | (apply ExtBut.get; assumption; assumption)); done) | (simp [within]; omega))) | (apply M_load1H; rfl; rfl; rfl; rfl; exact on_ok rfl; decide +kernel; (focus repeat' first | exact get_push_same | assumption | (apply Ext.get; assumption) | (apply ExtBut.get; assumption; assumption)); (first | exact spans_lo (by omega) | exact spans_hi (by omega) | rfl | assumption); (first | exact same_int _ _ | exact same_plan _ _ _ _ _ | rfl | (simp [same, same.all2]; done)); (first | rfl | (focus apply within_plan; (focus repeat' first | exact get_push_same | assumption | (apply Ext.get; assumption) | (apply ExtBut.get; assumption; assumption)); done) | (simp [within]; omega))) | (apply M_loadAH; rfl; rfl; rfl; rfl; exact ag_ok rfl; decide +kernel; (focus repeat' first | exact get_push_same | assumption | (apply Ext.get; assumption) | (apply ExtBut.get; assumption; assumption)); (first | exact Nat.le_of_ble_eq_true rfl | (simp; done) | (simp; omega) | (rw [spanCells_len]; omega) | (rw [ints_len]; omega)); rfl; (first | exact same_int _ _ | exact same_plan _ _ _ _ _ | rfl | (simp [same, same.all2]; done)); (first | rfl | (focus apply within_plan; (focus repeat' first | exact get_push_same | assumption | (apply Ext.get; assumption) | (apply ExtBut.get; assumption; assumption)); done) | (simp [within]; omega))) | (apply M_build45; rfl; rfl; rfl; rfl) | (apply M_storeS; rfl; rfl; rfl; rfl; rfl; (focus repeat' first | exact get_push_same | assumption | (apply Ext.get; assumption) | (apply ExtBut.get; assumption; assumption)); exact sz_ok rfl; omega; rfl; (intro _ _ _)) | fail))
  refine K_loopE (fun k : Nat => [(4, .int .i64 (k : Nat)), (3, .slice (some ⟨bt, 0, none⟩) (rowsL l R).length ct), (1, .pointer (some ⟨h.n, 0, none⟩))])
    (fun k h' => k ≤ R ∧ Ext h h' ∧ h'.get? h.n = some (.cells [.slice (some ⟨b, 0, none⟩) l.length cap, .int .i64 (R : Nat), .int .i64 (g : Nat)] 24 true) ∧ ∃ c, h'.get? bt = some (.cells (spanCells c) 45 true) ∧ c.length = R ∧ ∀ j, c.getD j (0, 0) = if j < k then figS g ((rowsL l R).getD j (0, 0)) else (rowsL l R).getD j (0, 0)) (fun k => R - k) ?_ 0 ?_ ?_
  · intro k h' ⟨hk, hx', hb', c, hc, hcl, hj⟩ ih
    by_cases hlt : k < R
    · have hck : c.getD k (0, 0) = (rowsL l R).getD k (0, 0) := by rw [hj k, if_neg (by omega)]
      have hbd := rows_bd hP.2.1 hl (by omega) hlt
      rw [← hck] at hbd
      (repeat' (first | (apply K_seq) | (apply K_region) | (apply O_at; rfl) | (apply N_at; rfl) | (apply O_fin; rfl) | (apply C_seq) | (apply K_ifT; rfl) | (apply K_ifF; rfl) | (apply K_open; kernel_rfl) | (apply K_block) | (apply K_skip) | (apply K_exit) | (apply K_ret) | (apply N_fin; rfl; exact (.inl (Nat.le_refl 1))) | (apply N_fin; rfl; refine .inr ?_; (focus repeat' first | exact trivial | exact Keeps.nil _ _ | apply And.intro | rfl | (apply Keeps.cons; (focus repeat' first | exact get_push_same | assumption | (apply Ext.get; assumption) | (apply ExtBut.get; assumption; assumption)); (focus repeat' first | exact get_push_same | assumption | (apply Ext.get; assumption) | (apply ExtBut.get; assumption; assumption))))) | (apply C_exit) | (apply C_exitS) | (apply C_exitL) | (apply C_blockN) | (apply C_nil) | (apply P_move; rfl; rfl; rfl; rfl) | (apply P_assign; rfl; rfl; rfl; rfl) | (apply P_len; rfl; rfl; rfl; rfl; rfl; rfl; exact un_ok rfl) | (apply P_lss; rfl; rfl; rfl; rfl; rfl; all_goals intro _) | (apply P_add; rfl; rfl; rfl; rfl; rfl; (unfold fit; omega)) | (apply P_loadA; rfl; rfl; rfl; rfl; exact ag_ok rfl; (focus repeat' first | exact get_push_same | assumption | (apply Ext.get; assumption) | (apply ExtBut.get; assumption; assumption)); (first | exact Nat.le_of_ble_eq_true rfl | (simp; done) | (simp; omega) | (rw [spanCells_len]; omega) | (rw [ints_len]; omega)); rfl) | (apply P_box; rfl; rfl; rfl; rfl; exact sz_ok rfl; rfl; rfl) | (apply M_move; rfl; rfl; rfl; rfl) | (apply M_fa; rfl; rfl; rfl; rfl; exact fo_ok rfl; (first | exact Nat.zero_add _ | exact Nat.add_zero _ | rfl)) | (apply M_idxB; rfl; rfl; rfl; rfl; rfl; exact un_ok rfl; exact sz_ok rfl; (first | rfl | exact (Int.toNat_of_nonneg (by omega)).symm); omega) | (apply M_load1E; rfl; rfl; rfl; rfl; exact on_ok rfl; decide +kernel; (focus repeat' first | exact get_push_same | assumption | (apply Ext.get; assumption) | (apply ExtBut.get; assumption; assumption)); (first | exact spans_lo (by omega) | exact spans_hi (by omega) | rfl | assumption); (first | exact same_int _ _ | exact same_plan _ _ _ _ _ | rfl | (simp [same, same.all2]; done)); (first | rfl | (focus apply within_plan; (focus repeat' first | exact get_push_same | assumption | (apply Ext.get; assumption) | (apply ExtBut.get; assumption; assumption)); done) | (simp [within]; omega))) | (apply M_loadAE; rfl; rfl; rfl; rfl; exact ag_ok rfl; decide +kernel; (focus repeat' first | exact get_push_same | assumption | (apply Ext.get; assumption) | (apply ExtBut.get; assumption; assumption)); (first | exact Nat.le_of_ble_eq_true rfl | (simp; done) | (simp; omega) | (rw [spanCells_len]; omega) | (rw [ints_len]; omega)); rfl; (first | exact same_int _ _ | exact same_plan _ _ _ _ _ | rfl | (simp [same, same.all2]; done)); (first | rfl | (focus apply within_plan; (focus repeat' first | exact get_push_same | assumption | (apply Ext.get; assumption) | (apply ExtBut.get; assumption; assumption)); done) | (simp [within]; omega))) | (apply M_load1H; rfl; rfl; rfl; rfl; exact on_ok rfl; decide +kernel; (focus repeat' first | exact get_push_same | assumption | (apply Ext.get; assumption) | (apply ExtBut.get; assumption; assumption)); (first | exact spans_lo (by omega) | exact spans_hi (by omega) | rfl | assumption); (first | exact same_int _ _ | exact same_plan _ _ _ _ _ | rfl | (simp [same, same.all2]; done)); (first | rfl | (focus apply within_plan; (focus repeat' first | exact get_push_same | assumption | (apply Ext.get; assumption) | (apply ExtBut.get; assumption; assumption)); done) | (simp [within]; omega))) | (apply M_loadAH; rfl; rfl; rfl; rfl; exact ag_ok rfl; decide +kernel; (focus repeat' first | exact get_push_same | assumption | (apply Ext.get; assumption) | (apply ExtBut.get; assumption; assumption)); (first | exact Nat.le_of_ble_eq_true rfl | (simp; done) | (simp; omega) | (rw [spanCells_len]; omega) | (rw [ints_len]; omega)); rfl; (first | exact same_int _ _ | exact same_plan _ _ _ _ _ | rfl | (simp [same, same.all2]; done)); (first | rfl | (focus apply within_plan; (focus repeat' first | exact get_push_same | assumption | (apply Ext.get; assumption) | (apply ExtBut.get; assumption; assumption)); done) | (simp [within]; omega))) | (apply M_build45; rfl; rfl; rfl; rfl) | (apply M_storeS; rfl; rfl; rfl; rfl; rfl; (focus repeat' first | exact get_push_same | assumption | (apply Ext.get; assumption) | (apply ExtBut.get; assumption; assumption)); exact sz_ok rfl; omega; rfl; (intro _ _ _)) | (apply P_call; rfl; rfl; rfl; rfl; rfl; rfl; exact refFigure_ok hK hg3 (by omega); (rintro _ _ ⟨rfl, _⟩)) | (apply M_call; rfl; rfl; rfl; rfl; rfl; rfl; rfl; exact refFigure_ok hK hg3 (by omega); (rintro _ _ ⟨rfl, _⟩)) | fail))
      · rename_i h5 hc5 hx5
        refine C_again (ih (k + 1) _ ?_ ⟨hlt, ?_, ?_, _, hc5, by simpa using hcl, fun j => ?_⟩) ?_
        · omega
        · refine Ext.ofBut ?_ hx5 (Nat.le_trans (Nat.le_succ _) hnt)
          (focus repeat' first | exact Ext.refl _ | assumption | apply Ext.push | (refine Ext.trans ?_ (by assumption)))
        · exact hx5.get hne (by (focus repeat' first | exact get_push_same | assumption | apply get_push_old | (apply Ext.get; assumption) | (apply ExtBut.get; assumption; assumption)))
        · rw [getD_setS (by omega)]
          by_cases q : j = k
          · subst q; rw [if_pos rfl, if_pos (by omega), hck]; rfl
          · rw [if_neg q, hj j]
            by_cases q2 : j < k
            · rw [if_pos q2, if_pos (by omega)]
            · rw [if_neg q2, if_neg (by omega)]
        · (focus repeat' first | rfl | exact trivial | apply And.intro)
      · omega
    · (repeat' (first | (apply K_seq) | (apply K_region) | (apply O_at; rfl) | (apply N_at; rfl) | (apply O_fin; rfl) | (apply C_seq) | (apply K_ifT; rfl) | (apply K_ifF; rfl) | (apply K_open; kernel_rfl) | (apply K_block) | (apply K_skip) | (apply K_exit) | (apply K_ret) | (apply N_fin; rfl; exact (.inl (Nat.le_refl 1))) | (apply N_fin; rfl; refine .inr ?_; (focus repeat' first | exact trivial | exact Keeps.nil _ _ | apply And.intro | rfl | (apply Keeps.cons; (focus repeat' first | exact get_push_same | assumption | (apply Ext.get; assumption) | (apply ExtBut.get; assumption; assumption)); (focus repeat' first | exact get_push_same | assumption | (apply Ext.get; assumption) | (apply ExtBut.get; assumption; assumption))))) | (apply C_exit) | (apply C_exitS) | (apply C_exitL) | (apply C_blockN) | (apply C_nil) | (apply P_move; rfl; rfl; rfl; rfl) | (apply P_assign; rfl; rfl; rfl; rfl) | (apply P_len; rfl; rfl; rfl; rfl; rfl; rfl; exact un_ok rfl) | (apply P_lss; rfl; rfl; rfl; rfl; rfl; all_goals intro _) | (apply P_add; rfl; rfl; rfl; rfl; rfl; (unfold fit; omega)) | (apply P_loadA; rfl; rfl; rfl; rfl; exact ag_ok rfl; (focus repeat' first | exact get_push_same | assumption | (apply Ext.get; assumption) | (apply ExtBut.get; assumption; assumption)); (first | exact Nat.le_of_ble_eq_true rfl | (simp; done) | (simp; omega) | (rw [spanCells_len]; omega) | (rw [ints_len]; omega)); rfl) | (apply P_box; rfl; rfl; rfl; rfl; exact sz_ok rfl; rfl; rfl) | (apply M_move; rfl; rfl; rfl; rfl) | (apply M_fa; rfl; rfl; rfl; rfl; exact fo_ok rfl; (first | exact Nat.zero_add _ | exact Nat.add_zero _ | rfl)) | (apply M_idxB; rfl; rfl; rfl; rfl; rfl; exact un_ok rfl; exact sz_ok rfl; (first | rfl | exact (Int.toNat_of_nonneg (by omega)).symm); omega) | (apply M_load1E; rfl; rfl; rfl; rfl; exact on_ok rfl; decide +kernel; (focus repeat' first | exact get_push_same | assumption | (apply Ext.get; assumption) | (apply ExtBut.get; assumption; assumption)); (first | exact spans_lo (by omega) | exact spans_hi (by omega) | rfl | assumption); (first | exact same_int _ _ | exact same_plan _ _ _ _ _ | rfl | (simp [same, same.all2]; done)); (first | rfl | (focus apply within_plan; (focus repeat' first | exact get_push_same | assumption | (apply Ext.get; assumption) | (apply ExtBut.get; assumption; assumption)); done) | (simp [within]; omega))) | (apply M_loadAE; rfl; rfl; rfl; rfl; exact ag_ok rfl; decide +kernel; (focus repeat' first | exact get_push_same | assumption | (apply Ext.get; assumption) | (apply ExtBut.get; assumption; assumption)); (first | exact Nat.le_of_ble_eq_true rfl | (simp; done) | (simp; omega) | (rw [spanCells_len]; omega) | (rw [ints_len]; omega)); rfl; (first | exact same_int _ _ | exact same_plan _ _ _ _ _ | rfl | (simp [same, same.all2]; done)); (first | rfl | (focus apply within_plan; (focus repeat' first | exact get_push_same | assumption | (apply Ext.get; assumption) | (apply ExtBut.get; assumption; assumption)); done) | (simp [within]; omega))) | (apply M_load1H; rfl; rfl; rfl; rfl; exact on_ok rfl; decide +kernel; (focus repeat' first | exact get_push_same | assumption | (apply Ext.get; assumption) | (apply ExtBut.get; assumption; assumption)); (first | exact spans_lo (by omega) | exact spans_hi (by omega) | rfl | assumption); (first | exact same_int _ _ | exact same_plan _ _ _ _ _ | rfl | (simp [same, same.all2]; done)); (first | rfl | (focus apply within_plan; (focus repeat' first | exact get_push_same | assumption | (apply Ext.get; assumption) | (apply ExtBut.get; assumption; assumption)); done) | (simp [within]; omega))) | (apply M_loadAH; rfl; rfl; rfl; rfl; exact ag_ok rfl; decide +kernel; (focus repeat' first | exact get_push_same | assumption | (apply Ext.get; assumption) | (apply ExtBut.get; assumption; assumption)); (first | exact Nat.le_of_ble_eq_true rfl | (simp; done) | (simp; omega) | (rw [spanCells_len]; omega) | (rw [ints_len]; omega)); rfl; (first | exact same_int _ _ | exact same_plan _ _ _ _ _ | rfl | (simp [same, same.all2]; done)); (first | rfl | (focus apply within_plan; (focus repeat' first | exact get_push_same | assumption | (apply Ext.get; assumption) | (apply ExtBut.get; assumption; assumption)); done) | (simp [within]; omega))) | (apply M_build45; rfl; rfl; rfl; rfl) | (apply M_storeS; rfl; rfl; rfl; rfl; rfl; (focus repeat' first | exact get_push_same | assumption | (apply Ext.get; assumption) | (apply ExtBut.get; assumption; assumption)); exact sz_ok rfl; omega; rfl; (intro _ _ _)) | fail))
      · omega
      · have e : c = printL l R g := listS_eq (by rw [hcl, printL_len]) fun j hj' => by rw [hj j, if_pos (by omega), printL_get (by omega)]
        subst e
        refine ⟨.inr rfl, _, rfl, _, ct, ?_, .inr ⟨bt, rfl, hc, Nat.le_trans (Nat.le_succ _) hnt⟩, hx'⟩
        rw [printL_len]
        show Value.slice _ (rowsL l R).length ct = _
        rw [hlen]
  · exact ⟨Nat.zero_le _, hx, hb1, _, hbt, hlen, fun j => by rw [if_neg (by omega)]⟩
  · (focus repeat' first | rfl | exact trivial | apply And.intro)
end Go.AX.Sa
