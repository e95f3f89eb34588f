/- The law PayEnds at the reading: what the functions that it calls answer (3). -/
import Derived.Test.YtbjagnifnbmpeaaGreatDoorPayEndsTextB
import Derived.Test.YtbjagnifnbmpeaaGreatDoorPayEndsTextA
namespace Go.AX.Sa
open Go.Proofs
set_option maxRecDepth 100000
variable {K : Known}
/-! What is paid in each line, and what is carried. -/
def handOf (B : Bk) (j : Nat) : Int := B.l.getD (j * 10) 0
def rst (B : Bk) (t : List Int) : Nat → Int → Int
  | 0 => fun _ => 0
  | j + 1 => fun q => if q = handOf B j then (rst B t j (handOf B j) + owes B j (t.getD j 0)) % B.unit else rst B t j q
def due (B : Bk) (t : List Int) (j : Nat) : Int := rst B t j (handOf B j) + owes B j (t.getD j 0)
def pd (B : Bk) (t : List Int) (j : Nat) : Int := due B t j - due B t j % B.unit
def pds (B : Bk) (t : List Int) (n : Nat) : List Int := (List.range n).map (pd B t)
theorem pds_len (B : Bk) (t : List Int) (n : Nat) : (pds B t n).length = n := by simp [pds]
theorem pds_succ (B : Bk) (t : List Int) (n : Nat) : pds B t (n + 1) = pds B t n ++ [pd B t n] := by simp [pds, List.range_succ]
theorem pds_get {B : Bk} {t : List Int} {n j : Nat} (h : j < n) : (pds B t n).getD j 0 = pd B t j := by simp [pds, List.getD_eq_getElem?_getD, h]
theorem rst_b {B : Bk} (hP : BkP B) (t : List Int) : ∀ (j : Nat) (q : Int), 0 ≤ rst B t j q ∧ rst B t j q ≤ 47 := by
  intro j
  have hu := hP.unit
  induction j with
  | zero => intro q; exact ⟨Int.le_refl _, (by decide : (0 : Int) ≤ 47)⟩
  | succ j ih =>
    intro q
    simp only [rst]
    by_cases hq : q = handOf B j
    · rw [if_pos hq]
      have h1 := Int.emod_nonneg (rst B t j (handOf B j) + owes B j (t.getD j 0)) (show B.unit ≠ 0 by omega)
      have h2 := Int.emod_lt_of_pos (rst B t j (handOf B j) + owes B j (t.getD j 0)) (show 0 < B.unit by omega)
      omega
    · rw [if_neg hq]; exact ih q
theorem due_b {B : Bk} (hP : BkP B) {t : List Int} (hT : TruP B t) {j : Nat} (hj : j < B.n) : 0 ≤ due B t j ∧ due B t j ≤ 32047 := by
  have h1 := rst_b hP t j (handOf B j)
  have h3 := hT.2 j hj
  have h4 := (hP.line j hj).2.1.2.1
  have h2 := owes_le hP hj (e := t.getD j 0) (by omega)
  unfold due
  omega
theorem same_bt (B : Bk) (q : Option Addr) (n k : Nat) : same 20 (btV B q n k) (btV B q n k) = true := by simp [btV, same, same.all2]
theorem within_bt {B : Bk} {q : Option Addr} {n k m : Nat} (hb : ∀ a, B.p = some a → a.block < m) (hq : ∀ a, q = some a → a.block < m) : within 20 m (btV B q n k) = true := by
  obtain ⟨_, _, _, _, _, _, p, _, _, _⟩ := B
  dsimp only at hb
  cases p with
  | none => cases q with
    | none => simp [btV, within]
    | some a => have := hq a rfl; simp [btV, within]; omega
  | some c => have := hb c rfl; cases q with
    | none => simp [btV, within]; omega
    | some a => have := hq a rfl; simp [btV, within]; omega
theorem MapI.keep {h h1 : Heap} {r b : Nat} {z : Blk} {f : Int → Int} (m : MapI h r f) (k : KeepB b z h h1) (hr : r < b) : MapI h1 r f := by
  obtain ⟨es, c, l, a, e, d⟩ := m
  exact ⟨es, c, l, k.lo hr a, e, d⟩
theorem settle_ok (hK : NoK K) {B : Bk} {q : Option Addr} {t : List Int} {kt : Nat} {h : Heap} (hB : BkAt B h) (hP : BkP B) (rt : Rd h q (ints t)) (hT : TruP B t) :
    CallW Tryz.prog K 72 #[btV B q t.length kt] h (fun u h1 => ∃ v r, u = .tuple #[v, .map (some r)] ∧ OutI 3 h h1 v (pds B t B.n) ∧ MapI h1 r (rst B t B.n) ∧ Ext h h1) := by
  have hB' := hB
  have hn := hP.n
  have hu := hP.unit
  refine body (N := 47) Tryz.func72 rfl (hK _ _ _ rfl) rfl rfl ?_
  (repeat' (first | (apply K_seq) | (apply K_region) | (apply O_at; rfl) | (apply N_at; rfl) | (apply O_fin; rfl) | (apply C_seq) | (apply K_ifT; rfl) | (apply K_ifF; rfl) | (apply K_open; exact openOK_of (by decide +kernel)) | (apply K_block) | (apply K_skip) | (apply K_exit) | (apply K_ret) | (apply N_fin; rfl; exact (.inl (Nat.le_refl 1))) | (apply N_fin; rfl; refine .inr ?_; (focus repeat' first | exact trivial | exact Keeps.nil _ _ | apply And.intro | rfl | (apply Keeps.cons; (focus repeat' first | exact get_push_same | assumption | apply get_push_old | (apply Ext.get; assumption) | (apply ExtBut.get; assumption; (first | assumption | omega | (simp only [Heap.push]; omega)))); (focus repeat' first | exact get_push_same | assumption | apply get_push_old | (apply Ext.get; assumption) | (apply ExtBut.get; assumption; (first | assumption | omega | (simp only [Heap.push]; omega))))) | (refine (List.forall_mem_cons (p := fun hk => MapI hk _ _)).2 ?_) | exact List.forall_mem_nil _ | (apply MapI.ext; assumption; (focus repeat' first | exact Ext.refl _ | assumption | apply Ext.push | (refine Ext.trans ?_ (by assumption)))))) | (apply C_exit) | (apply C_exitS) | (apply C_exitL) | (apply C_blockN) | (apply C_nil) | (apply P_move; rfl; rfl; rfl; rfl) | (apply P_assign; rfl; rfl; rfl; rfl) | (apply P_fa; rfl; rfl; rfl; rfl; exact fo_ok rfl; (first | exact Nat.zero_add _ | exact Nat.add_zero _ | rfl)) | (apply P_len; rfl; rfl; rfl; rfl; rfl; rfl; exact un_ok rfl) | (apply P_lssF; rfl; rfl; rfl; rfl; rfl; omega) | (apply P_lssT; rfl; rfl; rfl; rfl; rfl; omega) | (apply P_add; rfl; rfl; rfl; rfl; rfl; (unfold fit; omega)) | (apply P_sub; rfl; rfl; rfl; rfl; rfl; (unfold fit; omega)) | (apply P_idxB; rfl; rfl; rfl; rfl; rfl; exact un_ok rfl; exact sz_ok rfl; (first | rfl | exact (Int.toNat_of_nonneg (by omega)).symm); omega) | (apply P_load1; rfl; rfl; rfl; rfl; exact on_ok rfl; (focus repeat' first | exact get_push_same | assumption | apply get_push_old | (apply Ext.get; assumption) | (apply ExtBut.get; assumption; (first | assumption | omega | (simp only [Heap.push]; omega)))); (first | rfl | assumption)) | (apply P_loadA; rfl; rfl; rfl; rfl; exact ag_ok rfl; (focus repeat' first | exact get_push_same | assumption | apply get_push_old | (apply Ext.get; assumption) | (apply ExtBut.get; assumption; (first | assumption | omega | (simp only [Heap.push]; omega)))); (first | exact Nat.le_of_ble_eq_true rfl | (simp; done) | (simp; omega) | (rw [ints_len]; omega)); (first | exact line_take (by omega) | rfl)) | (apply P_build1; rfl; rfl; rfl; rfl; rfl; rfl; rfl; exact c1_ok rfl) | (apply P_storeTop; rfl; rfl; rfl; rfl; exact sz_ok rfl; rfl; rfl; rfl) | (apply P_box; rfl; rfl; rfl; rfl; exact sz_ok rfl; rfl; rfl) | (apply P_alloc; rfl; rfl; rfl; rfl; exact sz_ok rfl; rfl; rfl) | (apply P_makeMap; rfl; rfl; rfl; (intro _ _ _)) | (apply P_lookupI; rfl; rfl; rfl; rfl; rfl; exact map94; (first | assumption | (apply MapI.ext; assumption; (focus repeat' first | exact Ext.refl _ | assumption | apply Ext.push | (refine Ext.trans ?_ (by assumption)))))) | (apply M_move; rfl; rfl; rfl; rfl) | (apply M_assign; rfl; rfl; rfl; rfl) | (apply M_fa; rfl; rfl; rfl; rfl; exact fo_ok rfl; (first | exact Nat.zero_add _ | exact Nat.add_zero _ | rfl)) | (apply M_add; rfl; rfl; rfl; rfl; rfl; (unfold fit; omega)) | (apply M_load1; rfl; rfl; rfl; rfl; exact on_ok rfl; (focus repeat' first | exact get_push_same | assumption | apply get_push_old | (apply Ext.get; assumption) | (apply ExtBut.get; assumption; (first | assumption | omega | (simp only [Heap.push]; omega)))); (first | rfl | assumption); (first | assumption | exact same_int _ _ | rfl | (focus simp [same, same.all2]; done)); (first | rfl | assumption | exact hwv _ | (simp [within]; omega))) | (apply M_loadA; rfl; rfl; rfl; rfl; exact ag_ok rfl; (focus repeat' first | exact get_push_same | assumption | apply get_push_old | (apply Ext.get; assumption) | (apply ExtBut.get; assumption; (first | assumption | omega | (simp only [Heap.push]; omega)))); (first | exact Nat.le_of_ble_eq_true rfl | (simp; done) | (simp; omega) | (rw [ints_len]; omega)); (first | exact line_take (by omega) | rfl); (first | assumption | exact same_int _ _ | rfl | (focus simp [same, same.all2]; done)); (first | rfl | assumption | exact hwv _ | (simp [within]; omega))) | (apply M_remN; rfl; rfl; rfl; rfl; rfl; omega; omega) | (apply M_lookupI; rfl; rfl; rfl; rfl; rfl; exact map94; (first | assumption | (apply MapI.ext; assumption; (focus repeat' first | exact Ext.refl _ | assumption | apply Ext.push | (refine Ext.trans ?_ (by assumption)))))) | (apply M_mapUpdateI; rfl; rfl; rfl; rfl; rfl; exact map94; (first | assumption | (apply MapI.ext; assumption; (focus repeat' first | exact Ext.refl _ | assumption | apply Ext.push | (refine Ext.trans ?_ (by assumption))))); rfl; (intro _ _ _)) | fail))
  rename_i h1 m1 x1
  have hr1 := m1.lt
  have xh1 : Ext h h1 := by (focus repeat' first | exact Ext.refl _ | assumption | apply Ext.push | (refine Ext.trans ?_ (by assumption)))
  obtain ⟨b, e, own', hp, hg⟩ := hB.rd.at (by rw [ints_len, hB.len]; omega)
  rw [hp]
  have hqb : ∀ a, q = some a → a.block < h.n := by
    obtain ⟨b2, _, _, rfl, g2⟩ := rt.at (by rw [ints_len, hT.1]; omega)
    rintro a q; cases q; exact Heap.get_lt g2
  refine K_loopE (fun a : Nat × Value => [(14, .int .i64 (a.1 : Nat)), (13, .int .i64 (B.n : Nat)), (12, .slice (some ⟨b, 0, none⟩) B.n B.k), (4, a.2), (5, .map (some (h.n + 1))), (1, .pointer (some ⟨h.n, 0, none⟩))])
    (fun a h' => a.1 ≤ B.n ∧ Ext (h.push (.cells (btV B q t.length kt).cells.toList 90 true)) h' ∧ h1.n ≤ h'.n ∧ MapI h' (h.n + 1) (rst B t a.1) ∧ OutI 3 h1 h' a.2 (pds B t a.1)) (fun a => B.n - a.1) ?_ (0, nilV) ?_ ?_
  · rintro ⟨k, v⟩ h' ⟨hk, hx, hn1, hm, ho⟩ ih
    dsimp only at hk hx hn1 hm ho ih ⊢
    by_cases hlt : k < B.n
    · have hg' := hx.get (get_push_old hg)
      have hlen := hB.len
      have hd := due_b hP hT hlt
      unfold due handOf at hd
      have hmo1 := Int.emod_nonneg (rst B t k (B.l.getD (k * 10) 0) + owes B k (t.getD k 0)) (show B.unit ≠ 0 by omega)
      have hmo2 := Int.emod_lt_of_pos (rst B t k (B.l.getD (k * 10) 0) + owes B k (t.getD k 0)) (show 0 < B.unit by omega)
      have hnx : h.n + 1 < h'.n := by have := hr1; simp only [Heap.push] at this; omega
      have hwv : ∀ blk, within 20 (h'.push blk).n (btV B q t.length kt) = true := fun blk => within_bt (fun a y => by have := hB.b a y; simp only [Heap.push]; omega) (fun a y => by have := hqb a y; simp only [Heap.push]; omega)
      have hsv := same_bt B q t.length kt
      (repeat' (first | (apply K_seq) | (apply K_region) | (apply O_at; rfl) | (apply N_at; rfl) | (apply O_fin; rfl) | (apply C_seq) | (apply K_ifT; rfl) | (apply K_ifF; rfl) | (apply K_open; exact openOK_of (by decide +kernel)) | (apply K_block) | (apply K_skip) | (apply K_exit) | (apply K_ret) | (apply N_fin; rfl; exact (.inl (Nat.le_refl 1))) | (apply N_fin; rfl; refine .inr ?_; (focus repeat' first | exact trivial | exact Keeps.nil _ _ | apply And.intro | rfl | (apply Keeps.cons; (focus repeat' first | exact get_push_same | assumption | apply get_push_old | (apply Ext.get; assumption) | (apply ExtBut.get; assumption; (first | assumption | omega | (simp only [Heap.push]; omega)))); (focus repeat' first | exact get_push_same | assumption | apply get_push_old | (apply Ext.get; assumption) | (apply ExtBut.get; assumption; (first | assumption | omega | (simp only [Heap.push]; omega))))) | (refine (List.forall_mem_cons (p := fun hk => MapI hk _ _)).2 ?_) | exact List.forall_mem_nil _ | (apply MapI.ext; assumption; (focus repeat' first | exact Ext.refl _ | assumption | apply Ext.push | (refine Ext.trans ?_ (by assumption)))))) | (apply C_exit) | (apply C_exitS) | (apply C_exitL) | (apply C_blockN) | (apply C_nil) | (apply P_move; rfl; rfl; rfl; rfl) | (apply P_assign; rfl; rfl; rfl; rfl) | (apply P_fa; rfl; rfl; rfl; rfl; exact fo_ok rfl; (first | exact Nat.zero_add _ | exact Nat.add_zero _ | rfl)) | (apply P_len; rfl; rfl; rfl; rfl; rfl; rfl; exact un_ok rfl) | (apply P_lssF; rfl; rfl; rfl; rfl; rfl; omega) | (apply P_lssT; rfl; rfl; rfl; rfl; rfl; omega) | (apply P_add; rfl; rfl; rfl; rfl; rfl; (unfold fit; omega)) | (apply P_sub; rfl; rfl; rfl; rfl; rfl; (unfold fit; omega)) | (apply P_idxB; rfl; rfl; rfl; rfl; rfl; exact un_ok rfl; exact sz_ok rfl; (first | rfl | exact (Int.toNat_of_nonneg (by omega)).symm); omega) | (apply P_load1; rfl; rfl; rfl; rfl; exact on_ok rfl; (focus repeat' first | exact get_push_same | assumption | apply get_push_old | (apply Ext.get; assumption) | (apply ExtBut.get; assumption; (first | assumption | omega | (simp only [Heap.push]; omega)))); (first | rfl | assumption)) | (apply P_loadA; rfl; rfl; rfl; rfl; exact ag_ok rfl; (focus repeat' first | exact get_push_same | assumption | apply get_push_old | (apply Ext.get; assumption) | (apply ExtBut.get; assumption; (first | assumption | omega | (simp only [Heap.push]; omega)))); (first | exact Nat.le_of_ble_eq_true rfl | (simp; done) | (simp; omega) | (rw [ints_len]; omega)); (first | exact line_take (by omega) | rfl)) | (apply P_build1; rfl; rfl; rfl; rfl; rfl; rfl; rfl; exact c1_ok rfl) | (apply P_storeTop; rfl; rfl; rfl; rfl; exact sz_ok rfl; rfl; rfl; rfl) | (apply P_box; rfl; rfl; rfl; rfl; exact sz_ok rfl; rfl; rfl) | (apply P_alloc; rfl; rfl; rfl; rfl; exact sz_ok rfl; rfl; rfl) | (apply P_makeMap; rfl; rfl; rfl; (intro _ _ _)) | (apply P_lookupI; rfl; rfl; rfl; rfl; rfl; exact map94; (first | assumption | (apply MapI.ext; assumption; (focus repeat' first | exact Ext.refl _ | assumption | apply Ext.push | (refine Ext.trans ?_ (by assumption)))))) | (apply M_move; rfl; rfl; rfl; rfl) | (apply M_assign; rfl; rfl; rfl; rfl) | (apply M_fa; rfl; rfl; rfl; rfl; exact fo_ok rfl; (first | exact Nat.zero_add _ | exact Nat.add_zero _ | rfl)) | (apply M_add; rfl; rfl; rfl; rfl; rfl; (unfold fit; omega)) | (apply M_load1; rfl; rfl; rfl; rfl; exact on_ok rfl; (focus repeat' first | exact get_push_same | assumption | apply get_push_old | (apply Ext.get; assumption) | (apply ExtBut.get; assumption; (first | assumption | omega | (simp only [Heap.push]; omega)))); (first | rfl | assumption); (first | assumption | exact same_int _ _ | rfl | (focus simp [same, same.all2]; done)); (first | rfl | assumption | exact hwv _ | (simp [within]; omega))) | (apply M_loadA; rfl; rfl; rfl; rfl; exact ag_ok rfl; (focus repeat' first | exact get_push_same | assumption | apply get_push_old | (apply Ext.get; assumption) | (apply ExtBut.get; assumption; (first | assumption | omega | (simp only [Heap.push]; omega)))); (first | exact Nat.le_of_ble_eq_true rfl | (simp; done) | (simp; omega) | (rw [ints_len]; omega)); (first | exact line_take (by omega) | rfl); (first | assumption | exact same_int _ _ | rfl | (focus simp [same, same.all2]; done)); (first | rfl | assumption | exact hwv _ | (simp [within]; omega))) | (apply M_remN; rfl; rfl; rfl; rfl; rfl; omega; omega) | (apply M_lookupI; rfl; rfl; rfl; rfl; rfl; exact map94; (first | assumption | (apply MapI.ext; assumption; (focus repeat' first | exact Ext.refl _ | assumption | apply Ext.push | (refine Ext.trans ?_ (by assumption)))))) | (apply M_mapUpdateI; rfl; rfl; rfl; rfl; rfl; exact map94; (first | assumption | (apply MapI.ext; assumption; (focus repeat' first | exact Ext.refl _ | assumption | apply Ext.push | (refine Ext.trans ?_ (by assumption))))); rfl; (intro _ _ _)) | (apply M_call; rfl; rfl; rfl; rfl; rfl; rfl; rfl; exact owed_ok hK (hB.ext (by (focus repeat' first | exact Ext.refl _ | assumption | apply Ext.push | (refine Ext.trans ?_ (by assumption))))) hP (rt.ext (by (focus repeat' first | exact Ext.refl _ | assumption | apply Ext.push | (refine Ext.trans ?_ (by assumption))))) hT hlt; (rintro _ _ ⟨rfl, _⟩)) | fail))
      rename_i h2 xx2 h3 m3 x3
      have y2 : Ext h' h2 := by (focus repeat' first | exact Ext.refl _ | assumption | apply Ext.push | (refine Ext.trans ?_ (by assumption)))
      have ho3 : OutI 3 h1 h3 v (pds B t k) := OutI.but (e := 3) (h0 := h1) (OutI.ext (e := 3) (h0 := h1) ho y2) x3 hr1
      have hle : (pds B t k).length ≤ 10000 := by rw [pds_len]; omega
      have n3 := x3.n
      have n2 := y2.n
      apply P_appIK (h0 := h1); rfl; rfl; rfl; rfl; rfl; rfl; rfl; rfl; exact c1_ok rfl; exact un_ok rfl; exact get_push_same; exact OutI.ext (e := 3) (h0 := h1) ho3 (by (focus repeat' first | exact Ext.refl _ | assumption | apply Ext.push | (refine Ext.trans ?_ (by assumption)))); exact (by simp only [Heap.push]; omega); exact hle
      intro v4 h4 ho4 k4
      replace ho4 : OutI 3 h1 h4 v4 (pds B t (k + 1)) := by rw [if_pos rfl] at ho4; rw [pds_succ]; exact ho4
      have m4 : MapI h4 (h.n + 1) (rst B t (k + 1)) := MapI.keep (MapI.ext m3 (by (focus repeat' first | exact Ext.refl _ | assumption | apply Ext.push | (refine Ext.trans ?_ (by assumption))))) k4 hr1
      have x4 : Ext (h.push (.cells (btV B q t.length kt).cells.toList 90 true)) h4 := by
        refine ⟨?_, fun c y g => ?_⟩
        · have := k4.n; simp only [Heap.push] at this ⊢; omega
        · have hc : c < h.n + 1 := Heap.get_lt g
          exact k4.lo (by have := hr1; simp only [Heap.push] at this; omega) (get_push_old (x3.get (by omega) (y2.get (hx.get g))))
      have n4 : h1.n ≤ h4.n := by have := k4.n; simp only [Heap.push] at this; omega
      (repeat' (first | (apply K_seq) | (apply K_region) | (apply O_at; rfl) | (apply N_at; rfl) | (apply O_fin; rfl) | (apply C_seq) | (apply K_ifT; rfl) | (apply K_ifF; rfl) | (apply K_open; exact openOK_of (by decide +kernel)) | (apply K_block) | (apply K_skip) | (apply K_exit) | (apply K_ret) | (apply N_fin; rfl; exact (.inl (Nat.le_refl 1))) | (apply N_fin; rfl; refine .inr ?_; (focus repeat' first | exact trivial | exact Keeps.nil _ _ | apply And.intro | rfl | (apply Keeps.cons; (focus repeat' first | exact get_push_same | assumption | apply get_push_old | (apply Ext.get; assumption) | (apply ExtBut.get; assumption; (first | assumption | omega | (simp only [Heap.push]; omega)))); (focus repeat' first | exact get_push_same | assumption | apply get_push_old | (apply Ext.get; assumption) | (apply ExtBut.get; assumption; (first | assumption | omega | (simp only [Heap.push]; omega))))) | (refine (List.forall_mem_cons (p := fun hk => MapI hk _ _)).2 ?_) | exact List.forall_mem_nil _ | (apply MapI.ext; assumption; (focus repeat' first | exact Ext.refl _ | assumption | apply Ext.push | (refine Ext.trans ?_ (by assumption)))))) | (apply C_exit) | (apply C_exitS) | (apply C_exitL) | (apply C_blockN) | (apply C_nil) | (apply P_move; rfl; rfl; rfl; rfl) | (apply P_assign; rfl; rfl; rfl; rfl) | (apply P_fa; rfl; rfl; rfl; rfl; exact fo_ok rfl; (first | exact Nat.zero_add _ | exact Nat.add_zero _ | rfl)) | (apply P_len; rfl; rfl; rfl; rfl; rfl; rfl; exact un_ok rfl) | (apply P_lssF; rfl; rfl; rfl; rfl; rfl; omega) | (apply P_lssT; rfl; rfl; rfl; rfl; rfl; omega) | (apply P_add; rfl; rfl; rfl; rfl; rfl; (unfold fit; omega)) | (apply P_sub; rfl; rfl; rfl; rfl; rfl; (unfold fit; omega)) | (apply P_idxB; rfl; rfl; rfl; rfl; rfl; exact un_ok rfl; exact sz_ok rfl; (first | rfl | exact (Int.toNat_of_nonneg (by omega)).symm); omega) | (apply P_load1; rfl; rfl; rfl; rfl; exact on_ok rfl; (focus repeat' first | exact get_push_same | assumption | apply get_push_old | (apply Ext.get; assumption) | (apply ExtBut.get; assumption; (first | assumption | omega | (simp only [Heap.push]; omega)))); (first | rfl | assumption)) | (apply P_loadA; rfl; rfl; rfl; rfl; exact ag_ok rfl; (focus repeat' first | exact get_push_same | assumption | apply get_push_old | (apply Ext.get; assumption) | (apply ExtBut.get; assumption; (first | assumption | omega | (simp only [Heap.push]; omega)))); (first | exact Nat.le_of_ble_eq_true rfl | (simp; done) | (simp; omega) | (rw [ints_len]; omega)); (first | exact line_take (by omega) | rfl)) | (apply P_build1; rfl; rfl; rfl; rfl; rfl; rfl; rfl; exact c1_ok rfl) | (apply P_storeTop; rfl; rfl; rfl; rfl; exact sz_ok rfl; rfl; rfl; rfl) | (apply P_box; rfl; rfl; rfl; rfl; exact sz_ok rfl; rfl; rfl) | (apply P_alloc; rfl; rfl; rfl; rfl; exact sz_ok rfl; rfl; rfl) | (apply P_makeMap; rfl; rfl; rfl; (intro _ _ _)) | (apply P_lookupI; rfl; rfl; rfl; rfl; rfl; exact map94; (first | assumption | (apply MapI.ext; assumption; (focus repeat' first | exact Ext.refl _ | assumption | apply Ext.push | (refine Ext.trans ?_ (by assumption)))))) | (apply M_move; rfl; rfl; rfl; rfl) | (apply M_assign; rfl; rfl; rfl; rfl) | (apply M_fa; rfl; rfl; rfl; rfl; exact fo_ok rfl; (first | exact Nat.zero_add _ | exact Nat.add_zero _ | rfl)) | (apply M_add; rfl; rfl; rfl; rfl; rfl; (unfold fit; omega)) | (apply M_load1; rfl; rfl; rfl; rfl; exact on_ok rfl; (focus repeat' first | exact get_push_same | assumption | apply get_push_old | (apply Ext.get; assumption) | (apply ExtBut.get; assumption; (first | assumption | omega | (simp only [Heap.push]; omega)))); (first | rfl | assumption); (first | assumption | exact same_int _ _ | rfl | (focus simp [same, same.all2]; done)); (first | rfl | assumption | exact hwv _ | (simp [within]; omega))) | (apply M_loadA; rfl; rfl; rfl; rfl; exact ag_ok rfl; (focus repeat' first | exact get_push_same | assumption | apply get_push_old | (apply Ext.get; assumption) | (apply ExtBut.get; assumption; (first | assumption | omega | (simp only [Heap.push]; omega)))); (first | exact Nat.le_of_ble_eq_true rfl | (simp; done) | (simp; omega) | (rw [ints_len]; omega)); (first | exact line_take (by omega) | rfl); (first | assumption | exact same_int _ _ | rfl | (focus simp [same, same.all2]; done)); (first | rfl | assumption | exact hwv _ | (simp [within]; omega))) | (apply M_remN; rfl; rfl; rfl; rfl; rfl; omega; omega) | (apply M_lookupI; rfl; rfl; rfl; rfl; rfl; exact map94; (first | assumption | (apply MapI.ext; assumption; (focus repeat' first | exact Ext.refl _ | assumption | apply Ext.push | (refine Ext.trans ?_ (by assumption)))))) | (apply M_mapUpdateI; rfl; rfl; rfl; rfl; rfl; exact map94; (first | assumption | (apply MapI.ext; assumption; (focus repeat' first | exact Ext.refl _ | assumption | apply Ext.push | (refine Ext.trans ?_ (by assumption))))); rfl; (intro _ _ _)) | fail))
      exact C_again (ih (k + 1, v4) _ (by dsimp only; omega) ⟨hlt, x4, n4, m4, ho4⟩) (by (focus repeat' first | rfl | exact trivial | apply And.intro))
    · have : k = B.n := by omega
      subst this
      (repeat' (first | (apply K_seq) | (apply K_region) | (apply O_at; rfl) | (apply N_at; rfl) | (apply O_fin; rfl) | (apply C_seq) | (apply K_ifT; rfl) | (apply K_ifF; rfl) | (apply K_open; exact openOK_of (by decide +kernel)) | (apply K_block) | (apply K_skip) | (apply K_exit) | (apply K_ret) | (apply N_fin; rfl; exact (.inl (Nat.le_refl 1))) | (apply N_fin; rfl; refine .inr ?_; (focus repeat' first | exact trivial | exact Keeps.nil _ _ | apply And.intro | rfl | (apply Keeps.cons; (focus repeat' first | exact get_push_same | assumption | apply get_push_old | (apply Ext.get; assumption) | (apply ExtBut.get; assumption; (first | assumption | omega | (simp only [Heap.push]; omega)))); (focus repeat' first | exact get_push_same | assumption | apply get_push_old | (apply Ext.get; assumption) | (apply ExtBut.get; assumption; (first | assumption | omega | (simp only [Heap.push]; omega))))) | (refine (List.forall_mem_cons (p := fun hk => MapI hk _ _)).2 ?_) | exact List.forall_mem_nil _ | (apply MapI.ext; assumption; (focus repeat' first | exact Ext.refl _ | assumption | apply Ext.push | (refine Ext.trans ?_ (by assumption)))))) | (apply C_exit) | (apply C_exitS) | (apply C_exitL) | (apply C_blockN) | (apply C_nil) | (apply P_move; rfl; rfl; rfl; rfl) | (apply P_assign; rfl; rfl; rfl; rfl) | (apply P_fa; rfl; rfl; rfl; rfl; exact fo_ok rfl; (first | exact Nat.zero_add _ | exact Nat.add_zero _ | rfl)) | (apply P_len; rfl; rfl; rfl; rfl; rfl; rfl; exact un_ok rfl) | (apply P_lssF; rfl; rfl; rfl; rfl; rfl; omega) | (apply P_lssT; rfl; rfl; rfl; rfl; rfl; omega) | (apply P_add; rfl; rfl; rfl; rfl; rfl; (unfold fit; omega)) | (apply P_sub; rfl; rfl; rfl; rfl; rfl; (unfold fit; omega)) | (apply P_idxB; rfl; rfl; rfl; rfl; rfl; exact un_ok rfl; exact sz_ok rfl; (first | rfl | exact (Int.toNat_of_nonneg (by omega)).symm); omega) | (apply P_load1; rfl; rfl; rfl; rfl; exact on_ok rfl; (focus repeat' first | exact get_push_same | assumption | apply get_push_old | (apply Ext.get; assumption) | (apply ExtBut.get; assumption; (first | assumption | omega | (simp only [Heap.push]; omega)))); (first | rfl | assumption)) | (apply P_loadA; rfl; rfl; rfl; rfl; exact ag_ok rfl; (focus repeat' first | exact get_push_same | assumption | apply get_push_old | (apply Ext.get; assumption) | (apply ExtBut.get; assumption; (first | assumption | omega | (simp only [Heap.push]; omega)))); (first | exact Nat.le_of_ble_eq_true rfl | (simp; done) | (simp; omega) | (rw [ints_len]; omega)); (first | exact line_take (by omega) | rfl)) | (apply P_build1; rfl; rfl; rfl; rfl; rfl; rfl; rfl; exact c1_ok rfl) | (apply P_storeTop; rfl; rfl; rfl; rfl; exact sz_ok rfl; rfl; rfl; rfl) | (apply P_box; rfl; rfl; rfl; rfl; exact sz_ok rfl; rfl; rfl) | (apply P_alloc; rfl; rfl; rfl; rfl; exact sz_ok rfl; rfl; rfl) | (apply P_makeMap; rfl; rfl; rfl; (intro _ _ _)) | (apply P_lookupI; rfl; rfl; rfl; rfl; rfl; exact map94; (first | assumption | (apply MapI.ext; assumption; (focus repeat' first | exact Ext.refl _ | assumption | apply Ext.push | (refine Ext.trans ?_ (by assumption)))))) | (apply M_move; rfl; rfl; rfl; rfl) | (apply M_assign; rfl; rfl; rfl; rfl) | (apply M_fa; rfl; rfl; rfl; rfl; exact fo_ok rfl; (first | exact Nat.zero_add _ | exact Nat.add_zero _ | rfl)) | (apply M_add; rfl; rfl; rfl; rfl; rfl; (unfold fit; omega)) | (apply M_load1; rfl; rfl; rfl; rfl; exact on_ok rfl; (focus repeat' first | exact get_push_same | assumption | apply get_push_old | (apply Ext.get; assumption) | (apply ExtBut.get; assumption; (first | assumption | omega | (simp only [Heap.push]; omega)))); (first | rfl | assumption); (first | assumption | exact same_int _ _ | rfl | (focus simp [same, same.all2]; done)); (first | rfl | assumption | exact hwv _ | (simp [within]; omega))) | (apply M_loadA; rfl; rfl; rfl; rfl; exact ag_ok rfl; (focus repeat' first | exact get_push_same | assumption | apply get_push_old | (apply Ext.get; assumption) | (apply ExtBut.get; assumption; (first | assumption | omega | (simp only [Heap.push]; omega)))); (first | exact Nat.le_of_ble_eq_true rfl | (simp; done) | (simp; omega) | (rw [ints_len]; omega)); (first | exact line_take (by omega) | rfl); (first | assumption | exact same_int _ _ | rfl | (focus simp [same, same.all2]; done)); (first | rfl | assumption | exact hwv _ | (simp [within]; omega))) | (apply M_remN; rfl; rfl; rfl; rfl; rfl; omega; omega) | (apply M_lookupI; rfl; rfl; rfl; rfl; rfl; exact map94; (first | assumption | (apply MapI.ext; assumption; (focus repeat' first | exact Ext.refl _ | assumption | apply Ext.push | (refine Ext.trans ?_ (by assumption)))))) | (apply M_mapUpdateI; rfl; rfl; rfl; rfl; rfl; exact map94; (first | assumption | (apply MapI.ext; assumption; (focus repeat' first | exact Ext.refl _ | assumption | apply Ext.push | (refine Ext.trans ?_ (by assumption))))); rfl; (intro _ _ _)) | fail))
      refine ⟨.inr rfl, _, rfl, _, _, rfl, OutI.low (e := 3) ho (by have := xh1.n; omega), hm, by (focus repeat' first | exact Ext.refl _ | assumption | apply Ext.push | (refine Ext.trans ?_ (by assumption)))⟩
  · exact ⟨Nat.zero_le _, by (focus repeat' first | exact Ext.refl _ | assumption | apply Ext.push | (refine Ext.trans ?_ (by assumption))), Nat.le_refl _, m1, OutI.nil _ _ _⟩
  · (focus repeat' first | rfl | exact trivial | apply And.intro)
end Go.AX.Sa

namespace Go.AX.Sa
open Go.Proofs
set_option maxRecDepth 100000
variable {K : Known}
/-! What is paid and carried, as it is written in the other way. -/
def rl (B : Bk) (t : List Int) (k : Nat) : List Int := (List.range B.hands.toNat).map fun i => rst B t k (i : Nat)
end Go.AX.Sa

namespace Go.AX.Sa
open Go.Proofs
set_option maxRecDepth 100000
variable {K : Known}
/-! What is paid and what is left in a truth: the law. -/
def PayR (l : List Int) (h : Heap) (u : Value) (h1 : Heap) : Prop := ∃ p cap, u = .tuple #[.slice p l.length cap, .int .i64 0] ∧ Rd h1 p (ints l) ∧ Ext h h1
theorem OutI.sl {e : TypeId} {h0 h : Heap} {v : Value} {l : List Int} (o : OutI e h0 h v l) : ∃ p cap, v = .slice p l.length cap ∧ Rd h p (ints l) := by
  rcases o with ⟨rfl, rfl⟩ | ⟨_, b, h1, h2, _⟩
  · exact ⟨none, 0, rfl, .inl rfl⟩
  · exact ⟨_, _, h1, .inr ⟨b, e, true, rfl, h2⟩⟩
theorem paysY_ok (hK : NoK K) {B : Bk} {q : Option Addr} {t : List Int} {kt : Nat} {h : Heap} (hB : BkAt B h) (hP : BkP B) (rt : Rd h q (ints t)) (hT : TruP B t) : CallW Tryz.prog K 30 #[bkV B, .slice q t.length kt] h (PayR (pds B t B.n) h) := by
  have hn := hP.n
  have hTl := hT.1
  refine body (N := 25) Tryz.func30 rfl (hK _ _ _ rfl) rfl rfl ?_
  (repeat' (first | (apply K_seq) | (apply K_region) | (apply O_at; rfl) | (apply O_fin; rfl) | (apply C_seq) | (apply K_ifF; rfl) | (apply K_skip) | (apply K_ret) | (apply C_nil) | (apply P_move; rfl; rfl; rfl; rfl) | (apply P_assign; rfl; rfl; rfl; rfl) | (apply P_pick; rfl; rfl; rfl; rfl; rfl; rfl) | (apply P_not; rfl; rfl; rfl; rfl) | (apply P_extract; rfl; rfl; rfl; rfl; rfl) | (apply P_loadA; rfl; rfl; rfl; rfl; exact ag_ok rfl; (focus repeat' first | exact get_push_same | assumption | (apply Ext.get; assumption)); (first | exact Nat.le_of_ble_eq_true rfl | (simp; done) | (simp; omega)); rfl) | (apply P_box; rfl; rfl; rfl; rfl; exact sz_ok rfl; rfl; rfl) | (apply P_build90; rfl; rfl; rfl; rfl) | (apply P_call; rfl; rfl; rfl; rfl; rfl; rfl; exact yes (isBook_ok hK (by omega) (hB.ext (by (focus repeat' first | exact Ext.refl _ | assumption | apply Ext.push | (refine Ext.trans ?_ (by assumption)))))) hP; (rintro _ _ ⟨rfl, _⟩)) | (apply P_call; rfl; rfl; rfl; rfl; rfl; rfl; exact yes (isTruth_ok hK (by omega) (by omega) (hB.ext (by (focus repeat' first | exact Ext.refl _ | assumption | apply Ext.push | (refine Ext.trans ?_ (by assumption))))) (rt.ext (by (focus repeat' first | exact Ext.refl _ | assumption | apply Ext.push | (refine Ext.trans ?_ (by assumption)))))) hT; (rintro _ _ ⟨rfl, _⟩)) | (apply P_call; rfl; rfl; rfl; rfl; rfl; rfl; exact settle_ok hK (hB.ext (by (focus repeat' first | exact Ext.refl _ | assumption | apply Ext.push | (refine Ext.trans ?_ (by assumption))))) hP (rt.ext (by (focus repeat' first | exact Ext.refl _ | assumption | apply Ext.push | (refine Ext.trans ?_ (by assumption))))) hT; (rintro _ _ ⟨_, _, rfl, _, _, _⟩)) | fail))
  rename_i v r h5 o5 m5 x5
  obtain ⟨p, cap, rfl, rd⟩ := OutI.sl (e := 3) o5
  exact ⟨.inr rfl, _, rfl, p, cap, rfl, rd, by (focus repeat' first | exact Ext.refl _ | assumption | apply Ext.push | (refine Ext.trans ?_ (by assumption)))⟩
end Go.AX.Sa

namespace Go.AX.Sa
open Go.Proofs
set_option maxRecDepth 100000
variable {K : Known}
/-! What is paid to a hand in all of its lines. -/
def tt (B : Bk) (t : List Int) (q : Int) : Nat → Int
  | 0 => 0
  | j + 1 => tt B t q j + if handOf B j = q then pd B t j else 0
theorem pd_b {B : Bk} (hP : BkP B) {t : List Int} (hT : TruP B t) {j : Nat} (hj : j < B.n) : 0 ≤ pd B t j ∧ pd B t j ≤ 32047 := by
  have h1 := due_b hP hT hj
  have hu := hP.unit
  have h2 := Int.emod_nonneg (due B t j) (show B.unit ≠ 0 by omega)
  have h3 := Int.emod_lt_of_pos (due B t j) (show 0 < B.unit by omega)
  have h4 : due B t j % B.unit + B.unit * (due B t j / B.unit) = due B t j := Int.emod_add_mul_ediv _ _
  have h5 : 0 ≤ B.unit * (due B t j / B.unit) := Int.mul_nonneg (by omega) (Int.ediv_nonneg h1.1 (by omega))
  unfold pd
  omega
theorem tt_b {B : Bk} (hP : BkP B) {t : List Int} (hT : TruP B t) (q : Int) : ∀ j, j ≤ B.n → 0 ≤ tt B t q j ∧ tt B t q j ≤ j * 32047 := by
  intro j
  induction j with
  | zero => intro _; exact ⟨Int.le_refl _, by simp [tt]⟩
  | succ j ih =>
    intro hj
    have h1 := ih (by omega)
    have h2 := pd_b hP hT (show j < B.n by omega)
    simp only [tt]
    by_cases hq : handOf B j = q
    · rw [if_pos hq]; omega
    · rw [if_neg hq]; omega
theorem paidTo_ok (hK : NoK K) {B : Bk} {q : Option Addr} {t : List Int} {kt : Nat} {n : Int} {h : Heap} (hB : BkAt B h) (hP : BkP B) (rt : Rd h q (ints t)) (hT : TruP B t) :
    CallW Tryz.prog K 105 #[btV B q t.length kt, .int .i64 n] h (IsV (.int .i64 (tt B t n B.n)) h) := by
  have hn := hP.n
  have hpl := pds_len B t B.n
  obtain ⟨b, e, own', hp, hg⟩ := hB.rd.at (by rw [ints_len, hB.len]; omega)
  refine body (N := 36) Tryz.func105 rfl (hK _ _ _ rfl) rfl rfl ?_
  (repeat' (first | (apply K_seq) | (apply K_region) | (apply O_at; rfl) | (apply O_fin; rfl) | (apply C_seq) | (apply K_ifT; rfl) | (apply K_ifF; rfl) | (apply K_block) | (apply K_skip) | (apply K_exit) | (apply K_ret) | (apply C_exit) | (apply C_exitS) | (apply C_exitL) | (apply C_blockN) | (apply C_nil) | (apply P_move; rfl; rfl; rfl; rfl) | (apply P_assign; rfl; rfl; rfl; rfl) | (apply P_fa; rfl; rfl; rfl; rfl; exact fo_ok rfl; (first | exact Nat.zero_add _ | exact Nat.add_zero _ | rfl)) | (apply P_len; rfl; rfl; rfl; rfl; rfl; rfl; exact un_ok rfl) | (apply P_extract; rfl; rfl; rfl; rfl; rfl) | (apply P_lssF; rfl; rfl; rfl; rfl; rfl; omega) | (apply P_lssT; rfl; rfl; rfl; rfl; rfl; omega) | (apply P_eqlF; rfl; rfl; rfl; rfl; rfl; omega) | (apply P_eqlT; rfl; rfl; rfl; rfl; rfl; omega) | (apply P_add; rfl; rfl; rfl; rfl; rfl; (unfold fit; omega)) | (apply P_idxA; rfl; rfl; rfl; rfl; rfl; exact un_ok rfl; exact sz_ok rfl; (first | rfl | exact (Int.toNat_of_nonneg (by omega)).symm); omega) | (apply P_idxB; rfl; rfl; rfl; rfl; rfl; exact un_ok rfl; exact sz_ok rfl; (first | rfl | exact (Int.toNat_of_nonneg (by omega)).symm); omega) | (apply P_load1; rfl; rfl; rfl; rfl; exact on_ok rfl; (focus repeat' first | exact get_push_same | assumption | apply get_push_old | (apply Ext.get; assumption)); (first | exact ints_get (by omega) | rfl | assumption)) | (apply P_loadA; rfl; rfl; rfl; rfl; exact ag_ok rfl; (focus repeat' first | exact get_push_same | assumption | apply get_push_old | (apply Ext.get; assumption)); (first | exact Nat.le_of_ble_eq_true rfl | (simp; done) | (simp; omega) | (rw [ints_len]; omega)); rfl) | (apply P_box; rfl; rfl; rfl; rfl; exact sz_ok rfl; rfl; rfl) | (apply P_call; rfl; rfl; rfl; rfl; rfl; rfl; exact settle_ok hK (hB.ext (by (focus repeat' first | exact Ext.refl _ | assumption | apply Ext.push | (refine Ext.trans ?_ (by assumption))))) hP (rt.ext (by (focus repeat' first | exact Ext.refl _ | assumption | apply Ext.push | (refine Ext.trans ?_ (by assumption))))) hT; (rintro _ _ ⟨_, _, rfl, _, _, _⟩)) | fail))
  rename_i h5 v r o5 m5 x5
  have o5' := o5
  obtain ⟨p5, c5, rfl, rd5⟩ := OutI.sl (e := 3) o5'
  obtain ⟨b5, e5, w5, rfl, g5⟩ := rd5.at (by rw [ints_len]; omega)
  (repeat' (first | (apply K_seq) | (apply K_region) | (apply O_at; rfl) | (apply O_fin; rfl) | (apply C_seq) | (apply K_ifT; rfl) | (apply K_ifF; rfl) | (apply K_block) | (apply K_skip) | (apply K_exit) | (apply K_ret) | (apply C_exit) | (apply C_exitS) | (apply C_exitL) | (apply C_blockN) | (apply C_nil) | (apply P_move; rfl; rfl; rfl; rfl) | (apply P_assign; rfl; rfl; rfl; rfl) | (apply P_fa; rfl; rfl; rfl; rfl; exact fo_ok rfl; (first | exact Nat.zero_add _ | exact Nat.add_zero _ | rfl)) | (apply P_len; rfl; rfl; rfl; rfl; rfl; rfl; exact un_ok rfl) | (apply P_extract; rfl; rfl; rfl; rfl; rfl) | (apply P_lssF; rfl; rfl; rfl; rfl; rfl; omega) | (apply P_lssT; rfl; rfl; rfl; rfl; rfl; omega) | (apply P_eqlF; rfl; rfl; rfl; rfl; rfl; omega) | (apply P_eqlT; rfl; rfl; rfl; rfl; rfl; omega) | (apply P_add; rfl; rfl; rfl; rfl; rfl; (unfold fit; omega)) | (apply P_idxA; rfl; rfl; rfl; rfl; rfl; exact un_ok rfl; exact sz_ok rfl; (first | rfl | exact (Int.toNat_of_nonneg (by omega)).symm); omega) | (apply P_idxB; rfl; rfl; rfl; rfl; rfl; exact un_ok rfl; exact sz_ok rfl; (first | rfl | exact (Int.toNat_of_nonneg (by omega)).symm); omega) | (apply P_load1; rfl; rfl; rfl; rfl; exact on_ok rfl; (focus repeat' first | exact get_push_same | assumption | apply get_push_old | (apply Ext.get; assumption)); (first | exact ints_get (by omega) | rfl | assumption)) | (apply P_loadA; rfl; rfl; rfl; rfl; exact ag_ok rfl; (focus repeat' first | exact get_push_same | assumption | apply get_push_old | (apply Ext.get; assumption)); (first | exact Nat.le_of_ble_eq_true rfl | (simp; done) | (simp; omega) | (rw [ints_len]; omega)); rfl) | (apply P_box; rfl; rfl; rfl; rfl; exact sz_ok rfl; rfl; rfl) | fail))
  refine K_loopE (fun k : Nat => [(17, .int .i64 (k : Nat)), (16, .int .i64 ((pds B t B.n).length : Nat)), (15, .slice (some ⟨b5, 0, none⟩) (pds B t B.n).length c5), (5, .int .i64 (tt B t n k)), (2, .pointer (some ⟨h.n, 0, none⟩)), (1, .int .i64 n)])
    (fun k h' => k ≤ B.n ∧ Ext h5 h') (fun k => B.n - k) ?_ 0 ?_ ?_
  · intro k h' ⟨hk, hx⟩ ih
    have hgb : h'.get? h.n = some (.cells (btV B q t.length kt).cells.toList 90 true) := hx.get (x5.get get_push_same)
    have hg' := hx.get (x5.get (get_push_old hg))
    have g5' := hx.get g5
    have hlen := hB.len
    by_cases hlt : k < B.n
    · have hline := (hP.line k hlt).1
      have hpg := pds_get (B := B) (t := t) hlt
      have hpb := pd_b hP hT hlt
      have htb := tt_b hP hT n k (by omega)
      have hkb : (k : Int) * 32047 ≤ 5 * 32047 := by omega
      by_cases hh : handOf B k = n
      · have e1 : tt B t n (k + 1) = tt B t n k + (pds B t B.n).getD k 0 := by simp only [tt]; rw [if_pos hh, hpg]
        unfold handOf at hh
        (repeat' (first | (apply K_seq) | (apply K_region) | (apply O_at; rfl) | (apply O_fin; rfl) | (apply C_seq) | (apply K_ifT; rfl) | (apply K_ifF; rfl) | (apply K_block) | (apply K_skip) | (apply K_exit) | (apply K_ret) | (apply C_exit) | (apply C_exitS) | (apply C_exitL) | (apply C_blockN) | (apply C_nil) | (apply P_move; rfl; rfl; rfl; rfl) | (apply P_assign; rfl; rfl; rfl; rfl) | (apply P_fa; rfl; rfl; rfl; rfl; exact fo_ok rfl; (first | exact Nat.zero_add _ | exact Nat.add_zero _ | rfl)) | (apply P_len; rfl; rfl; rfl; rfl; rfl; rfl; exact un_ok rfl) | (apply P_extract; rfl; rfl; rfl; rfl; rfl) | (apply P_lssF; rfl; rfl; rfl; rfl; rfl; omega) | (apply P_lssT; rfl; rfl; rfl; rfl; rfl; omega) | (apply P_eqlF; rfl; rfl; rfl; rfl; rfl; omega) | (apply P_eqlT; rfl; rfl; rfl; rfl; rfl; omega) | (apply P_add; rfl; rfl; rfl; rfl; rfl; (unfold fit; omega)) | (apply P_idxA; rfl; rfl; rfl; rfl; rfl; exact un_ok rfl; exact sz_ok rfl; (first | rfl | exact (Int.toNat_of_nonneg (by omega)).symm); omega) | (apply P_idxB; rfl; rfl; rfl; rfl; rfl; exact un_ok rfl; exact sz_ok rfl; (first | rfl | exact (Int.toNat_of_nonneg (by omega)).symm); omega) | (apply P_load1; rfl; rfl; rfl; rfl; exact on_ok rfl; (focus repeat' first | exact get_push_same | assumption | apply get_push_old | (apply Ext.get; assumption)); (first | exact ints_get (by omega) | rfl | assumption)) | (apply P_loadA; rfl; rfl; rfl; rfl; exact ag_ok rfl; (focus repeat' first | exact get_push_same | assumption | apply get_push_old | (apply Ext.get; assumption)); (first | exact Nat.le_of_ble_eq_true rfl | (simp; done) | (simp; omega) | (rw [ints_len]; omega)); rfl) | (apply P_box; rfl; rfl; rfl; rfl; exact sz_ok rfl; rfl; rfl) | fail))
        rw [hp]
        (repeat' (first | (apply K_seq) | (apply K_region) | (apply O_at; rfl) | (apply O_fin; rfl) | (apply C_seq) | (apply K_ifT; rfl) | (apply K_ifF; rfl) | (apply K_block) | (apply K_skip) | (apply K_exit) | (apply K_ret) | (apply C_exit) | (apply C_exitS) | (apply C_exitL) | (apply C_blockN) | (apply C_nil) | (apply P_move; rfl; rfl; rfl; rfl) | (apply P_assign; rfl; rfl; rfl; rfl) | (apply P_fa; rfl; rfl; rfl; rfl; exact fo_ok rfl; (first | exact Nat.zero_add _ | exact Nat.add_zero _ | rfl)) | (apply P_len; rfl; rfl; rfl; rfl; rfl; rfl; exact un_ok rfl) | (apply P_extract; rfl; rfl; rfl; rfl; rfl) | (apply P_lssF; rfl; rfl; rfl; rfl; rfl; omega) | (apply P_lssT; rfl; rfl; rfl; rfl; rfl; omega) | (apply P_eqlF; rfl; rfl; rfl; rfl; rfl; omega) | (apply P_eqlT; rfl; rfl; rfl; rfl; rfl; omega) | (apply P_add; rfl; rfl; rfl; rfl; rfl; (unfold fit; omega)) | (apply P_idxA; rfl; rfl; rfl; rfl; rfl; exact un_ok rfl; exact sz_ok rfl; (first | rfl | exact (Int.toNat_of_nonneg (by omega)).symm); omega) | (apply P_idxB; rfl; rfl; rfl; rfl; rfl; exact un_ok rfl; exact sz_ok rfl; (first | rfl | exact (Int.toNat_of_nonneg (by omega)).symm); omega) | (apply P_load1; rfl; rfl; rfl; rfl; exact on_ok rfl; (focus repeat' first | exact get_push_same | assumption | apply get_push_old | (apply Ext.get; assumption)); (first | exact ints_get (by omega) | rfl | assumption)) | (apply P_loadA; rfl; rfl; rfl; rfl; exact ag_ok rfl; (focus repeat' first | exact get_push_same | assumption | apply get_push_old | (apply Ext.get; assumption)); (first | exact Nat.le_of_ble_eq_true rfl | (simp; done) | (simp; omega) | (rw [ints_len]; omega)); rfl) | (apply P_box; rfl; rfl; rfl; rfl; exact sz_ok rfl; rfl; rfl) | fail))
        exact C_again (ih (k + 1) _ (by omega) ⟨hlt, by (focus repeat' first | exact Ext.refl _ | assumption | apply Ext.push | (refine Ext.trans ?_ (by assumption)))⟩) ⟨rfl, rfl, rfl, (by rw [e1]; rfl), rfl, rfl, trivial⟩
      · have e1 : tt B t n (k + 1) = tt B t n k := by simp only [tt]; rw [if_neg hh]; omega
        unfold handOf at hh
        (repeat' (first | (apply K_seq) | (apply K_region) | (apply O_at; rfl) | (apply O_fin; rfl) | (apply C_seq) | (apply K_ifT; rfl) | (apply K_ifF; rfl) | (apply K_block) | (apply K_skip) | (apply K_exit) | (apply K_ret) | (apply C_exit) | (apply C_exitS) | (apply C_exitL) | (apply C_blockN) | (apply C_nil) | (apply P_move; rfl; rfl; rfl; rfl) | (apply P_assign; rfl; rfl; rfl; rfl) | (apply P_fa; rfl; rfl; rfl; rfl; exact fo_ok rfl; (first | exact Nat.zero_add _ | exact Nat.add_zero _ | rfl)) | (apply P_len; rfl; rfl; rfl; rfl; rfl; rfl; exact un_ok rfl) | (apply P_extract; rfl; rfl; rfl; rfl; rfl) | (apply P_lssF; rfl; rfl; rfl; rfl; rfl; omega) | (apply P_lssT; rfl; rfl; rfl; rfl; rfl; omega) | (apply P_eqlF; rfl; rfl; rfl; rfl; rfl; omega) | (apply P_eqlT; rfl; rfl; rfl; rfl; rfl; omega) | (apply P_add; rfl; rfl; rfl; rfl; rfl; (unfold fit; omega)) | (apply P_idxA; rfl; rfl; rfl; rfl; rfl; exact un_ok rfl; exact sz_ok rfl; (first | rfl | exact (Int.toNat_of_nonneg (by omega)).symm); omega) | (apply P_idxB; rfl; rfl; rfl; rfl; rfl; exact un_ok rfl; exact sz_ok rfl; (first | rfl | exact (Int.toNat_of_nonneg (by omega)).symm); omega) | (apply P_load1; rfl; rfl; rfl; rfl; exact on_ok rfl; (focus repeat' first | exact get_push_same | assumption | apply get_push_old | (apply Ext.get; assumption)); (first | exact ints_get (by omega) | rfl | assumption)) | (apply P_loadA; rfl; rfl; rfl; rfl; exact ag_ok rfl; (focus repeat' first | exact get_push_same | assumption | apply get_push_old | (apply Ext.get; assumption)); (first | exact Nat.le_of_ble_eq_true rfl | (simp; done) | (simp; omega) | (rw [ints_len]; omega)); rfl) | (apply P_box; rfl; rfl; rfl; rfl; exact sz_ok rfl; rfl; rfl) | fail))
        rw [hp]
        (repeat' (first | (apply K_seq) | (apply K_region) | (apply O_at; rfl) | (apply O_fin; rfl) | (apply C_seq) | (apply K_ifT; rfl) | (apply K_ifF; rfl) | (apply K_block) | (apply K_skip) | (apply K_exit) | (apply K_ret) | (apply C_exit) | (apply C_exitS) | (apply C_exitL) | (apply C_blockN) | (apply C_nil) | (apply P_move; rfl; rfl; rfl; rfl) | (apply P_assign; rfl; rfl; rfl; rfl) | (apply P_fa; rfl; rfl; rfl; rfl; exact fo_ok rfl; (first | exact Nat.zero_add _ | exact Nat.add_zero _ | rfl)) | (apply P_len; rfl; rfl; rfl; rfl; rfl; rfl; exact un_ok rfl) | (apply P_extract; rfl; rfl; rfl; rfl; rfl) | (apply P_lssF; rfl; rfl; rfl; rfl; rfl; omega) | (apply P_lssT; rfl; rfl; rfl; rfl; rfl; omega) | (apply P_eqlF; rfl; rfl; rfl; rfl; rfl; omega) | (apply P_eqlT; rfl; rfl; rfl; rfl; rfl; omega) | (apply P_add; rfl; rfl; rfl; rfl; rfl; (unfold fit; omega)) | (apply P_idxA; rfl; rfl; rfl; rfl; rfl; exact un_ok rfl; exact sz_ok rfl; (first | rfl | exact (Int.toNat_of_nonneg (by omega)).symm); omega) | (apply P_idxB; rfl; rfl; rfl; rfl; rfl; exact un_ok rfl; exact sz_ok rfl; (first | rfl | exact (Int.toNat_of_nonneg (by omega)).symm); omega) | (apply P_load1; rfl; rfl; rfl; rfl; exact on_ok rfl; (focus repeat' first | exact get_push_same | assumption | apply get_push_old | (apply Ext.get; assumption)); (first | exact ints_get (by omega) | rfl | assumption)) | (apply P_loadA; rfl; rfl; rfl; rfl; exact ag_ok rfl; (focus repeat' first | exact get_push_same | assumption | apply get_push_old | (apply Ext.get; assumption)); (first | exact Nat.le_of_ble_eq_true rfl | (simp; done) | (simp; omega) | (rw [ints_len]; omega)); rfl) | (apply P_box; rfl; rfl; rfl; rfl; exact sz_ok rfl; rfl; rfl) | fail))
        exact C_again (ih (k + 1) _ (by omega) ⟨hlt, by (focus repeat' first | exact Ext.refl _ | assumption | apply Ext.push | (refine Ext.trans ?_ (by assumption)))⟩) ⟨rfl, rfl, rfl, (by rw [e1]; rfl), rfl, rfl, trivial⟩
    · have : k = B.n := by omega
      subst this
      (repeat' (first | (apply K_seq) | (apply K_region) | (apply O_at; rfl) | (apply O_fin; rfl) | (apply C_seq) | (apply K_ifT; rfl) | (apply K_ifF; rfl) | (apply K_block) | (apply K_skip) | (apply K_exit) | (apply K_ret) | (apply C_exit) | (apply C_exitS) | (apply C_exitL) | (apply C_blockN) | (apply C_nil) | (apply P_move; rfl; rfl; rfl; rfl) | (apply P_assign; rfl; rfl; rfl; rfl) | (apply P_fa; rfl; rfl; rfl; rfl; exact fo_ok rfl; (first | exact Nat.zero_add _ | exact Nat.add_zero _ | rfl)) | (apply P_len; rfl; rfl; rfl; rfl; rfl; rfl; exact un_ok rfl) | (apply P_extract; rfl; rfl; rfl; rfl; rfl) | (apply P_lssF; rfl; rfl; rfl; rfl; rfl; omega) | (apply P_lssT; rfl; rfl; rfl; rfl; rfl; omega) | (apply P_eqlF; rfl; rfl; rfl; rfl; rfl; omega) | (apply P_eqlT; rfl; rfl; rfl; rfl; rfl; omega) | (apply P_add; rfl; rfl; rfl; rfl; rfl; (unfold fit; omega)) | (apply P_idxA; rfl; rfl; rfl; rfl; rfl; exact un_ok rfl; exact sz_ok rfl; (first | rfl | exact (Int.toNat_of_nonneg (by omega)).symm); omega) | (apply P_idxB; rfl; rfl; rfl; rfl; rfl; exact un_ok rfl; exact sz_ok rfl; (first | rfl | exact (Int.toNat_of_nonneg (by omega)).symm); omega) | (apply P_load1; rfl; rfl; rfl; rfl; exact on_ok rfl; (focus repeat' first | exact get_push_same | assumption | apply get_push_old | (apply Ext.get; assumption)); (first | exact ints_get (by omega) | rfl | assumption)) | (apply P_loadA; rfl; rfl; rfl; rfl; exact ag_ok rfl; (focus repeat' first | exact get_push_same | assumption | apply get_push_old | (apply Ext.get; assumption)); (first | exact Nat.le_of_ble_eq_true rfl | (simp; done) | (simp; omega) | (rw [ints_len]; omega)); rfl) | (apply P_box; rfl; rfl; rfl; rfl; exact sz_ok rfl; rfl; rfl) | fail))
      exact ⟨.inr rfl, _, rfl, rfl, by (focus repeat' first | exact Ext.refl _ | assumption | apply Ext.push | (refine Ext.trans ?_ (by assumption)))⟩
  · exact ⟨Nat.zero_le _, by (focus repeat' first | exact Ext.refl _ | assumption | apply Ext.push | (refine Ext.trans ?_ (by assumption)))⟩
  · (focus repeat' first | rfl | exact trivial | apply And.intro)
theorem totalIn_ok (hK : NoK K) {B : Bk} {n : Int} {bl : Nat} {h : Heap} (hB : BkAt B h) (hP : BkP B) {e : TypeId} {o : Bool} (hb : h.get? bl = some (.cells [.int .i64 n] e o)) :
    Tells K B 104 #[.pointer (some ⟨bl, 0, none⟩)] (fun t => tt B t n B.n) h := by
  intro h' hx q t kt rt hT
  refine body (N := 7) Tryz.func104 rfl (hK _ _ _ rfl) rfl rfl ?_
  have hb' := hx.get hb
  (repeat' (first | (apply K_seq) | (apply K_region) | (apply O_at; rfl) | (apply O_fin; rfl) | (apply C_seq) | (apply K_ret) | (apply C_nil) | (apply P_assign; rfl; rfl; rfl; rfl) | (apply P_load1; rfl; rfl; rfl; rfl; exact on_ok rfl; (focus repeat' first | exact get_push_same | assumption | apply get_push_old | (apply Ext.get; assumption)); (first | rfl | assumption)) | (apply P_loadA; rfl; rfl; rfl; rfl; exact ag_ok rfl; (focus repeat' first | exact get_push_same | assumption | apply get_push_old | (apply Ext.get; assumption)); (first | exact Nat.le_of_ble_eq_true rfl | (simp; done) | (simp; omega)); rfl) | (apply P_box; rfl; rfl; rfl; rfl; exact sz_ok rfl; rfl; rfl) | (apply P_call; rfl; rfl; rfl; rfl; rfl; rfl; exact paidTo_ok hK (hB.ext (by (focus repeat' first | exact Ext.refl _ | assumption | apply Ext.push | (refine Ext.trans ?_ (by assumption))))) hP (rt.ext (by (focus repeat' first | exact Ext.refl _ | assumption | apply Ext.push | (refine Ext.trans ?_ (by assumption))))) hT; (rintro _ _ ⟨rfl, _⟩)) | fail))
  exact ⟨.inr rfl, _, rfl, rfl, by (focus repeat' first | exact Ext.refl _ | assumption | apply Ext.push | (refine Ext.trans ?_ (by assumption)))⟩
theorem total_ok (hK : NoK K) {B : Bk} {n : Int} {h : Heap} (hB : BkAt B h) (hP : BkP B) : CallW Tryz.prog K 77 #[bkV B, .int .i64 n] h (IsV (.agg #[.int .i64 (tt B (mostT B) n B.n), .int .i64 (tt B (leastT B) n B.n)]) h) := by
  have hbb := hB.b
  refine body (N := 8) Tryz.func77 rfl (hK _ _ _ rfl) rfl rfl ?_
  (repeat' (first | (apply K_seq) | (apply K_region) | (apply O_at; rfl) | (apply O_fin; rfl) | (apply C_seq) | (apply K_ret) | (apply C_nil) | (apply P_makeFunc; rfl; rfl; rfl; rfl; rfl) | (apply P_loadA; rfl; rfl; rfl; rfl; exact ag_ok rfl; (focus repeat' first | exact get_push_same | assumption | apply get_push_old | (apply Ext.get; assumption)); (first | exact Nat.le_of_ble_eq_true rfl | (simp; done) | (simp; omega)); rfl) | (apply P_box; rfl; rfl; rfl; rfl; exact sz_ok rfl; rfl; rfl) | (apply P_alloc; rfl; rfl; rfl; rfl; exact sz_ok rfl; rfl; rfl) | (apply P_storeW; rfl; rfl; rfl; rfl; (focus repeat' first | exact get_push_same | assumption | apply get_push_old | (apply Ext.get; assumption)); exact sz_ok rfl; rfl; (first | rfl | exact ints_len _); rfl; (intro _ _ _)) | (apply P_call; rfl; rfl; rfl; rfl; rfl; rfl; exact between_ok hK (hB.ext (by (focus repeat' first | exact Ext.refl _ | assumption | apply Ext.push | (refine Ext.trans ?_ (by assumption)) | (refine Ext.ofBut ?_ (by assumption) (by first | exact Nat.le_refl _ | omega))))) hP rfl (totalIn_ok hK (hB.ext (by (focus repeat' first | exact Ext.refl _ | assumption | apply Ext.push | (refine Ext.trans ?_ (by assumption)) | (refine Ext.ofBut ?_ (by assumption) (by first | exact Nat.le_refl _ | omega))))) hP (by (focus repeat' first | exact get_push_same | assumption | apply get_push_old | (apply Ext.get; assumption)))); (rintro _ _ ⟨rfl, _⟩)) | fail))
  rename_i h5 q5 x5
  refine ⟨.inr rfl, _, resE_c rfl (readA (ag_ok rfl) q5 (Nat.le_of_ble_eq_true rfl) rfl) rfl, rfl, ?_⟩
  refine Ext.ofBut ?_ x5 (by (first | omega | (simp only [Heap.push]; omega)))
  (focus repeat' first | exact Ext.refl _ | assumption | apply Ext.push | (refine Ext.trans ?_ (by assumption)) | (refine Ext.ofBut ?_ (by assumption) (by first | exact Nat.le_refl _ | omega)))
end Go.AX.Sa

namespace Go.AX.Sa
open Go.Proofs
set_option maxRecDepth 100000
variable {K : Known}
/-! The ends of the errors, a book with another rate, and what is paid to a hand: the other way. -/
def endT (B : Bk) (m : Bool) : List Int := bif m then mostT B else leastT B
theorem endT_len (B : Bk) (m : Bool) : (endT B m).length = B.n := by cases m <;> simp [endT, leastT_len, mostT_len]
theorem endT_tru {B : Bk} (hP : BkP B) (m : Bool) : TruP B (endT B m) := by cases m <;> simp [endT, leastT_tru hP, mostT_tru hP]
def endP (B : Bk) (m : Bool) (k : Nat) : List Int := (List.range k).map fun j => bif m then B.l.getD (j * 10 + 3) 0 else B.l.getD (j * 10 + 2) 0
theorem endP_full (B : Bk) (m : Bool) : endP B m B.n = endT B m := by
  cases m
  · simp [endP, endT, leastT, lows, errs, Function.comp_def]
  · simp [endP, endT, mostT, highs, errs, Function.comp_def]
theorem endP_len (B : Bk) (m : Bool) (k : Nat) : (endP B m k).length = k := by simp [endP]
theorem endP_succ (B : Bk) (m : Bool) (k : Nat) : endP B m (k + 1) = endP B m k ++ [bif m then B.l.getD (k * 10 + 3) 0 else B.l.getD (k * 10 + 2) 0] := by simp [endP, List.range_succ]
theorem refEnd_ok (hK : NoK K) {B : Bk} {m : Bool} {h : Heap} (hB : BkAt B h) (hn : 1 ≤ B.n ∧ B.n ≤ 1000) :
    CallW Tryz.prog K 44 #[bkV B, .bool m] h (IsL (endT B m) h) := by
  obtain ⟨b, e, own', hp, hg⟩ := hB.rd.at (by rw [ints_len, hB.len]; omega)
  refine body (N := 36) Tryz.func44 rfl (hK _ _ _ rfl) rfl rfl ?_
  (repeat' (first | (apply K_seq) | (apply K_region) | (apply O_at; rfl) | (apply O_fin; rfl) | (apply C_seq) | (apply K_ifT; rfl) | (apply K_ifF; rfl) | (apply K_block) | (apply K_skip) | (apply K_exit) | (apply K_ret) | (apply C_exit) | (apply C_exitS) | (apply C_exitL) | (apply C_blockN) | (apply C_nil) | (apply P_move; rfl; rfl; rfl; rfl) | (apply P_assign; rfl; rfl; rfl; rfl) | (apply P_fa; rfl; rfl; rfl; rfl; exact fo_ok rfl; (first | exact Nat.zero_add _ | exact Nat.add_zero _ | rfl)) | (apply P_len; rfl; rfl; rfl; rfl; rfl; rfl; exact un_ok rfl) | (apply P_lssF; rfl; rfl; rfl; rfl; rfl; omega) | (apply P_lssT; rfl; rfl; rfl; rfl; rfl; omega) | (apply P_add; rfl; rfl; rfl; rfl; rfl; (unfold fit; omega)) | (apply P_idxB; rfl; rfl; rfl; rfl; rfl; exact un_ok rfl; exact sz_ok rfl; (first | rfl | exact (Int.toNat_of_nonneg (by omega)).symm); omega) | (apply P_load1; rfl; rfl; rfl; rfl; exact on_ok rfl; (focus repeat' first | exact get_push_same | assumption | apply get_push_old | (apply Ext.get; assumption)); (first | exact ints_get (by omega) | rfl | assumption)) | (apply P_build1; rfl; rfl; rfl; rfl; rfl; rfl; rfl; exact c1_ok rfl) | (apply P_appI; rfl; rfl; rfl; rfl; rfl; rfl; rfl; rfl; exact c1_ok rfl; exact un_ok rfl; (focus repeat' first | exact get_push_same | assumption | apply get_push_old | (apply Ext.get; assumption)); (apply OutI.ext; assumption; (focus repeat' first | exact Ext.refl _ | assumption | apply Ext.push | (refine Ext.trans ?_ (by assumption)))); (focus repeat' first | exact Ext.refl _ | assumption | apply Ext.push | (refine Ext.trans ?_ (by assumption))); (first | omega | (simp; omega)); (intro _ _ _ _)) | (apply P_box; rfl; rfl; rfl; rfl; exact sz_ok rfl; rfl; rfl) | fail))
  refine K_loopE (fun a : Nat × Value => [(6, .int .i64 (a.1 : Nat)), (2, .pointer (some ⟨h.n, 0, none⟩)), (1, .bool m), (5, a.2)])
    (fun a h' => a.1 ≤ B.n ∧ Ext (h.push (.cells (bkV B).cells.toList 40 true)) h' ∧ OutI 3 (h.push (.cells (bkV B).cells.toList 40 true)) h' a.2 (endP B m a.1)) (fun a => B.n - a.1) ?_ (0, nilV) ?_ ?_
  · rintro ⟨k, v⟩ h' ⟨hk, hx, ho⟩ ih
    dsimp only at hk hx ho ih ⊢
    have hgb : h'.get? h.n = some (.cells (bkV B).cells.toList 40 true) := hx.get get_push_same
    have hg' := hx.get (get_push_old hg)
    have hle := endP_len B m k
    have hlen := hB.len
    by_cases hlt : k < B.n
    · cases m
      all_goals (repeat' (first | (apply K_seq) | (apply K_region) | (apply O_at; rfl) | (apply O_fin; rfl) | (apply C_seq) | (apply K_ifT; rfl) | (apply K_ifF; rfl) | (apply K_block) | (apply K_skip) | (apply K_exit) | (apply K_ret) | (apply C_exit) | (apply C_exitS) | (apply C_exitL) | (apply C_blockN) | (apply C_nil) | (apply P_move; rfl; rfl; rfl; rfl) | (apply P_assign; rfl; rfl; rfl; rfl) | (apply P_fa; rfl; rfl; rfl; rfl; exact fo_ok rfl; (first | exact Nat.zero_add _ | exact Nat.add_zero _ | rfl)) | (apply P_len; rfl; rfl; rfl; rfl; rfl; rfl; exact un_ok rfl) | (apply P_lssF; rfl; rfl; rfl; rfl; rfl; omega) | (apply P_lssT; rfl; rfl; rfl; rfl; rfl; omega) | (apply P_add; rfl; rfl; rfl; rfl; rfl; (unfold fit; omega)) | (apply P_idxB; rfl; rfl; rfl; rfl; rfl; exact un_ok rfl; exact sz_ok rfl; (first | rfl | exact (Int.toNat_of_nonneg (by omega)).symm); omega) | (apply P_load1; rfl; rfl; rfl; rfl; exact on_ok rfl; (focus repeat' first | exact get_push_same | assumption | apply get_push_old | (apply Ext.get; assumption)); (first | exact ints_get (by omega) | rfl | assumption)) | (apply P_build1; rfl; rfl; rfl; rfl; rfl; rfl; rfl; exact c1_ok rfl) | (apply P_appI; rfl; rfl; rfl; rfl; rfl; rfl; rfl; rfl; exact c1_ok rfl; exact un_ok rfl; (focus repeat' first | exact get_push_same | assumption | apply get_push_old | (apply Ext.get; assumption)); (apply OutI.ext; assumption; (focus repeat' first | exact Ext.refl _ | assumption | apply Ext.push | (refine Ext.trans ?_ (by assumption)))); (focus repeat' first | exact Ext.refl _ | assumption | apply Ext.push | (refine Ext.trans ?_ (by assumption))); (first | omega | (simp; omega)); (intro _ _ _ _)) | (apply P_box; rfl; rfl; rfl; rfl; exact sz_ok rfl; rfl; rfl) | fail))
      all_goals rw [hp]
      all_goals (repeat' (first | (apply K_seq) | (apply K_region) | (apply O_at; rfl) | (apply O_fin; rfl) | (apply C_seq) | (apply K_ifT; rfl) | (apply K_ifF; rfl) | (apply K_block) | (apply K_skip) | (apply K_exit) | (apply K_ret) | (apply C_exit) | (apply C_exitS) | (apply C_exitL) | (apply C_blockN) | (apply C_nil) | (apply P_move; rfl; rfl; rfl; rfl) | (apply P_assign; rfl; rfl; rfl; rfl) | (apply P_fa; rfl; rfl; rfl; rfl; exact fo_ok rfl; (first | exact Nat.zero_add _ | exact Nat.add_zero _ | rfl)) | (apply P_len; rfl; rfl; rfl; rfl; rfl; rfl; exact un_ok rfl) | (apply P_lssF; rfl; rfl; rfl; rfl; rfl; omega) | (apply P_lssT; rfl; rfl; rfl; rfl; rfl; omega) | (apply P_add; rfl; rfl; rfl; rfl; rfl; (unfold fit; omega)) | (apply P_idxB; rfl; rfl; rfl; rfl; rfl; exact un_ok rfl; exact sz_ok rfl; (first | rfl | exact (Int.toNat_of_nonneg (by omega)).symm); omega) | (apply P_load1; rfl; rfl; rfl; rfl; exact on_ok rfl; (focus repeat' first | exact get_push_same | assumption | apply get_push_old | (apply Ext.get; assumption)); (first | exact ints_get (by omega) | rfl | assumption)) | (apply P_build1; rfl; rfl; rfl; rfl; rfl; rfl; rfl; exact c1_ok rfl) | (apply P_appI; rfl; rfl; rfl; rfl; rfl; rfl; rfl; rfl; exact c1_ok rfl; exact un_ok rfl; (focus repeat' first | exact get_push_same | assumption | apply get_push_old | (apply Ext.get; assumption)); (apply OutI.ext; assumption; (focus repeat' first | exact Ext.refl _ | assumption | apply Ext.push | (refine Ext.trans ?_ (by assumption)))); (focus repeat' first | exact Ext.refl _ | assumption | apply Ext.push | (refine Ext.trans ?_ (by assumption))); (first | omega | (simp; omega)); (intro _ _ _ _)) | (apply P_box; rfl; rfl; rfl; rfl; exact sz_ok rfl; rfl; rfl) | fail))
      all_goals rename_i v1 h1 ho1 hx1
      all_goals exact C_again (ih (k + 1, v1) _ (by dsimp only; omega) ⟨hlt, hx1, by rw [endP_succ]; exact ho1⟩) (by (focus repeat' first | rfl | exact trivial | apply And.intro))
    · have : k = B.n := by omega
      subst this
      (repeat' (first | (apply K_seq) | (apply K_region) | (apply O_at; rfl) | (apply O_fin; rfl) | (apply C_seq) | (apply K_ifT; rfl) | (apply K_ifF; rfl) | (apply K_block) | (apply K_skip) | (apply K_exit) | (apply K_ret) | (apply C_exit) | (apply C_exitS) | (apply C_exitL) | (apply C_blockN) | (apply C_nil) | (apply P_move; rfl; rfl; rfl; rfl) | (apply P_assign; rfl; rfl; rfl; rfl) | (apply P_fa; rfl; rfl; rfl; rfl; exact fo_ok rfl; (first | exact Nat.zero_add _ | exact Nat.add_zero _ | rfl)) | (apply P_len; rfl; rfl; rfl; rfl; rfl; rfl; exact un_ok rfl) | (apply P_lssF; rfl; rfl; rfl; rfl; rfl; omega) | (apply P_lssT; rfl; rfl; rfl; rfl; rfl; omega) | (apply P_add; rfl; rfl; rfl; rfl; rfl; (unfold fit; omega)) | (apply P_idxB; rfl; rfl; rfl; rfl; rfl; exact un_ok rfl; exact sz_ok rfl; (first | rfl | exact (Int.toNat_of_nonneg (by omega)).symm); omega) | (apply P_load1; rfl; rfl; rfl; rfl; exact on_ok rfl; (focus repeat' first | exact get_push_same | assumption | apply get_push_old | (apply Ext.get; assumption)); (first | exact ints_get (by omega) | rfl | assumption)) | (apply P_build1; rfl; rfl; rfl; rfl; rfl; rfl; rfl; exact c1_ok rfl) | (apply P_appI; rfl; rfl; rfl; rfl; rfl; rfl; rfl; rfl; exact c1_ok rfl; exact un_ok rfl; (focus repeat' first | exact get_push_same | assumption | apply get_push_old | (apply Ext.get; assumption)); (apply OutI.ext; assumption; (focus repeat' first | exact Ext.refl _ | assumption | apply Ext.push | (refine Ext.trans ?_ (by assumption)))); (focus repeat' first | exact Ext.refl _ | assumption | apply Ext.push | (refine Ext.trans ?_ (by assumption))); (first | omega | (simp; omega)); (intro _ _ _ _)) | (apply P_box; rfl; rfl; rfl; rfl; exact sz_ok rfl; rfl; rfl) | fail))
      rw [endP_full] at ho
      exact ⟨.inr rfl, _, rfl, (OutI.low (e := 3) ho (Nat.le_succ _)).isL (by (focus repeat' first | exact Ext.refl _ | assumption | apply Ext.push | (refine Ext.trans ?_ (by assumption))))⟩
  · exact ⟨Nat.zero_le _, by (focus repeat' first | exact Ext.refl _ | assumption | apply Ext.push | (refine Ext.trans ?_ (by assumption))), OutI.nil _ _ _⟩
  · (focus repeat' first | rfl | exact trivial | apply And.intro)
def withB (B : Bk) (r : Int) : Bk := { B with sheet := r }
theorem BkAt.withB {B : Bk} {h : Heap} (hB : BkAt B h) (r : Int) : BkAt (withB B r) h := ⟨hB.g, hB.len, hB.rd, hB.b⟩
end Go.AX.Sa

namespace Go.AX.Sa
open Go.Proofs
set_option maxRecDepth 100000
variable {K : Known}
/-! The least rate with which a hand surely is paid a sum. -/
def enough (B : Bk) (n s : Int) (k : Nat) : Bool := decide (s ≤ tt (withB B (k : Nat)) (mostT B) n B.n)
def lr (B : Bk) (n s : Int) : Option Nat := (List.range 801).find? (enough B n s)
def rateV : Option Nat → Value
  | some k => .tuple #[.int .i64 (k : Nat), .int .i64 0]
  | none => .tuple #[.int .i64 0, .int .i64 5]
def needV : Option Nat → Value
  | some k => .tuple #[.int .i64 (k : Nat), .bool true]
  | none => .tuple #[.int .i64 0, .bool false]
def shC (B : Bk) (s : Int) : List Value := (bkV (withB B s)).cells.toList
section
variable {f : FuncId} {us : Array Value} {B : Bk} {n s : Int} {h : Heap} {k : Nat}
end
end Go.AX.Sa

namespace Go.AX.Sa
open Go.Proofs
set_option maxRecDepth 100000
variable {K : Known}
/-! What is paid to a hand is what is owed to it, rounded down. -/
def sm (B : Bk) (t : List Int) (q : Int) : Nat → Int
  | 0 => 0
  | j + 1 => sm B t q j + if handOf B j = q then owes B j (t.getD j 0) else 0
theorem rst_sm (B : Bk) (t : List Int) (q : Int) : ∀ j, rst B t j q = sm B t q j % B.unit := by
  intro j
  induction j with
  | zero => simp [rst, sm]
  | succ j ih =>
    simp only [rst, sm]
    by_cases hq : handOf B j = q
    · subst hq
      rw [if_pos rfl, if_pos rfl, ih, Int.emod_add_emod]
    · rw [if_neg (fun w => hq w.symm), if_neg hq, ih, Int.add_zero]
theorem tt_sm (B : Bk) (t : List Int) (q : Int) : ∀ j, tt B t q j = sm B t q j - sm B t q j % B.unit := by
  intro j
  induction j with
  | zero => simp [tt, sm]
  | succ j ih =>
    simp only [tt, sm]
    by_cases hq : handOf B j = q
    · subst hq
      rw [if_pos rfl, if_pos rfl, ih]
      unfold pd due
      rw [rst_sm, Int.emod_add_emod]
      omega
    · rw [if_neg hq, if_neg hq, ih, Int.add_zero, Int.add_zero]
theorem down_dvd (u a : Int) : (a - a % u) % u = 0 := by
  rw [Int.sub_emod, Int.emod_emod, Int.sub_self, Int.zero_emod]
theorem right_ok (hK : NoK K) {B : Bk} {h : Heap} (hB : BkAt B h) : CallW Tryz.prog K 37 #[bkV B] h (IfB (B.n ≤ 7 ∧ BkP B) h) := by
  refine body (N := 9) Tryz.func37 rfl (hK _ _ _ rfl) rfl rfl ?_
  by_cases hs : B.n ≤ 7
  · (repeat' (first | (apply K_seq) | (apply K_region) | (apply O_at; rfl) | (apply O_fin; rfl) | (apply C_seq) | (apply K_ret) | (apply C_nil) | (apply P_skip; rfl; rfl; rfl) | (apply P_move; rfl; rfl; rfl; rfl) | (apply P_assign; rfl; rfl; rfl; rfl) | (apply P_pick; rfl; rfl; rfl; rfl; rfl; rfl) | (apply P_loadA; rfl; rfl; rfl; rfl; exact ag_ok rfl; (focus repeat' first | exact get_push_same | assumption | (apply Ext.get; assumption)); (first | exact Nat.le_of_ble_eq_true rfl | (simp; done) | (simp; omega)); rfl) | (apply P_box; rfl; rfl; rfl; rfl; exact sz_ok rfl; rfl; rfl) | (apply P_call; rfl; rfl; rfl; rfl; rfl; rfl; exact yes (short_ok hK) hs; (rintro _ _ ⟨rfl, _⟩)) | (apply P_call; rfl; rfl; rfl; rfl; rfl; rfl; exact refBook_ok hK (by omega) (hB.ext (by (focus repeat' first | exact Ext.refl _ | assumption | apply Ext.push | (refine Ext.trans ?_ (by assumption))))); (rintro _ _ (⟨rfl, _, _⟩ | ⟨rfl, _, _⟩))) | fail))
    · exact ⟨.inr rfl, _, rfl, .inl ⟨rfl, ⟨hs, by assumption⟩, by (focus repeat' first | exact Ext.refl _ | assumption | apply Ext.push | (refine Ext.trans ?_ (by assumption)))⟩⟩
    · rename_i w _
      exact ⟨.inr rfl, _, rfl, .inr ⟨rfl, fun q => w q.2, by (focus repeat' first | exact Ext.refl _ | assumption | apply Ext.push | (refine Ext.trans ?_ (by assumption)))⟩⟩
  · (repeat' (first | (apply K_seq) | (apply K_region) | (apply O_at; rfl) | (apply O_fin; rfl) | (apply C_seq) | (apply K_ret) | (apply C_nil) | (apply P_skip; rfl; rfl; rfl) | (apply P_move; rfl; rfl; rfl; rfl) | (apply P_assign; rfl; rfl; rfl; rfl) | (apply P_pick; rfl; rfl; rfl; rfl; rfl; rfl) | (apply P_loadA; rfl; rfl; rfl; rfl; exact ag_ok rfl; (focus repeat' first | exact get_push_same | assumption | (apply Ext.get; assumption)); (first | exact Nat.le_of_ble_eq_true rfl | (simp; done) | (simp; omega)); rfl) | (apply P_box; rfl; rfl; rfl; rfl; exact sz_ok rfl; rfl; rfl) | (apply P_call; rfl; rfl; rfl; rfl; rfl; rfl; exact no (short_ok hK) hs; (rintro _ _ ⟨rfl, _⟩)) | fail))
    exact ⟨.inr rfl, _, rfl, .inr ⟨rfl, fun q => hs q.1, by (focus repeat' first | exact Ext.refl _ | assumption | apply Ext.push | (refine Ext.trans ?_ (by assumption)))⟩⟩
theorem span_ok (hK : NoK K) {a b : Int} {h : Heap} : CallW Tryz.prog K 45 #[.int .i64 a, .int .i64 b] h (IsV (.agg #[.int .i64 a, .int .i64 b]) h) := by
  refine body (N := 8) Tryz.func45 rfl (hK _ _ _ rfl) rfl rfl ?_
  (repeat' (first | (apply K_seq) | (apply K_region) | (apply O_at; rfl) | (apply O_fin; rfl) | (apply C_seq) | (apply K_ret) | (apply C_nil) | (apply P_move; rfl; rfl; rfl; rfl) | (apply P_storeTop; rfl; rfl; rfl; rfl; exact sz_ok rfl; rfl; rfl; rfl) | (apply P_build44; rfl; rfl; rfl; rfl) | (apply P_alloc; rfl; rfl; rfl; rfl; exact sz_ok rfl; rfl; rfl) | fail))
  refine ⟨.inr rfl, _, resE_c rfl (readA (ag_ok rfl) get_push_same (Nat.le_of_ble_eq_true rfl) rfl) rfl, rfl, ?_⟩
  (focus repeat' first | exact Ext.refl _ | assumption | apply Ext.push)
theorem totalY_ok (hK : NoK K) {B : Bk} {n : Int} {h : Heap} (hB : BkAt B h) (hP : BkP B) (hh : 0 ≤ n ∧ n ≤ B.hands - 1) : CallW Tryz.prog K 39 #[bkV B, .int .i64 n] h (IsV (.tuple #[.agg #[.int .i64 (tt B (mostT B) n B.n), .int .i64 (tt B (leastT B) n B.n)], .int .i64 0]) h) := by
  have hn := hP.n
  refine body (N := 19) Tryz.func39 rfl (hK _ _ _ rfl) rfl rfl ?_
  (repeat' (first | (apply K_seq) | (apply K_region) | (apply O_at; rfl) | (apply O_fin; rfl) | (apply C_seq) | (apply K_ifF; rfl) | (apply K_skip) | (apply K_ret) | (apply C_nil) | (apply P_move; rfl; rfl; rfl; rfl) | (apply P_assign; rfl; rfl; rfl; rfl) | (apply P_pick; rfl; rfl; rfl; rfl; rfl; rfl) | (apply P_not; rfl; rfl; rfl; rfl) | (apply P_loadA; rfl; rfl; rfl; rfl; exact ag_ok rfl; (focus repeat' first | exact get_push_same | assumption | apply get_push_old | (apply Ext.get; assumption)); (first | exact Nat.le_of_ble_eq_true rfl | (simp; done) | (simp; omega)); rfl) | (apply P_box; rfl; rfl; rfl; rfl; exact sz_ok rfl; rfl; rfl) | (apply P_alloc; rfl; rfl; rfl; rfl; exact sz_ok rfl; rfl; rfl) | (apply P_storeW; rfl; rfl; rfl; rfl; (focus repeat' first | exact get_push_same | assumption | apply get_push_old | (apply Ext.get; assumption)); exact sz_ok rfl; rfl; (first | rfl | exact ints_len _); rfl; (intro _ _ _)) | (apply P_call; rfl; rfl; rfl; rfl; rfl; rfl; exact yes (isBook_ok hK (by omega) (hB.ext (by (focus repeat' first | exact Ext.refl _ | assumption | apply Ext.push | (refine Ext.trans ?_ (by assumption)) | (refine Ext.ofBut ?_ (by assumption) (by first | exact Nat.le_refl _ | omega)))))) hP; (rintro _ _ ⟨rfl, _⟩)) | (apply P_call; rfl; rfl; rfl; rfl; rfl; rfl; exact yes (isHand_ok hK hP.hands) hh; (rintro _ _ ⟨rfl, _⟩)) | (apply P_call; rfl; rfl; rfl; rfl; rfl; rfl; exact total_ok hK (hB.ext (by (focus repeat' first | exact Ext.refl _ | assumption | apply Ext.push | (refine Ext.trans ?_ (by assumption)) | (refine Ext.ofBut ?_ (by assumption) (by first | exact Nat.le_refl _ | omega))))) hP; (rintro _ _ ⟨rfl, _⟩)) | fail))
  rename_i h5 q5 x5
  refine ⟨.inr rfl, _, resE_c rfl (readA (ag_ok rfl) q5 (Nat.le_of_ble_eq_true rfl) rfl) rfl, rfl, ?_⟩
  refine Ext.ofBut ?_ x5 (by (first | omega | (simp only [Heap.push]; omega)))
  (focus repeat' first | exact Ext.refl _ | assumption | apply Ext.push | (refine Ext.trans ?_ (by assumption)) | (refine Ext.ofBut ?_ (by assumption) (by first | exact Nat.le_refl _ | omega)))
end Go.AX.Sa

namespace Go.AX.Sa
open Go.Proofs
set_option maxRecDepth 100000
variable {K : Known}
/-! The law of the rate with which a hand surely is paid enough. -/
end Go.AX.Sa
