/- Which plans and truths are as defined; how often a number is chosen. -/
import Derived.Test.YtfbeibiokpaicaaGreatDoorAxX
import Derived.Test.YtfbeibiokpaicaaGreatDoorProg
import Derived.KernelRfl
namespace Go.AX.Sa
open Go.Proofs
set_option maxRecDepth 100000
def szTab : List (Nat × Nat) := [(0, 1), (1, 1), (2, 1), (3, 1), (4, 1), (5, 1), (6, 1), (7, 4), (8, 4), (9, 1), (10, 1), (11, 1), (12, 1), (13, 2), (14, 2), (15, 1), (16, 1), (17, 1), (18, 1), (19, 1), (20, 1), (21, 1), (22, 1), (23, 3), (24, 3), (25, 1), (26, 1), (27, 1), (28, 1), (29, 1), (30, 1), (31, 1), (32, 1), (33, 1), (34, 1), (35, 1), (36, 1), (37, 1), (38, 1), (39, 1), (40, 1), (41, 1), (42, 1), (43, 1), (44, 1), (45, 1), (46, 1), (47, 2), (48, 2), (49, 2), (50, 2), (51, 1), (52, 1), (53, 1), (54, 1), (55, 1), (56, 1), (57, 1), (58, 1), (59, 1), (60, 1), (61, 1), (62, 1), (63, 1), (64, 1), (65, 1), (66, 1), (67, 1), (68, 1), (69, 1), (70, 1), (71, 1), (72, 1), (73, 1), (74, 1), (75, 1), (76, 1), (77, 1), (78, 1), (79, 1), (80, 1), (81, 2), (82, 2), (83, 1), (84, 1), (85, 1), (86, 1), (87, 1), (88, 1), (89, 1), (90, 1), (91, 4), (92, 4), (93, 1), (94, 1), (95, 1), (96, 1), (97, 1), (98, 2), (99, 2), (100, 1), (101, 2), (102, 2), (103, 1), (104, 1), (105, 1), (106, 2), (107, 2), (108, 1), (109, 2), (110, 2), (111, 1), (112, 1), (113, 1), (114, 5), (115, 5), (116, 1), (117, 1), (118, 1), (119, 1), (120, 2), (121, 1), (122, 1), (123, 1), (124, 1), (125, 1), (126, 1), (127, 1), (128, 1), (129, 1), (130, 1), (131, 1), (132, 1), (133, 1), (134, 1), (135, 1), (136, 1), (137, 1), (138, 1), (139, 1), (140, 1), (141, 1), (142, 1), (143, 2), (144, 1), (145, 1), (146, 1), (147, 1), (148, 1), (149, 1), (150, 2), (151, 2), (152, 1), (153, 1), (154, 1), (155, 1), (156, 1), (157, 1), (158, 1), (159, 1), (160, 1), (161, 2), (162, 2), (163, 1), (164, 1), (165, 1), (166, 1), (167, 1), (168, 1), (169, 1), (170, 0), (171, 0), (172, 1), (173, 1), (174, 1), (175, 1), (176, 1), (177, 1), (178, 1), (179, 1), (180, 1), (181, 1), (182, 1), (183, 1), (184, 1), (185, 1), (186, 1), (187, 1), (188, 1), (189, 1), (190, 1), (191, 1), (192, 1), (193, 1), (194, 1), (195, 1), (196, 1), (197, 1), (198, 24), (199, 1), (200, 1), (201, 1), (202, 1), (203, 1), (204, 1), (205, 1), (206, 1), (207, 20), (208, 65), (209, 1), (210, 1), (211, 1), (212, 1), (213, 1), (214, 1), (215, 32), (216, 64), (217, 256), (218, 2), (219, 2), (220, 32), (221, 1), (222, 4), (223, 4), (224, 0), (225, 0), (226, 0), (227, 1), (228, 1), (229, 1), (230, 1), (231, 1), (232, 11), (233, 11), (234, 1)]
theorem sz_ok {t n : Nat} (e : tget szTab t = some n) : sizeB Tryz.prog t = some n := tab_ok (f := sizeB Tryz.prog) (by kernel_rfl) e
def elTab : List (Nat × Nat) := [(22, 48), (34, 50), (39, 43), (43, 3), (79, 82), (97, 99), (108, 140), (117, 9), (160, 5), (173, 117)]
theorem el_ok {t n : Nat} (e : tget elTab t = some n) : elemOf Tryz.prog t = some n := tab_ok (f := elemOf Tryz.prog) (by kernel_rfl) e
theorem un_ok {t n : Nat} (e : tget elTab t = some n) : Tryz.prog.underlying t = some (.slice n) := elemOf_some (el_ok e)
def c1Tab : List (Nat × Nat) := [(39, 43), (43, 3), (108, 140), (117, 9), (160, 5), (173, 117)]
theorem c1_ok {t n : Nat} (e : tget c1Tab t = some n) : cell1 Tryz.prog t = some n := tab_ok (f := cell1 Tryz.prog) (by kernel_rfl) e
theorem zero3 : zeroB Tryz.prog 3 = some (.int .i64 0) := by kernel_rfl
def agTab : List (Nat × Nat) := [(7, 4), (8, 4), (13, 2), (14, 2), (18, 1), (19, 1), (23, 3), (24, 3), (47, 2), (48, 2), (49, 2), (50, 2), (81, 2), (82, 2), (91, 4), (92, 4), (98, 2), (99, 2), (101, 2), (102, 2), (106, 2), (107, 2), (109, 2), (110, 2), (114, 5), (115, 5), (120, 2), (122, 1), (123, 1), (143, 2), (150, 2), (151, 2), (161, 2), (162, 2), (170, 0), (171, 0), (198, 24), (207, 20), (208, 65), (215, 32), (216, 64), (217, 256), (218, 2), (219, 2), (220, 32), (222, 4), (223, 4), (224, 0), (225, 0), (226, 0), (232, 11), (233, 11)]
theorem ag_ok {t n : Nat} (e : tget agTab t = some n) : aggN Tryz.prog t = some n := tab_ok (f := aggN Tryz.prog) (by kernel_rfl) e
def foTab : List ((Nat × Nat) × Nat) := [((7, 0), 0), ((7, 1), 1), ((7, 2), 2), ((7, 3), 3), ((8, 0), 0), ((8, 1), 1), ((8, 2), 2), ((8, 3), 3), ((13, 0), 0), ((13, 1), 1), ((14, 0), 0), ((14, 1), 1), ((18, 0), 0), ((19, 0), 0), ((23, 0), 0), ((23, 1), 1), ((23, 2), 2), ((24, 0), 0), ((24, 1), 1), ((24, 2), 2), ((47, 0), 0), ((47, 1), 1), ((48, 0), 0), ((48, 1), 1), ((49, 0), 0), ((49, 1), 1), ((50, 0), 0), ((50, 1), 1), ((81, 0), 0), ((81, 1), 1), ((82, 0), 0), ((82, 1), 1), ((91, 0), 0), ((91, 1), 3), ((92, 0), 0), ((92, 1), 3), ((98, 0), 0), ((98, 1), 1), ((99, 0), 0), ((99, 1), 1), ((101, 0), 0), ((101, 1), 1), ((102, 0), 0), ((102, 1), 1), ((106, 0), 0), ((106, 1), 1), ((107, 0), 0), ((107, 1), 1), ((109, 0), 0), ((110, 0), 0), ((114, 0), 0), ((114, 1), 1), ((114, 2), 2), ((114, 3), 3), ((114, 4), 4), ((115, 0), 0), ((115, 1), 1), ((115, 2), 2), ((115, 3), 3), ((115, 4), 4), ((122, 0), 0), ((123, 0), 0), ((150, 0), 0), ((150, 1), 1), ((161, 0), 0), ((161, 1), 1), ((162, 0), 0), ((162, 1), 1), ((218, 0), 0), ((218, 1), 1), ((219, 0), 0), ((219, 1), 1), ((222, 0), 0), ((222, 1), 1), ((222, 2), 2), ((222, 3), 3), ((223, 0), 0), ((223, 1), 1), ((223, 2), 2), ((223, 3), 3), ((232, 0), 0), ((232, 1), 1), ((232, 2), 2), ((232, 3), 3), ((232, 4), 4), ((232, 5), 5), ((232, 6), 6), ((232, 7), 7), ((232, 8), 8), ((232, 9), 9), ((232, 10), 10), ((233, 0), 0), ((233, 1), 1), ((233, 2), 2), ((233, 3), 3), ((233, 4), 4), ((233, 5), 5), ((233, 6), 6), ((233, 7), 7), ((233, 8), 8), ((233, 9), 9), ((233, 10), 10)]
theorem fo_ok {t j n : Nat} (e : tget2 foTab t j = some n) : fieldOff Tryz.prog t j = some n := tab2_ok (f := fieldOff Tryz.prog) (by kernel_rfl) e
def onTab : List Nat := [0, 1, 2, 3, 4, 5, 6, 9, 10, 11, 12, 15, 16, 17, 20, 21, 22, 25, 26, 27, 28, 29, 30, 31, 32, 33, 34, 35, 36, 37, 38, 39, 40, 41, 42, 43, 44, 45, 46, 51, 52, 53, 54, 55, 56, 57, 58, 59, 60, 61, 62, 63, 64, 65, 66, 67, 68, 69, 70, 71, 72, 73, 74, 75, 76, 77, 78, 79, 80, 83, 84, 85, 86, 87, 88, 89, 90, 93, 94, 95, 96, 97, 100, 103, 104, 105, 108, 111, 112, 113, 116, 117, 118, 119, 121, 124, 125, 126, 127, 128, 129, 130, 131, 132, 133, 134, 135, 136, 137, 138, 139, 140, 141, 142, 144, 145, 146, 147, 148, 149, 152, 153, 154, 155, 156, 157, 158, 159, 160, 163, 164, 165, 166, 167, 168, 169, 172, 173, 174, 175, 176, 177, 178, 179, 180, 181, 182, 183, 184, 185, 186, 187, 188, 189, 190, 191, 192, 193, 194, 195, 196, 197, 199, 200, 201, 202, 203, 204, 205, 206, 209, 210, 211, 212, 213, 214, 221, 227, 228, 229, 230, 231, 234]
theorem on_ok {t : Nat} (e : onTab.contains t = true) : one Tryz.prog t = true := by
  have h : onTab.all (fun t => one Tryz.prog t) = true := by kernel_rfl
  exact List.all_eq_true.1 h t (by simpa using e)
end Go.AX.Sa

namespace Go.AX.Sa
open Go.Proofs
set_option maxRecDepth 100000
variable {K : Known}
/-- Nothing is known but the examples. -/
def NoK (K : Known) : Prop := ∀ f a h, Nat.beq f 10 = false → K f a h = none
theorem in_ok (hK : NoK K) {n low high : Int} {h : Heap} : CallW Tryz.prog K 56 #[.int .i64 n, .int .i64 low, .int .i64 high] h (IfB (low ≤ n ∧ n ≤ high) h) := by
  refine body (N := 15) Tryz.func56 rfl (hK _ _ _ rfl) rfl rfl ?_
  (repeat' (first | (apply K_seq) | (apply K_region) | (apply O_at; rfl) | (apply O_fin; rfl) | (apply C_seq) | (apply K_ret) | (apply C_nil) | (apply P_skip; rfl; rfl; rfl) | (apply P_move; rfl; rfl; rfl; rfl) | (apply P_assign; rfl; rfl; rfl; rfl) | (apply P_pick; rfl; rfl; rfl; rfl; rfl; rfl) | (apply P_leq; rfl; rfl; rfl; rfl; rfl; all_goals intro _) | (apply P_geq; rfl; rfl; rfl; rfl; rfl; all_goals intro _) | fail))
  all_goals (refine ⟨.inr rfl, _, rfl, ?_⟩; first | (refine .inl ⟨rfl, by omega, ?_⟩; (focus repeat' first | exact Ext.refl _ | assumption | apply Ext.push | (refine Ext.trans ?_ (by assumption)) | (refine Ext.set ?_ (Nat.le_succ _) (get_push_old get_push_same) _)); done) | (refine .inr ⟨rfl, by omega, ?_⟩; (focus repeat' first | exact Ext.refl _ | assumption | apply Ext.push | (refine Ext.trans ?_ (by assumption)) | (refine Ext.set ?_ (Nat.le_succ _) (get_push_old get_push_same) _)); done))
theorem within_ok (hK : NoK K) {n low high : Int} {h : Heap} : CallW Tryz.prog K 48 #[.int .i64 n, .int .i64 low, .int .i64 high] h (IfB (low ≤ n ∧ n ≤ high) h) := by
  refine body (N := 15) Tryz.func48 rfl (hK _ _ _ rfl) rfl rfl ?_
  (repeat' (first | (apply K_seq) | (apply K_region) | (apply O_at; rfl) | (apply O_fin; rfl) | (apply C_seq) | (apply K_ret) | (apply C_nil) | (apply P_skip; rfl; rfl; rfl) | (apply P_move; rfl; rfl; rfl; rfl) | (apply P_assign; rfl; rfl; rfl; rfl) | (apply P_pick; rfl; rfl; rfl; rfl; rfl; rfl) | (apply P_leq; rfl; rfl; rfl; rfl; rfl; all_goals intro _) | fail))
  all_goals (refine ⟨.inr rfl, _, rfl, ?_⟩; first | (refine .inl ⟨rfl, by omega, ?_⟩; (focus repeat' first | exact Ext.refl _ | assumption | apply Ext.push | (refine Ext.trans ?_ (by assumption)) | (refine Ext.set ?_ (Nat.le_succ _) (get_push_old get_push_same) _)); done) | (refine .inr ⟨rfl, by omega, ?_⟩; (focus repeat' first | exact Ext.refl _ | assumption | apply Ext.push | (refine Ext.trans ?_ (by assumption)) | (refine Ext.set ?_ (Nat.le_succ _) (get_push_old get_push_same) _)); done))
def StartP (a b : Int) : Prop := -99999 ≤ a ∧ a ≤ b ∧ b ≤ 99999 ∧ b ≤ a + 6
theorem isSpan_ok (hK : NoK K) {a b : Int} {h : Heap} : CallW Tryz.prog K 110 #[.agg #[.int .i64 a, .int .i64 b], .int .i64 99999, .int .i64 6] h (IfB (StartP a b) h) := by
  refine body (N := 30) Tryz.func110 rfl (hK _ _ _ rfl) rfl rfl ?_
  (repeat' (first | (apply K_seq) | (apply K_region) | (apply O_at; rfl) | (apply O_fin; rfl) | (apply C_seq) | (apply K_ret) | (apply C_nil) | (apply P_skip; rfl; rfl; rfl) | (apply P_move; rfl; rfl; rfl; rfl) | (apply P_assign; rfl; rfl; rfl; rfl) | (apply P_fa; rfl; rfl; rfl; rfl; exact fo_ok rfl; (first | exact Nat.zero_add _ | exact Nat.add_zero _ | rfl)) | (apply P_pick; rfl; rfl; rfl; rfl; rfl; rfl) | (apply P_neg; rfl; rfl; rfl; rfl; (unfold fit; omega)) | (apply P_sub; rfl; rfl; rfl; rfl; rfl; (unfold fit; omega)) | (apply P_load1; rfl; rfl; rfl; rfl; exact on_ok rfl; (focus repeat' first | exact get_push_same | assumption | (apply Ext.get; assumption)); (first | rfl | assumption)) | (apply P_box; rfl; rfl; rfl; rfl; exact sz_ok rfl; rfl; rfl) | (apply P_call; rfl; rfl; rfl; rfl; rfl; rfl; exact within_ok hK; (rintro _ _ (⟨rfl, _, _⟩ | ⟨rfl, _, _⟩))) | fail))
  all_goals (refine ⟨.inr rfl, _, rfl, ?_⟩; first | (refine .inl ⟨rfl, by unfold StartP at *; omega, ?_⟩; (focus repeat' first | exact Ext.refl _ | assumption | apply Ext.push | (refine Ext.trans ?_ (by assumption)) | (refine Ext.set ?_ (Nat.le_succ _) (get_push_old get_push_same) _)); done) | (refine .inr ⟨rfl, by unfold StartP at *; omega, ?_⟩; (focus repeat' first | exact Ext.refl _ | assumption | apply Ext.push | (refine Ext.trans ?_ (by assumption)) | (refine Ext.set ?_ (Nat.le_succ _) (get_push_old get_push_same) _)); done))
theorem isNoStart_ok (hK : NoK K) {a b : Int} {h : Heap} : CallW Tryz.prog K 89 #[.agg #[.int .i64 a, .int .i64 b]] h (IfB (¬ StartP a b) h) := by
  refine body (N := 6) Tryz.func89 rfl (hK _ _ _ rfl) rfl rfl ?_
  (repeat' (first | (apply K_seq) | (apply K_region) | (apply O_at; rfl) | (apply O_fin; rfl) | (apply C_seq) | (apply K_ret) | (apply C_nil) | (apply P_assign; rfl; rfl; rfl; rfl) | (apply P_not; rfl; rfl; rfl; rfl) | (apply P_loadA; rfl; rfl; rfl; rfl; exact ag_ok rfl; (focus repeat' first | exact get_push_same | assumption); (first | exact Nat.le_of_ble_eq_true rfl | (simp; done) | (simp; omega) | (rw [spanCells_len]; omega) | (rw [ints_len]; omega)); rfl) | (apply P_box; rfl; rfl; rfl; rfl; exact sz_ok rfl; rfl; rfl) | (apply P_call; rfl; rfl; rfl; rfl; rfl; rfl; exact isSpan_ok hK; (rintro _ _ (⟨rfl, _, _⟩ | ⟨rfl, _, _⟩))) | fail))
  all_goals (refine ⟨.inr rfl, _, rfl, ?_⟩; first | (refine .inl ⟨rfl, by grind, ?_⟩; (focus repeat' first | exact Ext.refl _ | assumption | apply Ext.push | (refine Ext.trans ?_ (by assumption)) | (refine Ext.set ?_ (Nat.le_succ _) (get_push_old get_push_same) _)); done) | (refine .inr ⟨rfl, by grind, ?_⟩; (focus repeat' first | exact Ext.refl _ | assumption | apply Ext.push | (refine Ext.trans ?_ (by assumption)) | (refine Ext.set ?_ (Nat.le_succ _) (get_push_old get_push_same) _)); done))
theorem start_ok (hK : NoK K) {a b : Int} {h : Heap} : CallW Tryz.prog K 57 #[.agg #[.int .i64 a, .int .i64 b]] h (IfB (StartP a b) h) := by
  refine body (N := 17) Tryz.func57 rfl (hK _ _ _ rfl) rfl rfl ?_
  (repeat' (first | (apply K_seq) | (apply K_region) | (apply O_at; rfl) | (apply O_fin; rfl) | (apply C_seq) | (apply K_ret) | (apply C_nil) | (apply P_skip; rfl; rfl; rfl) | (apply P_move; rfl; rfl; rfl; rfl) | (apply P_assign; rfl; rfl; rfl; rfl) | (apply P_fa; rfl; rfl; rfl; rfl; exact fo_ok rfl; (first | exact Nat.zero_add _ | exact Nat.add_zero _ | rfl)) | (apply P_pick; rfl; rfl; rfl; rfl; rfl; rfl) | (apply P_add; rfl; rfl; rfl; rfl; rfl; (unfold fit; omega)) | (apply P_load1; rfl; rfl; rfl; rfl; exact on_ok rfl; (focus repeat' first | exact get_push_same | assumption | (apply Ext.get; assumption)); (first | rfl | assumption)) | (apply P_box; rfl; rfl; rfl; rfl; exact sz_ok rfl; rfl; rfl) | (apply P_min; rfl; rfl; rfl; rfl; rfl; rfl) | (apply P_call; rfl; rfl; rfl; rfl; rfl; rfl; exact in_ok hK; (rintro _ _ (⟨rfl, _, _⟩ | ⟨rfl, _, _⟩))) | fail))
  all_goals (refine ⟨.inr rfl, _, rfl, ?_⟩; first | (refine .inl ⟨rfl, by unfold StartP at *; omega, ?_⟩; (focus repeat' first | exact Ext.refl _ | assumption | apply Ext.push | (refine Ext.trans ?_ (by assumption)) | (refine Ext.set ?_ (Nat.le_succ _) (get_push_old get_push_same) _)); done) | (refine .inr ⟨rfl, by unfold StartP at *; omega, ?_⟩; (focus repeat' first | exact Ext.refl _ | assumption | apply Ext.push | (refine Ext.trans ?_ (by assumption)) | (refine Ext.set ?_ (Nat.le_succ _) (get_push_old get_push_same) _)); done))
/-- IndexFunc(s, isNoStart) -/
def AllStarts (l : List (Int × Int)) : Prop := ∀ k, k < l.length → StartP (l.getD k (0, 0)).1 (l.getD k (0, 0)).2
theorem indexFunc_ok (hK : NoK K) {l : List (Int × Int)} {p : Option Addr} {cap : Nat} {h : Heap} (hl : l.length ≤ 1000) (hr : Rd h p (spanCells l)) :
    CallW Tryz.prog K 109 #[.slice p l.length cap, .func (.func 89) #[] #[]] h fun v h1 => ∃ n : Int, v = .int .i64 n ∧ (0 ≤ n ↔ ¬ AllStarts l) ∧ Ext h h1 := by
  refine body (N := 19) Tryz.func109 rfl (hK _ _ _ rfl) rfl rfl ?_
  (repeat' (first | (apply K_seq) | (apply K_region) | (apply O_at; rfl) | (apply O_fin; rfl) | (apply C_seq) | (apply K_ifT; rfl) | (apply K_ifF; rfl) | (apply K_block) | (apply K_skip) | (apply K_exit) | (apply K_ret) | (apply C_retS) | (apply C_retL) | (apply C_retB) | (apply C_exit) | (apply C_exitS) | (apply C_exitL) | (apply C_blockN) | (apply C_nil) | (apply P_move; rfl; rfl; rfl; rfl) | (apply P_assign; rfl; rfl; rfl; rfl) | (apply P_len; rfl; rfl; rfl; rfl; rfl; rfl; exact un_ok rfl) | (apply P_lss; rfl; rfl; rfl; rfl; rfl; all_goals intro _) | (apply P_add; rfl; rfl; rfl; rfl; rfl; (unfold fit; omega)) | (apply P_idxB; rfl; rfl; rfl; rfl; rfl; exact un_ok rfl; exact sz_ok rfl; (first | rfl | exact (Int.toNat_of_nonneg (by omega)).symm); omega) | (apply P_loadA; rfl; rfl; rfl; rfl; exact ag_ok rfl; (focus repeat' first | assumption | (apply Ext.get; assumption)); (first | exact Nat.le_of_ble_eq_true rfl | (simp; done) | (simp; omega) | (rw [spanCells_len]; omega) | (rw [ints_len]; omega)); (first | exact spans_take (by omega) | rfl)) | fail))
  refine K_loopE (fun k : Nat => [(0, .slice p l.length cap), (1, .func (.func 89) #[] #[]), (7, .int .i64 (l.length : Nat)), (8, .int .i64 (k : Nat))])
    (fun k h' => k ≤ l.length ∧ Ext h h' ∧ ∀ j, j < k → StartP (l.getD j (0, 0)).1 (l.getD j (0, 0)).2) (fun k => l.length - k) ?_ 0 ?_ ?_
  · intro k h' ⟨hk, hx, hj⟩ ih
    by_cases hlt : k < l.length
    · obtain ⟨b, e, own, rfl, hg⟩ := hr.at (by rw [spanCells_len]; omega)
      (repeat' (first | (apply K_seq) | (apply K_region) | (apply O_at; rfl) | (apply O_fin; rfl) | (apply C_seq) | (apply K_ifT; rfl) | (apply K_ifF; rfl) | (apply K_block) | (apply K_skip) | (apply K_exit) | (apply K_ret) | (apply C_retS) | (apply C_retL) | (apply C_retB) | (apply C_exit) | (apply C_exitS) | (apply C_exitL) | (apply C_blockN) | (apply C_nil) | (apply P_move; rfl; rfl; rfl; rfl) | (apply P_assign; rfl; rfl; rfl; rfl) | (apply P_len; rfl; rfl; rfl; rfl; rfl; rfl; exact un_ok rfl) | (apply P_lss; rfl; rfl; rfl; rfl; rfl; all_goals intro _) | (apply P_add; rfl; rfl; rfl; rfl; rfl; (unfold fit; omega)) | (apply P_idxB; rfl; rfl; rfl; rfl; rfl; exact un_ok rfl; exact sz_ok rfl; (first | rfl | exact (Int.toNat_of_nonneg (by omega)).symm); omega) | (apply P_loadA; rfl; rfl; rfl; rfl; exact ag_ok rfl; (focus repeat' first | assumption | (apply Ext.get; assumption)); (first | exact Nat.le_of_ble_eq_true rfl | (simp; done) | (simp; omega) | (rw [spanCells_len]; omega) | (rw [ints_len]; omega)); (first | exact spans_take (by omega) | rfl)) | (apply P_call; rfl; rfl; rfl; rfl; rfl; rfl; exact isNoStart_ok hK; (rintro _ _ (⟨rfl, _, _⟩ | ⟨rfl, _, _⟩))) | fail))
      · refine ⟨.inr rfl, _, rfl, (k : Int), rfl, ⟨fun _ q => ?_, fun _ => by omega⟩, by (focus repeat' first | exact Ext.refl _ | assumption | apply Ext.push | (refine Ext.trans ?_ (by assumption)) | (refine Ext.set ?_ (Nat.le_succ _) (get_push_old get_push_same) _))⟩
        rename_i hns _ _; exact hns (q k hlt)
      · rename_i hns _
        refine C_again (ih (k + 1) _ ?_ ⟨hlt, ?_, fun j hj' => ?_⟩) ?_
        · omega
        · (focus repeat' first | exact Ext.refl _ | assumption | apply Ext.push | (refine Ext.trans ?_ (by assumption)) | (refine Ext.set ?_ (Nat.le_succ _) (get_push_old get_push_same) _))
        · by_cases hjk : j = k
          · subst hjk; exact Classical.not_not.1 hns
          · exact hj j (by omega)
        · (focus repeat' first | rfl | exact trivial | apply And.intro)
      · omega
    · (repeat' (first | (apply K_seq) | (apply K_region) | (apply O_at; rfl) | (apply O_fin; rfl) | (apply C_seq) | (apply K_ifT; rfl) | (apply K_ifF; rfl) | (apply K_block) | (apply K_skip) | (apply K_exit) | (apply K_ret) | (apply C_retS) | (apply C_retL) | (apply C_retB) | (apply C_exit) | (apply C_exitS) | (apply C_exitL) | (apply C_blockN) | (apply C_nil) | (apply P_move; rfl; rfl; rfl; rfl) | (apply P_assign; rfl; rfl; rfl; rfl) | (apply P_len; rfl; rfl; rfl; rfl; rfl; rfl; exact un_ok rfl) | (apply P_lss; rfl; rfl; rfl; rfl; rfl; all_goals intro _) | (apply P_add; rfl; rfl; rfl; rfl; rfl; (unfold fit; omega)) | (apply P_idxB; rfl; rfl; rfl; rfl; rfl; exact un_ok rfl; exact sz_ok rfl; (first | rfl | exact (Int.toNat_of_nonneg (by omega)).symm); omega) | (apply P_loadA; rfl; rfl; rfl; rfl; exact ag_ok rfl; (focus repeat' first | assumption | (apply Ext.get; assumption)); (first | exact Nat.le_of_ble_eq_true rfl | (simp; done) | (simp; omega) | (rw [spanCells_len]; omega) | (rw [ints_len]; omega)); (first | exact spans_take (by omega) | rfl)) | fail))
      · omega
      · refine ⟨.inr rfl, _, rfl, -1, rfl, ⟨fun q => by omega, fun q => absurd (fun j hj' => hj j (by omega)) q⟩, by (focus repeat' first | exact Ext.refl _ | assumption | apply Ext.push | (refine Ext.trans ?_ (by assumption)) | (refine Ext.set ?_ (Nat.le_succ _) (get_push_old get_push_same) _))⟩
  · exact ⟨Nat.zero_le _, Ext.refl _, fun j hj => by omega⟩
  · (focus repeat' first | rfl | exact trivial | apply And.intro)
/-- ContainsFunc(s, isNoStart) -/
theorem containsFunc_ok (hK : NoK K) {l : List (Int × Int)} {p : Option Addr} {cap : Nat} {h : Heap} (hl : l.length ≤ 1000) (hr : Rd h p (spanCells l)) :
    CallW Tryz.prog K 88 #[.slice p l.length cap, .func (.func 89) #[] #[]] h (IfB (¬ AllStarts l) h) := by
  refine body (N := 9) Tryz.func88 rfl (hK _ _ _ rfl) rfl rfl ?_
  (repeat' (first | (apply K_seq) | (apply K_region) | (apply O_at; rfl) | (apply O_fin; rfl) | (apply C_seq) | (apply K_ret) | (apply C_nil) | (apply P_move; rfl; rfl; rfl; rfl) | (apply P_assign; rfl; rfl; rfl; rfl) | (apply P_geq; rfl; rfl; rfl; rfl; rfl; all_goals intro _) | fail))
  apply P_call; rfl; rfl; rfl; rfl; rfl; rfl; exact indexFunc_ok hK hl hr
  rintro _ _ ⟨n, rfl, hn, hx⟩
  (repeat' (first | (apply K_seq) | (apply K_region) | (apply O_at; rfl) | (apply O_fin; rfl) | (apply C_seq) | (apply K_ret) | (apply C_nil) | (apply P_move; rfl; rfl; rfl; rfl) | (apply P_assign; rfl; rfl; rfl; rfl) | (apply P_geq; rfl; rfl; rfl; rfl; rfl; all_goals intro _) | fail))
  · refine ⟨.inr rfl, _, rfl, .inl ⟨rfl, hn.1 (by assumption), by (focus repeat' first | exact Ext.refl _ | assumption | apply Ext.push | (refine Ext.trans ?_ (by assumption)) | (refine Ext.set ?_ (Nat.le_succ _) (get_push_old get_push_same) _))⟩⟩
  · rename_i hc; refine ⟨.inr rfl, _, rfl, .inr ⟨rfl, fun q => hc (hn.2 q), by (focus repeat' first | exact Ext.refl _ | assumption | apply Ext.push | (refine Ext.trans ?_ (by assumption)) | (refine Ext.set ?_ (Nat.le_succ _) (get_push_old get_push_same) _))⟩⟩
theorem isCount_ok (hK : NoK K) {n : Nat} {p : Option Addr} {cap : Nat} {h : Heap} :
    CallW Tryz.prog K 87 #[.slice p n cap] h (IfB (1 ≤ n ∧ n ≤ 4) h) := by
  refine body (N := 6) Tryz.func87 rfl (hK _ _ _ rfl) rfl rfl ?_
  (repeat' (first | (apply K_seq) | (apply K_region) | (apply O_at; rfl) | (apply O_fin; rfl) | (apply C_seq) | (apply K_ret) | (apply C_nil) | (apply P_move; rfl; rfl; rfl; rfl) | (apply P_assign; rfl; rfl; rfl; rfl) | (apply P_len; rfl; rfl; rfl; rfl; rfl; rfl; exact un_ok rfl) | (apply P_call; rfl; rfl; rfl; rfl; rfl; rfl; exact within_ok hK; (rintro _ _ (⟨rfl, _, _⟩ | ⟨rfl, _, _⟩))) | fail))
  all_goals (refine ⟨.inr rfl, _, rfl, ?_⟩; first | (refine .inl ⟨rfl, by omega, ?_⟩; (focus repeat' first | exact Ext.refl _ | assumption | apply Ext.push | (refine Ext.trans ?_ (by assumption)) | (refine Ext.set ?_ (Nat.le_succ _) (get_push_old get_push_same) _)); done) | (refine .inr ⟨rfl, by omega, ?_⟩; (focus repeat' first | exact Ext.refl _ | assumption | apply Ext.push | (refine Ext.trans ?_ (by assumption)) | (refine Ext.set ?_ (Nat.le_succ _) (get_push_old get_push_same) _)); done))
def PlanP (l : List (Int × Int)) (rows guard : Int) : Prop := (1 ≤ l.length ∧ l.length ≤ 4) ∧ AllStarts l ∧ (1 ≤ rows ∧ rows ≤ 12) ∧ (0 ≤ guard ∧ guard ≤ 3)
theorem isPlan_ok (hK : NoK K) {l : List (Int × Int)} {p : Option Addr} {cap : Nat} {rows guard : Int} {h : Heap} (hl : l.length ≤ 1000) (hr : Rd h p (spanCells l)) :
    CallW Tryz.prog K 47 #[.agg #[.slice p l.length cap, .int .i64 rows, .int .i64 guard]] h (IfB (PlanP l rows guard) h) := by
  refine body (N := 22) Tryz.func47 rfl (hK _ _ _ rfl) rfl rfl ?_
  (repeat' (first | (apply K_seq) | (apply K_region) | (apply O_at; rfl) | (apply O_fin; rfl) | (apply C_seq) | (apply K_ret) | (apply C_nil) | (apply P_skip; rfl; rfl; rfl) | (apply P_move; rfl; rfl; rfl; rfl) | (apply P_assign; rfl; rfl; rfl; rfl) | (apply P_fa; rfl; rfl; rfl; rfl; exact fo_ok rfl; (first | exact Nat.zero_add _ | exact Nat.add_zero _ | rfl)) | (apply P_pick; rfl; rfl; rfl; rfl; rfl; rfl) | (apply P_not; rfl; rfl; rfl; rfl) | (apply P_load1; rfl; rfl; rfl; rfl; exact on_ok rfl; (focus repeat' first | exact get_push_same | assumption | (apply Ext.get; assumption)); (first | rfl | assumption)) | (apply P_box; rfl; rfl; rfl; rfl; exact sz_ok rfl; rfl; rfl) | (apply P_call; rfl; rfl; rfl; rfl; rfl; rfl; exact isCount_ok hK; (rintro _ _ (⟨rfl, _, _⟩ | ⟨rfl, _, _⟩))) | (apply P_call; rfl; rfl; rfl; rfl; rfl; rfl; exact within_ok hK; (rintro _ _ (⟨rfl, _, _⟩ | ⟨rfl, _, _⟩))) | (apply P_call; rfl; rfl; rfl; rfl; rfl; rfl; exact containsFunc_ok hK hl (hr.ext (by (focus repeat' first | exact Ext.refl _ | assumption | apply Ext.push | (refine Ext.trans ?_ (by assumption)) | (refine Ext.set ?_ (Nat.le_succ _) (get_push_old get_push_same) _)))); (rintro _ _ (⟨rfl, _, _⟩ | ⟨rfl, _, _⟩))) | fail))
  all_goals (refine ⟨.inr rfl, _, rfl, ?_⟩; first | (refine .inl ⟨rfl, by grind [PlanP], ?_⟩; (focus repeat' first | exact Ext.refl _ | assumption | apply Ext.push | (refine Ext.trans ?_ (by assumption)) | (refine Ext.set ?_ (Nat.le_succ _) (get_push_old get_push_same) _)); done) | (refine .inr ⟨rfl, by grind [PlanP], ?_⟩; (focus repeat' first | exact Ext.refl _ | assumption | apply Ext.push | (refine Ext.trans ?_ (by assumption)) | (refine Ext.set ?_ (Nat.le_succ _) (get_push_old get_push_same) _)); done))
end Go.AX.Sa

namespace Go.AX.Sa
open Go.Proofs
set_option maxRecDepth 100000
variable {K : Known}

/-! The plan, as the document has it. -/
theorem plan_ok (hK : NoK K) {l : List (Int × Int)} {p : Option Addr} {cap : Nat} {rows guard : Int} {h : Heap} (hl : l.length ≤ 1000) (hr : Rd h p (spanCells l)) :
    CallW Tryz.prog K 13 #[.agg #[.slice p l.length cap, .int .i64 rows, .int .i64 guard]] h (IfB (PlanP l rows guard) h) := by
  refine body (N := 35) Tryz.func13 rfl (hK _ _ _ rfl) rfl rfl ?_
  (repeat' (first | (apply K_seq) | (apply K_region) | (apply O_at; rfl) | (apply O_fin; rfl) | (apply C_seq) | (apply K_ifT; rfl) | (apply K_ifF; rfl) | (apply K_block) | (apply K_skip) | (apply K_exit) | (apply K_ret) | (apply C_retS) | (apply C_retL) | (apply C_retB) | (apply C_exit) | (apply C_exitS) | (apply C_exitL) | (apply C_blockN) | (apply C_nil) | (apply P_skip; rfl; rfl; rfl) | (apply P_move; rfl; rfl; rfl; rfl) | (apply P_assign; rfl; rfl; rfl; rfl) | (apply P_fa; rfl; rfl; rfl; rfl; exact fo_ok rfl; (first | exact Nat.zero_add _ | exact Nat.add_zero _ | rfl)) | (apply P_len; rfl; rfl; rfl; rfl; rfl; rfl; exact un_ok rfl) | (apply P_pick; rfl; rfl; rfl; rfl; rfl; rfl) | (apply P_not; rfl; rfl; rfl; rfl) | (apply P_lss; rfl; rfl; rfl; rfl; rfl; all_goals intro _) | (apply P_add; rfl; rfl; rfl; rfl; rfl; (unfold fit; omega)) | (apply P_idxB; rfl; rfl; rfl; rfl; rfl; exact un_ok rfl; exact sz_ok rfl; (first | rfl | exact (Int.toNat_of_nonneg (by omega)).symm); omega) | (apply P_load1; rfl; rfl; rfl; rfl; exact on_ok rfl; (focus repeat' first | exact get_push_same | assumption | (apply Ext.get; assumption)); (first | rfl | assumption)) | (apply P_loadA; rfl; rfl; rfl; rfl; exact ag_ok rfl; (focus repeat' first | exact get_push_same | assumption | (apply Ext.get; assumption)); (first | exact Nat.le_of_ble_eq_true rfl | (simp; done) | (simp; omega) | (rw [spanCells_len]; omega) | (rw [ints_len]; omega)); (first | exact spans_take (by omega) | rfl)) | (apply P_box; rfl; rfl; rfl; rfl; exact sz_ok rfl; rfl; rfl) | (apply P_call; rfl; rfl; rfl; rfl; rfl; rfl; exact in_ok hK; (rintro _ _ (⟨rfl, _, _⟩ | ⟨rfl, _, _⟩))) | fail))
  all_goals (first | (refine ⟨.inr rfl, _, rfl, ?_⟩; first | (refine .inl ⟨rfl, by grind [PlanP], ?_⟩; (focus repeat' first | exact Ext.refl _ | assumption | apply Ext.push | (refine Ext.trans ?_ (by assumption)) | (refine Ext.set ?_ (Nat.le_succ _) (get_push_old get_push_same) _)); done) | (refine .inr ⟨rfl, by grind [PlanP], ?_⟩; (focus repeat' first | exact Ext.refl _ | assumption | apply Ext.push | (refine Ext.trans ?_ (by assumption)) | (refine Ext.set ?_ (Nat.le_succ _) (get_push_old get_push_same) _)); done)) | skip)
  rename_i h0 c1 x1 h1 c2 x2 h2 c3 x3
  have hlen : 1 ≤ l.length ∧ l.length ≤ 4 := by omega
  have hb1 : h2.get? h.n = some (.cells [.slice p l.length cap, .int .i64 rows, .int .i64 guard] 24 true) := x3.get (x2.get (x1.get get_push_same))
  have hx2 : Ext h h2 := by (focus repeat' first | exact Ext.refl _ | assumption | apply Ext.push | (refine Ext.trans ?_ (by assumption)) | (refine Ext.set ?_ (Nat.le_succ _) (get_push_old get_push_same) _))
  clear x1 x2 x3
  refine K_loopE (fun k : Nat => [(3, .int .i64 (k : Nat)), (1, .pointer (some ⟨h.n, 0, none⟩))])
    (fun k h' => k ≤ l.length ∧ Ext h2 h' ∧ ∀ j, j < k → StartP (l.getD j (0, 0)).1 (l.getD j (0, 0)).2) (fun k => l.length - k) ?_ 0 ?_ ?_
  · intro k h' ⟨hk, hx, hj⟩ ih
    have hb : h'.get? h.n = some (.cells [.slice p l.length cap, .int .i64 rows, .int .i64 guard] 24 true) := hx.get hb1
    by_cases hlt : k < l.length
    · obtain ⟨b, e, own, rfl, hg⟩ := hr.at (by rw [spanCells_len]; omega)
      have hg' := hx.get (hx2.get hg)
      (repeat' (first | (apply K_seq) | (apply K_region) | (apply O_at; rfl) | (apply O_fin; rfl) | (apply C_seq) | (apply K_ifT; rfl) | (apply K_ifF; rfl) | (apply K_block) | (apply K_skip) | (apply K_exit) | (apply K_ret) | (apply C_retS) | (apply C_retL) | (apply C_retB) | (apply C_exit) | (apply C_exitS) | (apply C_exitL) | (apply C_blockN) | (apply C_nil) | (apply P_skip; rfl; rfl; rfl) | (apply P_move; rfl; rfl; rfl; rfl) | (apply P_assign; rfl; rfl; rfl; rfl) | (apply P_fa; rfl; rfl; rfl; rfl; exact fo_ok rfl; (first | exact Nat.zero_add _ | exact Nat.add_zero _ | rfl)) | (apply P_len; rfl; rfl; rfl; rfl; rfl; rfl; exact un_ok rfl) | (apply P_pick; rfl; rfl; rfl; rfl; rfl; rfl) | (apply P_not; rfl; rfl; rfl; rfl) | (apply P_lss; rfl; rfl; rfl; rfl; rfl; all_goals intro _) | (apply P_add; rfl; rfl; rfl; rfl; rfl; (unfold fit; omega)) | (apply P_idxB; rfl; rfl; rfl; rfl; rfl; exact un_ok rfl; exact sz_ok rfl; (first | rfl | exact (Int.toNat_of_nonneg (by omega)).symm); omega) | (apply P_load1; rfl; rfl; rfl; rfl; exact on_ok rfl; (focus repeat' first | exact get_push_same | assumption | (apply Ext.get; assumption)); (first | rfl | assumption)) | (apply P_loadA; rfl; rfl; rfl; rfl; exact ag_ok rfl; (focus repeat' first | exact get_push_same | assumption | (apply Ext.get; assumption)); (first | exact Nat.le_of_ble_eq_true rfl | (simp; done) | (simp; omega) | (rw [spanCells_len]; omega) | (rw [ints_len]; omega)); (first | exact spans_take (by omega) | rfl)) | (apply P_box; rfl; rfl; rfl; rfl; exact sz_ok rfl; rfl; rfl) | (apply P_call; rfl; rfl; rfl; rfl; rfl; rfl; exact start_ok hK; (rintro _ _ (⟨rfl, _, _⟩ | ⟨rfl, _, _⟩))) | fail))
      · rename_i hns _
        refine C_again (ih (k + 1) _ ?_ ⟨hlt, ?_, fun j hj' => ?_⟩) ?_
        · omega
        · (focus repeat' first | exact Ext.refl _ | assumption | apply Ext.push | (refine Ext.trans ?_ (by assumption)) | (refine Ext.set ?_ (Nat.le_succ _) (get_push_old get_push_same) _))
        · by_cases hjk : j = k
          · subst hjk; exact hns
          · exact hj j (by omega)
        · (focus repeat' first | rfl | exact trivial | apply And.intro)
      · rename_i hns _
        refine ⟨.inr rfl, _, rfl, .inr ⟨rfl, fun q => hns (q.2.1 k hlt), ?_⟩⟩
        (focus repeat' first | exact Ext.refl _ | assumption | apply Ext.push | (refine Ext.trans ?_ (by assumption)) | (refine Ext.set ?_ (Nat.le_succ _) (get_push_old get_push_same) _))
      · omega
    · (repeat' (first | (apply K_seq) | (apply K_region) | (apply O_at; rfl) | (apply O_fin; rfl) | (apply C_seq) | (apply K_ifT; rfl) | (apply K_ifF; rfl) | (apply K_block) | (apply K_skip) | (apply K_exit) | (apply K_ret) | (apply C_retS) | (apply C_retL) | (apply C_retB) | (apply C_exit) | (apply C_exitS) | (apply C_exitL) | (apply C_blockN) | (apply C_nil) | (apply P_skip; rfl; rfl; rfl) | (apply P_move; rfl; rfl; rfl; rfl) | (apply P_assign; rfl; rfl; rfl; rfl) | (apply P_fa; rfl; rfl; rfl; rfl; exact fo_ok rfl; (first | exact Nat.zero_add _ | exact Nat.add_zero _ | rfl)) | (apply P_len; rfl; rfl; rfl; rfl; rfl; rfl; exact un_ok rfl) | (apply P_pick; rfl; rfl; rfl; rfl; rfl; rfl) | (apply P_not; rfl; rfl; rfl; rfl) | (apply P_lss; rfl; rfl; rfl; rfl; rfl; all_goals intro _) | (apply P_add; rfl; rfl; rfl; rfl; rfl; (unfold fit; omega)) | (apply P_idxB; rfl; rfl; rfl; rfl; rfl; exact un_ok rfl; exact sz_ok rfl; (first | rfl | exact (Int.toNat_of_nonneg (by omega)).symm); omega) | (apply P_load1; rfl; rfl; rfl; rfl; exact on_ok rfl; (focus repeat' first | exact get_push_same | assumption | (apply Ext.get; assumption)); (first | rfl | assumption)) | (apply P_loadA; rfl; rfl; rfl; rfl; exact ag_ok rfl; (focus repeat' first | exact get_push_same | assumption | (apply Ext.get; assumption)); (first | exact Nat.le_of_ble_eq_true rfl | (simp; done) | (simp; omega) | (rw [spanCells_len]; omega) | (rw [ints_len]; omega)); (first | exact spans_take (by omega) | rfl)) | (apply P_box; rfl; rfl; rfl; rfl; exact sz_ok rfl; rfl; rfl) | fail))
      · omega
      · refine ⟨.inr rfl, _, rfl, .inl ⟨rfl, ⟨hlen, fun j hj' => hj j (by omega), c2, c3⟩, ?_⟩⟩
        (focus repeat' first | exact Ext.refl _ | assumption | apply Ext.push | (refine Ext.trans ?_ (by assumption)) | (refine Ext.set ?_ (Nat.le_succ _) (get_push_old get_push_same) _))
  · exact ⟨Nat.zero_le _, Ext.refl _, fun j hj => by omega⟩
  · (focus repeat' first | rfl | exact trivial | apply And.intro)

/-- Is it a truth? -/
def TruthP (l : List (Int × Int)) (t : List Int) : Prop := t.length = l.length ∧ ∀ k, k < t.length → (l.getD k (0, 0)).1 ≤ t.getD k 0 ∧ t.getD k 0 ≤ (l.getD k (0, 0)).2
theorem truth_ok (hK : NoK K) {l : List (Int × Int)} {p q : Option Addr} {cap cap' : Nat} {rows guard : Int} {t : List Int} {h : Heap} (hl : l.length ≤ 1000) (hr : Rd h p (spanCells l)) (_ : t.length ≤ 1000) (hr' : Rd h q (ints t)) :
    CallW Tryz.prog K 65 #[.agg #[.slice p l.length cap, .int .i64 rows, .int .i64 guard], .slice q t.length cap'] h (IfB (TruthP l t) h) := by
  refine body (N := 36) Tryz.func65 rfl (hK _ _ _ rfl) rfl rfl ?_
  (repeat' (first | (apply K_seq) | (apply K_region) | (apply O_at; rfl) | (apply N_at; rfl) | (apply O_fin; rfl) | (apply C_seq) | (apply K_ifT; rfl) | (apply K_ifF; rfl) | (apply K_open; kernel_rfl) | (apply K_block) | (apply K_skip) | (apply K_exit) | (apply K_ret) | (apply N_fin; rfl; exact (.inl (Nat.le_refl 1))) | (apply N_fin; rfl; refine .inr ?_; (focus repeat' first | exact trivial | exact Keeps.nil _ _ | apply And.intro | rfl | (apply Keeps.cons; (focus repeat' first | exact get_push_same | assumption | (apply Ext.get; assumption)); (focus repeat' first | exact get_push_same | assumption | (apply Ext.get; assumption))))) | (apply C_retS) | (apply C_retL) | (apply C_retB) | (apply C_exit) | (apply C_exitS) | (apply C_exitL) | (apply C_blockN) | (apply C_nil) | (apply P_move; rfl; rfl; rfl; rfl) | (apply P_assign; rfl; rfl; rfl; rfl) | (apply P_fa; rfl; rfl; rfl; rfl; exact fo_ok rfl; (first | exact Nat.zero_add _ | exact Nat.add_zero _ | rfl)) | (apply P_len; rfl; rfl; rfl; rfl; rfl; rfl; exact un_ok rfl) | (apply P_lss; rfl; rfl; rfl; rfl; rfl; all_goals intro _) | (apply P_neq; rfl; rfl; rfl; rfl; rfl; all_goals intro _) | (apply P_add; rfl; rfl; rfl; rfl; rfl; (unfold fit; omega)) | (apply P_load1; rfl; rfl; rfl; rfl; exact on_ok rfl; (focus repeat' first | exact get_push_same | assumption | (apply Ext.get; assumption)); (first | exact ints_get (by omega) | exact spans_lo (by omega) | exact spans_hi (by omega) | rfl | assumption)) | (apply P_box; rfl; rfl; rfl; rfl; exact sz_ok rfl; rfl; rfl) | (apply M_move; rfl; rfl; rfl; rfl) | (apply M_fa; rfl; rfl; rfl; rfl; exact fo_ok rfl; (first | exact Nat.zero_add _ | exact Nat.add_zero _ | rfl)) | (apply M_not; rfl; rfl; rfl; rfl) | (apply M_idxA; rfl; rfl; rfl; rfl; rfl; exact un_ok rfl; exact sz_ok rfl; (first | rfl | exact (Int.toNat_of_nonneg (by omega)).symm); omega) | (apply M_idxB; rfl; rfl; rfl; rfl; rfl; exact un_ok rfl; exact sz_ok rfl; (first | rfl | exact (Int.toNat_of_nonneg (by omega)).symm); omega) | (apply M_load1E; rfl; rfl; rfl; rfl; exact on_ok rfl; decide +kernel; (focus repeat' first | exact get_push_same | assumption | (apply Ext.get; assumption)); (first | exact ints_get (by omega) | exact spans_lo (by omega) | exact spans_hi (by omega) | rfl | assumption); (first | assumption | exact same_yield _ | exact same_int _ _ | exact same_slice _ _ _ | rfl | (simp [same, same.all2]; done)); (first | rfl | assumption | exact within_yield (by omega) | (focus apply within_get; (focus repeat' first | exact get_push_same | assumption | (apply Ext.get; assumption)); done) | exact within_planO hpb (by (focus repeat' first | exact Ext.refl _ | assumption | apply Ext.push | (refine Ext.trans ?_ (by assumption)) | (refine Ext.set ?_ (Nat.le_succ _) (get_push_old get_push_same) _))) | exact within_optO hpb (by (focus repeat' first | exact Ext.refl _ | assumption | apply Ext.push | (refine Ext.trans ?_ (by assumption)) | (refine Ext.set ?_ (Nat.le_succ _) (get_push_old get_push_same) _))) | (simp [within]; omega))) | fail))
  · rename_i hne
    refine ⟨.inr rfl, _, rfl, .inr ⟨rfl, fun q => hne (by rw [q.1]), ?_⟩⟩
    (focus repeat' first | exact Ext.refl _ | assumption | apply Ext.push | (refine Ext.trans ?_ (by assumption)) | (refine Ext.set ?_ (Nat.le_succ _) (get_push_old get_push_same) _))
  rename_i heq
  have heq' : t.length = l.length := by omega
  have hb1 : (h.push (.cells (Value.agg #[.slice p l.length cap, .int .i64 rows, .int .i64 guard]).cells.toList 24 true)).get? h.n = some (.cells [.slice p l.length cap, .int .i64 rows, .int .i64 guard] 24 true) := get_push_same
  have hx2 : Ext h (h.push (.cells (Value.agg #[.slice p l.length cap, .int .i64 rows, .int .i64 guard]).cells.toList 24 true)) := by (focus repeat' first | exact Ext.refl _ | assumption | apply Ext.push | (refine Ext.trans ?_ (by assumption)) | (refine Ext.set ?_ (Nat.le_succ _) (get_push_old get_push_same) _))
  generalize h.push (.cells (Value.agg #[.slice p l.length cap, .int .i64 rows, .int .i64 guard]).cells.toList 24 true) = h2 at hb1 hx2 ⊢
  refine K_loopE (fun k : Nat => [(5, .int .i64 (k : Nat)), (1, .slice q t.length cap'), (2, .pointer (some ⟨h.n, 0, none⟩))])
    (fun k h' => k ≤ t.length ∧ Ext h2 h' ∧ ∀ j, j < k → (l.getD j (0, 0)).1 ≤ t.getD j 0 ∧ t.getD j 0 ≤ (l.getD j (0, 0)).2) (fun k => t.length - k) ?_ 0 ?_ ?_
  · intro k h' ⟨hk, hx, hj⟩ ih
    have hb : h'.get? h.n = some (.cells [.slice p l.length cap, .int .i64 rows, .int .i64 guard] 24 true) := hx.get hb1
    by_cases hlt : k < t.length
    · obtain ⟨b, e, own, rfl, hg⟩ := hr.at (by rw [spanCells_len]; omega)
      obtain ⟨b', e', own', rfl, hg'⟩ := hr'.at (by rw [ints_len]; omega)
      have hg2 := hx.get (hx2.get hg)
      have hg2' := hx.get (hx2.get hg')
      have hn1 := Heap.get_lt hg2
      have hn2 := Heap.get_lt hg2'
      have hn3 := Heap.get_lt hb
      clear hg hg' hb1
      have hltl : k < l.length := by omega
      (repeat' (first | (apply K_seq) | (apply K_region) | (apply O_at; rfl) | (apply N_at; rfl) | (apply O_fin; rfl) | (apply C_seq) | (apply K_ifT; rfl) | (apply K_ifF; rfl) | (apply K_open; kernel_rfl) | (apply K_block) | (apply K_skip) | (apply K_exit) | (apply K_ret) | (apply N_fin; rfl; exact (.inl (Nat.le_refl 1))) | (apply N_fin; rfl; refine .inr ?_; (focus repeat' first | exact trivial | exact Keeps.nil _ _ | apply And.intro | rfl | (apply Keeps.cons; (focus repeat' first | exact get_push_same | assumption | (apply Ext.get; assumption)); (focus repeat' first | exact get_push_same | assumption | (apply Ext.get; assumption))))) | (apply C_retS) | (apply C_retL) | (apply C_retB) | (apply C_exit) | (apply C_exitS) | (apply C_exitL) | (apply C_blockN) | (apply C_nil) | (apply P_move; rfl; rfl; rfl; rfl) | (apply P_assign; rfl; rfl; rfl; rfl) | (apply P_fa; rfl; rfl; rfl; rfl; exact fo_ok rfl; (first | exact Nat.zero_add _ | exact Nat.add_zero _ | rfl)) | (apply P_len; rfl; rfl; rfl; rfl; rfl; rfl; exact un_ok rfl) | (apply P_lss; rfl; rfl; rfl; rfl; rfl; all_goals intro _) | (apply P_neq; rfl; rfl; rfl; rfl; rfl; all_goals intro _) | (apply P_add; rfl; rfl; rfl; rfl; rfl; (unfold fit; omega)) | (apply P_load1; rfl; rfl; rfl; rfl; exact on_ok rfl; (focus repeat' first | exact get_push_same | assumption | (apply Ext.get; assumption)); (first | exact ints_get (by omega) | exact spans_lo (by omega) | exact spans_hi (by omega) | rfl | assumption)) | (apply P_box; rfl; rfl; rfl; rfl; exact sz_ok rfl; rfl; rfl) | (apply M_move; rfl; rfl; rfl; rfl) | (apply M_fa; rfl; rfl; rfl; rfl; exact fo_ok rfl; (first | exact Nat.zero_add _ | exact Nat.add_zero _ | rfl)) | (apply M_not; rfl; rfl; rfl; rfl) | (apply M_idxA; rfl; rfl; rfl; rfl; rfl; exact un_ok rfl; exact sz_ok rfl; (first | rfl | exact (Int.toNat_of_nonneg (by omega)).symm); omega) | (apply M_idxB; rfl; rfl; rfl; rfl; rfl; exact un_ok rfl; exact sz_ok rfl; (first | rfl | exact (Int.toNat_of_nonneg (by omega)).symm); omega) | (apply M_load1E; rfl; rfl; rfl; rfl; exact on_ok rfl; decide +kernel; (focus repeat' first | exact get_push_same | assumption | (apply Ext.get; assumption)); (first | exact ints_get (by omega) | exact spans_lo (by omega) | exact spans_hi (by omega) | rfl | assumption); (first | assumption | exact same_yield _ | exact same_int _ _ | exact same_slice _ _ _ | rfl | (simp [same, same.all2]; done)); (first | rfl | assumption | exact within_yield (by omega) | (focus apply within_get; (focus repeat' first | exact get_push_same | assumption | (apply Ext.get; assumption)); done) | exact within_planO hpb (by (focus repeat' first | exact Ext.refl _ | assumption | apply Ext.push | (refine Ext.trans ?_ (by assumption)) | (refine Ext.set ?_ (Nat.le_succ _) (get_push_old get_push_same) _))) | exact within_optO hpb (by (focus repeat' first | exact Ext.refl _ | assumption | apply Ext.push | (refine Ext.trans ?_ (by assumption)) | (refine Ext.set ?_ (Nat.le_succ _) (get_push_old get_push_same) _))) | (simp [within]; omega))) | (apply M_call; rfl; rfl; rfl; rfl; rfl; rfl; rfl; exact in_ok hK; (rintro _ _ (⟨rfl, _, _⟩ | ⟨rfl, _, _⟩))) | fail))
      · rename_i hns _
        refine C_again (ih (k + 1) _ ?_ ⟨hlt, ?_, fun j hj' => ?_⟩) ?_
        · omega
        · (focus repeat' first | exact Ext.refl _ | assumption | apply Ext.push | (refine Ext.trans ?_ (by assumption)) | (refine Ext.set ?_ (Nat.le_succ _) (get_push_old get_push_same) _))
        · by_cases hjk : j = k
          · subst hjk; exact hns
          · exact hj j (by omega)
        · (focus repeat' first | rfl | exact trivial | apply And.intro)
      · rename_i hns _
        refine ⟨.inr rfl, _, rfl, .inr ⟨rfl, fun q => hns (q.2 k hlt), ?_⟩⟩
        (focus repeat' first | exact Ext.refl _ | assumption | apply Ext.push | (refine Ext.trans ?_ (by assumption)) | (refine Ext.set ?_ (Nat.le_succ _) (get_push_old get_push_same) _))
      · omega
    · (repeat' (first | (apply K_seq) | (apply K_region) | (apply O_at; rfl) | (apply N_at; rfl) | (apply O_fin; rfl) | (apply C_seq) | (apply K_ifT; rfl) | (apply K_ifF; rfl) | (apply K_open; kernel_rfl) | (apply K_block) | (apply K_skip) | (apply K_exit) | (apply K_ret) | (apply N_fin; rfl; exact (.inl (Nat.le_refl 1))) | (apply N_fin; rfl; refine .inr ?_; (focus repeat' first | exact trivial | exact Keeps.nil _ _ | apply And.intro | rfl | (apply Keeps.cons; (focus repeat' first | exact get_push_same | assumption | (apply Ext.get; assumption)); (focus repeat' first | exact get_push_same | assumption | (apply Ext.get; assumption))))) | (apply C_retS) | (apply C_retL) | (apply C_retB) | (apply C_exit) | (apply C_exitS) | (apply C_exitL) | (apply C_blockN) | (apply C_nil) | (apply P_move; rfl; rfl; rfl; rfl) | (apply P_assign; rfl; rfl; rfl; rfl) | (apply P_fa; rfl; rfl; rfl; rfl; exact fo_ok rfl; (first | exact Nat.zero_add _ | exact Nat.add_zero _ | rfl)) | (apply P_len; rfl; rfl; rfl; rfl; rfl; rfl; exact un_ok rfl) | (apply P_lss; rfl; rfl; rfl; rfl; rfl; all_goals intro _) | (apply P_neq; rfl; rfl; rfl; rfl; rfl; all_goals intro _) | (apply P_add; rfl; rfl; rfl; rfl; rfl; (unfold fit; omega)) | (apply P_load1; rfl; rfl; rfl; rfl; exact on_ok rfl; (focus repeat' first | exact get_push_same | assumption | (apply Ext.get; assumption)); (first | exact ints_get (by omega) | exact spans_lo (by omega) | exact spans_hi (by omega) | rfl | assumption)) | (apply P_box; rfl; rfl; rfl; rfl; exact sz_ok rfl; rfl; rfl) | (apply M_move; rfl; rfl; rfl; rfl) | (apply M_fa; rfl; rfl; rfl; rfl; exact fo_ok rfl; (first | exact Nat.zero_add _ | exact Nat.add_zero _ | rfl)) | (apply M_not; rfl; rfl; rfl; rfl) | (apply M_idxA; rfl; rfl; rfl; rfl; rfl; exact un_ok rfl; exact sz_ok rfl; (first | rfl | exact (Int.toNat_of_nonneg (by omega)).symm); omega) | (apply M_idxB; rfl; rfl; rfl; rfl; rfl; exact un_ok rfl; exact sz_ok rfl; (first | rfl | exact (Int.toNat_of_nonneg (by omega)).symm); omega) | (apply M_load1E; rfl; rfl; rfl; rfl; exact on_ok rfl; decide +kernel; (focus repeat' first | exact get_push_same | assumption | (apply Ext.get; assumption)); (first | exact ints_get (by omega) | exact spans_lo (by omega) | exact spans_hi (by omega) | rfl | assumption); (first | assumption | exact same_yield _ | exact same_int _ _ | exact same_slice _ _ _ | rfl | (simp [same, same.all2]; done)); (first | rfl | assumption | exact within_yield (by omega) | (focus apply within_get; (focus repeat' first | exact get_push_same | assumption | (apply Ext.get; assumption)); done) | exact within_planO hpb (by (focus repeat' first | exact Ext.refl _ | assumption | apply Ext.push | (refine Ext.trans ?_ (by assumption)) | (refine Ext.set ?_ (Nat.le_succ _) (get_push_old get_push_same) _))) | exact within_optO hpb (by (focus repeat' first | exact Ext.refl _ | assumption | apply Ext.push | (refine Ext.trans ?_ (by assumption)) | (refine Ext.set ?_ (Nat.le_succ _) (get_push_old get_push_same) _))) | (simp [within]; omega))) | fail))
      · omega
      · refine ⟨.inr rfl, _, rfl, .inl ⟨rfl, ⟨heq', fun j hj' => hj j (by omega)⟩, ?_⟩⟩
        (focus repeat' first | exact Ext.refl _ | assumption | apply Ext.push | (refine Ext.trans ?_ (by assumption)) | (refine Ext.set ?_ (Nat.le_succ _) (get_push_old get_push_same) _))
  · exact ⟨Nat.zero_le _, Ext.refl _, fun j hj => by omega⟩
  · (focus repeat' first | rfl | exact trivial | apply And.intro)

end Go.AX.Sa

namespace Go.AX.Sa
open Go.Proofs
set_option maxRecDepth 100000
variable {K : Known}

/-! How often a number of the first row comes into a later one. -/
def choose : Nat → Nat → Nat
  | _, 0 => 1
  | 0, _ + 1 => 0
  | n + 1, k + 1 => choose n k + choose n (k + 1)
def sumC : List Int → Nat → Nat → Int
  | [], _, _ => 0
  | a :: l, r, j => a * choose r j + sumC l r (j + 1)
theorem sumC_pascal (l : List Int) : ∀ r j, sumC l (r + 1) (j + 1) = sumC l r j + sumC l r (j + 1) := by
  induction l with
  | nil => intro r j; rfl
  | cons a l ih =>
    intro r j
    simp only [sumC, choose, Int.natCast_add, Int.mul_add, ih r (j + 1)]
    omega
theorem sumC_head (a : Int) (l : List Int) (r : Nat) : sumC (a :: l) (r + 1) 0 = sumC (a :: l) r 0 + sumC l r 0 := by
  simp only [sumC, sumC_pascal l r 0]
  cases r <;> simp [choose] <;> omega
theorem sumC_zero (l : List Int) : ∀ j, sumC l 0 (j + 1) = 0 := by
  induction l with
  | nil => intro j; rfl
  | cons a l ih => intro j; simp [sumC, choose, ih]
/-- A number of the state of a row. -/
def st (t : List Int) (r j : Nat) : Int := sumC (t.drop j) r 0
theorem st_zero (t : List Int) (j : Nat) (h : j < t.length) : st t 0 j = t.getD j 0 := by
  unfold st
  rw [List.drop_eq_getElem_cons h]
  simp [sumC, choose, sumC_zero, h]
theorem st_next (t : List Int) (r j : Nat) (h : j + 1 < t.length) : st t (r + 1) j = st t r j + st t r (j + 1) := by
  unfold st
  rw [List.drop_eq_getElem_cons (by omega : j < t.length)]
  exact sumC_head _ _ _
theorem st_last (t : List Int) (r j : Nat) (h : j + 1 = t.length) : st t (r + 1) j = st t r j := by
  unfold st
  rw [List.drop_eq_getElem_cons (by omega : j < t.length), List.drop_eq_nil_of_le (by omega)]
  cases r <;> simp [sumC, choose]
theorem take_snoc {t : List Int} {k : Nat} (h : k < t.length) : t.take (k + 1) = t.take k ++ [t.getD k 0] := by
  rw [List.take_succ_eq_append_getElem h]; simp [h]

end Go.AX.Sa
