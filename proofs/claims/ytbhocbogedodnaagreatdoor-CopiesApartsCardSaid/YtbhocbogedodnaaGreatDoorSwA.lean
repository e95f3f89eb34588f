/- Trees: which are as defined. -/
import Derived.Test.YtbhocbogedodnaaGreatDoorAxX
import Derived.Test.YtbhocbogedodnaaGreatDoorProg
import Derived.KernelRfl
namespace Go.AX.Sa
open Go.Proofs
set_option maxRecDepth 100000
def szTab : List (Nat × Nat) := [(0, 1), (1, 1), (2, 1), (3, 1), (4, 1), (5, 1), (6, 1), (7, 4), (8, 4), (9, 1), (10, 1), (11, 1), (12, 1), (13, 2), (14, 2), (15, 1), (16, 1), (17, 1), (18, 1), (19, 1), (20, 1), (21, 1), (22, 1), (23, 2), (24, 2), (25, 1), (26, 1), (27, 1), (28, 1), (29, 1), (30, 1), (31, 1), (32, 1), (33, 1), (34, 1), (35, 1), (36, 1), (37, 1), (38, 1), (39, 1), (40, 1), (41, 1), (42, 1), (43, 1), (44, 1), (45, 1), (46, 1), (47, 1), (48, 2), (49, 2), (50, 1), (51, 1), (52, 1), (53, 1), (54, 1), (55, 1), (56, 1), (57, 1), (58, 1), (59, 1), (60, 1), (61, 1), (62, 1), (63, 1), (64, 2), (65, 2), (66, 1), (67, 1), (68, 1), (69, 1), (70, 1), (71, 1), (72, 1), (73, 1), (74, 1), (75, 1), (76, 1), (77, 1), (78, 1), (79, 1), (80, 1), (81, 1), (82, 1), (83, 1), (84, 1), (85, 1), (86, 1), (87, 1), (88, 1), (89, 1), (90, 1), (91, 1), (92, 1), (93, 1), (94, 1), (95, 4), (96, 4), (97, 1), (98, 1), (99, 1), (100, 1), (101, 1), (102, 1), (103, 3), (104, 3), (105, 1), (106, 1), (107, 1), (108, 1), (109, 1), (110, 1), (111, 1), (112, 1), (113, 1), (114, 1), (115, 5), (116, 5), (117, 1), (118, 1), (119, 1), (120, 1), (121, 1), (122, 0), (123, 0), (124, 1), (125, 1), (126, 1), (127, 3), (128, 3), (129, 1), (130, 1), (131, 5), (132, 5), (133, 1), (134, 1), (135, 1), (136, 1), (137, 1), (138, 1), (139, 2), (140, 1), (141, 1), (142, 2), (143, 1), (144, 1), (145, 1), (146, 2), (147, 1), (148, 1), (149, 1), (150, 1), (151, 1), (152, 1), (153, 1), (154, 1), (155, 1), (156, 2), (157, 2), (158, 1), (159, 1), (160, 1), (161, 10), (162, 1), (163, 1), (164, 1), (165, 1), (166, 1), (167, 1), (168, 1), (169, 1), (170, 1), (171, 1), (172, 1), (173, 1), (174, 1), (175, 1), (176, 1), (177, 1), (178, 1), (179, 0), (180, 1), (181, 1), (182, 1), (183, 1), (184, 1), (185, 1), (186, 2), (187, 2), (188, 1), (189, 1), (190, 1), (191, 1), (192, 1), (193, 1), (194, 1), (195, 1), (196, 1), (197, 1), (198, 1), (199, 1), (200, 1), (201, 1), (202, 1), (203, 1), (204, 1), (205, 1), (206, 1), (207, 1), (208, 1), (209, 1), (210, 1), (211, 2), (212, 2), (213, 1), (214, 1), (215, 1), (216, 1), (217, 1), (218, 1), (219, 1), (220, 1), (221, 1), (222, 1), (223, 1), (224, 1), (225, 1), (226, 1), (227, 1), (228, 1), (229, 1), (230, 24), (231, 1), (232, 1), (233, 1), (234, 1), (235, 1), (236, 1), (237, 256), (238, 2), (239, 2), (240, 32), (241, 1), (242, 1), (243, 20), (244, 65), (245, 32), (246, 64), (247, 4), (248, 4), (249, 0), (250, 0), (251, 0), (252, 1), (253, 1), (254, 1), (255, 1), (256, 1), (257, 11), (258, 11)]
theorem sz_ok {t n : Nat} (e : tget szTab t = some n) : sizeB Tryz.prog t = some n := tab_ok (f := sizeB Tryz.prog) (by kernel_rfl) e
def elTab : List (Nat × Nat) := [(22, 49), (25, 37), (31, 65), (37, 3), (80, 85), (94, 25), (101, 104), (118, 9), (147, 141), (150, 5), (181, 118)]
theorem el_ok {t n : Nat} (e : tget elTab t = some n) : elemOf Tryz.prog t = some n := tab_ok (f := elemOf Tryz.prog) (by kernel_rfl) e
theorem un_ok {t n : Nat} (e : tget elTab t = some n) : Tryz.prog.underlying t = some (.slice n) := elemOf_some (el_ok e)
def c1Tab : List (Nat × Nat) := [(25, 37), (37, 3), (80, 85), (94, 25), (118, 9), (147, 141), (150, 5), (181, 118)]
theorem c1_ok {t n : Nat} (e : tget c1Tab t = some n) : cell1 Tryz.prog t = some n := tab_ok (f := cell1 Tryz.prog) (by kernel_rfl) e
def agTab : List (Nat × Nat) := [(7, 4), (8, 4), (13, 2), (14, 2), (18, 1), (19, 1), (23, 2), (24, 2), (48, 2), (49, 2), (64, 2), (65, 2), (95, 4), (96, 4), (103, 3), (104, 3), (115, 5), (116, 5), (122, 0), (123, 0), (127, 3), (128, 3), (131, 5), (132, 5), (139, 2), (142, 2), (146, 2), (156, 2), (157, 2), (161, 10), (179, 0), (186, 2), (187, 2), (211, 2), (212, 2), (230, 24), (237, 256), (238, 2), (239, 2), (240, 32), (243, 20), (244, 65), (245, 32), (246, 64), (247, 4), (248, 4), (249, 0), (250, 0), (251, 0), (257, 11), (258, 11)]
theorem ag_ok {t n : Nat} (e : tget agTab t = some n) : aggN Tryz.prog t = some n := tab_ok (f := aggN Tryz.prog) (by kernel_rfl) e
def foTab : List ((Nat × Nat) × Nat) := [((7, 0), 0), ((7, 1), 1), ((7, 2), 2), ((7, 3), 3), ((8, 0), 0), ((8, 1), 1), ((8, 2), 2), ((8, 3), 3), ((13, 0), 0), ((13, 1), 1), ((14, 0), 0), ((14, 1), 1), ((18, 0), 0), ((19, 0), 0), ((23, 0), 0), ((23, 1), 1), ((24, 0), 0), ((24, 1), 1), ((48, 0), 0), ((48, 1), 1), ((49, 0), 0), ((49, 1), 1), ((64, 0), 0), ((64, 1), 1), ((65, 0), 0), ((65, 1), 1), ((95, 0), 0), ((95, 1), 2), ((95, 2), 3), ((96, 0), 0), ((96, 1), 2), ((96, 2), 3), ((103, 0), 0), ((103, 1), 1), ((103, 2), 2), ((104, 0), 0), ((104, 1), 1), ((104, 2), 2), ((115, 0), 0), ((115, 1), 1), ((115, 2), 2), ((115, 3), 3), ((115, 4), 4), ((116, 0), 0), ((116, 1), 1), ((116, 2), 2), ((116, 3), 3), ((116, 4), 4), ((127, 0), 0), ((127, 1), 2), ((128, 0), 0), ((128, 1), 2), ((131, 0), 0), ((131, 1), 3), ((131, 2), 4), ((132, 0), 0), ((132, 1), 3), ((132, 2), 4), ((146, 0), 0), ((146, 1), 1), ((156, 0), 0), ((156, 1), 1), ((157, 0), 0), ((157, 1), 1), ((186, 0), 0), ((186, 1), 1), ((187, 0), 0), ((187, 1), 1), ((211, 0), 0), ((211, 1), 1), ((212, 0), 0), ((212, 1), 1), ((238, 0), 0), ((238, 1), 1), ((239, 0), 0), ((239, 1), 1), ((247, 0), 0), ((247, 1), 1), ((247, 2), 2), ((247, 3), 3), ((248, 0), 0), ((248, 1), 1), ((248, 2), 2), ((248, 3), 3), ((257, 0), 0), ((257, 1), 1), ((257, 2), 2), ((257, 3), 3), ((257, 4), 4), ((257, 5), 5), ((257, 6), 6), ((257, 7), 7), ((257, 8), 8), ((257, 9), 9), ((257, 10), 10), ((258, 0), 0), ((258, 1), 1), ((258, 2), 2), ((258, 3), 3), ((258, 4), 4), ((258, 5), 5), ((258, 6), 6), ((258, 7), 7), ((258, 8), 8), ((258, 9), 9), ((258, 10), 10)]
theorem fo_ok {t j n : Nat} (e : tget2 foTab t j = some n) : fieldOff Tryz.prog t j = some n := tab2_ok (f := fieldOff Tryz.prog) (by kernel_rfl) e
def onTab : List Nat := [0, 1, 2, 3, 4, 5, 6, 9, 10, 11, 12, 15, 16, 17, 20, 21, 22, 25, 26, 27, 28, 29, 30, 31, 32, 33, 34, 35, 36, 37, 38, 39, 40, 41, 42, 43, 44, 45, 46, 47, 50, 51, 52, 53, 54, 55, 56, 57, 58, 59, 60, 61, 62, 63, 66, 67, 68, 69, 70, 71, 72, 73, 74, 75, 76, 77, 78, 79, 80, 81, 82, 83, 84, 85, 86, 87, 88, 89, 90, 91, 92, 93, 94, 97, 98, 99, 100, 101, 102, 105, 106, 107, 108, 109, 110, 111, 112, 113, 114, 117, 118, 119, 120, 121, 124, 125, 126, 129, 130, 133, 134, 135, 136, 137, 138, 140, 141, 143, 144, 145, 147, 148, 149, 150, 151, 152, 153, 154, 155, 158, 159, 160, 162, 163, 164, 165, 166, 167, 168, 169, 170, 171, 172, 173, 174, 175, 176, 177, 178, 180, 181, 182, 183, 184, 185, 188, 189, 190, 191, 192, 193, 194, 195, 196, 197, 198, 199, 200, 201, 202, 203, 204, 205, 206, 207, 208, 209, 210, 213, 214, 215, 216, 217, 218, 219, 220, 221, 222, 223, 224, 225, 226, 227, 228, 229, 231, 232, 233, 234, 235, 236, 241, 242, 252, 253, 254, 255, 256]
theorem on_ok {t : Nat} (e : onTab.contains t = true) : one Tryz.prog t = true := by
  have h : onTab.all (fun t => one Tryz.prog t) = true := by kernel_rfl
  exact List.all_eq_true.1 h t (by simpa using e)
end Go.AX.Sa

namespace Go.AX.Sa
open Go.Proofs
set_option maxRecDepth 100000
variable {K : Known}
/-- Nothing is known but the examples. -/
def NoK (K : Known) : Prop := ∀ f a h, Nat.beq f 17 = false → K f a h = none
def Kn (K : Known) : Prop := ∀ h, K 17 #[] h = some (.bool true, [])
theorem known_ok' (hKn : Kn K) {h : Heap} : CallW Tryz.prog K 17 #[] h (IsV (.bool true) h) := CallW.of_known (hKn h) ⟨rfl, Ext.refl h⟩
section
variable {f : FuncId} {args : Array Value} {h : Heap} {p : Prop}
theorem yes (c : CallW Tryz.prog K f args h (IfB p h)) (hp : p) : CallW Tryz.prog K f args h (IsV (.bool true) h) :=
  c.mono fun _ _ q => by
    rcases q with ⟨rfl, _, x⟩ | ⟨_, n, _⟩
    · exact ⟨rfl, x⟩
    · exact absurd hp n
theorem no (c : CallW Tryz.prog K f args h (IfB p h)) (hp : ¬ p) : CallW Tryz.prog K f args h (IsV (.bool false) h) :=
  c.mono fun _ _ q => by
    rcases q with ⟨_, n, _⟩ | ⟨rfl, _, x⟩
    · exact absurd n hp
    · exact ⟨rfl, x⟩
end
theorem in_ok (hK : NoK K) {n low high : Int} {h : Heap} : CallW Tryz.prog K 64 #[.int .i64 n, .int .i64 low, .int .i64 high] h (IfB (low ≤ n ∧ n ≤ high) h) := by
  refine body (N := 15) Tryz.func64 rfl (hK _ _ _ rfl) rfl rfl ?_
  (repeat' (first | (apply K_seq) | (apply K_region) | (apply O_at; rfl) | (apply O_fin; rfl) | (apply C_seq) | (apply K_ret) | (apply C_nil) | (apply P_skip; rfl; rfl; rfl) | (apply P_move; rfl; rfl; rfl; rfl) | (apply P_assign; rfl; rfl; rfl; rfl) | (apply P_pick; rfl; rfl; rfl; rfl; rfl; rfl) | (apply P_leq; rfl; rfl; rfl; rfl; rfl; all_goals intro _) | (apply P_geq; rfl; rfl; rfl; rfl; rfl; all_goals intro _) | fail))
  all_goals (refine ⟨.inr rfl, _, rfl, ?_⟩; first | (refine .inl ⟨rfl, by omega, ?_⟩; (focus repeat' first | exact Ext.refl _ | assumption | apply Ext.push | (refine Ext.trans ?_ (by assumption)) | (refine Ext.set ?_ (Nat.le_succ _) (get_push_old get_push_same) _)); done) | (refine .inr ⟨rfl, by omega, ?_⟩; (focus repeat' first | exact Ext.refl _ | assumption | apply Ext.push | (refine Ext.trans ?_ (by assumption)) | (refine Ext.set ?_ (Nat.le_succ _) (get_push_old get_push_same) _)); done))
theorem within_ok (hK : NoK K) {n low high : Int} {h : Heap} : CallW Tryz.prog K 97 #[.int .i64 n, .int .i64 low, .int .i64 high] h (IfB (low ≤ n ∧ n ≤ high) h) := by
  refine body (N := 15) Tryz.func97 rfl (hK _ _ _ rfl) rfl rfl ?_
  (repeat' (first | (apply K_seq) | (apply K_region) | (apply O_at; rfl) | (apply O_fin; rfl) | (apply C_seq) | (apply K_ret) | (apply C_nil) | (apply P_skip; rfl; rfl; rfl) | (apply P_move; rfl; rfl; rfl; rfl) | (apply P_assign; rfl; rfl; rfl; rfl) | (apply P_pick; rfl; rfl; rfl; rfl; rfl; rfl) | (apply P_leq; rfl; rfl; rfl; rfl; rfl; all_goals intro _) | fail))
  all_goals (refine ⟨.inr rfl, _, rfl, ?_⟩; first | (refine .inl ⟨rfl, by omega, ?_⟩; (focus repeat' first | exact Ext.refl _ | assumption | apply Ext.push | (refine Ext.trans ?_ (by assumption)) | (refine Ext.set ?_ (Nat.le_succ _) (get_push_old get_push_same) _)); done) | (refine .inr ⟨rfl, by omega, ?_⟩; (focus repeat' first | exact Ext.refl _ | assumption | apply Ext.push | (refine Ext.trans ?_ (by assumption)) | (refine Ext.set ?_ (Nat.le_succ _) (get_push_old get_push_same) _)); done))
/-! Rows and trees. -/
structure Row where
  q : Option Addr
  k : Nat
  s : List Int
def row0 : Row := ⟨none, 0, []⟩
def rowV (r : Row) : Value := .slice r.q r.s.length r.k
def rowCells (l : List Row) : List Value := l.map rowV
structure Cop where
  par : Int
  r : Row
def cop0 : Cop := ⟨0, row0⟩
def copCells : List Cop → List Value
  | [] => []
  | c :: l => .int .i64 c.par :: rowV c.r :: copCells l
theorem rows_len (l : List Row) : (rowCells l).length = l.length := by simp [rowCells]
theorem rows_get {l : List Row} {k : Nat} (h : k < l.length) : (rowCells l)[k]? = some (.slice (l.getD k row0).q (l.getD k row0).s.length (l.getD k row0).k) := by
  simp [rowCells, h, rowV]
theorem cops_len (l : List Cop) : (copCells l).length = 2 * l.length := by
  induction l with
  | nil => rfl
  | cons p l ih => simp only [copCells, List.length_cons, ih]; omega
theorem cops_drop (l : List Cop) : ∀ k, (copCells l).drop (k * 2) = copCells (l.drop k) := by
  induction l with
  | nil => intro k; simp [copCells]
  | cons p l ih =>
    intro k
    cases k with
    | zero => simp
    | succ k =>
      rw [show (k + 1) * 2 = k * 2 + 1 + 1 from by omega]
      simp only [copCells, List.drop_succ_cons]
      exact ih k
theorem cops_take {l : List Cop} {k : Nat} (h : k < l.length) : ((copCells l).drop (k * 2)).take 2 = [.int .i64 (l.getD k cop0).par, .slice (l.getD k cop0).r.q (l.getD k cop0).r.s.length (l.getD k cop0).r.k] := by
  rw [cops_drop, List.drop_eq_getElem_cons h]
  simp [copCells, h, rowV]
theorem cops_par {l : List Cop} {k : Nat} (h : k < l.length) : (copCells l)[k * 2]? = some (.int .i64 (l.getD k cop0).par) := by
  have := cops_take h
  have e : (((copCells l).drop (k * 2)).take 2)[0]? = some (.int .i64 (l.getD k cop0).par) := by rw [this]; rfl
  simpa [List.getElem?_take, List.getElem?_drop] using e
theorem cops_row {l : List Cop} {k : Nat} (h : k < l.length) : (copCells l)[k * 2 + 1]? = some (.slice (l.getD k cop0).r.q (l.getD k cop0).r.s.length (l.getD k cop0).r.k) := by
  have := cops_take h
  have e : (((copCells l).drop (k * 2)).take 2)[1]? = some (.slice (l.getD k cop0).r.q (l.getD k cop0).r.s.length (l.getD k cop0).r.k) := by rw [this]; rfl
  simpa [List.getElem?_take, List.getElem?_drop] using e
structure RowIn (r : Row) (h : Heap) : Prop where
  rd : Rd h r.q (ints r.s)
  b : ∀ a, r.q = some a → a.block < h.n
theorem RowIn.ext {r : Row} {h h1 : Heap} (x : RowIn r h) (e : Ext h h1) : RowIn r h1 := ⟨x.rd.ext e, fun a q => Nat.lt_of_lt_of_le (x.b a q) e.n⟩
structure Tre where
  p : Option Addr
  k : Nat
  places : Int
  c : List Cop
def treV (T : Tre) : Value := .agg #[.int .i64 T.places, .slice T.p T.c.length T.k]
structure TreAt (T : Tre) (h : Heap) : Prop where
  rc : Rd h T.p (copCells T.c)
  each : ∀ j, j < T.c.length → RowIn (T.c.getD j cop0).r h
  b : ∀ a, T.p = some a → a.block < h.n
theorem TreAt.ext {T : Tre} {h h1 : Heap} (x : TreAt T h) (e : Ext h h1) : TreAt T h1 := ⟨x.rc.ext e, fun j hj => (x.each j hj).ext e, fun a q => Nat.lt_of_lt_of_le (x.b a q) e.n⟩
def ShortP (T : Tre) : Prop := T.c.length ≤ 10 ∧ ∀ j, j < T.c.length → (T.c.getD j cop0).r.s.length ≤ 5
/-- A list of lists. -/
structure Lis where
  p : Option Addr
  k : Nat
  l : List Row
def lisV (L : Lis) : Value := .slice L.p L.l.length L.k
structure LisAt (L : Lis) (h : Heap) : Prop where
  rc : Rd h L.p (rowCells L.l)
  each : ∀ j, j < L.l.length → RowIn (L.l.getD j row0) h
  b : ∀ a, L.p = some a → a.block < h.n
theorem LisAt.ext {L : Lis} {h h1 : Heap} (x : LisAt L h) (e : Ext h h1) : LisAt L h1 := ⟨x.rc.ext e, fun j hj => (x.each j hj).ext e, fun a q => Nat.lt_of_lt_of_le (x.b a q) e.n⟩
def SmallP (L : Lis) : Prop := L.l.length ≤ 10 ∧ ∀ j, j < L.l.length → (L.l.getD j row0).s.length ≤ 5
theorem same_treO (n : Int) (p : Option Addr) (m c : Nat) : same 20 (.agg [Value.int .i64 n, .slice p m c].toArray) (.agg [Value.int .i64 n, .slice p m c].toArray) = true := by simp [same, same.all2]
theorem within_treO {h0 h : Heap} {n : Int} {p : Option Addr} {m c : Nat} (hp : ∀ a, p = some a → a.block < h0.n) (e : Ext h0 h) : within 20 h.n (.agg [Value.int .i64 n, .slice p m c].toArray) = true := by
  have := e.n
  cases p with
  | none => simp [within]
  | some a => have := hp a rfl; simp [within]; omega
theorem short_ok (hK : NoK K) {T : Tre} {h : Heap} (hT : TreAt T h) :
    CallW Tryz.prog K 15 #[treV T] h (IfB (ShortP T) h) := by
  obtain ⟨p, kc, pl, c⟩ := T
  obtain ⟨rc, each, hpb⟩ := hT
  dsimp only [treV] at rc each hpb ⊢
  refine body (N := 27) Tryz.func15 rfl (hK _ _ _ rfl) rfl rfl ?_
  (repeat' (first | (apply K_seq) | (apply K_region) | (apply O_at; rfl) | (apply O_fin; rfl) | (apply C_seq) | (apply K_ifT; rfl) | (apply K_ifF; rfl) | (apply K_block) | (apply K_skip) | (apply K_exit) | (apply K_ret) | (apply C_retS) | (apply C_retL) | (apply C_retB) | (apply C_exit) | (apply C_exitS) | (apply C_exitL) | (apply C_blockN) | (apply C_nil) | (apply P_skip; rfl; rfl; rfl) | (apply P_move; rfl; rfl; rfl; rfl) | (apply P_assign; rfl; rfl; rfl; rfl) | (apply P_fa; rfl; rfl; rfl; rfl; exact fo_ok rfl; (first | exact Nat.zero_add _ | exact Nat.add_zero _ | rfl)) | (apply P_len; rfl; rfl; rfl; rfl; rfl; rfl; exact un_ok rfl) | (apply P_pick; rfl; rfl; rfl; rfl; rfl; rfl) | (apply P_lssF; rfl; rfl; rfl; rfl; rfl; omega) | (apply P_lssT; rfl; rfl; rfl; rfl; rfl; omega) | (apply P_leqF; rfl; rfl; rfl; rfl; rfl; omega) | (apply P_leqT; rfl; rfl; rfl; rfl; rfl; omega) | (apply P_gtr; rfl; rfl; rfl; rfl; rfl; all_goals intro _) | (apply P_add; rfl; rfl; rfl; rfl; rfl; (unfold fit; omega)) | (apply P_idxB; rfl; rfl; rfl; rfl; rfl; exact un_ok rfl; exact sz_ok rfl; (first | rfl | exact (Int.toNat_of_nonneg (by omega)).symm); omega) | (apply P_load1; rfl; rfl; rfl; rfl; exact on_ok rfl; (focus repeat' first | exact get_push_same | assumption | apply get_push_old | (apply Ext.get; assumption)); (first | exact cops_row (by omega) | rfl | assumption)) | (apply P_box; rfl; rfl; rfl; rfl; exact sz_ok rfl; rfl; rfl) | fail))
  refine K_loopE (fun k : Nat => [(3, .int .i64 (k : Nat)), (1, .pointer (some ⟨h.n, 0, none⟩))])
    (fun k h' => k ≤ c.length ∧ k ≤ 10 ∧ Ext (h.push (.cells [.int .i64 pl, .slice p c.length kc] 24 true)) h' ∧ ∀ j, j < k → (c.getD j cop0).r.s.length ≤ 5) (fun k => c.length - k) ?_ 0 ?_ ?_
  · intro k h' ⟨hk, hk10, hx, hj⟩ ih
    have hg3 := hx.get get_push_same
    by_cases hlt : k < c.length ∧ k < 10
    · obtain ⟨h1, h2⟩ := hlt
      obtain ⟨b, e, own', rfl, hg⟩ := rc.at (by rw [cops_len]; omega)
      have hg' := hx.get (get_push_old hg)
      (repeat' (first | (apply K_seq) | (apply K_region) | (apply O_at; rfl) | (apply O_fin; rfl) | (apply C_seq) | (apply K_ifT; rfl) | (apply K_ifF; rfl) | (apply K_block) | (apply K_skip) | (apply K_exit) | (apply K_ret) | (apply C_retS) | (apply C_retL) | (apply C_retB) | (apply C_exit) | (apply C_exitS) | (apply C_exitL) | (apply C_blockN) | (apply C_nil) | (apply P_skip; rfl; rfl; rfl) | (apply P_move; rfl; rfl; rfl; rfl) | (apply P_assign; rfl; rfl; rfl; rfl) | (apply P_fa; rfl; rfl; rfl; rfl; exact fo_ok rfl; (first | exact Nat.zero_add _ | exact Nat.add_zero _ | rfl)) | (apply P_len; rfl; rfl; rfl; rfl; rfl; rfl; exact un_ok rfl) | (apply P_pick; rfl; rfl; rfl; rfl; rfl; rfl) | (apply P_lssF; rfl; rfl; rfl; rfl; rfl; omega) | (apply P_lssT; rfl; rfl; rfl; rfl; rfl; omega) | (apply P_leqF; rfl; rfl; rfl; rfl; rfl; omega) | (apply P_leqT; rfl; rfl; rfl; rfl; rfl; omega) | (apply P_gtr; rfl; rfl; rfl; rfl; rfl; all_goals intro _) | (apply P_add; rfl; rfl; rfl; rfl; rfl; (unfold fit; omega)) | (apply P_idxB; rfl; rfl; rfl; rfl; rfl; exact un_ok rfl; exact sz_ok rfl; (first | rfl | exact (Int.toNat_of_nonneg (by omega)).symm); omega) | (apply P_load1; rfl; rfl; rfl; rfl; exact on_ok rfl; (focus repeat' first | exact get_push_same | assumption | apply get_push_old | (apply Ext.get; assumption)); (first | exact cops_row (by omega) | rfl | assumption)) | (apply P_box; rfl; rfl; rfl; rfl; exact sz_ok rfl; rfl; rfl) | fail))
      · rename_i z
        exact ⟨.inr rfl, _, rfl, .inr ⟨rfl, fun q => by have := q.2 k h1; dsimp only at this; omega, by (focus repeat' first | exact Ext.refl _ | assumption | apply Ext.push | (refine Ext.trans ?_ (by assumption)))⟩⟩
      · refine C_again (ih (k + 1) _ ?_ ⟨h1, h2, ?_, fun j hj' => ?_⟩) ?_
        · omega
        · (focus repeat' first | exact Ext.refl _ | assumption | apply Ext.push | (refine Ext.trans ?_ (by assumption)))
        · by_cases hjk : j = k
          · subst hjk; omega
          · exact hj j (by omega)
        · (focus repeat' first | rfl | exact trivial | apply And.intro)
    · by_cases h1 : k < c.length
      · have h2 : k = 10 := by omega
        subst h2
        (repeat' (first | (apply K_seq) | (apply K_region) | (apply O_at; rfl) | (apply O_fin; rfl) | (apply C_seq) | (apply K_ifT; rfl) | (apply K_ifF; rfl) | (apply K_block) | (apply K_skip) | (apply K_exit) | (apply K_ret) | (apply C_retS) | (apply C_retL) | (apply C_retB) | (apply C_exit) | (apply C_exitS) | (apply C_exitL) | (apply C_blockN) | (apply C_nil) | (apply P_skip; rfl; rfl; rfl) | (apply P_move; rfl; rfl; rfl; rfl) | (apply P_assign; rfl; rfl; rfl; rfl) | (apply P_fa; rfl; rfl; rfl; rfl; exact fo_ok rfl; (first | exact Nat.zero_add _ | exact Nat.add_zero _ | rfl)) | (apply P_len; rfl; rfl; rfl; rfl; rfl; rfl; exact un_ok rfl) | (apply P_pick; rfl; rfl; rfl; rfl; rfl; rfl) | (apply P_lssF; rfl; rfl; rfl; rfl; rfl; omega) | (apply P_lssT; rfl; rfl; rfl; rfl; rfl; omega) | (apply P_leqF; rfl; rfl; rfl; rfl; rfl; omega) | (apply P_leqT; rfl; rfl; rfl; rfl; rfl; omega) | (apply P_gtr; rfl; rfl; rfl; rfl; rfl; all_goals intro _) | (apply P_add; rfl; rfl; rfl; rfl; rfl; (unfold fit; omega)) | (apply P_idxB; rfl; rfl; rfl; rfl; rfl; exact un_ok rfl; exact sz_ok rfl; (first | rfl | exact (Int.toNat_of_nonneg (by omega)).symm); omega) | (apply P_load1; rfl; rfl; rfl; rfl; exact on_ok rfl; (focus repeat' first | exact get_push_same | assumption | apply get_push_old | (apply Ext.get; assumption)); (first | exact cops_row (by omega) | rfl | assumption)) | (apply P_box; rfl; rfl; rfl; rfl; exact sz_ok rfl; rfl; rfl) | fail))
        exact ⟨.inr rfl, _, rfl, .inr ⟨rfl, fun q => by have := q.1; dsimp only at this; omega, by (focus repeat' first | exact Ext.refl _ | assumption | apply Ext.push | (refine Ext.trans ?_ (by assumption)))⟩⟩
      · (repeat' (first | (apply K_seq) | (apply K_region) | (apply O_at; rfl) | (apply O_fin; rfl) | (apply C_seq) | (apply K_ifT; rfl) | (apply K_ifF; rfl) | (apply K_block) | (apply K_skip) | (apply K_exit) | (apply K_ret) | (apply C_retS) | (apply C_retL) | (apply C_retB) | (apply C_exit) | (apply C_exitS) | (apply C_exitL) | (apply C_blockN) | (apply C_nil) | (apply P_skip; rfl; rfl; rfl) | (apply P_move; rfl; rfl; rfl; rfl) | (apply P_assign; rfl; rfl; rfl; rfl) | (apply P_fa; rfl; rfl; rfl; rfl; exact fo_ok rfl; (first | exact Nat.zero_add _ | exact Nat.add_zero _ | rfl)) | (apply P_len; rfl; rfl; rfl; rfl; rfl; rfl; exact un_ok rfl) | (apply P_pick; rfl; rfl; rfl; rfl; rfl; rfl) | (apply P_lssF; rfl; rfl; rfl; rfl; rfl; omega) | (apply P_lssT; rfl; rfl; rfl; rfl; rfl; omega) | (apply P_leqF; rfl; rfl; rfl; rfl; rfl; omega) | (apply P_leqT; rfl; rfl; rfl; rfl; rfl; omega) | (apply P_gtr; rfl; rfl; rfl; rfl; rfl; all_goals intro _) | (apply P_add; rfl; rfl; rfl; rfl; rfl; (unfold fit; omega)) | (apply P_idxB; rfl; rfl; rfl; rfl; rfl; exact un_ok rfl; exact sz_ok rfl; (first | rfl | exact (Int.toNat_of_nonneg (by omega)).symm); omega) | (apply P_load1; rfl; rfl; rfl; rfl; exact on_ok rfl; (focus repeat' first | exact get_push_same | assumption | apply get_push_old | (apply Ext.get; assumption)); (first | exact cops_row (by omega) | rfl | assumption)) | (apply P_box; rfl; rfl; rfl; rfl; exact sz_ok rfl; rfl; rfl) | fail))
        · exact ⟨.inr rfl, _, rfl, .inl ⟨rfl, ⟨by dsimp only; omega, fun j q => hj j (by dsimp only at q; omega)⟩, by (focus repeat' first | exact Ext.refl _ | assumption | apply Ext.push | (refine Ext.trans ?_ (by assumption)))⟩⟩
  · exact ⟨Nat.zero_le _, by omega, by (focus repeat' first | exact Ext.refl _ | assumption | apply Ext.push | (refine Ext.trans ?_ (by assumption))), fun j hj => by omega⟩
  · (focus repeat' first | rfl | exact trivial | apply And.intro)
end Go.AX.Sa

namespace Go.AX.Sa
open Go.Proofs
set_option maxRecDepth 100000
variable {K : Known}
def FigP (n : Int) : Prop := 0 ≤ n ∧ n ≤ 9
def ReadP (n : Int) : Prop := n = -1 ∨ FigP n
theorem isNoFigure_ok (hK : NoK K) {n : Int} {h : Heap} : CallW Tryz.prog K 79 #[.int .i64 n] h (IfB (¬ FigP n) h) := by
  refine body (N := 6) Tryz.func79 rfl (hK _ _ _ rfl) rfl rfl ?_
  (repeat' (first | (apply K_seq) | (apply K_region) | (apply O_at; rfl) | (apply O_fin; rfl) | (apply C_seq) | (apply K_ret) | (apply C_nil) | (apply P_move; rfl; rfl; rfl; rfl) | (apply P_assign; rfl; rfl; rfl; rfl) | (apply P_not; rfl; rfl; rfl; rfl) | (apply P_call; rfl; rfl; rfl; rfl; rfl; rfl; exact within_ok hK; (rintro _ _ (⟨rfl, _, _⟩ | ⟨rfl, _, _⟩))) | fail))
  all_goals (refine ⟨.inr rfl, _, rfl, ?_⟩; first | (refine .inl ⟨rfl, by grind [FigP], ?_⟩; (focus repeat' first | exact Ext.refl _ | assumption | apply Ext.push | (refine Ext.trans ?_ (by assumption)) | (refine Ext.set ?_ (Nat.le_succ _) (get_push_old get_push_same) _)); done) | (refine .inr ⟨rfl, by grind [FigP], ?_⟩; (focus repeat' first | exact Ext.refl _ | assumption | apply Ext.push | (refine Ext.trans ?_ (by assumption)) | (refine Ext.set ?_ (Nat.le_succ _) (get_push_old get_push_same) _)); done))
theorem figure_ok (hK : NoK K) {n : Int} {h : Heap} : CallW Tryz.prog K 43 #[.int .i64 n] h (IfB (FigP n) h) := by
  refine body (N := 5) Tryz.func43 rfl (hK _ _ _ rfl) rfl rfl ?_
  (repeat' (first | (apply K_seq) | (apply K_region) | (apply O_at; rfl) | (apply O_fin; rfl) | (apply C_seq) | (apply K_ret) | (apply C_nil) | (apply P_move; rfl; rfl; rfl; rfl) | (apply P_assign; rfl; rfl; rfl; rfl) | (apply P_call; rfl; rfl; rfl; rfl; rfl; rfl; exact in_ok hK; (rintro _ _ (⟨rfl, _, _⟩ | ⟨rfl, _, _⟩))) | fail))
  all_goals (refine ⟨.inr rfl, _, rfl, ?_⟩; first | (refine .inl ⟨rfl, by grind [FigP], ?_⟩; (focus repeat' first | exact Ext.refl _ | assumption | apply Ext.push | (refine Ext.trans ?_ (by assumption)) | (refine Ext.set ?_ (Nat.le_succ _) (get_push_old get_push_same) _)); done) | (refine .inr ⟨rfl, by grind [FigP], ?_⟩; (focus repeat' first | exact Ext.refl _ | assumption | apply Ext.push | (refine Ext.trans ?_ (by assumption)) | (refine Ext.set ?_ (Nat.le_succ _) (get_push_old get_push_same) _)); done))
theorem isNoReading_ok (hK : NoK K) {n : Int} {h : Heap} : CallW Tryz.prog K 99 #[.int .i64 n] h (IfB (¬ ReadP n) h) := by
  refine body (N := 9) Tryz.func99 rfl (hK _ _ _ rfl) rfl rfl ?_
  (repeat' (first | (apply K_seq) | (apply K_region) | (apply O_at; rfl) | (apply O_fin; rfl) | (apply C_seq) | (apply K_ret) | (apply C_nil) | (apply P_skip; rfl; rfl; rfl) | (apply P_move; rfl; rfl; rfl; rfl) | (apply P_assign; rfl; rfl; rfl; rfl) | (apply P_pick; rfl; rfl; rfl; rfl; rfl; rfl) | (apply P_neq; rfl; rfl; rfl; rfl; rfl; all_goals intro _) | (apply P_call; rfl; rfl; rfl; rfl; rfl; rfl; exact isNoFigure_ok hK; (rintro _ _ (⟨rfl, _, _⟩ | ⟨rfl, _, _⟩))) | fail))
  all_goals (refine ⟨.inr rfl, _, rfl, ?_⟩; first | (refine .inl ⟨rfl, by grind [ReadP], ?_⟩; (focus repeat' first | exact Ext.refl _ | assumption | apply Ext.push | (refine Ext.trans ?_ (by assumption)) | (refine Ext.set ?_ (Nat.le_succ _) (get_push_old get_push_same) _)); done) | (refine .inr ⟨rfl, by grind [ReadP], ?_⟩; (focus repeat' first | exact Ext.refl _ | assumption | apply Ext.push | (refine Ext.trans ?_ (by assumption)) | (refine Ext.set ?_ (Nat.le_succ _) (get_push_old get_push_same) _)); done))
/-- An index that is found, or -1. -/
def Idx (Q : Prop) (h : Heap) (v : Value) (h1 : Heap) : Prop := (∃ i : Int, v = .int .i64 i ∧ 0 ≤ i ∧ Q ∧ Ext h h1) ∨ (v = .int .i64 (-1) ∧ ¬ Q ∧ Ext h h1)

theorem index_isNoReading (hK : NoK K) {l : List Int} {p : Option Addr} {cap : Nat} {h : Heap} (hn : l.length ≤ 1000) (hr : Rd h p (ints l)) :
    CallW Tryz.prog K 120 #[.slice p l.length cap, .func (.func 99) #[] #[]] h (Idx (∃ k, k < l.length ∧ ¬ ReadP (l.getD k 0)) h) := by
  refine body (N := 19) Tryz.func120 rfl (hK _ _ _ rfl) rfl rfl ?_
  (repeat' (first | (apply K_seq) | (apply K_region) | (apply O_at; rfl) | (apply O_fin; rfl) | (apply C_seq) | (apply K_ifT; rfl) | (apply K_ifF; rfl) | (apply K_block) | (apply K_skip) | (apply K_exit) | (apply K_ret) | (apply C_retS) | (apply C_retL) | (apply C_retB) | (apply C_exit) | (apply C_exitS) | (apply C_exitL) | (apply C_blockN) | (apply C_nil) | (apply P_move; rfl; rfl; rfl; rfl) | (apply P_assign; rfl; rfl; rfl; rfl) | (apply P_len; rfl; rfl; rfl; rfl; rfl; rfl; exact un_ok rfl) | (apply P_add; rfl; rfl; rfl; rfl; rfl; (unfold fit; omega)) | (apply P_idxA; rfl; rfl; rfl; rfl; rfl; exact un_ok rfl; exact sz_ok rfl; (first | rfl | exact (Int.toNat_of_nonneg (by omega)).symm); omega) | (apply P_load1; rfl; rfl; rfl; rfl; exact on_ok rfl; (focus repeat' first | assumption | (apply Ext.get; assumption)); (first | exact ints_get (by omega) | rfl | assumption)) | fail))
  refine K_loopE (fun k : Nat => [(0, .slice p l.length cap), (1, .func (.func 99) #[] #[]), (7, .int .i64 (l.length : Nat)), (8, .int .i64 (k : Nat))])
    (fun k h' => k ≤ l.length ∧ Ext h h' ∧ ∀ j, j < k → ReadP (l.getD j 0)) (fun k => l.length - k) ?_ 0 ?_ ?_
  · intro k h' ⟨hk, hx, hj⟩ ih
    by_cases hlt : k < l.length
    · obtain ⟨b, e, own', rfl, hg⟩ := hr.at (by rw [ints_len]; omega)
      (repeat' (first | (apply K_seq) | (apply K_region) | (apply O_at; rfl) | (apply O_fin; rfl) | (apply C_seq) | (apply K_ifT; rfl) | (apply K_ifF; rfl) | (apply K_block) | (apply K_skip) | (apply K_exit) | (apply K_ret) | (apply C_retS) | (apply C_retL) | (apply C_retB) | (apply C_exit) | (apply C_exitS) | (apply C_exitL) | (apply C_blockN) | (apply C_nil) | (apply P_move; rfl; rfl; rfl; rfl) | (apply P_assign; rfl; rfl; rfl; rfl) | (apply P_len; rfl; rfl; rfl; rfl; rfl; rfl; exact un_ok rfl) | (apply P_lssF; rfl; rfl; rfl; rfl; rfl; omega) | (apply P_lssT; rfl; rfl; rfl; rfl; rfl; omega) | (apply P_add; rfl; rfl; rfl; rfl; rfl; (unfold fit; omega)) | (apply P_idxA; rfl; rfl; rfl; rfl; rfl; exact un_ok rfl; exact sz_ok rfl; (first | rfl | exact (Int.toNat_of_nonneg (by omega)).symm); omega) | (apply P_load1; rfl; rfl; rfl; rfl; exact on_ok rfl; (focus repeat' first | assumption | (apply Ext.get; assumption)); (first | exact ints_get (by omega) | rfl | assumption)) | (apply P_call; rfl; rfl; rfl; rfl; rfl; rfl; exact isNoReading_ok hK; (rintro _ _ (⟨rfl, _, _⟩ | ⟨rfl, _, _⟩))) | fail))
      · rename_i hnf _
        exact ⟨.inr rfl, _, rfl, .inl ⟨_, rfl, by omega, ⟨k, hlt, hnf⟩, by (focus repeat' first | exact Ext.refl _ | assumption | (refine Ext.trans ?_ (by assumption)))⟩⟩
      · rename_i hnf _
        refine C_again (ih (k + 1) _ ?_ ⟨hlt, ?_, fun j hj' => ?_⟩) ?_
        · omega
        · (focus repeat' first | exact Ext.refl _ | assumption | (refine Ext.trans ?_ (by assumption)))
        · by_cases hjk : j = k
          · subst hjk; exact Classical.not_not.1 hnf
          · exact hj j (by omega)
        · (focus repeat' first | rfl | exact trivial | apply And.intro)
    · (repeat' (first | (apply K_seq) | (apply K_region) | (apply O_at; rfl) | (apply O_fin; rfl) | (apply C_seq) | (apply K_ifT; rfl) | (apply K_ifF; rfl) | (apply K_block) | (apply K_skip) | (apply K_exit) | (apply K_ret) | (apply C_retS) | (apply C_retL) | (apply C_retB) | (apply C_exit) | (apply C_exitS) | (apply C_exitL) | (apply C_blockN) | (apply C_nil) | (apply P_move; rfl; rfl; rfl; rfl) | (apply P_assign; rfl; rfl; rfl; rfl) | (apply P_len; rfl; rfl; rfl; rfl; rfl; rfl; exact un_ok rfl) | (apply P_lssF; rfl; rfl; rfl; rfl; rfl; omega) | (apply P_lssT; rfl; rfl; rfl; rfl; rfl; omega) | (apply P_add; rfl; rfl; rfl; rfl; rfl; (unfold fit; omega)) | (apply P_idxA; rfl; rfl; rfl; rfl; rfl; exact un_ok rfl; exact sz_ok rfl; (first | rfl | exact (Int.toNat_of_nonneg (by omega)).symm); omega) | (apply P_load1; rfl; rfl; rfl; rfl; exact on_ok rfl; (focus repeat' first | assumption | (apply Ext.get; assumption)); (first | exact ints_get (by omega) | rfl | assumption)) | fail))
      exact ⟨.inr rfl, _, rfl, .inr ⟨rfl, fun ⟨j, h1, h2⟩ => h2 (hj j (by omega)), by (focus repeat' first | exact Ext.refl _ | assumption | (refine Ext.trans ?_ (by assumption)))⟩⟩
  · exact ⟨Nat.zero_le _, Ext.refl _, fun j hj => by omega⟩
  · (focus repeat' first | rfl | exact trivial | apply And.intro)
theorem contains_isNoReading (hK : NoK K) {l : List Int} {p : Option Addr} {cap : Nat} {h : Heap} (hn : l.length ≤ 1000) (hr : Rd h p (ints l)) :
    CallW Tryz.prog K 98 #[.slice p l.length cap, .func (.func 99) #[] #[]] h (IfB (¬ ∀ k, k < l.length → ReadP (l.getD k 0)) h) := by
  refine body (N := 9) Tryz.func98 rfl (hK _ _ _ rfl) rfl rfl ?_
  (repeat' (first | (apply K_seq) | (apply K_region) | (apply O_at; rfl) | (apply O_fin; rfl) | (apply C_seq) | (apply K_ret) | (apply C_nil) | (apply P_move; rfl; rfl; rfl; rfl) | (apply P_assign; rfl; rfl; rfl; rfl) | (apply P_geqF; rfl; rfl; rfl; rfl; rfl; omega) | (apply P_geqT; rfl; rfl; rfl; rfl; rfl; omega) | (apply P_call; rfl; rfl; rfl; rfl; rfl; rfl; exact index_isNoReading hK hn hr; (rintro _ _ (⟨_, rfl, _, _, _⟩ | ⟨rfl, _, _⟩))) | fail))
  · rename_i q _
    obtain ⟨k, h1, h2⟩ := q
    exact ⟨.inr rfl, _, rfl, .inl ⟨rfl, fun z => h2 (z k h1), by (focus repeat' first | assumption)⟩⟩
  · rename_i q _
    exact ⟨.inr rfl, _, rfl, .inr ⟨rfl, fun z => z fun k hk => Classical.not_not.1 fun w => q ⟨k, hk, w⟩, by (focus repeat' first | assumption)⟩⟩

end Go.AX.Sa

namespace Go.AX.Sa
open Go.Proofs
set_option maxRecDepth 100000
variable {K : Known}
def CopP (places : Int) (k : Nat) (c : Cop) : Prop := (0 ≤ c.par ∧ c.par ≤ max ((k : Int) - 1) 0) ∧ (c.r.s.length : Int) = places ∧ ∀ j, j < c.r.s.length → ReadP (c.r.s.getD j 0)
def TreeP (T : Tre) : Prop := (1 ≤ T.places ∧ T.places ≤ 3) ∧ (1 ≤ (T.c.length : Int) ∧ (T.c.length : Int) ≤ 8) ∧ ∀ k, k < T.c.length → CopP T.places k (T.c.getD k cop0)
theorem isTree_ok (hK : NoK K) {T : Tre} {h : Heap} (hT : TreAt T h) (hs : ShortP T) : CallW Tryz.prog K 62 #[treV T] h (IfB (TreeP T) h) := by
  obtain ⟨p, kc, pl, c⟩ := T
  obtain ⟨rc, each, hpb⟩ := hT
  obtain ⟨l1, l2⟩ := hs
  dsimp only [treV] at rc each hpb l1 l2 ⊢
  refine body (N := 45) Tryz.func62 rfl (hK _ _ _ rfl) rfl rfl ?_
  (repeat' (first | (apply K_seq) | (apply K_region) | (apply O_at; rfl) | (apply O_fin; rfl) | (apply C_seq) | (apply K_ifT; rfl) | (apply K_ifF; rfl) | (apply K_block) | (apply K_skip) | (apply K_exit) | (apply K_ret) | (apply C_retS) | (apply C_retL) | (apply C_retB) | (apply C_exit) | (apply C_exitS) | (apply C_exitL) | (apply C_blockN) | (apply C_nil) | (apply P_skip; rfl; rfl; rfl) | (apply P_move; rfl; rfl; rfl; rfl) | (apply P_assign; rfl; rfl; rfl; rfl) | (apply P_fa; rfl; rfl; rfl; rfl; exact fo_ok rfl; (first | exact Nat.zero_add _ | exact Nat.add_zero _ | rfl)) | (apply P_len; rfl; rfl; rfl; rfl; rfl; rfl; exact un_ok rfl) | (apply P_pick; rfl; rfl; rfl; rfl; rfl; rfl) | (apply P_not; rfl; rfl; rfl; rfl) | (apply P_lssF; rfl; rfl; rfl; rfl; rfl; omega) | (apply P_lssT; rfl; rfl; rfl; rfl; rfl; omega) | (apply P_neq; rfl; rfl; rfl; rfl; rfl; all_goals intro _) | (apply P_add; rfl; rfl; rfl; rfl; rfl; (unfold fit; omega)) | (apply P_sub; rfl; rfl; rfl; rfl; rfl; (unfold fit; omega)) | (apply P_idxB; rfl; rfl; rfl; rfl; rfl; exact un_ok rfl; exact sz_ok rfl; (first | rfl | exact (Int.toNat_of_nonneg (by omega)).symm); omega) | (apply P_load1; rfl; rfl; rfl; rfl; exact on_ok rfl; (focus repeat' first | exact get_push_same | assumption | apply get_push_old | (apply Ext.get; assumption)); (first | rfl | assumption)) | (apply P_loadA; rfl; rfl; rfl; rfl; exact ag_ok rfl; (focus repeat' first | exact get_push_same | assumption | apply get_push_old | (apply Ext.get; assumption)); (first | exact Nat.le_of_ble_eq_true rfl | (rw [cops_len]; omega) | (simp; done) | (simp; omega)); (first | exact cops_take (by omega) | rfl)) | (apply P_storeTop; rfl; rfl; rfl; rfl; exact sz_ok rfl; rfl; rfl; rfl) | (apply P_box; rfl; rfl; rfl; rfl; exact sz_ok rfl; rfl; rfl) | (apply P_alloc; rfl; rfl; rfl; rfl; exact sz_ok rfl; rfl; rfl) | (apply P_max; rfl; rfl; rfl; rfl; rfl; rfl) | (apply P_call; rfl; rfl; rfl; rfl; rfl; rfl; exact within_ok hK; (rintro _ _ (⟨rfl, _, _⟩ | ⟨rfl, _, _⟩))) | fail))
  · rename_i q1 _ _ q2 _
    refine K_loopE (fun k : Nat => [(19, .int .i64 (k : Nat)), (18, .int .i64 (c.length : Nat)), (17, .slice p c.length kc), (1, .pointer (some ⟨h.n, 0, none⟩))])
      (fun k h' => k ≤ c.length ∧ Ext (h.push (.cells [.int .i64 pl, .slice p c.length kc] 24 true)) h' ∧ ∀ j, j < k → CopP pl j (c.getD j cop0)) (fun k => c.length - k) ?_ 0 ?_ ?_
    · intro k h' ⟨hk, hx, hj⟩ ih
      have hg3 := hx.get get_push_same
      by_cases hlt : k < c.length
      · obtain ⟨b, e, own', rfl, hg⟩ := rc.at (by rw [cops_len]; omega)
        have hg' := hx.get (get_push_old hg)
        obtain ⟨er, eb⟩ := each k hlt
        have el := l2 k hlt
        (repeat' (first | (apply K_seq) | (apply K_region) | (apply O_at; rfl) | (apply O_fin; rfl) | (apply C_seq) | (apply K_ifT; rfl) | (apply K_ifF; rfl) | (apply K_block) | (apply K_skip) | (apply K_exit) | (apply K_ret) | (apply C_retS) | (apply C_retL) | (apply C_retB) | (apply C_exit) | (apply C_exitS) | (apply C_exitL) | (apply C_blockN) | (apply C_nil) | (apply P_skip; rfl; rfl; rfl) | (apply P_move; rfl; rfl; rfl; rfl) | (apply P_assign; rfl; rfl; rfl; rfl) | (apply P_fa; rfl; rfl; rfl; rfl; exact fo_ok rfl; (first | exact Nat.zero_add _ | exact Nat.add_zero _ | rfl)) | (apply P_len; rfl; rfl; rfl; rfl; rfl; rfl; exact un_ok rfl) | (apply P_pick; rfl; rfl; rfl; rfl; rfl; rfl) | (apply P_not; rfl; rfl; rfl; rfl) | (apply P_lssF; rfl; rfl; rfl; rfl; rfl; omega) | (apply P_lssT; rfl; rfl; rfl; rfl; rfl; omega) | (apply P_neq; rfl; rfl; rfl; rfl; rfl; all_goals intro _) | (apply P_add; rfl; rfl; rfl; rfl; rfl; (unfold fit; omega)) | (apply P_sub; rfl; rfl; rfl; rfl; rfl; (unfold fit; omega)) | (apply P_idxB; rfl; rfl; rfl; rfl; rfl; exact un_ok rfl; exact sz_ok rfl; (first | rfl | exact (Int.toNat_of_nonneg (by omega)).symm); omega) | (apply P_load1; rfl; rfl; rfl; rfl; exact on_ok rfl; (focus repeat' first | exact get_push_same | assumption | apply get_push_old | (apply Ext.get; assumption)); (first | rfl | assumption)) | (apply P_loadA; rfl; rfl; rfl; rfl; exact ag_ok rfl; (focus repeat' first | exact get_push_same | assumption | apply get_push_old | (apply Ext.get; assumption)); (first | exact Nat.le_of_ble_eq_true rfl | (rw [cops_len]; omega) | (simp; done) | (simp; omega)); (first | exact cops_take (by omega) | rfl)) | (apply P_storeTop; rfl; rfl; rfl; rfl; exact sz_ok rfl; rfl; rfl; rfl) | (apply P_box; rfl; rfl; rfl; rfl; exact sz_ok rfl; rfl; rfl) | (apply P_alloc; rfl; rfl; rfl; rfl; exact sz_ok rfl; rfl; rfl) | (apply P_max; rfl; rfl; rfl; rfl; rfl; rfl) | (apply P_call; rfl; rfl; rfl; rfl; rfl; rfl; exact within_ok hK; (rintro _ _ (⟨rfl, _, _⟩ | ⟨rfl, _, _⟩))) | (apply P_call; rfl; rfl; rfl; rfl; rfl; rfl; exact contains_isNoReading hK (Nat.le_trans el (by decide)) (er.ext (by (focus repeat' first | exact Ext.refl _ | assumption | apply Ext.push | (refine Ext.trans ?_ (by assumption))))); (rintro _ _ (⟨rfl, _, _⟩ | ⟨rfl, _, _⟩))) | fail))
        · exact ⟨.inr rfl, _, rfl, .inr ⟨rfl, fun z => by have := (z.2.2 k hlt).2.1; dsimp only at this; omega, by (focus repeat' first | exact Ext.refl _ | assumption | apply Ext.push | (refine Ext.trans ?_ (by assumption)))⟩⟩
        · rename_i q _
          exact ⟨.inr rfl, _, rfl, .inr ⟨rfl, fun z => q (z.2.2 k hlt).2.2, by (focus repeat' first | exact Ext.refl _ | assumption | apply Ext.push | (refine Ext.trans ?_ (by assumption)))⟩⟩
        · rename_i u1 _ _ _ u2 _
          refine C_again (ih (k + 1) _ ?_ ⟨hlt, ?_, fun j hj' => ?_⟩) ?_
          · omega
          · (focus repeat' first | exact Ext.refl _ | assumption | apply Ext.push | (refine Ext.trans ?_ (by assumption)))
          · by_cases hjk : j = k
            · subst hjk; exact ⟨u1, by assumption, Classical.not_not.1 u2⟩
            · exact hj j (by omega)
          · (focus repeat' first | rfl | exact trivial | apply And.intro)
        · rename_i q _
          exact ⟨.inr rfl, _, rfl, .inr ⟨rfl, fun z => q (z.2.2 k hlt).1, by (focus repeat' first | exact Ext.refl _ | assumption | apply Ext.push | (refine Ext.trans ?_ (by assumption)))⟩⟩
      · (repeat' (first | (apply K_seq) | (apply K_region) | (apply O_at; rfl) | (apply O_fin; rfl) | (apply C_seq) | (apply K_ifT; rfl) | (apply K_ifF; rfl) | (apply K_block) | (apply K_skip) | (apply K_exit) | (apply K_ret) | (apply C_retS) | (apply C_retL) | (apply C_retB) | (apply C_exit) | (apply C_exitS) | (apply C_exitL) | (apply C_blockN) | (apply C_nil) | (apply P_skip; rfl; rfl; rfl) | (apply P_move; rfl; rfl; rfl; rfl) | (apply P_assign; rfl; rfl; rfl; rfl) | (apply P_fa; rfl; rfl; rfl; rfl; exact fo_ok rfl; (first | exact Nat.zero_add _ | exact Nat.add_zero _ | rfl)) | (apply P_len; rfl; rfl; rfl; rfl; rfl; rfl; exact un_ok rfl) | (apply P_pick; rfl; rfl; rfl; rfl; rfl; rfl) | (apply P_not; rfl; rfl; rfl; rfl) | (apply P_lssF; rfl; rfl; rfl; rfl; rfl; omega) | (apply P_lssT; rfl; rfl; rfl; rfl; rfl; omega) | (apply P_neq; rfl; rfl; rfl; rfl; rfl; all_goals intro _) | (apply P_add; rfl; rfl; rfl; rfl; rfl; (unfold fit; omega)) | (apply P_sub; rfl; rfl; rfl; rfl; rfl; (unfold fit; omega)) | (apply P_idxB; rfl; rfl; rfl; rfl; rfl; exact un_ok rfl; exact sz_ok rfl; (first | rfl | exact (Int.toNat_of_nonneg (by omega)).symm); omega) | (apply P_load1; rfl; rfl; rfl; rfl; exact on_ok rfl; (focus repeat' first | exact get_push_same | assumption | apply get_push_old | (apply Ext.get; assumption)); (first | rfl | assumption)) | (apply P_loadA; rfl; rfl; rfl; rfl; exact ag_ok rfl; (focus repeat' first | exact get_push_same | assumption | apply get_push_old | (apply Ext.get; assumption)); (first | exact Nat.le_of_ble_eq_true rfl | (rw [cops_len]; omega) | (simp; done) | (simp; omega)); (first | exact cops_take (by omega) | rfl)) | (apply P_storeTop; rfl; rfl; rfl; rfl; exact sz_ok rfl; rfl; rfl; rfl) | (apply P_box; rfl; rfl; rfl; rfl; exact sz_ok rfl; rfl; rfl) | (apply P_alloc; rfl; rfl; rfl; rfl; exact sz_ok rfl; rfl; rfl) | (apply P_max; rfl; rfl; rfl; rfl; rfl; rfl) | fail))
        exact ⟨.inr rfl, _, rfl, .inl ⟨rfl, ⟨q1, q2, fun j q => hj j (by dsimp only at q; omega)⟩, by (focus repeat' first | exact Ext.refl _ | assumption | apply Ext.push | (refine Ext.trans ?_ (by assumption)))⟩⟩
    · exact ⟨Nat.zero_le _, by (focus repeat' first | exact Ext.refl _ | assumption | apply Ext.push | (refine Ext.trans ?_ (by assumption))), fun j hj => by omega⟩
    · (focus repeat' first | rfl | exact trivial | apply And.intro)
  · rename_i q2 _
    exact ⟨.inr rfl, _, rfl, .inr ⟨rfl, fun z => q2 z.2.1, by (focus repeat' first | exact Ext.refl _ | assumption | apply Ext.push | (refine Ext.trans ?_ (by assumption)))⟩⟩
  · rename_i q2 _
    exact ⟨.inr rfl, _, rfl, .inr ⟨rfl, fun z => q2 z.1, by (focus repeat' first | exact Ext.refl _ | assumption | apply Ext.push | (refine Ext.trans ?_ (by assumption)))⟩⟩
theorem tree_ok (hK : NoK K) {T : Tre} {h : Heap} (hT : TreAt T h) (hs : ShortP T) : CallW Tryz.prog K 20 #[treV T] h (IfB (TreeP T) h) := by
  obtain ⟨p, kc, pl, c⟩ := T
  obtain ⟨rc, each, hpb⟩ := hT
  obtain ⟨l1, l2⟩ := hs
  dsimp only [treV] at rc each hpb l1 l2 ⊢
  refine body (N := 66) Tryz.func20 rfl (hK _ _ _ rfl) rfl rfl ?_
  (repeat' (first | (apply K_seq) | (apply K_region) | (apply O_at; rfl) | (apply O_fin; rfl) | (apply C_seq) | (apply K_ifT; rfl) | (apply K_ifF; rfl) | (apply K_block) | (apply K_skip) | (apply K_exit) | (apply K_ret) | (apply C_retS) | (apply C_retL) | (apply C_retB) | (apply C_exit) | (apply C_exitS) | (apply C_exitL) | (apply C_blockN) | (apply C_nil) | (apply P_skip; rfl; rfl; rfl) | (apply P_move; rfl; rfl; rfl; rfl) | (apply P_assign; rfl; rfl; rfl; rfl) | (apply P_fa; rfl; rfl; rfl; rfl; exact fo_ok rfl; (first | exact Nat.zero_add _ | exact Nat.add_zero _ | rfl)) | (apply P_len; rfl; rfl; rfl; rfl; rfl; rfl; exact un_ok rfl) | (apply P_pick; rfl; rfl; rfl; rfl; rfl; rfl) | (apply P_not; rfl; rfl; rfl; rfl) | (apply P_lssF; rfl; rfl; rfl; rfl; rfl; omega) | (apply P_lssT; rfl; rfl; rfl; rfl; rfl; omega) | (apply P_neq; rfl; rfl; rfl; rfl; rfl; all_goals intro _) | (apply P_add; rfl; rfl; rfl; rfl; rfl; (unfold fit; omega)) | (apply P_sub; rfl; rfl; rfl; rfl; rfl; (unfold fit; omega)) | (apply P_idxA; rfl; rfl; rfl; rfl; rfl; exact un_ok rfl; exact sz_ok rfl; (first | rfl | exact (Int.toNat_of_nonneg (by omega)).symm); omega) | (apply P_idxB; rfl; rfl; rfl; rfl; rfl; exact un_ok rfl; exact sz_ok rfl; (first | rfl | exact (Int.toNat_of_nonneg (by omega)).symm); omega) | (apply P_load1; rfl; rfl; rfl; rfl; exact on_ok rfl; (focus repeat' first | exact get_push_same | assumption | apply get_push_old | (apply Ext.get; assumption)); (first | exact ints_get (by omega) | rfl | assumption)) | (apply P_loadA; rfl; rfl; rfl; rfl; exact ag_ok rfl; (focus repeat' first | exact get_push_same | assumption | apply get_push_old | (apply Ext.get; assumption)); (first | exact Nat.le_of_ble_eq_true rfl | (rw [cops_len]; omega) | (simp; done) | (simp; omega) | (rw [ints_len]; omega)); (first | exact cops_take (by omega) | rfl)) | (apply P_storeTop; rfl; rfl; rfl; rfl; exact sz_ok rfl; rfl; rfl; rfl) | (apply P_box; rfl; rfl; rfl; rfl; exact sz_ok rfl; rfl; rfl) | (apply P_alloc; rfl; rfl; rfl; rfl; exact sz_ok rfl; rfl; rfl) | (apply P_max; rfl; rfl; rfl; rfl; rfl; rfl) | (apply P_call; rfl; rfl; rfl; rfl; rfl; rfl; exact in_ok hK; (rintro _ _ (⟨rfl, _, _⟩ | ⟨rfl, _, _⟩))) | fail))
  · rename_i q1 _ _ q2 _
    refine K_loopE (fun k : Nat => [(3, .int .i64 (k : Nat)), (1, .pointer (some ⟨h.n, 0, none⟩))])
      (fun k h' => k ≤ c.length ∧ Ext (h.push (.cells [.int .i64 pl, .slice p c.length kc] 24 true)) h' ∧ ∀ j, j < k → CopP pl j (c.getD j cop0)) (fun k => c.length - k) ?_ 0 ?_ ?_
    · intro k h' ⟨hk, hx, hj⟩ ih
      have hg3 := hx.get get_push_same
      by_cases hlt : k < c.length
      · obtain ⟨b, e, own', rfl, hg⟩ := rc.at (by rw [cops_len]; omega)
        have hg' := hx.get (get_push_old hg)
        obtain ⟨er, eb⟩ := each k hlt
        have el := l2 k hlt
        (repeat' (first | (apply K_seq) | (apply K_region) | (apply O_at; rfl) | (apply O_fin; rfl) | (apply C_seq) | (apply K_ifT; rfl) | (apply K_ifF; rfl) | (apply K_block) | (apply K_skip) | (apply K_exit) | (apply K_ret) | (apply C_retS) | (apply C_retL) | (apply C_retB) | (apply C_exit) | (apply C_exitS) | (apply C_exitL) | (apply C_blockN) | (apply C_nil) | (apply P_skip; rfl; rfl; rfl) | (apply P_move; rfl; rfl; rfl; rfl) | (apply P_assign; rfl; rfl; rfl; rfl) | (apply P_fa; rfl; rfl; rfl; rfl; exact fo_ok rfl; (first | exact Nat.zero_add _ | exact Nat.add_zero _ | rfl)) | (apply P_len; rfl; rfl; rfl; rfl; rfl; rfl; exact un_ok rfl) | (apply P_pick; rfl; rfl; rfl; rfl; rfl; rfl) | (apply P_not; rfl; rfl; rfl; rfl) | (apply P_lssF; rfl; rfl; rfl; rfl; rfl; omega) | (apply P_lssT; rfl; rfl; rfl; rfl; rfl; omega) | (apply P_neq; rfl; rfl; rfl; rfl; rfl; all_goals intro _) | (apply P_add; rfl; rfl; rfl; rfl; rfl; (unfold fit; omega)) | (apply P_sub; rfl; rfl; rfl; rfl; rfl; (unfold fit; omega)) | (apply P_idxA; rfl; rfl; rfl; rfl; rfl; exact un_ok rfl; exact sz_ok rfl; (first | rfl | exact (Int.toNat_of_nonneg (by omega)).symm); omega) | (apply P_idxB; rfl; rfl; rfl; rfl; rfl; exact un_ok rfl; exact sz_ok rfl; (first | rfl | exact (Int.toNat_of_nonneg (by omega)).symm); omega) | (apply P_load1; rfl; rfl; rfl; rfl; exact on_ok rfl; (focus repeat' first | exact get_push_same | assumption | apply get_push_old | (apply Ext.get; assumption)); (first | exact ints_get (by omega) | rfl | assumption)) | (apply P_loadA; rfl; rfl; rfl; rfl; exact ag_ok rfl; (focus repeat' first | exact get_push_same | assumption | apply get_push_old | (apply Ext.get; assumption)); (first | exact Nat.le_of_ble_eq_true rfl | (rw [cops_len]; omega) | (simp; done) | (simp; omega) | (rw [ints_len]; omega)); (first | exact cops_take (by omega) | rfl)) | (apply P_storeTop; rfl; rfl; rfl; rfl; exact sz_ok rfl; rfl; rfl; rfl) | (apply P_box; rfl; rfl; rfl; rfl; exact sz_ok rfl; rfl; rfl) | (apply P_alloc; rfl; rfl; rfl; rfl; exact sz_ok rfl; rfl; rfl) | (apply P_max; rfl; rfl; rfl; rfl; rfl; rfl) | (apply P_call; rfl; rfl; rfl; rfl; rfl; rfl; exact in_ok hK; (rintro _ _ (⟨rfl, _, _⟩ | ⟨rfl, _, _⟩))) | fail))
        · exact ⟨.inr rfl, _, rfl, .inr ⟨rfl, fun z => by have := (z.2.2 k hlt).2.1; dsimp only at this; omega, by (focus repeat' first | exact Ext.refl _ | assumption | apply Ext.push | (refine Ext.trans ?_ (by assumption)))⟩⟩
        · rename_i u1 _ u2
          generalize hc : c.getD k cop0 = C at *
          obtain ⟨pr, ⟨qq, qk, qs⟩⟩ := C
          dsimp only at *
          refine K_loopE (fun i : Nat => [(5, .int .i64 (i : Nat)), (4, .pointer (some ⟨h'.n, 0, none⟩)), (3, .int .i64 (k : Nat)), (1, .pointer (some ⟨h.n, 0, none⟩))])
            (fun i h'' => i ≤ qs.length ∧ Ext (h'.push (.cells [.int .i64 pr, .slice qq qs.length qk] 49 true)) h'' ∧ ∀ j, j < i → ReadP (qs.getD j 0)) (fun i => qs.length - i) ?_ 0 ?_ ?_
          · intro i h'' ⟨hi, hx2, hj2⟩ ih2
            have hg4 := hx2.get get_push_same
            by_cases hlt2 : i < qs.length
            · obtain ⟨b2, e2, own2, rfl, hg5⟩ := er.at (by rw [ints_len]; omega)
              (repeat' (first | (apply K_seq) | (apply K_region) | (apply O_at; rfl) | (apply O_fin; rfl) | (apply C_seq) | (apply K_ifT; rfl) | (apply K_ifF; rfl) | (apply K_block) | (apply K_skip) | (apply K_exit) | (apply K_ret) | (apply C_retS) | (apply C_retL) | (apply C_retB) | (apply C_exit) | (apply C_exitS) | (apply C_exitL) | (apply C_blockN) | (apply C_nil) | (apply P_skip; rfl; rfl; rfl) | (apply P_move; rfl; rfl; rfl; rfl) | (apply P_assign; rfl; rfl; rfl; rfl) | (apply P_fa; rfl; rfl; rfl; rfl; exact fo_ok rfl; (first | exact Nat.zero_add _ | exact Nat.add_zero _ | rfl)) | (apply P_len; rfl; rfl; rfl; rfl; rfl; rfl; exact un_ok rfl) | (apply P_pick; rfl; rfl; rfl; rfl; rfl; rfl) | (apply P_not; rfl; rfl; rfl; rfl) | (apply P_lssF; rfl; rfl; rfl; rfl; rfl; omega) | (apply P_lssT; rfl; rfl; rfl; rfl; rfl; omega) | (apply P_neq; rfl; rfl; rfl; rfl; rfl; all_goals intro _) | (apply P_add; rfl; rfl; rfl; rfl; rfl; (unfold fit; omega)) | (apply P_sub; rfl; rfl; rfl; rfl; rfl; (unfold fit; omega)) | (apply P_idxA; rfl; rfl; rfl; rfl; rfl; exact un_ok rfl; exact sz_ok rfl; (first | rfl | exact (Int.toNat_of_nonneg (by omega)).symm); omega) | (apply P_idxB; rfl; rfl; rfl; rfl; rfl; exact un_ok rfl; exact sz_ok rfl; (first | rfl | exact (Int.toNat_of_nonneg (by omega)).symm); omega) | (apply P_load1; rfl; rfl; rfl; rfl; exact on_ok rfl; (focus repeat' first | exact get_push_same | assumption | apply get_push_old | (apply Ext.get; assumption)); (first | exact ints_get (by omega) | rfl | assumption)) | (apply P_loadA; rfl; rfl; rfl; rfl; exact ag_ok rfl; (focus repeat' first | exact get_push_same | assumption | apply get_push_old | (apply Ext.get; assumption)); (first | exact Nat.le_of_ble_eq_true rfl | (rw [cops_len]; omega) | (simp; done) | (simp; omega) | (rw [ints_len]; omega)); (first | exact cops_take (by omega) | rfl)) | (apply P_storeTop; rfl; rfl; rfl; rfl; exact sz_ok rfl; rfl; rfl; rfl) | (apply P_box; rfl; rfl; rfl; rfl; exact sz_ok rfl; rfl; rfl) | (apply P_alloc; rfl; rfl; rfl; rfl; exact sz_ok rfl; rfl; rfl) | (apply P_max; rfl; rfl; rfl; rfl; rfl; rfl) | (apply P_call; rfl; rfl; rfl; rfl; rfl; rfl; exact figure_ok hK; (rintro _ _ (⟨rfl, _, _⟩ | ⟨rfl, _, _⟩))) | fail))
              · rename_i w _
                refine C_again (ih2 (i + 1) _ ?_ ⟨hlt2, ?_, fun j hj' => ?_⟩) ?_
                · omega
                · (focus repeat' first | exact Ext.refl _ | assumption | apply Ext.push | (refine Ext.trans ?_ (by assumption)))
                · by_cases hjk : j = i
                  · subst hjk; exact .inr w
                  · exact hj2 j (by omega)
                · (focus repeat' first | rfl | exact trivial | apply And.intro)
              · rename_i w0 _ w _
                refine ⟨.inr rfl, _, rfl, .inr ⟨rfl, fun z => ?_, by (focus repeat' first | exact Ext.refl _ | assumption | apply Ext.push | (refine Ext.trans ?_ (by assumption)))⟩⟩
                have hz := (z.2.2 k hlt).2.2
                dsimp only at hz
                rw [hc] at hz
                rcases hz i hlt2 with hz | hz
                · dsimp only at hz; omega
                · exact w hz
              · rename_i w
                refine C_again (ih2 (i + 1) _ ?_ ⟨hlt2, ?_, fun j hj' => ?_⟩) ?_
                · omega
                · (focus repeat' first | exact Ext.refl _ | assumption | apply Ext.push | (refine Ext.trans ?_ (by assumption)))
                · by_cases hjk : j = i
                  · subst hjk; exact .inl (by omega)
                  · exact hj2 j (by omega)
                · (focus repeat' first | rfl | exact trivial | apply And.intro)
            · (repeat' (first | (apply K_seq) | (apply K_region) | (apply O_at; rfl) | (apply O_fin; rfl) | (apply C_seq) | (apply K_ifT; rfl) | (apply K_ifF; rfl) | (apply K_block) | (apply K_skip) | (apply K_exit) | (apply K_ret) | (apply C_retS) | (apply C_retL) | (apply C_retB) | (apply C_exit) | (apply C_exitS) | (apply C_exitL) | (apply C_blockN) | (apply C_nil) | (apply P_skip; rfl; rfl; rfl) | (apply P_move; rfl; rfl; rfl; rfl) | (apply P_assign; rfl; rfl; rfl; rfl) | (apply P_fa; rfl; rfl; rfl; rfl; exact fo_ok rfl; (first | exact Nat.zero_add _ | exact Nat.add_zero _ | rfl)) | (apply P_len; rfl; rfl; rfl; rfl; rfl; rfl; exact un_ok rfl) | (apply P_pick; rfl; rfl; rfl; rfl; rfl; rfl) | (apply P_not; rfl; rfl; rfl; rfl) | (apply P_lssF; rfl; rfl; rfl; rfl; rfl; omega) | (apply P_lssT; rfl; rfl; rfl; rfl; rfl; omega) | (apply P_neq; rfl; rfl; rfl; rfl; rfl; all_goals intro _) | (apply P_add; rfl; rfl; rfl; rfl; rfl; (unfold fit; omega)) | (apply P_sub; rfl; rfl; rfl; rfl; rfl; (unfold fit; omega)) | (apply P_idxA; rfl; rfl; rfl; rfl; rfl; exact un_ok rfl; exact sz_ok rfl; (first | rfl | exact (Int.toNat_of_nonneg (by omega)).symm); omega) | (apply P_idxB; rfl; rfl; rfl; rfl; rfl; exact un_ok rfl; exact sz_ok rfl; (first | rfl | exact (Int.toNat_of_nonneg (by omega)).symm); omega) | (apply P_load1; rfl; rfl; rfl; rfl; exact on_ok rfl; (focus repeat' first | exact get_push_same | assumption | apply get_push_old | (apply Ext.get; assumption)); (first | exact ints_get (by omega) | rfl | assumption)) | (apply P_loadA; rfl; rfl; rfl; rfl; exact ag_ok rfl; (focus repeat' first | exact get_push_same | assumption | apply get_push_old | (apply Ext.get; assumption)); (first | exact Nat.le_of_ble_eq_true rfl | (rw [cops_len]; omega) | (simp; done) | (simp; omega) | (rw [ints_len]; omega)); (first | exact cops_take (by omega) | rfl)) | (apply P_storeTop; rfl; rfl; rfl; rfl; exact sz_ok rfl; rfl; rfl; rfl) | (apply P_box; rfl; rfl; rfl; rfl; exact sz_ok rfl; rfl; rfl) | (apply P_alloc; rfl; rfl; rfl; rfl; exact sz_ok rfl; rfl; rfl) | (apply P_max; rfl; rfl; rfl; rfl; rfl; rfl) | fail))
              refine C_again (ih (k + 1) _ ?_ ⟨hlt, ?_, fun j hj' => ?_⟩) ?_
              · omega
              · (focus repeat' first | exact Ext.refl _ | assumption | apply Ext.push | (refine Ext.trans ?_ (by assumption)))
              · by_cases hjk : j = k
                · subst hjk; rw [hc]; exact ⟨by dsimp only; omega, by dsimp only; omega, fun i q => hj2 i (by dsimp only at q; omega)⟩
                · exact hj j (by omega)
              · (focus repeat' first | rfl | exact trivial | apply And.intro)
          · exact ⟨Nat.zero_le _, by (focus repeat' first | exact Ext.refl _ | assumption | apply Ext.push | (refine Ext.trans ?_ (by assumption))), fun j hj => by omega⟩
          · (focus repeat' first | rfl | exact trivial | apply And.intro)
        · rename_i q _
          exact ⟨.inr rfl, _, rfl, .inr ⟨rfl, fun z => q (by have := (z.2.2 k hlt).1; dsimp only at this; omega), by (focus repeat' first | exact Ext.refl _ | assumption | apply Ext.push | (refine Ext.trans ?_ (by assumption)))⟩⟩
      · (repeat' (first | (apply K_seq) | (apply K_region) | (apply O_at; rfl) | (apply O_fin; rfl) | (apply C_seq) | (apply K_ifT; rfl) | (apply K_ifF; rfl) | (apply K_block) | (apply K_skip) | (apply K_exit) | (apply K_ret) | (apply C_retS) | (apply C_retL) | (apply C_retB) | (apply C_exit) | (apply C_exitS) | (apply C_exitL) | (apply C_blockN) | (apply C_nil) | (apply P_skip; rfl; rfl; rfl) | (apply P_move; rfl; rfl; rfl; rfl) | (apply P_assign; rfl; rfl; rfl; rfl) | (apply P_fa; rfl; rfl; rfl; rfl; exact fo_ok rfl; (first | exact Nat.zero_add _ | exact Nat.add_zero _ | rfl)) | (apply P_len; rfl; rfl; rfl; rfl; rfl; rfl; exact un_ok rfl) | (apply P_pick; rfl; rfl; rfl; rfl; rfl; rfl) | (apply P_not; rfl; rfl; rfl; rfl) | (apply P_lssF; rfl; rfl; rfl; rfl; rfl; omega) | (apply P_lssT; rfl; rfl; rfl; rfl; rfl; omega) | (apply P_neq; rfl; rfl; rfl; rfl; rfl; all_goals intro _) | (apply P_add; rfl; rfl; rfl; rfl; rfl; (unfold fit; omega)) | (apply P_sub; rfl; rfl; rfl; rfl; rfl; (unfold fit; omega)) | (apply P_idxA; rfl; rfl; rfl; rfl; rfl; exact un_ok rfl; exact sz_ok rfl; (first | rfl | exact (Int.toNat_of_nonneg (by omega)).symm); omega) | (apply P_idxB; rfl; rfl; rfl; rfl; rfl; exact un_ok rfl; exact sz_ok rfl; (first | rfl | exact (Int.toNat_of_nonneg (by omega)).symm); omega) | (apply P_load1; rfl; rfl; rfl; rfl; exact on_ok rfl; (focus repeat' first | exact get_push_same | assumption | apply get_push_old | (apply Ext.get; assumption)); (first | exact ints_get (by omega) | rfl | assumption)) | (apply P_loadA; rfl; rfl; rfl; rfl; exact ag_ok rfl; (focus repeat' first | exact get_push_same | assumption | apply get_push_old | (apply Ext.get; assumption)); (first | exact Nat.le_of_ble_eq_true rfl | (rw [cops_len]; omega) | (simp; done) | (simp; omega) | (rw [ints_len]; omega)); (first | exact cops_take (by omega) | rfl)) | (apply P_storeTop; rfl; rfl; rfl; rfl; exact sz_ok rfl; rfl; rfl; rfl) | (apply P_box; rfl; rfl; rfl; rfl; exact sz_ok rfl; rfl; rfl) | (apply P_alloc; rfl; rfl; rfl; rfl; exact sz_ok rfl; rfl; rfl) | (apply P_max; rfl; rfl; rfl; rfl; rfl; rfl) | fail))
        exact ⟨.inr rfl, _, rfl, .inl ⟨rfl, ⟨q1, q2, fun j q => hj j (by dsimp only at q; omega)⟩, by (focus repeat' first | exact Ext.refl _ | assumption | apply Ext.push | (refine Ext.trans ?_ (by assumption)))⟩⟩
    · exact ⟨Nat.zero_le _, by (focus repeat' first | exact Ext.refl _ | assumption | apply Ext.push | (refine Ext.trans ?_ (by assumption))), fun j hj => by omega⟩
    · (focus repeat' first | rfl | exact trivial | apply And.intro)
  · rename_i q2 _
    exact ⟨.inr rfl, _, rfl, .inr ⟨rfl, fun z => q2 z.2.1, by (focus repeat' first | exact Ext.refl _ | assumption | apply Ext.push | (refine Ext.trans ?_ (by assumption)))⟩⟩
  · rename_i q2 _
    exact ⟨.inr rfl, _, rfl, .inr ⟨rfl, fun z => q2 z.1, by (focus repeat' first | exact Ext.refl _ | assumption | apply Ext.push | (refine Ext.trans ?_ (by assumption)))⟩⟩
end Go.AX.Sa
