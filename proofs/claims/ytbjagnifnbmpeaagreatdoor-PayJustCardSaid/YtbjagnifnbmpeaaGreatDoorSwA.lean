/- Tables of the program's types. -/
import Derived.Test.YtbjagnifnbmpeaaGreatDoorAxY
import Derived.Test.YtbjagnifnbmpeaaGreatDoorProg
import Derived.KernelRfl
namespace Go.AX.Sa
open Go.Proofs
set_option maxRecDepth 100000
def szTab : List (Nat × Nat) := [(0, 1), (1, 1), (2, 1), (3, 1), (4, 1), (5, 1), (6, 1), (7, 4), (8, 4), (9, 1), (10, 1), (11, 1), (12, 1), (13, 2), (14, 2), (15, 1), (16, 1), (17, 1), (18, 1), (19, 1), (20, 1), (21, 1), (22, 4), (23, 4), (24, 1), (25, 1), (26, 1), (27, 1), (28, 1), (29, 1), (30, 1), (31, 1), (32, 1), (33, 1), (34, 1), (35, 1), (36, 1), (37, 1), (38, 1), (39, 7), (40, 7), (41, 1), (42, 1), (43, 2), (44, 2), (45, 1), (46, 1), (47, 1), (48, 1), (49, 1), (50, 1), (51, 1), (52, 1), (53, 1), (54, 1), (55, 1), (56, 1), (57, 1), (58, 1), (59, 1), (60, 1), (61, 10), (62, 10), (63, 1), (64, 1), (65, 1), (66, 1), (67, 1), (68, 1), (69, 1), (70, 1), (71, 1), (72, 1), (73, 1), (74, 1), (75, 1), (76, 1), (77, 1), (78, 1), (79, 4), (80, 1), (81, 1), (82, 1), (83, 1), (84, 1), (85, 1), (86, 1), (87, 1), (88, 1), (89, 8), (90, 8), (91, 1), (92, 1), (93, 1), (94, 1), (95, 1), (96, 1), (97, 1), (98, 1), (99, 1), (100, 1), (101, 1), (102, 1), (103, 1), (104, 1), (105, 1), (106, 1), (107, 1), (108, 1), (109, 1), (110, 1), (111, 1), (112, 1), (113, 1), (114, 5), (115, 5), (116, 1), (117, 1), (118, 1), (119, 1), (120, 2), (121, 1), (122, 3), (123, 1), (124, 1), (125, 1), (126, 1), (127, 1), (128, 1), (129, 1), (130, 1), (131, 1), (132, 1), (133, 1), (134, 1), (135, 2), (136, 7), (137, 10), (138, 1), (139, 1), (140, 1), (141, 1), (142, 1), (143, 1), (144, 1), (145, 2), (146, 2), (147, 0), (148, 0), (149, 1), (150, 1), (151, 1), (152, 0), (153, 1), (154, 1), (155, 1), (156, 1), (157, 1), (158, 1), (159, 1), (160, 1), (161, 1), (162, 1), (163, 1), (164, 1), (165, 1), (166, 1), (167, 1), (168, 1), (169, 1), (170, 1), (171, 2), (172, 2), (173, 1), (174, 1), (175, 1), (176, 1), (177, 1), (178, 1), (179, 1), (180, 1), (181, 1), (182, 1), (183, 1), (184, 1), (185, 1), (186, 1), (187, 1), (188, 1), (189, 1), (190, 1), (191, 24), (192, 1), (193, 1), (194, 1), (195, 1), (196, 1), (197, 1), (198, 1), (199, 256), (200, 2), (201, 2), (202, 32), (203, 1), (204, 1), (205, 20), (206, 65), (207, 1), (208, 1), (209, 32), (210, 64), (211, 4), (212, 4), (213, 0), (214, 0), (215, 0), (216, 1), (217, 1), (218, 1), (219, 1), (220, 1), (221, 11), (222, 11)]
theorem sz_ok {t n : Nat} (e : tget szTab t = some n) : sizeB Tryz.prog t = some n := tab_ok (f := sizeB Tryz.prog) (by kernel_rfl) e
def elTab : List (Nat × Nat) := [(36, 3), (38, 62), (57, 44), (99, 36), (117, 9), (138, 133), (154, 117), (157, 5)]
theorem el_ok {t n : Nat} (e : tget elTab t = some n) : elemOf Tryz.prog t = some n := tab_ok (f := elemOf Tryz.prog) (by kernel_rfl) e
theorem un_ok {t n : Nat} (e : tget elTab t = some n) : Tryz.prog.underlying t = some (.slice n) := elemOf_some (el_ok e)
def c1Tab : List (Nat × Nat) := [(36, 3), (99, 36), (117, 9), (138, 133), (154, 117), (157, 5)]
theorem c1_ok {t n : Nat} (e : tget c1Tab t = some n) : cell1 Tryz.prog t = some n := tab_ok (f := cell1 Tryz.prog) (by kernel_rfl) e
theorem zero3 : zeroB Tryz.prog 3 = some (.int .i64 0) := by kernel_rfl
def agTab : List (Nat × Nat) := [(7, 4), (8, 4), (13, 2), (14, 2), (18, 1), (19, 1), (22, 4), (23, 4), (39, 7), (40, 7), (43, 2), (44, 2), (61, 10), (62, 10), (79, 4), (89, 8), (90, 8), (114, 5), (115, 5), (120, 2), (122, 3), (135, 2), (136, 7), (137, 10), (145, 2), (146, 2), (147, 0), (148, 0), (152, 0), (171, 2), (172, 2), (191, 24), (199, 256), (200, 2), (201, 2), (202, 32), (205, 20), (206, 65), (209, 32), (210, 64), (211, 4), (212, 4), (213, 0), (214, 0), (215, 0), (221, 11), (222, 11)]
theorem ag_ok {t n : Nat} (e : tget agTab t = some n) : aggN Tryz.prog t = some n := tab_ok (f := aggN Tryz.prog) (by kernel_rfl) e
def foTab : List ((Nat × Nat) × Nat) := [((7, 0), 0), ((7, 1), 1), ((7, 2), 2), ((7, 3), 3), ((8, 0), 0), ((8, 1), 1), ((8, 2), 2), ((8, 3), 3), ((13, 0), 0), ((13, 1), 1), ((14, 0), 0), ((14, 1), 1), ((18, 0), 0), ((19, 0), 0), ((22, 0), 0), ((22, 1), 1), ((22, 2), 2), ((22, 3), 3), ((23, 0), 0), ((23, 1), 1), ((23, 2), 2), ((23, 3), 3), ((39, 0), 0), ((39, 1), 1), ((39, 2), 2), ((39, 3), 3), ((39, 4), 4), ((39, 5), 5), ((39, 6), 6), ((40, 0), 0), ((40, 1), 1), ((40, 2), 2), ((40, 3), 3), ((40, 4), 4), ((40, 5), 5), ((40, 6), 6), ((43, 0), 0), ((43, 1), 1), ((44, 0), 0), ((44, 1), 1), ((61, 0), 0), ((61, 1), 1), ((61, 2), 2), ((61, 3), 4), ((61, 4), 5), ((61, 5), 6), ((62, 0), 0), ((62, 1), 1), ((62, 2), 2), ((62, 3), 4), ((62, 4), 5), ((62, 5), 6), ((89, 0), 0), ((89, 1), 7), ((90, 0), 0), ((90, 1), 7), ((114, 0), 0), ((114, 1), 1), ((114, 2), 2), ((114, 3), 3), ((114, 4), 4), ((115, 0), 0), ((115, 1), 1), ((115, 2), 2), ((115, 3), 3), ((115, 4), 4), ((136, 0), 0), ((136, 1), 1), ((136, 2), 2), ((136, 3), 3), ((136, 4), 4), ((136, 5), 5), ((136, 6), 6), ((137, 0), 0), ((137, 1), 1), ((137, 2), 2), ((137, 3), 4), ((137, 4), 5), ((137, 5), 6), ((145, 0), 0), ((145, 1), 1), ((171, 0), 0), ((171, 1), 1), ((172, 0), 0), ((172, 1), 1), ((200, 0), 0), ((200, 1), 1), ((201, 0), 0), ((201, 1), 1), ((211, 0), 0), ((211, 1), 1), ((211, 2), 2), ((211, 3), 3), ((212, 0), 0), ((212, 1), 1), ((212, 2), 2), ((212, 3), 3), ((221, 0), 0), ((221, 1), 1), ((221, 2), 2), ((221, 3), 3), ((221, 4), 4), ((221, 5), 5), ((221, 6), 6), ((221, 7), 7), ((221, 8), 8), ((221, 9), 9), ((221, 10), 10), ((222, 0), 0), ((222, 1), 1), ((222, 2), 2), ((222, 3), 3), ((222, 4), 4), ((222, 5), 5), ((222, 6), 6), ((222, 7), 7), ((222, 8), 8), ((222, 9), 9), ((222, 10), 10)]
theorem fo_ok {t j n : Nat} (e : tget2 foTab t j = some n) : fieldOff Tryz.prog t j = some n := tab2_ok (f := fieldOff Tryz.prog) (by kernel_rfl) e
def onTab : List Nat := [0, 1, 2, 3, 4, 5, 6, 9, 10, 11, 12, 15, 16, 17, 20, 21, 24, 25, 26, 27, 28, 29, 30, 31, 32, 33, 34, 35, 36, 37, 38, 41, 42, 45, 46, 47, 48, 49, 50, 51, 52, 53, 54, 55, 56, 57, 58, 59, 60, 63, 64, 65, 66, 67, 68, 69, 70, 71, 72, 73, 74, 75, 76, 77, 78, 80, 81, 82, 83, 84, 85, 86, 87, 88, 91, 92, 93, 94, 95, 96, 97, 98, 99, 100, 101, 102, 103, 104, 105, 106, 107, 108, 109, 110, 111, 112, 113, 116, 117, 118, 119, 121, 123, 124, 125, 126, 127, 128, 129, 130, 131, 132, 133, 134, 138, 139, 140, 141, 142, 143, 144, 149, 150, 151, 153, 154, 155, 156, 157, 158, 159, 160, 161, 162, 163, 164, 165, 166, 167, 168, 169, 170, 173, 174, 175, 176, 177, 178, 179, 180, 181, 182, 183, 184, 185, 186, 187, 188, 189, 190, 192, 193, 194, 195, 196, 197, 198, 203, 204, 207, 208, 216, 217, 218, 219, 220]
theorem on_ok {t : Nat} (e : onTab.contains t = true) : one Tryz.prog t = true := by
  have h : onTab.all (fun t => one Tryz.prog t) = true := by kernel_rfl
  exact List.all_eq_true.1 h t (by simpa using e)
end Go.AX.Sa

namespace Go.AX.Sa
open Go.Proofs
set_option maxRecDepth 100000
variable {K : Known}
/-- Nothing is known but the examples. -/
def NoK (K : Known) : Prop := ∀ f a h, Nat.beq f 20 = false → K f a h = none
def Kn (K : Known) : Prop := ∀ h, K 20 #[] h = some (.bool true, [])
theorem known_ok' (hKn : Kn K) {h : Heap} : CallW Tryz.prog K 20 #[] h (IsV (.bool true) h) := CallW.of_known (hKn h) ⟨rfl, Ext.refl h⟩
section
variable {f : FuncId} {args : Array Value} {h : Heap} {p : Prop}
theorem yes (c : CallW Tryz.prog K f args h (IfB p h)) (hp : p) : CallW Tryz.prog K f args h (IsV (.bool true) h) :=
  c.mono fun _ _ q => by
    rcases q with ⟨rfl, _, x⟩ | ⟨_, n, _⟩
    · exact ⟨rfl, x⟩
    · exact absurd hp n
theorem no (c : CallW Tryz.prog K f args h (IfB p h)) (hp : ¬ p) : CallW Tryz.prog K f args h (IsV (.bool false) h) :=
  c.mono fun _ _ q => by
    rcases q with ⟨_, n, _⟩ | ⟨rfl, _, x⟩
    · exact absurd n hp
    · exact ⟨rfl, x⟩
end
/-! Tables of this seat. -/
def arTab : List (Nat × Nat × Nat) := [(79, 4, 3), (122, 3, 91), (146, 2, 143), (120, 2, 36)]
theorem ar_ok {t : Nat} {n : Nat × Nat} (e : tgetP arTab t = some n) : Tryz.prog.underlying t = some (.array n.1 n.2) := arrOf_some (tabP_ok (f := arrOf Tryz.prog) (by kernel_rfl) e)
def c2Tab : List (Nat × Nat) := [(57, 44)]
theorem fill23 (a b c d : Int) : fillB Tryz.prog 23 [(0, .int .i64 a), (1, .int .i64 b), (2, .int .i64 c), (3, .int .i64 d)] = some (.agg #[.int .i64 a, .int .i64 b, .int .i64 c, .int .i64 d]) := by kernel_rfl
theorem fill79 (a b c d : Int) : fillB Tryz.prog 79 [(0, .int .i64 a), (1, .int .i64 b), (2, .int .i64 c), (3, .int .i64 d)] = some (.agg #[.int .i64 a, .int .i64 b, .int .i64 c, .int .i64 d]) := by kernel_rfl
section
variable {x : Ctx} {N : Nat} {E : Env} {h : Heap} {ops : Array Oper} {F : Ex → Env → Heap → Prop} {i : Nat} {Hs : List Heap} {L : List Heap → Prop} {nw : List (Nat × Nat × Blk)}
variable {d : Nat} {ty : TypeId} {pos : String} {af : Array Edge} {g : Option (Nat × Bool)}
theorem P_build23 {ps : Array (Nat × Operand)} {a b c e : Int} (hN : Nat.blt d N = true) (hg : gval ops E g = some true) (hk : opsOK Tryz.prog ⟨some d, .build 23 ps, ty, pos, af, g⟩ = true)
    (hps : E.parts ps.toList = some [(0, .int .i64 a), (1, .int .i64 b), (2, .int .i64 c), (3, .int .i64 e)]) (k : R1 Tryz.prog K x N ops F (i + 1) ((d, .agg #[.int .i64 a, .int .i64 b, .int .i64 c, .int .i64 e]) :: E) h) : R2 Tryz.prog K x N ops F i ⟨some d, .build 23 ps, ty, pos, af, g⟩ E h := P_build hN hg hk hps (fill23 a b c e) k
theorem P_build79 {ps : Array (Nat × Operand)} {a b c e : Int} (hN : Nat.blt d N = true) (hg : gval ops E g = some true) (hk : opsOK Tryz.prog ⟨some d, .build 79 ps, ty, pos, af, g⟩ = true)
    (hps : E.parts ps.toList = some [(0, .int .i64 a), (1, .int .i64 b), (2, .int .i64 c), (3, .int .i64 e)]) (k : R1 Tryz.prog K x N ops F (i + 1) ((d, .agg #[.int .i64 a, .int .i64 b, .int .i64 c, .int .i64 e]) :: E) h) : R2 Tryz.prog K x N ops F i ⟨some d, .build 79 ps, ty, pos, af, g⟩ E h := P_build hN hg hk hps (fill79 a b c e) k
section
variable {yt : TypeId} {x' y' : Operand} {a b c e a' b' c' e' : Int}
theorem four {a b c e a' b' c' e' : Int} : [a, b, c, e] = [a', b', c', e'] ↔ (a = a' ∧ b = b' ∧ c = c' ∧ e = e') := by simp
end
theorem two {a b a' b' : Int} : [a, b] = [a', b'] ↔ (a = a' ∧ b = b') := by simp
section
variable {yt : TypeId} {x' y' : Operand} {a b a' b' : Int}
end
end
/-! Parts of a row of numbers. -/
theorem ints_seg (l : List Int) (o n : Nat) (h : o + n ≤ l.length) : ((ints l).drop o).take n = (List.range n).map fun j => Value.int .i64 (l.getD (o + j) 0) := by
  refine List.ext_getElem (by simp [ints_len]; omega) fun i q1 q2 => ?_
  have hi : i < n := by simpa using q2
  simp [ints, List.getElem_take, List.getElem_drop, List.getD_eq_getElem?_getD, show o + i < l.length from by omega]
theorem line_take {l : List Int} {o : Nat} (h : o + 10 ≤ l.length) : ((ints l).drop o).take 10 = [.int .i64 (l.getD o 0), .int .i64 (l.getD (o + 1) 0), .int .i64 (l.getD (o + 2) 0), .int .i64 (l.getD (o + 3) 0), .int .i64 (l.getD (o + 4) 0), .int .i64 (l.getD (o + 5) 0), .int .i64 (l.getD (o + 6) 0), .int .i64 (l.getD (o + 7) 0), .int .i64 (l.getD (o + 8) 0), .int .i64 (l.getD (o + 9) 0)] := ints_seg l o 10 h
theorem same_bk (a b c d e f : Int) (p : Option Addr) (m k : Nat) : same 20 (.agg #[.int .i64 a, .int .i64 b, .int .i64 c, .int .i64 d, .int .i64 e, .int .i64 f, .slice p m k]) (.agg #[.int .i64 a, .int .i64 b, .int .i64 c, .int .i64 d, .int .i64 e, .int .i64 f, .slice p m k]) = true := by simp [same, same.all2]
theorem within_bkO {h0 h : Heap} {a b c d e f : Int} {p : Option Addr} {m k : Nat} (hp : ∀ a, p = some a → a.block < h0.n) (x : Ext h0 h) : within 20 h.n (.agg #[.int .i64 a, .int .i64 b, .int .i64 c, .int .i64 d, .int .i64 e, .int .i64 f, .slice p m k]) = true := by
  have := x.n
  cases p with
  | none => simp [within]
  | some a => have := hp a rfl; simp [within]; omega
/-! What the variables hold. -/
structure Glob (h : Heap) : Prop where
  worth : h.get? 0 = some (.cells (ints [960, 48, 4, 1]) 79 false)
  highest : h.get? 1 = some (.cells (ints [999, 19, 11, 3]) 79 false)
theorem Glob.ext {h h1 : Heap} (g : Glob h) (x : Ext h h1) : Glob h1 := ⟨x.get g.worth, x.get g.highest⟩
theorem Glob.but {h h1 : Heap} {b : Nat} (g : Glob h) (x : ExtBut b h h1) (hb : 1 < b) : Glob h1 := ⟨x.get (by omega) g.worth, x.get (by omega) g.highest⟩
theorem Glob.lt {h : Heap} (g : Glob h) : 1 < h.n := Heap.get_lt g.highest
end Go.AX.Sa
