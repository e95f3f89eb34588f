/- Tables of the program's types. -/
import Derived.Test.YtjdopbcoaocllaaGreatDoorAxY
import Derived.Test.YtjdopbcoaocllaaGreatDoorProg
import Derived.KernelRfl
import Derived.Test.YtjdopbcoaocllaaGreatDoorKnI
namespace Go.AX.Sa
open Go.Proofs
set_option maxRecDepth 100000
def szTab : List (Nat × Nat) := [(0, 1), (1, 1), (2, 1), (3, 1), (4, 1), (5, 1), (6, 1), (7, 4), (8, 4), (9, 1), (10, 1), (11, 1), (12, 1), (13, 2), (14, 2), (15, 1), (16, 1), (17, 1), (18, 1), (19, 1), (20, 1), (21, 1), (22, 1), (23, 1), (24, 3), (25, 3), (26, 1), (27, 1), (28, 1), (29, 1), (30, 1), (31, 1), (32, 1), (33, 1), (34, 1), (35, 1), (36, 1), (37, 1), (38, 1), (39, 1), (40, 1), (41, 1), (42, 1), (43, 1), (44, 1), (45, 1), (46, 1), (47, 1), (48, 1), (49, 1), (50, 1), (51, 1), (52, 1), (53, 1), (54, 1), (55, 1), (56, 1), (57, 1), (58, 1), (59, 1), (60, 1), (61, 1), (62, 1), (63, 1), (64, 1), (65, 1), (66, 1), (67, 1), (68, 1), (69, 1), (70, 1), (71, 2), (72, 2), (73, 1), (74, 1), (75, 1), (76, 1), (77, 1), (78, 1), (79, 1), (80, 1), (81, 4), (82, 4), (83, 1), (84, 1), (85, 1), (86, 1), (87, 1), (88, 2), (89, 2), (90, 1), (91, 1), (92, 1), (93, 1), (94, 1), (95, 1), (96, 1), (97, 1), (98, 1), (99, 1), (100, 2), (101, 2), (102, 1), (103, 1), (104, 1), (105, 1), (106, 1), (107, 1), (108, 1), (109, 1), (110, 1), (111, 1), (112, 1), (113, 5), (114, 5), (115, 1), (116, 1), (117, 1), (118, 1), (119, 1), (120, 1), (121, 1), (122, 2), (123, 2), (124, 1), (125, 1), (126, 1), (127, 1), (128, 1), (129, 4), (130, 0), (131, 0), (132, 1), (133, 1), (134, 1), (135, 1), (136, 1), (137, 1), (138, 1), (139, 1), (140, 1), (141, 2), (142, 1), (143, 1), (144, 1), (145, 1), (146, 1), (147, 1), (148, 1), (149, 1), (150, 1), (151, 1), (152, 1), (153, 1), (154, 1), (155, 2), (156, 1), (157, 2), (158, 2), (159, 2), (160, 1), (161, 1), (162, 1), (163, 1), (164, 1), (165, 1), (166, 1), (167, 1), (168, 1), (169, 1), (170, 2), (171, 2), (172, 1), (173, 1), (174, 1), (175, 1), (176, 0), (177, 1), (178, 1), (179, 1), (180, 1), (181, 1), (182, 1), (183, 1), (184, 1), (185, 1), (186, 1), (187, 1), (188, 1), (189, 1), (190, 1), (191, 1), (192, 1), (193, 1), (194, 1), (195, 2), (196, 2), (197, 1), (198, 1), (199, 1), (200, 1), (201, 1), (202, 1), (203, 1), (204, 1), (205, 1), (206, 1), (207, 1), (208, 1), (209, 1), (210, 1), (211, 1), (212, 1), (213, 1), (214, 1), (215, 1), (216, 24), (217, 1), (218, 1), (219, 1), (220, 1), (221, 1), (222, 1), (223, 1), (224, 256), (225, 2), (226, 2), (227, 32), (228, 1), (229, 1), (230, 20), (231, 65), (232, 1), (233, 1), (234, 32), (235, 64), (236, 4), (237, 4), (238, 0), (239, 0), (240, 0), (241, 1), (242, 1), (243, 1), (244, 1), (245, 1), (246, 11), (247, 11)]
theorem zak {t n : Nat} (e : tget szTab t = some n) : sizeB Tryz.prog t = some n := zfG (f := sizeB Tryz.prog) (by kernel_rfl) e
def elTab : List (Nat × Nat) := [(22, 72), (26, 3), (98, 101), (105, 26), (116, 9), (120, 123), (160, 154), (178, 116), (181, 5)]
theorem el_ok {t n : Nat} (e : tget elTab t = some n) : elemOf Tryz.prog t = some n := zfG (f := elemOf Tryz.prog) (by kernel_rfl) e
theorem zao {t n : Nat} (e : tget elTab t = some n) : Tryz.prog.underlying t = some (.slice n) := zhB (el_ok e)
def c1Tab : List (Nat × Nat) := [(26, 3), (105, 26), (116, 9), (160, 154), (178, 116), (181, 5)]
theorem zbM {t n : Nat} (e : tget c1Tab t = some n) : cell1 Tryz.prog t = some n := zfG (f := cell1 Tryz.prog) (by kernel_rfl) e
theorem zero3 : zeroB Tryz.prog 3 = some (.int .i64 0) := by kernel_rfl
def agTab : List (Nat × Nat) := [(7, 4), (8, 4), (13, 2), (14, 2), (18, 1), (19, 1), (24, 3), (25, 3), (71, 2), (72, 2), (81, 4), (82, 4), (88, 2), (89, 2), (100, 2), (101, 2), (113, 5), (114, 5), (122, 2), (123, 2), (129, 4), (130, 0), (131, 0), (141, 2), (155, 2), (157, 2), (158, 2), (159, 2), (170, 2), (171, 2), (176, 0), (195, 2), (196, 2), (216, 24), (224, 256), (225, 2), (226, 2), (227, 32), (230, 20), (231, 65), (234, 32), (235, 64), (236, 4), (237, 4), (238, 0), (239, 0), (240, 0), (246, 11), (247, 11)]
theorem za6 {t n : Nat} (e : tget agTab t = some n) : aggN Tryz.prog t = some n := zfG (f := aggN Tryz.prog) (by kernel_rfl) e
def foTab : List ((Nat × Nat) × Nat) := [((7, 0), 0), ((7, 1), 1), ((7, 2), 2), ((7, 3), 3), ((8, 0), 0), ((8, 1), 1), ((8, 2), 2), ((8, 3), 3), ((13, 0), 0), ((13, 1), 1), ((14, 0), 0), ((14, 1), 1), ((18, 0), 0), ((19, 0), 0), ((24, 0), 0), ((24, 1), 1), ((24, 2), 2), ((25, 0), 0), ((25, 1), 1), ((25, 2), 2), ((71, 0), 0), ((71, 1), 1), ((72, 0), 0), ((72, 1), 1), ((81, 0), 0), ((81, 1), 3), ((82, 0), 0), ((82, 1), 3), ((88, 0), 0), ((88, 1), 1), ((89, 0), 0), ((89, 1), 1), ((100, 0), 0), ((100, 1), 1), ((101, 0), 0), ((101, 1), 1), ((113, 0), 0), ((113, 1), 1), ((113, 2), 2), ((113, 3), 3), ((113, 4), 4), ((114, 0), 0), ((114, 1), 1), ((114, 2), 2), ((114, 3), 3), ((114, 4), 4), ((122, 0), 0), ((122, 1), 1), ((123, 0), 0), ((123, 1), 1), ((157, 0), 0), ((157, 1), 1), ((158, 0), 0), ((158, 1), 1), ((159, 0), 0), ((159, 1), 1), ((170, 0), 0), ((170, 1), 1), ((195, 0), 0), ((195, 1), 1), ((196, 0), 0), ((196, 1), 1), ((225, 0), 0), ((225, 1), 1), ((226, 0), 0), ((226, 1), 1), ((236, 0), 0), ((236, 1), 1), ((236, 2), 2), ((236, 3), 3), ((237, 0), 0), ((237, 1), 1), ((237, 2), 2), ((237, 3), 3), ((246, 0), 0), ((246, 1), 1), ((246, 2), 2), ((246, 3), 3), ((246, 4), 4), ((246, 5), 5), ((246, 6), 6), ((246, 7), 7), ((246, 8), 8), ((246, 9), 9), ((246, 10), 10), ((247, 0), 0), ((247, 1), 1), ((247, 2), 2), ((247, 3), 3), ((247, 4), 4), ((247, 5), 5), ((247, 6), 6), ((247, 7), 7), ((247, 8), 8), ((247, 9), 9), ((247, 10), 10)]
theorem zaU {t j n : Nat} (e : tget2 foTab t j = some n) : fieldOff Tryz.prog t j = some n := tab2_ok (f := fieldOff Tryz.prog) (by kernel_rfl) e
def onTab : List Nat := [0, 1, 2, 3, 4, 5, 6, 9, 10, 11, 12, 15, 16, 17, 20, 21, 22, 23, 26, 27, 28, 29, 30, 31, 32, 33, 34, 35, 36, 37, 38, 39, 40, 41, 42, 43, 44, 45, 46, 47, 48, 49, 50, 51, 52, 53, 54, 55, 56, 57, 58, 59, 60, 61, 62, 63, 64, 65, 66, 67, 68, 69, 70, 73, 74, 75, 76, 77, 78, 79, 80, 83, 84, 85, 86, 87, 90, 91, 92, 93, 94, 95, 96, 97, 98, 99, 102, 103, 104, 105, 106, 107, 108, 109, 110, 111, 112, 115, 116, 117, 118, 119, 120, 121, 124, 125, 126, 127, 128, 132, 133, 134, 135, 136, 137, 138, 139, 140, 142, 143, 144, 145, 146, 147, 148, 149, 150, 151, 152, 153, 154, 156, 160, 161, 162, 163, 164, 165, 166, 167, 168, 169, 172, 173, 174, 175, 177, 178, 179, 180, 181, 182, 183, 184, 185, 186, 187, 188, 189, 190, 191, 192, 193, 194, 197, 198, 199, 200, 201, 202, 203, 204, 205, 206, 207, 208, 209, 210, 211, 212, 213, 214, 215, 217, 218, 219, 220, 221, 222, 223, 228, 229, 232, 233, 241, 242, 243, 244, 245]
theorem zay {t : Nat} (e : onTab.contains t = true) : one Tryz.prog t = true := by
  have h : onTab.all (fun t => one Tryz.prog t) = true := by kernel_rfl
  exact List.all_eq_true.1 h t (by simpa using e)
end Go.AX.Sa

namespace Go.AX.Sa
open Go.Proofs
set_option maxRecDepth 100000
variable {K : Known}
/-- Nothing is known but the examples. -/
def NoK (K : Known) : Prop := ∀ f a h, (Nat.beq f 16 || Nat.beq f 125) = false → K f a h = none
/-- slices.Insert of a number is known. -/
def KIn (K : Known) : Prop := ∀ a h, K 125 a h = insK 3 a h
def Kn (K : Known) : Prop := ∀ h, K 16 #[] h = some (.bool true, [])
theorem zb4 (hKn : Kn K) {h : Heap} : CallW Tryz.prog K 16 #[] h (IsV (.bool true) h) := CallW.of_known (hKn h) ⟨rfl, Ext.refl h⟩
section
variable {f : FuncId} {args : Array Value} {h : Heap} {p : Prop}
theorem yes (c : CallW Tryz.prog K f args h (IfB p h)) (hp : p) : CallW Tryz.prog K f args h (IsV (.bool true) h) :=
  c.mono fun _ _ q => by
    rcases q with ⟨rfl, _, x⟩ | ⟨_, n, _⟩
    · exact ⟨rfl, x⟩
    · exact absurd hp n
theorem no (c : CallW Tryz.prog K f args h (IfB p h)) (hp : ¬ p) : CallW Tryz.prog K f args h (IsV (.bool false) h) :=
  c.mono fun _ _ q => by
    rcases q with ⟨_, n, _⟩ | ⟨rfl, _, x⟩
    · exact absurd n hp
    · exact ⟨rfl, x⟩
end
/-! Tables of this seat. -/
def arTab : List (Nat × Nat × Nat) := [(129, 4, 128), (171, 2, 169), (141, 2, 26)]
theorem zdy {t : Nat} {n : Nat × Nat} (e : tgetP arTab t = some n) : Tryz.prog.underlying t = some (.array n.1 n.2) := zjH (tabP_ok (f := arrOf Tryz.prog) (by kernel_rfl) e)
def c2Tab : List (Nat × Nat) := [(22, 72), (120, 123)]
theorem c2_ok {t n : Nat} (e : tget c2Tab t = some n) : cell2 Tryz.prog t = some n := zfG (f := cell2 Tryz.prog) (by kernel_rfl) e
theorem fill_ms (a b : Int) : fillB Tryz.prog 89 [(0, .int .i64 a), (1, .int .i64 b)] = some (.agg #[.int .i64 a, .int .i64 b]) := by kernel_rfl
theorem fill_rd (a b : Int) : fillB Tryz.prog 123 [(0, .int .i64 a), (1, .int .i64 b)] = some (.agg #[.int .i64 a, .int .i64 b]) := by kernel_rfl
section
variable {x : Ctx} {N : Nat} {E : Env} {h : Heap} {ops : Array Oper} {F : Ex → Env → Heap → Prop} {i : Nat} {Hs : List Heap} {L : List Heap → Prop} {nw : List (Nat × Nat × Blk)}
variable {d : Nat} {ty : TypeId} {pos : String} {af : Array Edge} {g : Option (Nat × Bool)} {ps : Array (Nat × Operand)}
theorem zjK {a b : Int} (hN : Nat.blt d N = true) (hg : gval ops E g = some true) (hk : opsOK Tryz.prog ⟨some d, .build 123 ps, ty, pos, af, g⟩ = true)
    (hps : E.parts ps.toList = some [(0, .int .i64 a), (1, .int .i64 b)]) (k : R1 Tryz.prog K x N ops F (i + 1) ((d, .agg #[.int .i64 a, .int .i64 b]) :: E) h) : R2 Tryz.prog K x N ops F i ⟨some d, .build 123 ps, ty, pos, af, g⟩ E h := zdl hN hg hk hps (fill_rd a b) k
theorem zjL {a b : Int} (hN : Nat.blt d N = true) (hg : gval ops E g = some true) (hk : opsOK Tryz.prog ⟨some d, .build 89 ps, ty, pos, af, g⟩ = true)
    (hps : E.parts ps.toList = some [(0, .int .i64 a), (1, .int .i64 b)]) (k : R1 Tryz.prog K x N ops F (i + 1) ((d, .agg #[.int .i64 a, .int .i64 b]) :: E) h) : R2 Tryz.prog K x N ops F i ⟨some d, .build 89 ps, ty, pos, af, g⟩ E h := zdl hN hg hk hps (fill_ms a b) k
end
end Go.AX.Sa
