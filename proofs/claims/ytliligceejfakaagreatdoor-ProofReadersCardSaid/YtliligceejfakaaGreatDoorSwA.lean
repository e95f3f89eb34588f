/- Tables of the program's types. -/
import Derived.Test.YtliligceejfakaaGreatDoorAxY
import Derived.Test.YtliligceejfakaaGreatDoorProg
import Derived.KernelRfl
namespace Go.AX.Sa
open Go.Proofs
set_option maxRecDepth 100000
def szTab : List (Nat × Nat) := [(0, 1), (1, 1), (2, 1), (3, 1), (4, 1), (5, 1), (6, 1), (7, 4), (8, 4), (9, 1), (10, 1), (11, 1), (12, 1), (13, 2), (14, 2), (15, 1), (16, 1), (17, 1), (18, 1), (19, 1), (20, 1), (21, 1), (22, 1), (23, 1), (24, 3), (25, 3), (26, 1), (27, 1), (28, 1), (29, 1), (30, 1), (31, 1), (32, 1), (33, 1), (34, 1), (35, 1), (36, 2), (37, 2), (38, 1), (39, 1), (40, 1), (41, 1), (42, 1), (43, 1), (44, 1), (45, 1), (46, 1), (47, 1), (48, 1), (49, 1), (50, 1), (51, 1), (52, 1), (53, 1), (54, 1), (55, 1), (56, 2), (57, 2), (58, 1), (59, 1), (60, 1), (61, 1), (62, 1), (63, 1), (64, 1), (65, 1), (66, 1), (67, 1), (68, 1), (69, 1), (70, 1), (71, 1), (72, 1), (73, 1), (74, 1), (75, 1), (76, 1), (77, 1), (78, 1), (79, 1), (80, 2), (81, 2), (82, 2), (83, 2), (84, 1), (85, 1), (86, 6), (87, 6), (88, 1), (89, 1), (90, 1), (91, 3), (92, 3), (93, 1), (94, 1), (95, 1), (96, 1), (97, 1), (98, 1), (99, 1), (100, 2), (101, 2), (102, 1), (103, 1), (104, 1), (105, 1), (106, 1), (107, 1), (108, 1), (109, 1), (110, 1), (111, 1), (112, 1), (113, 1), (114, 1), (115, 3), (116, 3), (117, 1), (118, 1), (119, 1), (120, 1), (121, 1), (122, 1), (123, 1), (124, 1), (125, 1), (126, 1), (127, 1), (128, 1), (129, 1), (130, 1), (131, 1), (132, 1), (133, 5), (134, 5), (135, 1), (136, 1), (137, 1), (138, 1), (139, 2), (140, 2), (141, 1), (142, 1), (143, 1), (144, 1), (145, 1), (146, 2), (147, 2), (148, 0), (149, 0), (150, 1), (151, 1), (152, 1), (153, 1), (154, 1), (155, 1), (156, 1), (157, 1), (158, 1), (159, 1), (160, 1), (161, 1), (162, 1), (163, 1), (164, 3), (165, 3), (166, 15), (167, 1), (168, 1), (169, 1), (170, 1), (171, 3), (172, 2), (173, 1), (174, 1), (175, 1), (176, 1), (177, 3), (178, 1), (179, 0), (180, 1), (181, 1), (182, 3), (183, 3), (184, 1), (185, 1), (186, 0), (187, 1), (188, 1), (189, 1), (190, 1), (191, 1), (192, 1), (193, 1), (194, 1), (195, 1), (196, 1), (197, 1), (198, 1), (199, 1), (200, 1), (201, 1), (202, 1), (203, 4), (204, 1), (205, 1), (206, 1), (207, 1), (208, 1), (209, 1), (210, 1), (211, 1), (212, 1), (213, 1), (214, 2), (215, 2), (216, 1), (217, 1), (218, 1), (219, 1), (220, 1), (221, 1), (222, 1), (223, 1), (224, 1), (225, 1), (226, 1), (227, 1), (228, 1), (229, 1), (230, 1), (231, 1), (232, 1), (233, 1), (234, 1), (235, 24), (236, 1), (237, 1), (238, 1), (239, 1), (240, 1), (241, 1), (242, 1), (243, 256), (244, 2), (245, 2), (246, 32), (247, 1), (248, 1), (249, 20), (250, 65), (251, 1), (252, 1), (253, 32), (254, 64), (255, 4), (256, 4), (257, 0), (258, 0), (259, 0), (260, 1), (261, 1), (262, 1), (263, 1), (264, 1), (265, 11), (266, 11)]
theorem zai {t n : Nat} (e : tget szTab t = some n) : sizeB Tryz.prog t = some n := zhW (f := sizeB Tryz.prog) (by kernel_rfl) e
def elTab : List (Nat × Nat) := [(22, 92), (23, 37), (30, 3), (47, 57), (64, 83), (73, 81), (98, 30), (103, 101), (111, 116), (125, 64), (136, 9), (143, 140), (169, 163), (188, 136), (191, 5)]
theorem el_ok {t n : Nat} (e : tget elTab t = some n) : elemOf Tryz.prog t = some n := zhW (f := elemOf Tryz.prog) (by kernel_rfl) e
theorem zas {t n : Nat} (e : tget elTab t = some n) : Tryz.prog.underlying t = some (.slice n) := zhz (el_ok e)
def c1Tab : List (Nat × Nat) := [(30, 3), (98, 30), (125, 64), (136, 9), (169, 163), (188, 136), (191, 5)]
theorem zdy {t n : Nat} (e : tget c1Tab t = some n) : cell1 Tryz.prog t = some n := zhW (f := cell1 Tryz.prog) (by kernel_rfl) e
def agTab : List (Nat × Nat) := [(7, 4), (8, 4), (13, 2), (14, 2), (18, 1), (19, 1), (24, 3), (25, 3), (36, 2), (37, 2), (56, 2), (57, 2), (80, 2), (81, 2), (82, 2), (83, 2), (86, 6), (87, 6), (91, 3), (92, 3), (100, 2), (101, 2), (115, 3), (116, 3), (133, 5), (134, 5), (139, 2), (140, 2), (146, 2), (147, 2), (148, 0), (149, 0), (164, 3), (165, 3), (166, 15), (171, 3), (172, 2), (177, 3), (179, 0), (182, 3), (183, 3), (186, 0), (203, 4), (214, 2), (215, 2), (235, 24), (243, 256), (244, 2), (245, 2), (246, 32), (249, 20), (250, 65), (253, 32), (254, 64), (255, 4), (256, 4), (257, 0), (258, 0), (259, 0), (265, 11), (266, 11)]
theorem zaT {t n : Nat} (e : tget agTab t = some n) : aggN Tryz.prog t = some n := zhW (f := aggN Tryz.prog) (by kernel_rfl) e
def foTab : List ((Nat × Nat) × Nat) := [((7, 0), 0), ((7, 1), 1), ((7, 2), 2), ((7, 3), 3), ((8, 0), 0), ((8, 1), 1), ((8, 2), 2), ((8, 3), 3), ((13, 0), 0), ((13, 1), 1), ((14, 0), 0), ((14, 1), 1), ((18, 0), 0), ((19, 0), 0), ((24, 0), 0), ((24, 1), 1), ((24, 2), 2), ((25, 0), 0), ((25, 1), 1), ((25, 2), 2), ((36, 0), 0), ((36, 1), 1), ((37, 0), 0), ((37, 1), 1), ((56, 0), 0), ((56, 1), 1), ((57, 0), 0), ((57, 1), 1), ((80, 0), 0), ((80, 1), 1), ((81, 0), 0), ((81, 1), 1), ((82, 0), 0), ((82, 1), 1), ((83, 0), 0), ((83, 1), 1), ((86, 0), 0), ((86, 1), 3), ((86, 2), 4), ((86, 3), 5), ((87, 0), 0), ((87, 1), 3), ((87, 2), 4), ((87, 3), 5), ((91, 0), 0), ((91, 1), 1), ((91, 2), 2), ((92, 0), 0), ((92, 1), 1), ((92, 2), 2), ((100, 0), 0), ((100, 1), 1), ((101, 0), 0), ((101, 1), 1), ((115, 0), 0), ((115, 1), 2), ((116, 0), 0), ((116, 1), 2), ((133, 0), 0), ((133, 1), 1), ((133, 2), 2), ((133, 3), 3), ((133, 4), 4), ((134, 0), 0), ((134, 1), 1), ((134, 2), 2), ((134, 3), 3), ((134, 4), 4), ((139, 0), 0), ((139, 1), 1), ((140, 0), 0), ((140, 1), 1), ((146, 0), 0), ((146, 1), 1), ((147, 0), 0), ((147, 1), 1), ((164, 0), 0), ((164, 1), 1), ((164, 2), 2), ((165, 0), 0), ((165, 1), 1), ((165, 2), 2), ((171, 0), 0), ((171, 1), 1), ((171, 2), 2), ((172, 0), 0), ((172, 1), 1), ((182, 0), 0), ((182, 1), 1), ((182, 2), 2), ((183, 0), 0), ((183, 1), 1), ((183, 2), 2), ((214, 0), 0), ((214, 1), 1), ((215, 0), 0), ((215, 1), 1), ((244, 0), 0), ((244, 1), 1), ((245, 0), 0), ((245, 1), 1), ((255, 0), 0), ((255, 1), 1), ((255, 2), 2), ((255, 3), 3), ((256, 0), 0), ((256, 1), 1), ((256, 2), 2), ((256, 3), 3), ((265, 0), 0), ((265, 1), 1), ((265, 2), 2), ((265, 3), 3), ((265, 4), 4), ((265, 5), 5), ((265, 6), 6), ((265, 7), 7), ((265, 8), 8), ((265, 9), 9), ((265, 10), 10), ((266, 0), 0), ((266, 1), 1), ((266, 2), 2), ((266, 3), 3), ((266, 4), 4), ((266, 5), 5), ((266, 6), 6), ((266, 7), 7), ((266, 8), 8), ((266, 9), 9), ((266, 10), 10)]
theorem zaw {t j n : Nat} (e : tget2 foTab t j = some n) : fieldOff Tryz.prog t j = some n := tab2_ok (f := fieldOff Tryz.prog) (by kernel_rfl) e
def onTab : List Nat := [0, 1, 2, 3, 4, 5, 6, 9, 10, 11, 12, 15, 16, 17, 20, 21, 22, 23, 26, 27, 28, 29, 30, 31, 32, 33, 34, 35, 38, 39, 40, 41, 42, 43, 44, 45, 46, 47, 48, 49, 50, 51, 52, 53, 54, 55, 58, 59, 60, 61, 62, 63, 64, 65, 66, 67, 68, 69, 70, 71, 72, 73, 74, 75, 76, 77, 78, 79, 84, 85, 88, 89, 90, 93, 94, 95, 96, 97, 98, 99, 102, 103, 104, 105, 106, 107, 108, 109, 110, 111, 112, 113, 114, 117, 118, 119, 120, 121, 122, 123, 124, 125, 126, 127, 128, 129, 130, 131, 132, 135, 136, 137, 138, 141, 142, 143, 144, 145, 150, 151, 152, 153, 154, 155, 156, 157, 158, 159, 160, 161, 162, 163, 167, 168, 169, 170, 173, 174, 175, 176, 178, 180, 181, 184, 185, 187, 188, 189, 190, 191, 192, 193, 194, 195, 196, 197, 198, 199, 200, 201, 202, 204, 205, 206, 207, 208, 209, 210, 211, 212, 213, 216, 217, 218, 219, 220, 221, 222, 223, 224, 225, 226, 227, 228, 229, 230, 231, 232, 233, 234, 236, 237, 238, 239, 240, 241, 242, 247, 248, 251, 252, 260, 261, 262, 263, 264]
theorem zar {t : Nat} (e : onTab.contains t = true) : one Tryz.prog t = true := by
  have h : onTab.all (fun t => one Tryz.prog t) = true := by kernel_rfl
  exact List.all_eq_true.1 h t (by simpa using e)

end Go.AX.Sa

namespace Go.AX.Sa
open Go.Proofs
set_option maxRecDepth 100000
variable {K : Known}
/-- Nothing is known but the examples. -/
def NoK (K : Known) : Prop := ∀ f a h, Nat.beq f 16 = false → K f a h = none
def Kn (K : Known) : Prop := ∀ h, K 16 #[] h = some (.bool true, [])
theorem zcW (hKn : Kn K) {h : Heap} : CallW Tryz.prog K 16 #[] h (IsV (.bool true) h) := CallW.of_known (hKn h) ⟨rfl, Ext.refl h⟩
section
variable {f : FuncId} {args : Array Value} {h : Heap} {p : Prop}
theorem yes (c : CallW Tryz.prog K f args h (IfB p h)) (hp : p) : CallW Tryz.prog K f args h (IsV (.bool true) h) :=
  c.mono fun _ _ q => by
    rcases q with ⟨rfl, _, x⟩ | ⟨_, n, _⟩
    · exact ⟨rfl, x⟩
    · exact absurd hp n
theorem no (c : CallW Tryz.prog K f args h (IfB p h)) (hp : ¬ p) : CallW Tryz.prog K f args h (IsV (.bool false) h) :=
  c.mono fun _ _ q => by
    rcases q with ⟨_, n, _⟩ | ⟨rfl, _, x⟩
    · exact absurd n hp
    · exact ⟨rfl, x⟩
theorem iff (c : CallW Tryz.prog K f args h (IfB p h)) {q : Prop} (hq : p ↔ q) : CallW Tryz.prog K f args h (IfB q h) :=
  c.mono fun _ _ w => by
    rcases w with ⟨rfl, n, x⟩ | ⟨rfl, n, x⟩
    · exact .inl ⟨rfl, hq.1 n, x⟩
    · exact .inr ⟨rfl, fun m => n (hq.2 m), x⟩
end
/-! Tables of this seat. -/
def arTab : List (Nat × Nat × Nat) := [(177, 3, 176)]
theorem ar_ok {t : Nat} {n : Nat × Nat} (e : tgetP arTab t = some n) : Tryz.prog.underlying t = some (.array n.1 n.2) := zjq (tabP_ok (f := arrOf Tryz.prog) (by kernel_rfl) e)
def c2Tab : List (Nat × Nat) := [(143, 140), (47, 57), (64, 83), (103, 101)]
def ck2Tab : List (Nat × Nat) := [(23, 37)]
theorem mapB85 : mapBT Tryz.prog 85 = true := by kernel_rfl
theorem zkR (a b : Int) : fillB Tryz.prog 140 [(0, .int .i64 a), (1, .int .i64 b)] = some (.agg #[.int .i64 a, .int .i64 b]) := by kernel_rfl
theorem fill_rd (a b : Int) : fillB Tryz.prog 147 [(0, .int .i64 a), (1, .int .i64 b)] = some (.agg #[.int .i64 a, .int .i64 b]) := by kernel_rfl
theorem fill_en (a : Int) (p : Option Addr) (n k : Nat) : fillB Tryz.prog 37 [(0, .int .i64 a), (1, .slice p n k)] = some (.agg #[.int .i64 a, .slice p n k]) := by kernel_rfl
theorem fill_st (a : Int) (p q : Option Addr) (n k m j r : Nat) : fillB Tryz.prog 87 [(0, .agg #[.int .i64 a, .slice p n k, .slice q m j]), (3, .map (some r))] = some (.agg #[.int .i64 a, .slice p n k, .slice q m j, .slice none 0 0, .slice none 0 0, .map (some r)]) := by kernel_rfl
theorem fill_fn : fillB Tryz.prog 177 [(0, .func (.func 131) #[] #[]), (1, .func (.func 132) #[] #[]), (2, .func (.func 133) #[] #[])] = some (.agg #[.func (.func 131) #[] #[], .func (.func 132) #[] #[], .func (.func 133) #[] #[]]) := by kernel_rfl
theorem bs_i3 (h : Heap) (a b c : Int) : buildSliceB Tryz.prog h 30 3 [(0, .int .i64 a), (1, .int .i64 b), (2, .int .i64 c)] = some (.slice (some ⟨h.n, 0, none⟩) 3 3, h.push (.cells (ints [a, b, c]) 3 true)) := by kernel_rfl
theorem bs_i4 (h : Heap) (a b c e : Int) : buildSliceB Tryz.prog h 30 4 [(0, .int .i64 a), (1, .int .i64 b), (2, .int .i64 c), (3, .int .i64 e)] = some (.slice (some ⟨h.n, 0, none⟩) 4 4, h.push (.cells (ints [a, b, c, e]) 3 true)) := by kernel_rfl
theorem bs_s1 (h : Heap) (a b : Int) : buildSliceB Tryz.prog h 143 1 [(0, .agg #[.int .i64 a, .int .i64 b])] = some (.slice (some ⟨h.n, 0, none⟩) 1 1, h.push (.cells (spanCells [(a, b)]) 140 true)) := by kernel_rfl
theorem bs_s3 (h : Heap) (a b a' b' c d : Int) : buildSliceB Tryz.prog h 143 3 [(0, .agg #[.int .i64 a, .int .i64 b]), (1, .agg #[.int .i64 a', .int .i64 b']), (2, .agg #[.int .i64 c, .int .i64 d])] = some (.slice (some ⟨h.n, 0, none⟩) 3 3, h.push (.cells (spanCells [(a, b), (a', b'), (c, d)]) 140 true)) := by kernel_rfl
theorem bs_s4 (h : Heap) (a b a' b' c d c' d' : Int) : buildSliceB Tryz.prog h 143 4 [(0, .agg #[.int .i64 a, .int .i64 b]), (1, .agg #[.int .i64 a', .int .i64 b']), (2, .agg #[.int .i64 c, .int .i64 d]), (3, .agg #[.int .i64 c', .int .i64 d'])] = some (.slice (some ⟨h.n, 0, none⟩) 4 4, h.push (.cells (spanCells [(a, b), (a', b'), (c, d), (c', d')]) 140 true)) := by kernel_rfl

section
variable {x : Ctx} {N : Nat} {E : Env} {h : Heap} {ops : Array Oper} {F : Ex → Env → Heap → Prop} {i : Nat} {Hs : List Heap} {L : List Heap → Prop} {nw : List (Nat × Nat × Blk)}
variable {d : Nat} {ty : TypeId} {pos : String} {af : Array Edge} {g : Option (Nat × Bool)} {ps : Array (Nat × Operand)}
theorem zcw {a b : Int} (hN : Nat.blt d N = true) (hg : gval ops E g = some true) (hk : opsOK Tryz.prog ⟨some d, .build 140 ps, ty, pos, af, g⟩ = true)
    (hps : E.parts ps.toList = some [(0, .int .i64 a), (1, .int .i64 b)]) (k : R1 Tryz.prog K x N ops F (i + 1) ((d, .agg #[.int .i64 a, .int .i64 b]) :: E) h) : R2 Tryz.prog K x N ops F i ⟨some d, .build 140 ps, ty, pos, af, g⟩ E h := zey hN hg hk hps (zkR a b) k
theorem zjx {a b : Int} (hN : Nat.blt d N = true) (hg : gval ops E g = some true) (hk : opsOK Tryz.prog ⟨some d, .build 140 ps, ty, pos, af, g⟩ = true)
    (hps : E.parts ps.toList = some [(0, .int .i64 a), (1, .int .i64 b)]) (k : S1 Tryz.prog K x N ops F (i + 1) ((d, .agg #[.int .i64 a, .int .i64 b]) :: E) h Hs L nw) : S2 Tryz.prog K x N ops F i ⟨some d, .build 140 ps, ty, pos, af, g⟩ E h Hs L nw := M_build hN hg hk hps (zkR a b) k
theorem zdj {a b : Int} (hN : Nat.blt d N = true) (hg : gval ops E g = some true) (hk : opsOK Tryz.prog ⟨some d, .build 147 ps, ty, pos, af, g⟩ = true)
    (hps : E.parts ps.toList = some [(0, .int .i64 a), (1, .int .i64 b)]) (k : R1 Tryz.prog K x N ops F (i + 1) ((d, .agg #[.int .i64 a, .int .i64 b]) :: E) h) : R2 Tryz.prog K x N ops F i ⟨some d, .build 147 ps, ty, pos, af, g⟩ E h := zey hN hg hk hps (fill_rd a b) k
theorem zjv {a : Int} {p : Option Addr} {n k1 : Nat} (hN : Nat.blt d N = true) (hg : gval ops E g = some true) (hk : opsOK Tryz.prog ⟨some d, .build 37 ps, ty, pos, af, g⟩ = true)
    (hps : E.parts ps.toList = some [(0, .int .i64 a), (1, .slice p n k1)]) (k : R1 Tryz.prog K x N ops F (i + 1) ((d, .agg #[.int .i64 a, .slice p n k1]) :: E) h) : R2 Tryz.prog K x N ops F i ⟨some d, .build 37 ps, ty, pos, af, g⟩ E h := zey hN hg hk hps (fill_en a p n k1) k
theorem zju {a : Int} {p q : Option Addr} {n k1 m j r : Nat} (hN : Nat.blt d N = true) (hg : gval ops E g = some true) (hk : opsOK Tryz.prog ⟨some d, .build 87 ps, ty, pos, af, g⟩ = true)
    (hps : E.parts ps.toList = some [(0, .agg #[.int .i64 a, .slice p n k1, .slice q m j]), (3, .map (some r))]) (k : R1 Tryz.prog K x N ops F (i + 1) ((d, .agg #[.int .i64 a, .slice p n k1, .slice q m j, .slice none 0 0, .slice none 0 0, .map (some r)]) :: E) h) : R2 Tryz.prog K x N ops F i ⟨some d, .build 87 ps, ty, pos, af, g⟩ E h := zey hN hg hk hps (fill_st a p q n k1 m j r) k
theorem zdk  (hN : Nat.blt d N = true) (hg : gval ops E g = some true) (hk : opsOK Tryz.prog ⟨some d, .build 177 ps, ty, pos, af, g⟩ = true)
    (hps : E.parts ps.toList = some [(0, .func (.func 131) #[] #[]), (1, .func (.func 132) #[] #[]), (2, .func (.func 133) #[] #[])]) (k : R1 Tryz.prog K x N ops F (i + 1) ((d, .agg #[.func (.func 131) #[] #[], .func (.func 132) #[] #[], .func (.func 133) #[] #[]]) :: E) h) : R2 Tryz.prog K x N ops F i ⟨some d, .build 177 ps, ty, pos, af, g⟩ E h := zey hN hg hk hps (fill_fn) k
theorem M_bs_i3 {a b c : Int} (hN : Nat.blt d N = true) (hg : gval ops E g = some true) (hk : opsOK Tryz.prog ⟨some d, .buildSlice 30 3 ps, ty, pos, af, g⟩ = true)
    (hps : E.parts ps.toList = some [(0, .int .i64 a), (1, .int .i64 b), (2, .int .i64 c)]) (k : S1 Tryz.prog K x N ops F (i + 1) ((d, .slice (some ⟨h.n, 0, none⟩) 3 3) :: E) (h.push (.cells (ints [a, b, c]) 3 true)) Hs L ((i, h.n, .cells (ints [a, b, c]) 3 true) :: nw)) : S2 Tryz.prog K x N ops F i ⟨some d, .buildSlice 30 3 ps, ty, pos, af, g⟩ E h Hs L nw := M_bs hN hg hk hps (bs_i3 h _ _ _) k
theorem P_bs_i4 {a b c e : Int} (hN : Nat.blt d N = true) (hg : gval ops E g = some true) (hk : opsOK Tryz.prog ⟨some d, .buildSlice 30 4 ps, ty, pos, af, g⟩ = true)
    (hps : E.parts ps.toList = some [(0, .int .i64 a), (1, .int .i64 b), (2, .int .i64 c), (3, .int .i64 e)]) (k : R1 Tryz.prog K x N ops F (i + 1) ((d, .slice (some ⟨h.n, 0, none⟩) 4 4) :: E) (h.push (.cells (ints [a, b, c, e]) 3 true))) : R2 Tryz.prog K x N ops F i ⟨some d, .buildSlice 30 4 ps, ty, pos, af, g⟩ E h := P_bs hN hg hk hps (bs_i4 h _ _ _ _) k
theorem P_bs_s1 {a b : Int} (hN : Nat.blt d N = true) (hg : gval ops E g = some true) (hk : opsOK Tryz.prog ⟨some d, .buildSlice 143 1 ps, ty, pos, af, g⟩ = true)
    (hps : E.parts ps.toList = some [(0, .agg #[.int .i64 a, .int .i64 b])]) (k : R1 Tryz.prog K x N ops F (i + 1) ((d, .slice (some ⟨h.n, 0, none⟩) 1 1) :: E) (h.push (.cells (spanCells [(a, b)]) 140 true))) : R2 Tryz.prog K x N ops F i ⟨some d, .buildSlice 143 1 ps, ty, pos, af, g⟩ E h := P_bs hN hg hk hps (bs_s1 h _ _) k
theorem zlt {a b c e a' b' : Int} (hN : Nat.blt d N = true) (hg : gval ops E g = some true) (hk : opsOK Tryz.prog ⟨some d, .buildSlice 143 3 ps, ty, pos, af, g⟩ = true)
    (hps : E.parts ps.toList = some [(0, .agg #[.int .i64 a, .int .i64 b]), (1, .agg #[.int .i64 c, .int .i64 e]), (2, .agg #[.int .i64 a', .int .i64 b'])]) (k : S1 Tryz.prog K x N ops F (i + 1) ((d, .slice (some ⟨h.n, 0, none⟩) 3 3) :: E) (h.push (.cells (spanCells [(a, b), (c, e), (a', b')]) 140 true)) Hs L ((i, h.n, .cells (spanCells [(a, b), (c, e), (a', b')]) 140 true) :: nw)) : S2 Tryz.prog K x N ops F i ⟨some d, .buildSlice 143 3 ps, ty, pos, af, g⟩ E h Hs L nw := M_bs hN hg hk hps (bs_s3 h _ _ _ _ _ _) k
theorem zls {a b c e a' b' c' e' : Int} (hN : Nat.blt d N = true) (hg : gval ops E g = some true) (hk : opsOK Tryz.prog ⟨some d, .buildSlice 143 4 ps, ty, pos, af, g⟩ = true)
    (hps : E.parts ps.toList = some [(0, .agg #[.int .i64 a, .int .i64 b]), (1, .agg #[.int .i64 c, .int .i64 e]), (2, .agg #[.int .i64 a', .int .i64 b']), (3, .agg #[.int .i64 c', .int .i64 e'])]) (k : S1 Tryz.prog K x N ops F (i + 1) ((d, .slice (some ⟨h.n, 0, none⟩) 4 4) :: E) (h.push (.cells (spanCells [(a, b), (c, e), (a', b'), (c', e')]) 140 true)) Hs L ((i, h.n, .cells (spanCells [(a, b), (c, e), (a', b'), (c', e')]) 140 true) :: nw)) : S2 Tryz.prog K x N ops F i ⟨some d, .buildSlice 143 4 ps, ty, pos, af, g⟩ E h Hs L nw := M_bs hN hg hk hps (bs_s4 h _ _ _ _ _ _ _ _) k
end
/-! Rows and entries. -/
structure Row where
  q : Option Addr
  k : Nat
  s : List Int
def row0 : Row := ⟨none, 0, []⟩
def rowV (r : Row) : Value := .slice r.q r.s.length r.k
def rowCells (l : List Row) : List Value := l.map rowV
structure Cop where
  par : Int
  r : Row
def cop0 : Cop := ⟨0, row0⟩
def copCells : List Cop → List Value
  | [] => []
  | c :: l => .int .i64 c.par :: rowV c.r :: copCells l
theorem zcO (l : List Row) : (rowCells l).length = l.length := by simp [rowCells]
theorem rows_get {l : List Row} {k : Nat} (h : k < l.length) : (rowCells l)[k]? = some (.slice (l.getD k row0).q (l.getD k row0).s.length (l.getD k row0).k) := by
  simp [rowCells, h, rowV]
theorem zat (l : List Cop) : (copCells l).length = 2 * l.length := by
  induction l with
  | nil => rfl
  | cons p l ih => simp only [copCells, List.length_cons, ih]; omega
theorem zk1 (l : List Cop) : ∀ k, (copCells l).drop (k * 2) = copCells (l.drop k) := by
  induction l with
  | nil => intro k; simp [copCells]
  | cons p l ih =>
    intro k
    cases k with
    | zero => simp
    | succ k =>
      rw [show (k + 1) * 2 = k * 2 + 1 + 1 from by omega]
      simp only [copCells, List.drop_succ_cons]
      exact ih k
theorem zav {l : List Cop} {k : Nat} (h : k < l.length) : ((copCells l).drop (k * 2)).take 2 = [.int .i64 (l.getD k cop0).par, .slice (l.getD k cop0).r.q (l.getD k cop0).r.s.length (l.getD k cop0).r.k] := by
  rw [zk1, List.drop_eq_getElem_cons h]
  simp [copCells, h, rowV]
theorem cops_par {l : List Cop} {k : Nat} (h : k < l.length) : (copCells l)[k * 2]? = some (.int .i64 (l.getD k cop0).par) := by
  have := zav h
  have e : (((copCells l).drop (k * 2)).take 2)[0]? = some (.int .i64 (l.getD k cop0).par) := by rw [this]; rfl
  simpa [List.getElem?_take, List.getElem?_drop] using e
theorem zdI {l : List Cop} {k : Nat} (h : k < l.length) : (copCells l)[k * 2 + 1]? = some (.slice (l.getD k cop0).r.q (l.getD k cop0).r.s.length (l.getD k cop0).r.k) := by
  have := zav h
  have e : (((copCells l).drop (k * 2)).take 2)[1]? = some (.slice (l.getD k cop0).r.q (l.getD k cop0).r.s.length (l.getD k cop0).r.k) := by rw [this]; rfl
  simpa [List.getElem?_take, List.getElem?_drop] using e
structure RowIn (r : Row) (h : Heap) : Prop where
  rd : Rd h r.q (ints r.s)
  b : ∀ a, r.q = some a → a.block < h.n
  c : r.s.length ≤ 1000000 → r.s.length ≤ r.k
theorem RowIn.ext {r : Row} {h h1 : Heap} (x : RowIn r h) (e : Ext h h1) : RowIn r h1 := ⟨x.rd.ext e, fun a q => Nat.lt_of_lt_of_le (x.b a q) e.n, x.c⟩
/-! Parts of a row of numbers. -/
theorem ints_seg (l : List Int) (o n : Nat) (h : o + n ≤ l.length) : ((ints l).drop o).take n = (List.range n).map fun j => Value.int .i64 (l.getD (o + j) 0) := by
  refine List.ext_getElem (by simp [zag]; omega) fun i q1 q2 => ?_
  have hi : i < n := by simpa using q2
  simp [ints, List.getElem_take, List.getElem_drop, List.getD_eq_getElem?_getD, show o + i < l.length from by omega]
theorem zbm {l : List Int} {o : Nat} (h : o + 3 ≤ l.length) : ((ints l).drop o).take 3 = [.int .i64 (l.getD o 0), .int .i64 (l.getD (o + 1) 0), .int .i64 (l.getD (o + 2) 0)] := ints_seg l o 3 h
theorem zdW (n : Int) (p : Option Addr) (m c : Nat) : same 20 (.agg [Value.int .i64 n, .slice p m c].toArray) (.agg [Value.int .i64 n, .slice p m c].toArray) = true := by simp [same, same.all2]
theorem zbZ {h0 h : Heap} {n : Int} {p : Option Addr} {m c : Nat} (hp : ∀ a, p = some a → a.block < h0.n) (e : Ext h0 h) : within 20 h.n (.agg [Value.int .i64 n, .slice p m c].toArray) = true := by
  have := e.n
  cases p with
  | none => simp [within]
  | some a => have := hp a rfl; simp [within]; omega
theorem zbL (n : Int) (p q : Option Addr) (m c m' c' : Nat) : same 20 (.agg #[Value.int .i64 n, .slice p m c, .slice q m' c']) (.agg #[Value.int .i64 n, .slice p m c, .slice q m' c']) = true := by simp [same, same.all2]
theorem za7 {h0 h : Heap} {n : Int} {p q : Option Addr} {m c m' c' : Nat} (hp : ∀ a, p = some a → a.block < h0.n) (hq : ∀ a, q = some a → a.block < h0.n) (e : Ext h0 h) : within 20 h.n (.agg #[Value.int .i64 n, .slice p m c, .slice q m' c']) = true := by
  have := e.n
  cases p with
  | none => cases q with
    | none => simp [within]
    | some a => have := hq a rfl; simp [within]; omega
  | some b => have := hp b rfl; cases q with
    | none => simp [within]; omega
    | some a => have := hq a rfl; simp [within]; omega
end Go.AX.Sa
