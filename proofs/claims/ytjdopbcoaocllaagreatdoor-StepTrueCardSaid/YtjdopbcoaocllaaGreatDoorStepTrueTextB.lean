/- The law StepTrue at the reading: what the functions that it calls answer (2). -/
import Derived.Test.YtjdopbcoaocllaaGreatDoorStepTrueTextA
namespace Go.AX.Sa
open Go.Proofs
set_option maxRecDepth 100000
variable {K : Known}
theorem getD_set {l : List Int} {k j : Nat} {n : Int} (h : k < l.length) : (l.set k n).getD j 0 = if j = k then n else l.getD j 0 := by
 simp only [List.getD_eq_getElem?_getD, List.getElem?_set]
 by_cases hj : k = j
 ·subst hj; simp [h]
 ·rw [if_neg hj, if_neg (fun q => hj q.symm)]
theorem list_eq {a b : List Int} (hl : a.length = b.length) (h : ∀ j, j < a.length -> a.getD j 0 = b.getD j 0) : a = b := by
 apply List.ext_getElem hl
 intro j h1 h2
 have := h j h1
 simpa [List.getD_eq_getElem?_getD, h1, h2] using this
theorem clone_ok (hK : NoK K) {t : List Int} {q : Option Addr} {cap : Nat} {h : Heap} (hp : 0 < t.length) (hl : t.length <= 1000) (hr : Rd h q (ints t)) :
  CallW Tryz.prog K 103 #[.slice q t.length cap] h fun v h1 => Ext h h1 /\ ∃ b, v = .slice (some ⟨b, 0, none⟩) t.length unk /\ h1.get? b = some (.cells (ints t) 3 true) /\ h.n <= b := by
 obtain ⟨b, e, own, rfl, hg⟩ := hr.at (by rw [zar]; omega)
 refine body (N := 8) Tryz.func103 rfl (hK _ _ _ rfl) rfl rfl ?_
 (repeat' (first|apply zam|apply zac|(apply O_at;rfl)|(apply zai;rfl)|apply zak|(apply zaT;rfl)|apply zaG|apply zaL|apply zay|((first|apply zag|apply zad);rfl;rfl;rfl;rfl)|(apply P_nilF;rfl;rfl;rfl;rfl;rfl;exact zaB rfl)|(apply P_build0;rfl;rfl;rfl;rfl;exact zfd rfl)|(apply zdu;rfl;rfl;rfl;rfl;rfl;rfl;(apply app_full;rfl;rfl;exact zfd rfl;exact zaB rfl;(focus repeat' first|exact zaa|assumption|apply zab);(first|rfl|exact zar _);(first|decide|omega);(first|decide|omega);(first|rfl|exact ints_one _);(focus repeat' first|exact zaa|assumption|apply zab);(first|rfl|exact zar _);omega;omega))|fail))
 refine ⟨.inr rfl, _, rfl, ?_, (h.push (.cells [] 3 true)).n, ?_, ?_, ?_⟩
 ·(focus repeat' first | exact Ext.refl _ | assumption | apply Ext.push)
 ·simp [resV]
 ·exact zaa
 ·exact Nat.le_succ _
theorem zhC {s : List (Int × Int)} {t : List Int} (hV : Vals s) (hT : zcb s t) {j : Nat} (hj : j < s.length) : -10000 <= t.getD j 0 /\ t.getD j 0 <= 10000 := by
 have h1 := hV j hj
 have h2 := hT.2 j (by rw [hT.1]; exact hj)
 unfold ValP at h1
 omega
set_option maxHeartbeats 2000000 in
theorem zhp (hK : NoK K) {T : Tb} {l t : List Int} {b bt cap ct : Nat} {e et : TypeId} {own ownt : Bool} {h : Heap} (hP : TbP T) (hKp : zb9 T.s.length l) (hT : zcb T.s t) (hcap : l.length <= cap) (hll : l.length <= 1000)
  (hg : h.get? b = some (.cells (ints l) e own)) (hgt : h.get? bt = some (.cells (ints t) et ownt)) :
  CallW Tryz.prog K 65 #[ktV T (some ⟨b, 0, none⟩) l.length cap, .slice (some ⟨bt, 0, none⟩) t.length ct] h (IsL (figs l t T.r T.s.length) h) := by
 obtain ⟨q, kq, s, r, o⟩ := T
 dsimp only at hP hKp hT ⊢
 have htl := hT.1
 have hn := hP.1
 dsimp only at hn
 have hr := hP.2.2.1
 have hG := hKp.2.2.2
 have hl2 := hKp.1
 have h0 := hKp.2.1
 have h1 := hKp.2.2.1
 have hbd : ∀ j, j < s.length -> -10000 <= t.getD j 0 /\ t.getD j 0 <= 10000 := fun j hj => zhC hP.2.1 hT hj
 have hlk : ∀ i, i < l.length -> 0 <= l.getD i 0 /\ l.getD i 0 <= (s.length : Int) - 1 := fun i hi => by
  have a := zc2 hG (Nat.zero_le i) hi
  have c := zc2 hG (show i <= l.length - 1 by omega) (by omega)
  omega
 have hb0 := Heap.get_lt hg
 have hbt0 := Heap.get_lt hgt
 refine body (N := 48) Tryz.func65 rfl (hK _ _ _ rfl) rfl rfl ?_
 (repeat' (first|apply zam|apply zac|(apply O_at;rfl)|(apply zai;rfl)|apply zak|((first|apply zag|apply zad|apply zaM);rfl;rfl;rfl;rfl)|(apply zbk;rfl;rfl;rfl;rfl;exact zal rfl;rfl;rfl)|fail))
 apply zan; rfl; rfl; rfl; rfl; rfl; rfl
 exact clone_ok hK (by omega) (by omega) (.inr ⟨_, _, _, rfl, zab hgt⟩)
 rintro _ h2 ⟨x2, bc, rfl, gc, hbc⟩
 have hk2 : h2.get? h.n = some (.cells [.slice q s.length kq, .int .i64 r, .int .i64 o, .slice (some ⟨b, 0, none⟩) l.length cap] 82 true) := x2.get zaa
 have hg2 := x2.get (zab hg)
 have hgt2 := x2.get (zab hgt)
 (repeat' (first|apply zam|apply zac|(apply O_at;rfl)|(apply zai;rfl)|apply zak|((first|apply zag|apply zad|apply zaM);rfl;rfl;rfl;rfl)|(apply zaJ;rfl;rfl;rfl;rfl;exact zbc rfl;(focus repeat' first|exact zaa|assumption|apply zab|(apply Ext.get;assumption)|(apply ExtBut.get;assumption;(first|assumption|omega|(simp only [Heap.push];omega))));(first|exact Nat.le_of_ble_eq_true rfl|(simp;done)|(simp;omega)|(rw [zaj];omega));(first|exact zaI (by omega)|rfl))|fail))
 apply zan; rfl; rfl; rfl; rfl; rfl; rfl
 exact zl1 (T := ⟨q, kq, s, r, o⟩) hK ⟨hl2, hll⟩ hcap hg2
 rintro _ h3 ⟨pp, cp, rfl, rp, fp, x3⟩
 have hpl := zhS l (l.length - 1)
 obtain ⟨bp, ep, ownp, rfl, gp⟩ := rp.at (by rw [zaj]; omega)
 have gc3 := x3.get gc
 have hk3 := x3.get hk2
 have hgt3 := x3.get hgt2
 have hbp := Heap.get_lt gp
 have hn3 := Heap.get_lt gc3
 have hn2 := Heap.get_lt gc
 have fp' := fp _ rfl
 dsimp only at fp'
 simp only [Heap.push] at hbc
 rw [hpl]
 (repeat' (first|(apply O_at;rfl)|(apply zai;rfl)|apply zak|apply zao|((first|apply zag|apply zad|apply zaM);rfl;rfl;rfl;rfl)|(apply zbj;rfl;rfl;rfl;rfl;rfl;rfl;exact zaB rfl)|fail))
 refine zbd (fun a : Nat × List Int => [(14, .int .i64 (a.1 : Nat)), (13, .int .i64 ((l.length - 1 : Nat) : Int)), (12, .slice (some ⟨bp, 0, none⟩) (l.length - 1) cp), (5, .slice (some ⟨bc, 0, none⟩) t.length unk), (2, .pointer (some ⟨h.n, 0, none⟩)), (1, .slice (some ⟨bt, 0, none⟩) t.length ct)])
  (fun a h' => a.1 <= l.length - 1 /\ ExtBut bc h3 h' /\ h'.get? bc = some (.cells (ints a.2) 3 true) /\ a.2.length = t.length /\ ∀ j, j < t.length -> a.2.getD j 0 = if ((j : Nat) : Int) < l.getD a.1 0 then figv l t r j else t.getD j 0) (fun a => l.length - 1 - a.1) ?_ (0, t) ?_ ?_
 ·rintro ⟨i, F⟩ h' ⟨hi, hx, hb, hF, hj⟩ ih
  dsimp only at hi hb hF hj ih ⊢
  have hne : bp ≠ bc := by omega
  have hne2 : h.n ≠ bc := by omega
  have hne3 : bt ≠ bc := by omega
  have gp' := hx.get hne gp
  have hk' := hx.get hne2 hk3
  have hgt' := hx.get hne3 hgt3
  by_cases hlt : i < l.length - 1
  ·have hpi : i < (prs l (l.length - 1)).length := by omega
   have hpg := zoL (l := l) (k := l.length - 1) hlt
   have a1 := hlk i (by omega)
   have a2 := hlk (i + 1) (by omega)
   have a3 := hG i (by omega)
   have e1 : ((prs l (l.length - 1)).getD i (0, 0)).1 = l.getD i 0 := by rw [hpg]
   have e2 : ((prs l (l.length - 1)).getD i (0, 0)).2 = l.getD (i + 1) 0 := by rw [hpg]
   obtain ⟨A, hA⟩ : ∃ A : Nat, l.getD i 0 = (A : Nat) := ⟨(l.getD i 0).toNat, by omega⟩
   obtain ⟨C, hC⟩ : ∃ C : Nat, l.getD (i + 1) 0 = (C : Nat) := ⟨(l.getD (i + 1) 0).toNat, by omega⟩
   have hn' := hx.n
   (repeat' (first|apply zam|apply zac|(apply O_at;rfl)|(apply zai;rfl)|apply zak|(apply za0;rfl)|apply zao|apply zaG|((first|apply zag|apply zad|apply zaM);rfl;rfl;rfl;rfl)|((first|apply P_fa|apply M_fa);rfl;rfl;rfl;rfl;exact zbf rfl;(first|exact Nat.zero_add _|exact Nat.add_zero _|rfl))|(apply za1;rfl;rfl;rfl;rfl;rfl;omega)|(apply zbH;rfl;rfl;rfl;rfl;rfl;(unfold fit;omega))|(apply zdk;rfl;rfl;rfl;rfl;rfl;exact zaB rfl;exact zal rfl;(first|assumption|rfl|exact (Int.toNat_of_nonneg (by omega)).symm);omega)|(apply zaq;rfl;rfl;rfl;rfl;exact zaH rfl;(focus repeat' first|exact zaa|assumption|apply zab|(apply Ext.get;assumption)|(apply ExtBut.get;assumption;(first|assumption|omega|(simp only [Heap.push];omega))));(first|exact zaw (by omega)|rfl|assumption))|(apply zaJ;rfl;rfl;rfl;rfl;exact zbc rfl;(focus repeat' first|exact zaa|assumption|apply zab|(apply Ext.get;assumption)|(apply ExtBut.get;assumption;(first|assumption|omega|(simp only [Heap.push];omega))));(first|exact Nat.le_of_ble_eq_true rfl|(simp;done)|(simp;omega)|(rw [zaj];omega));(first|exact zaI (by omega)|rfl))|(apply zaQ;rfl;rfl;rfl;rfl;exact zal rfl;rfl;rfl;rfl)|(apply zbl;rfl;rfl;rfl;rfl;exact zal rfl;rfl;rfl)|fail))
   simp only [e1, e2, hA, hC]
   refine zbd (fun a : Nat × List Int => [(8, .int .i64 (a.1 : Nat)), (14, .int .i64 (i : Nat)), (13, .int .i64 ((l.length - 1 : Nat) : Int)), (12, .slice (some ⟨bp, 0, none⟩) (l.length - 1) cp), (7, .pointer (some ⟨h'.n, 0, none⟩)), (5, .slice (some ⟨bc, 0, none⟩) t.length unk), (2, .pointer (some ⟨h.n, 0, none⟩)), (1, .slice (some ⟨bt, 0, none⟩) t.length ct)])
    (fun a g => A + 1 <= a.1 /\ a.1 <= C /\ ExtBut bc (h'.push (.cells [.int .i64 (A : Nat), .int .i64 (C : Nat)] 123 true)) g /\ g.get? bc = some (.cells (ints a.2) 3 true) /\ a.2.length = t.length /\ ∀ j, j < t.length -> a.2.getD j 0 = if j < a.1 then figv l t r j else t.getD j 0) (fun a => C - a.1) ?_ (A + 1, F) ?_ ?_
   ·rintro ⟨row, G⟩ g ⟨hr1, hr2, hxg, hbg, hGl, hGj⟩ ih2
    dsimp only at hr1 hr2 hbg hGl hGj ih2 ⊢
    have q1 : g.get? h'.n = some (.cells [.int .i64 (A : Nat), .int .i64 (C : Nat)] 123 true) := hxg.get (by omega) zaa
    have q2 := hxg.get hne2 (zab hk')
    have q3 := hxg.get hne3 (zab hgt')
    by_cases hrow : row < C
    ·have hm := zc5 (l := l) (t := t) (r := r) (i := i) (j := row) hG (by omega) (by omega) (by omega)
     rw [hA, hC, Int.toNat_natCast, Int.toNat_natCast] at hm
     have hA1 := hbd A (by omega)
     have hC1 := hbd C (by omega)
     have hlr : row < G.length := by omega
     (repeat' (first|apply zam|apply zac|(apply O_at;rfl)|(apply N_at;rfl)|(apply zai;rfl)|apply zak|(apply za0;rfl)|(apply zbU;exact zaY (by decide +kernel))|apply zao|apply zaG|(apply zcY;rfl;refine .inr ?_;(focus repeat' first|exact trivial|exact Keeps.nil _ _|apply And.intro|rfl|(apply Keeps.cons;iterate 2 (focus repeat' first|exact zaa|assumption|apply zab|(apply Ext.get;assumption)|(apply ExtBut.get;assumption;(first|assumption|omega|(simp only [Heap.push];omega)))))))|apply zaF|((first|apply zag|apply zad|apply zaM);rfl;rfl;rfl;rfl)|((first|apply P_fa|apply M_fa);rfl;rfl;rfl;rfl;exact zbf rfl;(first|exact Nat.zero_add _|exact Nat.add_zero _|rfl))|(apply za1;rfl;rfl;rfl;rfl;rfl;omega)|(apply zbH;rfl;rfl;rfl;rfl;rfl;(unfold fit;omega))|(apply zaq;rfl;rfl;rfl;rfl;exact zaH rfl;(focus repeat' first|exact zaa|assumption|apply zab|(apply Ext.get;assumption)|(apply ExtBut.get;assumption;(first|assumption|omega|(simp only [Heap.push];omega))));(first|exact zaw (by omega)|rfl|assumption))|(apply zcD;rfl;rfl;rfl;rfl;rfl;exact zaB rfl;exact zal rfl;(first|assumption|rfl|exact (Int.toNat_of_nonneg (by omega)).symm);omega)|((first|((apply zeu;rfl;rfl;rfl;rfl;exact zaH rfl);(focus repeat' first|exact zaa|assumption|apply zab|(apply Ext.get;assumption)|(apply ExtBut.get;assumption;(first|assumption|omega|(simp only [Heap.push];omega))));(first|exact zaw (by omega)|rfl|assumption))|((apply ziA;rfl;rfl;rfl;rfl;exact zbc rfl);(focus repeat' first|exact zaa|assumption|apply zab|(apply Ext.get;assumption)|(apply ExtBut.get;assumption;(first|assumption|omega|(simp only [Heap.push];omega))));(first|exact Nat.le_of_ble_eq_true rfl|(simp;done)|(simp;omega)|(rw [zaj];omega));(first|exact zaI (by omega)|rfl)));(first|assumption|exact zbh _ _|exact zdD _ _|rfl|(focus simp [same,same.all2];done));(first|rfl|assumption|exact hwv _|(simp [within];omega)))|(apply zmK;rfl;rfl;rfl;rfl;(focus repeat' first|exact zaa|assumption|apply zab|(apply Ext.get;assumption)|(apply ExtBut.get;assumption;(first|assumption|omega|(simp only [Heap.push];omega))));exact zal rfl;(first|omega|(focus simp;done));rfl;(intro _ _ _))|((first|(apply zan;rfl;rfl;rfl;rfl;rfl;rfl)|(apply zck;rfl;rfl;rfl;rfl;rfl;rfl;rfl));exact zfe hK hA1 hC1 (by omega) (by omega) (by omega) (by omega) (by omega) hr;(rintro _ _ ⟨rfl,_⟩))|fail))
     rename_i g1 xg1 g2 qg2 xg2
     rw [<- hm] at qg2
     refine zaS (ih2 (row + 1, G.set row (figv l t r row)) _ (by dsimp only; omega) ⟨by dsimp only; omega, by dsimp only; omega, (hxg.trans (Ext.but xg1 _)).trans xg2, qg2, by simpa using hGl, fun j hj' => ?_⟩) (by (focus repeat' first | rfl | exact trivial | apply And.intro))
     dsimp only
     rw [getD_set hlr]
     by_cases w : j = row
     ·subst w; rw [if_pos rfl, if_pos (by omega)]
     ·rw [if_neg w, hGj j hj']
      by_cases w2 : j < row
      ·rw [if_pos w2, if_pos (by omega)]
      ·rw [if_neg w2, if_neg (by omega)]
    ·have : row = C := by omega
     subst this
     (repeat' (first|apply zam|apply zac|(apply O_at;rfl)|(apply zai;rfl)|apply zak|(apply zaT;rfl)|apply zbw|apply zbA|apply za4|apply za5|apply zaF|((first|apply zag|apply zad|apply zaM);rfl;rfl;rfl;rfl)|((first|apply P_fa|apply M_fa);rfl;rfl;rfl;rfl;exact zbf rfl;(first|exact Nat.zero_add _|exact Nat.add_zero _|rfl))|(apply zbG;rfl;rfl;rfl;rfl;rfl;omega)|(apply zbH;rfl;rfl;rfl;rfl;rfl;(unfold fit;omega))|(apply zaq;rfl;rfl;rfl;rfl;exact zaH rfl;(focus repeat' first|exact zaa|assumption|apply zab|(apply Ext.get;assumption)|(apply ExtBut.get;assumption;(first|assumption|omega|(simp only [Heap.push];omega))));(first|exact zaw (by omega)|rfl|assumption))|fail))
     refine zaS (ih (i + 1, G) _ (by dsimp only; omega) ⟨by dsimp only; omega, (hx.trans (Ext.but (Ext.push (Ext.refl _) _) _)).trans hxg, hbg, hGl, fun j hj' => ?_⟩) (by (focus repeat' first | rfl | exact trivial | apply And.intro))
     dsimp only
     rw [hGj j hj', hC]
     by_cases w : j < row
     ·rw [if_pos w, if_pos (by omega)]
     ·rw [if_neg w, if_neg (by omega)]
   ·refine ⟨Nat.le_refl _, by omega, ExtBut.refl _ _, zab hb, hF, fun j hj' => ?_⟩
    dsimp only
    rw [hj j hj', hA]
    by_cases w : j < A
    ·rw [if_pos (by omega), if_pos (by omega)]
    ·by_cases w2 : j = A
     ·subst w2
      rw [if_neg (by omega), if_pos (by omega), zcS hG (by omega) hA]
     ·rw [if_neg (by omega), if_neg (by omega)]
   ·(focus repeat' first | rfl | exact trivial | apply And.intro)
  ·have : i = l.length - 1 := by omega
   subst this
   (repeat' (first|apply zam|apply zac|(apply O_at;rfl)|(apply zai;rfl)|apply zak|(apply zaT;rfl)|apply zbw|apply zaL|apply zbA|apply za4|apply za5|apply zay|((first|apply zag|apply zad|apply zaM);rfl;rfl;rfl;rfl)|(apply zbG;rfl;rfl;rfl;rfl;rfl;omega)|fail))
   have hfin : F = figs l t r s.length := by
    refine list_eq (by rw [hF, zd3, htl]) fun j hj' => ?_
    rw [hj j (by omega), zds (by omega)]
    by_cases w : ((j : Nat) : Int) < l.getD (l.length - 1) 0
    ·rw [if_pos w]
    ·rw [if_neg w, zcS hG (show l.length - 1 < l.length by omega) (by omega)]
   refine ⟨.inr rfl, _, rfl, some ⟨bc, 0, none⟩, unk, ?_, .inr ⟨_, _, _, rfl, hfin ▸ hb⟩, ?_⟩
   ·rw [zd3, <- htl]; rfl
   ·exact Ext.ofBut (((Ext.push (Ext.refl h) _).trans x2).trans x3) hx (by omega)
 ·exact ⟨Nat.zero_le _, ExtBut.refl _ _, gc3, rfl, fun j hj => by dsimp only; rw [h0, if_neg (by omega)]⟩
 ·(focus repeat' first | rfl | exact trivial | apply And.intro)
end Go.AX.Sa

namespace Go.AX.Sa
open Go.Proofs
set_option maxRecDepth 100000
variable {K : Known}
end Go.AX.Sa

namespace Go.AX.Sa
open Go.Proofs
set_option maxRecDepth 100000
variable {K : Known}
def zgQ (s : List (Int × Int)) (l t : List Int) (r o : Int) : Prop := ∀ j, j < s.length -> t.getD j 0 - o <= figv l t r j /\ figv l t r j <= t.getD j 0 + o
theorem mixv_bd {a c j x y : Int} (hx : -10000 <= x /\ x <= 10000) (hy : -10000 <= y /\ y <= 10000) (h1 : a <= j) (h2 : j <= c) (h3 : c - a <= 20) : -400000 <= mixv a c j x y /\ mixv a c j x y <= 400000 := by
 have m1 := zl5 hx (d := c - j) (by omega)
 have m2 := zl5 hy (d := j - a) (by omega)
 unfold mixv
 omega
theorem figv_bd {T : Tb} {l t : List Int} (hP : TbP T) (hKp : zb9 T.s.length l) (hT : zcb T.s t) {j : Nat} (hj : j < T.s.length) : -1000000 <= figv l t T.r j /\ figv l t T.r j <= 1000000 := by
 have hG := hKp.2.2.2
 have hn := hP.1
 have hbd : ∀ j, j < T.s.length -> -10000 <= t.getD j 0 /\ t.getD j 0 <= 10000 := fun j hj => zhC hP.2.1 hT hj
 have hlk : ∀ i, i < l.length -> 0 <= l.getD i 0 /\ l.getD i 0 <= (T.s.length : Int) - 1 := fun i hi => by
  have a := zc2 hG (Nat.zero_le i) hi
  have c := zc2 hG (show i <= l.length - 1 by omega) (by omega)
  have h0 := hKp.2.1
  have h1 := hKp.2.2.1
  omega
 rcases zlU hKp hj with ⟨i, hi, hij⟩ | ⟨i, hi, h1, h2⟩
 ·rw [zcS hG hi hij]
  have := hbd j hj
  omega
 ·have a1 := hlk i (by omega)
  have a2 := hlk (i + 1) hi
  rw [zc5 hG hi h1 h2]
  have m := mixv_bd (j := (j : Nat)) (hbd (l.getD i 0).toNat (by omega)) (hbd (l.getD (i + 1) 0).toNat (by omega)) (Int.le_of_lt h1) (Int.le_of_lt h2) (by omega)
  have a3 := ziY T.r (mixv (l.getD i 0) (l.getD (i + 1) 0) j (t.getD (l.getD i 0).toNat 0) (t.getD (l.getD (i + 1) 0).toNat 0)) (l.getD (i + 1) 0 - l.getD i 0)
  obtain ⟨d1, d2⟩ := zig (n := mixv (l.getD i 0) (l.getD (i + 1) 0) j (t.getD (l.getD i 0).toNat 0) (t.getD (l.getD (i + 1) 0).toNat 0)) (u := l.getD (i + 1) 0 - l.getD i 0) (by omega)
  omega
end Go.AX.Sa

namespace Go.AX.Sa
open Go.Proofs
set_option maxRecDepth 100000
variable {K : Known}
theorem fill_st (q p : Option Addr) (n k m j : Nat) (r o : Int) : zd9 Tryz.prog 82 [(0, .agg #[.slice q n k, .int .i64 r, .int .i64 o]), (1, .slice p m j)] = some (.agg #[.slice q n k, .int .i64 r, .int .i64 o, .slice p m j]) := by kernel_rfl
section
variable {x : Ctx} {N : Nat} {E : Env} {h : Heap} {ops : Array Oper} {F : Ex -> Env -> Heap -> Prop} {i : Nat}
variable {d : Nat} {ty : TypeId} {pos : String} {af : Array Edge} {g : Option (Nat × Bool)} {ps : Array (Nat × Operand)}
theorem zdl {q p : Option Addr} {n k1 m j : Nat} {r o : Int} (hN : Nat.blt d N = true) (hg : gval ops E g = some true) (hk : zah Tryz.prog ⟨some d, .build 82 ps, ty, pos, af, g⟩ = true)
  (hps : E.parts ps.toList = some [(0, .agg #[.slice q n k1, .int .i64 r, .int .i64 o]), (1, .slice p m j)]) (k : R1 Tryz.prog K x N ops F (i + 1) ((d, .agg #[.slice q n k1, .int .i64 r, .int .i64 o, .slice p m j]) :: E) h) : R2 Tryz.prog K x N ops F i ⟨some d, .build 82 ps, ty, pos, af, g⟩ E h := zfh hN hg hk hps (fill_st q p n k1 m j r o) k
end
theorem zhf (hK : NoK K) {T : Tb} {l t : List Int} {p pt : Option Addr} {cap ct : Nat} {h : Heap} (hP : TbP T) (hKp : zb9 T.s.length l) (hT : zcb T.s t) (hcap : l.length <= cap) (hll : l.length <= 1000) (hTb : TbAt T h) (hr : Rd h p (ints l)) (hrt : Rd h pt (ints t)) (hpb : ∀ a, p = some a -> a.block < h.n) :
  CallW Tryz.prog K 18 #[tbV T, .slice p l.length cap, .slice pt t.length ct] h (OkL (figs l t T.r T.s.length) h) := by
 have hn := hP.1
 have htl := hT.1
 have hl2 := hKp.1
 obtain ⟨b, e, own, rfl, hg⟩ := hr.at (by rw [zar]; omega)
 obtain ⟨bt, et, ownt, rfl, hgt⟩ := hrt.at (by rw [zar]; omega)
 have iK : ∀ {h' : Heap}, Ext h h' -> CallW Tryz.prog K 63 #[ktV T (some ⟨b, 0, none⟩) l.length cap] h' (IsV (.bool true) h') := fun x => yes (zgo hK (by omega) hll (hTb.ext x) (hr.ext x) (fun a w => Nat.lt_of_lt_of_le (hpb a w) x.n)) ⟨hP, hKp⟩
 have iW : ∀ {h' : Heap}, Ext h h' -> CallW Tryz.prog K 64 #[.slice (some ⟨bt, 0, none⟩) t.length ct, .slice T.q T.s.length T.k] h' (IsV (.bool true) h') := fun x => yes (zjV hK (by omega) (hTb.rd.ext x) (by omega) (hrt.ext x)) hT
 have iF : ∀ {h' : Heap}, Ext h h' -> CallW Tryz.prog K 65 #[ktV T (some ⟨b, 0, none⟩) l.length cap, .slice (some ⟨bt, 0, none⟩) t.length ct] h' (IsL (figs l t T.r T.s.length) h') := fun x => zhp hK hP hKp hT hcap hll (x.get hg) (x.get hgt)
 obtain ⟨q, kq, s, r, o⟩ := T
 dsimp only [tbV, ktV] at iK iW iF ⊢
 refine body (N := 25) Tryz.func18 rfl (hK _ _ _ rfl) rfl rfl ?_
 (repeat' (first|apply zam|apply zac|(apply O_at;rfl)|(apply zai;rfl)|apply zak|(apply zaT;rfl)|apply zaG|apply zaL|apply zay|((first|apply zag|apply zad|apply zcd);rfl;rfl;rfl;rfl)|(apply P_fa;rfl;rfl;rfl;rfl;exact zbf rfl;(first|exact Nat.zero_add _|exact Nat.add_zero _|rfl))|(apply zba;rfl;rfl;rfl;rfl;rfl;rfl)|(apply zaq;rfl;rfl;rfl;rfl;exact zaH rfl;(focus repeat' first|exact zaa|assumption|apply zab|(apply Ext.get;assumption));(first|rfl|assumption))|(apply zaJ;rfl;rfl;rfl;rfl;exact zbc rfl;(focus repeat' first|exact zaa|assumption|apply zab|(apply Ext.get;assumption));(first|exact Nat.le_of_ble_eq_true rfl|(simp;done)|(simp;omega)|(rw [zar];omega));rfl)|(apply zaQ;rfl;rfl;rfl;rfl;exact zal rfl;rfl;rfl;rfl)|(apply zdl;rfl;rfl;rfl;rfl)|(apply zbk;rfl;rfl;rfl;rfl;exact zal rfl;rfl;rfl)|(apply zbl;rfl;rfl;rfl;rfl;exact zal rfl;rfl;rfl)|(apply zan;rfl;rfl;rfl;rfl;rfl;rfl;exact iK (by repeat' first|exact Ext.refl _|assumption|apply Ext.push|refine Ext.trans ?_ (by assumption));(rintro _ _ ⟨rfl,_⟩))|(apply zan;rfl;rfl;rfl;rfl;rfl;rfl;exact iW (by repeat' first|exact Ext.refl _|assumption|apply Ext.push|refine Ext.trans ?_ (by assumption));(rintro _ _ ⟨rfl,_⟩))|(apply zan;rfl;rfl;rfl;rfl;rfl;rfl;exact iF (by repeat' first|exact Ext.refl _|assumption|apply Ext.push|refine Ext.trans ?_ (by assumption));(rintro _ _ ⟨_,_,rfl,_,_⟩))|fail))
 rename_i rd1 y1
 exact ⟨.inr rfl, _, rfl, _, _, rfl, rd1, by repeat' first|exact Ext.refl _|assumption|apply Ext.push|refine Ext.trans ?_ (by assumption)⟩
end Go.AX.Sa

namespace Go.AX.Sa
open Go.Proofs
set_option maxRecDepth 100000
variable {K : Known}
theorem figs_at {T : Tb} {l t : List Int} (hP : TbP T) (hKp : zb9 T.s.length l) (hT : zcb T.s t) {j : Nat} (hj : j < T.s.length) : -1000000 <= (figs l t T.r T.s.length).getD j 0 /\ (figs l t T.r T.s.length).getD j 0 <= 1000000 := by
 rw [zds hj]; exact figv_bd hP hKp hT hj
theorem right_ok (hK : NoK K) {T : Tb} {l t : List Int} {p pt : Option Addr} {cap ct : Nat} {h : Heap} (hP : TbP T) (hKp : zb9 T.s.length l) (hT : zcb T.s t) (hcap : l.length <= cap) (hll : l.length <= 1000) (hTb : TbAt T h) (hr : Rd h p (ints l)) (hrt : Rd h pt (ints t)) (hpb : ∀ a, p = some a -> a.block < h.n) :
  CallW Tryz.prog K 19 #[tbV T, .slice p l.length cap, .slice pt t.length ct] h (fun v h1 => (v = .tuple #[.bool true, .int .i64 0] /\ zgQ T.s l t T.r T.o /\ Ext h h1) \/ (v = .tuple #[.bool false, .int .i64 0] /\ ¬ zgQ T.s l t T.r T.o /\ Ext h h1)) := by
 have iF : ∀ {h' : Heap}, Ext h h' -> CallW Tryz.prog K 18 #[tbV T, .slice p l.length cap, .slice pt t.length ct] h' (OkL (figs l t T.r T.s.length) h') := fun x => zhf hK hP hKp hT hcap hll (hTb.ext x) (hr.ext x) (hrt.ext x) (fun a w => Nat.lt_of_lt_of_le (hpb a w) x.n)
 have hbf : ∀ j, j < T.s.length -> -1000000 <= (figs l t T.r T.s.length).getD j 0 /\ (figs l t T.r T.s.length).getD j 0 <= 1000000 := fun j hj => figs_at hP hKp hT hj
 obtain ⟨q, kq, s, r, o⟩ := T
 have hqb : ∀ a, q = some a -> a.block < h.n := hTb.b
 have hbd : ∀ j, j < s.length -> -10000 <= t.getD j 0 /\ t.getD j 0 <= 10000 := fun j hj => zhC hP.2.1 hT hj
 have hn := hP.1
 have htl := hT.1
 have hOff := hP.2.2.2
 dsimp only [tbV, OffP] at iF hbf hn htl hOff ⊢
 obtain ⟨bt, et, ownt, rfl, hgt⟩ := hrt.at (by rw [zar]; omega)
 have hfl := zd3 l t r s.length
 refine body (N := 47) Tryz.func19 rfl (hK _ _ _ rfl) rfl rfl ?_
 (repeat' (first|apply zam|apply zac|(apply O_at;rfl)|(apply zai;rfl)|apply zak|(apply zaT;rfl)|apply zao|apply zaG|((first|apply zag|apply zad|apply zaM|apply zeZ);rfl;rfl;rfl;rfl)|(apply zbj;rfl;rfl;rfl;rfl;rfl;rfl;exact zaB rfl)|(apply zcx;rfl;rfl;rfl;rfl;rfl)|(apply zpU;rfl;rfl;rfl;rfl;rfl;omega)|(apply zaJ;rfl;rfl;rfl;rfl;exact zbc rfl;(focus repeat' first|exact zaa|assumption|apply zab|(apply Ext.get;assumption));(first|exact Nat.le_of_ble_eq_true rfl|(simp;done)|(simp;omega)|(rw [zar];omega));rfl)|(apply zbk;rfl;rfl;rfl;rfl;exact zal rfl;rfl;rfl)|((first|(apply zan;rfl;rfl;rfl;rfl;rfl;rfl)|(apply zck;rfl;rfl;rfl;rfl;rfl;rfl;rfl));exact iF (by repeat' first|exact Ext.refl _|assumption|apply Ext.push|refine Ext.trans ?_ (by assumption));(rintro _ _ ⟨_,_,rfl,_,_⟩))|fail))
 rename_i h1 fq fc frd fx
 rw [hfl]
 obtain ⟨bf, ef, ownf, rfl, gf⟩ := frd.at (by rw [zar]; omega)
 have hgt1 := fx.get (zab hgt)
 have hb1 : h1.get? h.n = some (.cells [.slice q s.length kq, .int .i64 r, .int .i64 o] 25 true) := fx.get zaa
 refine zbd (fun k : Nat => [(24, .int .i64 (k : Nat)), (23, .int .i64 (s.length : Nat)), (22, .slice (some ⟨bf, 0, none⟩) s.length fc), (3, .pointer (some ⟨h.n, 0, none⟩)), (2, .slice (some ⟨bt, 0, none⟩) t.length ct)])
  (fun k h' => k <= s.length /\ Ext h1 h' /\ ∀ j, j < k -> t.getD j 0 - o <= figv l t r j /\ figv l t r j <= t.getD j 0 + o) (fun k => s.length - k) ?_ 0 ?_ ?_
 ·intro k h' ⟨hk, hx, hj⟩ ih
  have hb := hx.get hb1
  have hgt' := hx.get hgt1
  have gf' := hx.get gf
  by_cases hlt : k < s.length
  ·have c1 := hbf k hlt
   have c2 := hbd k hlt
   have c3 := zds (l := l) (t := t) (r := r) hlt
   by_cases hc : t.getD k 0 - o <= (figs l t r s.length).getD k 0 /\ (figs l t r s.length).getD k 0 <= t.getD k 0 + o
   ·(repeat' (first|apply zam|apply zac|(apply O_at;rfl)|(apply N_at;rfl)|(apply zai;rfl)|apply zak|(apply za0;rfl)|(apply zaT;rfl)|(apply zbU;exact zaY (by decide +kernel))|apply zao|apply zaG|(apply zcY;rfl;refine .inr ?_;(focus repeat' first|exact trivial|exact Keeps.nil _ _|apply And.intro|rfl|(apply Keeps.cons;iterate 2 (focus repeat' first|exact zaa|assumption|apply zab|(apply Ext.get;assumption)))))|apply zaF|((first|apply zag|apply zad|apply zaM|apply zeZ);rfl;rfl;rfl;rfl)|(apply za1;rfl;rfl;rfl;rfl;rfl;omega)|((first|apply zbH|apply zp7);rfl;rfl;rfl;rfl;rfl;(unfold fit;omega))|((first|apply zbT|apply zcD);rfl;rfl;rfl;rfl;rfl;exact zaB rfl;exact zal rfl;(first|assumption|rfl|exact (Int.toNat_of_nonneg (by omega)).symm);omega)|(apply zaq;rfl;rfl;rfl;rfl;exact zaH rfl;(focus repeat' first|exact zaa|assumption|apply zab|(apply Ext.get;assumption));(first|exact zaw (by omega)|rfl|assumption))|(apply M_fa;rfl;rfl;rfl;rfl;exact zbf rfl;(first|exact Nat.zero_add _|exact Nat.add_zero _|rfl))|(apply zet;rfl;rfl;rfl;rfl;rfl;(unfold fit;omega))|(((apply zeu;rfl;rfl;rfl;rfl;exact zaH rfl);(focus repeat' first|exact zaa|assumption|apply zab|(apply Ext.get;assumption));(first|exact zaw (by omega)|rfl|assumption));(first|assumption|exact zbh _ _|rfl|(focus simp [same,same.all2];done));(first|rfl|assumption|exact hwv _|(simp [within];omega)))|((first|(apply zan;rfl;rfl;rfl;rfl;rfl;rfl)|(apply zck;rfl;rfl;rfl;rfl;rfl;rfl;rfl));exact yes (zbR hK) hc;(rintro _ _ ⟨rfl,_⟩))|fail))
    refine zaS (ih (k + 1) _ (by omega) ⟨hlt, by repeat' first|exact Ext.refl _|assumption|apply Ext.push|refine Ext.trans ?_ (by assumption), fun j hj' => ?_⟩) (by (focus repeat' first | rfl | exact trivial | apply And.intro))
    by_cases hjk : j = k
    ·subst hjk; rw [c3] at hc; exact hc
    ·exact hj j (by omega)
   ·(repeat' (first|apply zam|apply zac|(apply O_at;rfl)|(apply N_at;rfl)|(apply zai;rfl)|apply zak|(apply za0;rfl)|(apply zbU;exact zaY (by decide +kernel))|apply zao|apply zaG|apply zaL|(apply zcY;rfl;refine .inr ?_;(focus repeat' first|exact trivial|exact Keeps.nil _ _|apply And.intro|rfl|(apply Keeps.cons;iterate 2 (focus repeat' first|exact zaa|assumption|apply zab|(apply Ext.get;assumption)))))|apply zbL|apply zdU|apply zdn|apply zay|((first|apply zag|apply zad|apply zaM|apply zeZ);rfl;rfl;rfl;rfl)|(apply za1;rfl;rfl;rfl;rfl;rfl;omega)|((first|apply zbH|apply zp7);rfl;rfl;rfl;rfl;rfl;(unfold fit;omega))|((first|apply zbT|apply zcD);rfl;rfl;rfl;rfl;rfl;exact zaB rfl;exact zal rfl;(first|assumption|rfl|exact (Int.toNat_of_nonneg (by omega)).symm);omega)|(apply zaq;rfl;rfl;rfl;rfl;exact zaH rfl;(focus repeat' first|exact zaa|assumption|apply zab|(apply Ext.get;assumption));(first|exact zaw (by omega)|rfl|assumption))|(apply M_fa;rfl;rfl;rfl;rfl;exact zbf rfl;(first|exact Nat.zero_add _|exact Nat.add_zero _|rfl))|(apply zet;rfl;rfl;rfl;rfl;rfl;(unfold fit;omega))|(((apply zeu;rfl;rfl;rfl;rfl;exact zaH rfl);(focus repeat' first|exact zaa|assumption|apply zab|(apply Ext.get;assumption));(first|exact zaw (by omega)|rfl|assumption));(first|assumption|exact zbh _ _|rfl|(focus simp [same,same.all2];done));(first|rfl|assumption|exact hwv _|(simp [within];omega)))|((first|(apply zan;rfl;rfl;rfl;rfl;rfl;rfl)|(apply zck;rfl;rfl;rfl;rfl;rfl;rfl;rfl));exact no (zbR hK) hc;(rintro _ _ ⟨rfl,_⟩))|fail))
    exact ⟨.inr rfl, _, rfl, .inr ⟨rfl, fun z => hc (by rw [c3]; exact z k hlt), by repeat' first|exact Ext.refl _|assumption|apply Ext.push|refine Ext.trans ?_ (by assumption)⟩⟩
  ·(repeat' (first|apply zam|apply zac|(apply O_at;rfl)|(apply zai;rfl)|apply zak|(apply zaT;rfl)|apply zbw|apply zaL|apply zbA|apply za4|apply za5|apply zay|((first|apply zag|apply zad|apply zaM|apply zeZ);rfl;rfl;rfl;rfl)|(apply zbG;rfl;rfl;rfl;rfl;rfl;omega)|fail))
   exact ⟨.inr rfl, _, rfl, .inl ⟨rfl, fun j hj' => hj j (by omega), by repeat' first|exact Ext.refl _|assumption|apply Ext.push|refine Ext.trans ?_ (by assumption)⟩⟩
 ·exact ⟨Nat.zero_le _, Ext.refl _, fun j hj => by omega⟩
 ·(focus repeat' first | rfl | exact trivial | apply And.intro)
theorem short_ok (hK : NoK K) {T : Tb} {h : Heap} : CallW Tryz.prog K 15 #[tbV T] h (IfB (T.s.length <= 16) h) := by
 obtain ⟨q, kq, s, r, o⟩ := T
 dsimp only [tbV]
 refine body (N := 7) Tryz.func15 rfl (hK _ _ _ rfl) rfl rfl ?_
 by_cases hs : s.length <= 16
 ·(repeat' (first|apply zam|apply zac|(apply O_at;rfl)|(apply zai;rfl)|apply zak|apply zaL|apply zay|(apply zad;rfl;rfl;rfl;rfl)|(apply P_fa;rfl;rfl;rfl;rfl;exact zbf rfl;(first|exact Nat.zero_add _|exact Nat.add_zero _|rfl))|(apply zbj;rfl;rfl;rfl;rfl;rfl;rfl;exact zaB rfl)|(apply zj1;rfl;rfl;rfl;rfl;rfl;omega)|(apply zaq;rfl;rfl;rfl;rfl;exact zaH rfl;(focus repeat' first|exact zaa|assumption);(first|rfl|assumption))|(apply zbk;rfl;rfl;rfl;rfl;exact zal rfl;rfl;rfl)|fail))
  exact ⟨.inr rfl, _, rfl, .inl ⟨rfl, hs, by (focus repeat' first | exact Ext.refl _ | assumption | apply Ext.push)⟩⟩
 ·(repeat' (first|apply zam|apply zac|(apply O_at;rfl)|(apply zai;rfl)|apply zak|apply zaL|apply zay|(apply zad;rfl;rfl;rfl;rfl)|(apply P_fa;rfl;rfl;rfl;rfl;exact zbf rfl;(first|exact Nat.zero_add _|exact Nat.add_zero _|rfl))|(apply zbj;rfl;rfl;rfl;rfl;rfl;rfl;exact zaB rfl)|(apply zpV;rfl;rfl;rfl;rfl;rfl;omega)|(apply zaq;rfl;rfl;rfl;rfl;exact zaH rfl;(focus repeat' first|exact zaa|assumption);(first|rfl|assumption))|(apply zbk;rfl;rfl;rfl;rfl;exact zal rfl;rfl;rfl)|fail))
  exact ⟨.inr rfl, _, rfl, .inr ⟨rfl, hs, by (focus repeat' first | exact Ext.refl _ | assumption | apply Ext.push)⟩⟩
end Go.AX.Sa

namespace Go.AX.Sa
open Go.Proofs
set_option maxRecDepth 100000
variable {K : Known}
structure RowAt (p : Option Addr) (l : List Int) (cap : Nat) (h : Heap) : Prop where
 rd : Rd h p (ints l)
 b : ∀ a, p = some a -> a.block < h.n
 cap : l.length <= 1000000 -> l.length <= cap
theorem RowAt.ext {p : Option Addr} {l : List Int} {cap : Nat} {h h1 : Heap} (x : RowAt p l cap h) (e : Ext h h1) : RowAt p l cap h1 := ⟨x.rd.ext e, fun a q => Nat.lt_of_lt_of_le (x.b a q) e.n, x.cap⟩
end Go.AX.Sa

namespace Go.AX.Sa
open Go.Proofs
set_option maxRecDepth 100000
variable {K : Known}
theorem mixv_lo (a c x y : Int) : mixv a c a x y = x * (c - a) := by
 unfold mixv; rw [Int.sub_self, Int.mul_zero, Int.add_zero]
theorem mixv_hi (a c x y : Int) : mixv a c c x y = y * (c - a) := by
 unfold mixv; rw [Int.sub_self, Int.mul_zero, Int.zero_add]
theorem figv_mix {l t : List Int} {r : Int} {i j : Nat} (hG : zea l) (hi : i + 1 < l.length) (h1 : l.getD i 0 <= (j : Nat)) (h2 : ((j : Nat) : Int) <= l.getD (i + 1) 0) :
  figv l t r j = rnd r (mixv (l.getD i 0) (l.getD (i + 1) 0) j (t.getD (l.getD i 0).toNat 0) (t.getD (l.getD (i + 1) 0).toNat 0)) (l.getD (i + 1) 0 - l.getD i 0) := by
 have hg := hG i hi
 by_cases e1 : l.getD i 0 = (j : Nat)
 ·rw [zcS hG (by omega) e1, e1, mixv_lo, zkv (by omega), Int.toNat_natCast]
 ·by_cases e2 : l.getD (i + 1) 0 = (j : Nat)
  ·rw [zcS hG hi e2, e2, mixv_hi, zkv (by omega), Int.toNat_natCast]
  ·exact zc5 hG hi (by omega) (by omega)
theorem zgi (a c j x y : Int) : mixv a c j x y = mix a c j x y := rfl
theorem zlb {l t : List Int} {r lo hi : Int} {i j : Nat} (hG : zea l) (hi' : i + 1 < l.length) (h1 : l.getD i 0 <= (j : Nat)) (h2 : ((j : Nat) : Int) <= l.getD (i + 1) 0)
  (x1 : lo <= t.getD (l.getD i 0).toNat 0) (x2 : t.getD (l.getD i 0).toNat 0 <= hi) (y1 : lo <= t.getD (l.getD (i + 1) 0).toNat 0) (y2 : t.getD (l.getD (i + 1) 0).toNat 0 <= hi) :
  lo <= figv l t r j /\ figv l t r j <= hi := by
 have hg := hG i hi'
 rw [figv_mix hG hi' h1 h2, zgi]
 exact zkP h1 h2 hg x1 x2 y1 y2
def zmG (T : Tb) (l : List Int) : Prop := T.s.length <= 16 /\ l.length <= 16 /\ TbP T /\ zb9 T.s.length l
theorem zkV (hK : NoK K) {T : Tb} {l : List Int} {p : Option Addr} {cap : Nat} {h : Heap} (hTb : TbAt T h) (hl : RowAt p l cap h) :
  CallW Tryz.prog K 26 #[tbV T, .slice p l.length cap] h (IfB (zmG T l) h) := by
 have iS : ∀ {h' : Heap}, CallW Tryz.prog K 15 #[tbV T] h' (IfB (T.s.length <= 16) h') := short_ok hK
 have iT : ∀ {h' : Heap}, T.s.length <= 16 -> Ext h h' -> CallW Tryz.prog K 20 #[tbV T] h' (IfB (TbP T) h') := fun a x => zkz hK (by omega) (hTb.ext x)
 have iK : ∀ {h' : Heap}, T.s.length <= 16 -> l.length <= 16 -> Ext h h' -> CallW Tryz.prog K 21 #[tbV T, .slice p l.length cap] h' (IfB (zb9 T.s.length l) h') := fun a b x => znl hK (by omega) (by omega) (hTb.ext x) (hl.ext x).rd (hl.ext x).b
 obtain ⟨q, kq, s, r, o⟩ := T
 dsimp only [tbV, zmG] at *
 refine body (N := 21) Tryz.func26 rfl (hK _ _ _ rfl) rfl rfl ?_
 by_cases hs : s.length <= 16
 ·by_cases hl16 : l.length <= 16
  ·by_cases hP : TbP ⟨q, kq, s, r, o⟩
   ·by_cases hKp : zb9 s.length l
    ·(repeat' (first|apply zam|apply zac|(apply O_at;rfl)|(apply zai;rfl)|apply zak|apply zaL|apply zay|((first|apply zag|apply zad);rfl;rfl;rfl;rfl)|(apply zbj;rfl;rfl;rfl;rfl;rfl;rfl;exact zaB rfl)|(apply zba;rfl;rfl;rfl;rfl;rfl;rfl)|(apply zj1;rfl;rfl;rfl;rfl;rfl;omega)|(apply zaJ;rfl;rfl;rfl;rfl;exact zbc rfl;(focus repeat' first|exact zaa|assumption|(apply Ext.get;assumption));(first|exact Nat.le_of_ble_eq_true rfl|(simp;done)|(simp;omega));rfl)|(apply zbk;rfl;rfl;rfl;rfl;exact zal rfl;rfl;rfl)|(apply zan;rfl;rfl;rfl;rfl;rfl;rfl;exact yes iS hs;(rintro _ _ ⟨rfl,_⟩))|(apply zan;rfl;rfl;rfl;rfl;rfl;rfl;exact yes (iT hs (by repeat' first|exact Ext.refl _|assumption|apply Ext.push|refine Ext.trans ?_ (by assumption))) hP;(rintro _ _ ⟨rfl,_⟩))|(apply zan;rfl;rfl;rfl;rfl;rfl;rfl;exact yes (iK hs hl16 (by repeat' first|exact Ext.refl _|assumption|apply Ext.push|refine Ext.trans ?_ (by assumption))) hKp;(rintro _ _ ⟨rfl,_⟩))|fail))
     exact ⟨.inr rfl, _, rfl, .inl ⟨rfl, ⟨hs, hl16, hP, hKp⟩, by repeat' first|exact Ext.refl _|assumption|apply Ext.push|refine Ext.trans ?_ (by assumption)⟩⟩
    ·(repeat' (first|apply zam|apply zac|(apply O_at;rfl)|(apply zai;rfl)|apply zak|apply zaL|apply zay|((first|apply zag|apply zad);rfl;rfl;rfl;rfl)|(apply zbj;rfl;rfl;rfl;rfl;rfl;rfl;exact zaB rfl)|(apply zba;rfl;rfl;rfl;rfl;rfl;rfl)|(apply zj1;rfl;rfl;rfl;rfl;rfl;omega)|(apply zaJ;rfl;rfl;rfl;rfl;exact zbc rfl;(focus repeat' first|exact zaa|assumption|(apply Ext.get;assumption));(first|exact Nat.le_of_ble_eq_true rfl|(simp;done)|(simp;omega));rfl)|(apply zbk;rfl;rfl;rfl;rfl;exact zal rfl;rfl;rfl)|(apply zan;rfl;rfl;rfl;rfl;rfl;rfl;exact yes iS hs;(rintro _ _ ⟨rfl,_⟩))|(apply zan;rfl;rfl;rfl;rfl;rfl;rfl;exact yes (iT hs (by repeat' first|exact Ext.refl _|assumption|apply Ext.push|refine Ext.trans ?_ (by assumption))) hP;(rintro _ _ ⟨rfl,_⟩))|(apply zan;rfl;rfl;rfl;rfl;rfl;rfl;exact no (iK hs hl16 (by repeat' first|exact Ext.refl _|assumption|apply Ext.push|refine Ext.trans ?_ (by assumption))) hKp;(rintro _ _ ⟨rfl,_⟩))|fail))
     exact ⟨.inr rfl, _, rfl, .inr ⟨rfl, fun z => hKp z.2.2.2, by repeat' first|exact Ext.refl _|assumption|apply Ext.push|refine Ext.trans ?_ (by assumption)⟩⟩
   ·(repeat' (first|apply zam|apply zac|(apply O_at;rfl)|(apply zai;rfl)|apply zak|apply zaL|apply zay|(apply zcc;rfl;rfl;rfl)|((first|apply zag|apply zad);rfl;rfl;rfl;rfl)|(apply zbj;rfl;rfl;rfl;rfl;rfl;rfl;exact zaB rfl)|(apply zba;rfl;rfl;rfl;rfl;rfl;rfl)|(apply zj1;rfl;rfl;rfl;rfl;rfl;omega)|(apply zaJ;rfl;rfl;rfl;rfl;exact zbc rfl;(focus repeat' first|exact zaa|assumption|(apply Ext.get;assumption));(first|exact Nat.le_of_ble_eq_true rfl|(simp;done)|(simp;omega));rfl)|(apply zbk;rfl;rfl;rfl;rfl;exact zal rfl;rfl;rfl)|(apply zan;rfl;rfl;rfl;rfl;rfl;rfl;exact yes iS hs;(rintro _ _ ⟨rfl,_⟩))|(apply zan;rfl;rfl;rfl;rfl;rfl;rfl;exact no (iT hs (by repeat' first|exact Ext.refl _|assumption|apply Ext.push|refine Ext.trans ?_ (by assumption))) hP;(rintro _ _ ⟨rfl,_⟩))|fail))
    exact ⟨.inr rfl, _, rfl, .inr ⟨rfl, fun z => hP z.2.2.1, by repeat' first|exact Ext.refl _|assumption|apply Ext.push|refine Ext.trans ?_ (by assumption)⟩⟩
  ·(repeat' (first|apply zam|apply zac|(apply O_at;rfl)|(apply zai;rfl)|apply zak|apply zaL|apply zay|(apply zcc;rfl;rfl;rfl)|((first|apply zag|apply zad);rfl;rfl;rfl;rfl)|(apply zbj;rfl;rfl;rfl;rfl;rfl;rfl;exact zaB rfl)|(apply zba;rfl;rfl;rfl;rfl;rfl;rfl)|(apply zpV;rfl;rfl;rfl;rfl;rfl;omega)|(apply zaJ;rfl;rfl;rfl;rfl;exact zbc rfl;(focus repeat' first|exact zaa|assumption|(apply Ext.get;assumption));(first|exact Nat.le_of_ble_eq_true rfl|(simp;done)|(simp;omega));rfl)|(apply zbk;rfl;rfl;rfl;rfl;exact zal rfl;rfl;rfl)|(apply zan;rfl;rfl;rfl;rfl;rfl;rfl;exact yes iS hs;(rintro _ _ ⟨rfl,_⟩))|fail))
   exact ⟨.inr rfl, _, rfl, .inr ⟨rfl, fun z => hl16 z.2.1, by repeat' first|exact Ext.refl _|assumption|apply Ext.push|refine Ext.trans ?_ (by assumption)⟩⟩
 ·(repeat' (first|apply zam|apply zac|(apply O_at;rfl)|(apply zai;rfl)|apply zak|apply zaL|apply zay|(apply zcc;rfl;rfl;rfl)|((first|apply zag|apply zad);rfl;rfl;rfl;rfl)|(apply zba;rfl;rfl;rfl;rfl;rfl;rfl)|(apply zaJ;rfl;rfl;rfl;rfl;exact zbc rfl;(focus repeat' first|exact zaa|assumption|(apply Ext.get;assumption));(first|exact Nat.le_of_ble_eq_true rfl|(simp;done)|(simp;omega));rfl)|(apply zbk;rfl;rfl;rfl;rfl;exact zal rfl;rfl;rfl)|(apply zan;rfl;rfl;rfl;rfl;rfl;rfl;exact no iS hs;(rintro _ _ ⟨rfl,_⟩))|fail))
  exact ⟨.inr rfl, _, rfl, .inr ⟨rfl, fun z => hs z.1, by repeat' first|exact Ext.refl _|assumption|apply Ext.push|refine Ext.trans ?_ (by assumption)⟩⟩
end Go.AX.Sa

namespace Go.AX.Sa
open Go.Proofs
set_option maxRecDepth 100000
variable {K : Known}
theorem zdW {s : List (Int × Int)} {t : List Int} (hV : Vals s) (hT : zcb s t) {j : Nat} (hj : j < s.length) : -9999 <= t.getD j 0 /\ t.getD j 0 <= 9999 := by
 have h1 := hV j hj
 have h2 := hT.2 j (by rw [hT.1]; exact hj)
 unfold ValP at h1
 omega
theorem zdr {n : Nat} {l : List Int} (hKp : zb9 n l) {i : Nat} (hi : i < l.length) : 0 <= l.getD i 0 /\ l.getD i 0 <= (n : Int) - 1 := by
 have a := zc2 hKp.2.2.2 (Nat.zero_le i) hi
 have c := zc2 hKp.2.2.2 (show i <= l.length - 1 by omega) (by omega)
 have h0 := hKp.2.1
 have h1 := hKp.2.2.1
 omega
theorem zgy {s : List (Int × Int)} {l t : List Int} {r : Int} (hV : Vals s) (hKp : zb9 s.length l) (hT : zcb s t) {j : Nat} (hj : j < s.length) : -9999 <= (figs l t r s.length).getD j 0 /\ (figs l t r s.length).getD j 0 <= 9999 := by
 rw [zds hj]
 rcases zlU hKp hj with ⟨i, hi, hij⟩ | ⟨i, hi, h1, h2⟩
 ·rw [zcS hKp.2.2.2 hi hij]
  exact zdW hV hT hj
 ·have a1 := zdr hKp (i := i) (by omega)
  have a2 := zdr hKp hi
  have b1 := zdW hV hT (j := (l.getD i 0).toNat) (by omega)
  have b2 := zdW hV hT (j := (l.getD (i + 1) 0).toNat) (by omega)
  exact zlb hKp.2.2.2 hi (by omega) (by omega) b1.1 b1.2 b2.1 b2.2
end Go.AX.Sa

namespace Go.AX.Sa
open Go.Proofs
set_option maxRecDepth 100000
variable {K : Known}
end Go.AX.Sa

namespace Go.AX.Sa
open Go.Proofs
set_option maxRecDepth 100000
variable {K : Known}
theorem least_ok (hK : NoK K) {a b : Int} {h : Heap} : CallW Tryz.prog K 145 #[.agg #[.int .i64 a, .int .i64 b]] h (IsV (.int .i64 a) h) := by
 refine body (N := 5) Tryz.func145 rfl (hK _ _ _ rfl) rfl rfl ?_
 (repeat' (first|apply zam|apply zac|(apply O_at;rfl)|(apply zai;rfl)|apply zak|apply zaL|apply zay|(apply zad;rfl;rfl;rfl;rfl)|(apply P_fa;rfl;rfl;rfl;rfl;exact zbf rfl;(first|exact Nat.zero_add _|exact Nat.add_zero _|rfl))|(apply zaq;rfl;rfl;rfl;rfl;exact zaH rfl;(focus repeat' first|exact zaa|assumption);(first|rfl|assumption))|(apply zbk;rfl;rfl;rfl;rfl;exact zal rfl;rfl;rfl)|fail))
 exact ⟨.inr rfl, _, rfl, rfl, by (focus repeat' first | exact Ext.refl _ | assumption | apply Ext.push)⟩
theorem zk5 (hK : NoK K) {a b : Int} {h : Heap} : CallW Tryz.prog K 146 #[.agg #[.int .i64 a, .int .i64 b]] h (IsV (.int .i64 b) h) := by
 refine body (N := 5) Tryz.func146 rfl (hK _ _ _ rfl) rfl rfl ?_
 (repeat' (first|apply zam|apply zac|(apply O_at;rfl)|(apply zai;rfl)|apply zak|apply zaL|apply zay|(apply zad;rfl;rfl;rfl;rfl)|(apply P_fa;rfl;rfl;rfl;rfl;exact zbf rfl;(first|exact Nat.zero_add _|exact Nat.add_zero _|rfl))|(apply zaq;rfl;rfl;rfl;rfl;exact zaH rfl;(focus repeat' first|exact zaa|assumption);(first|rfl|assumption))|(apply zbk;rfl;rfl;rfl;rfl;exact zal rfl;rfl;rfl)|fail))
 exact ⟨.inr rfl, _, rfl, rfl, by (focus repeat' first | exact Ext.refl _ | assumption | apply Ext.push)⟩
def twoF : Array Value := #[.func (.func 145) #[] #[], .func (.func 146) #[] #[]]
theorem fill146 : zd9 Tryz.prog 171 [(0, .func (.func 145) #[] #[]), (1, .func (.func 146) #[] #[])] = some (.agg twoF) := by kernel_rfl
def RdV (h : Heap) (v : Value) (l : List Int) : Prop := ∃ p cap, v = .slice p l.length cap /\ Rd h p (ints l)
theorem RdV.ext {h h1 : Heap} {v : Value} {l : List Int} (r : RdV h v l) (x : Ext h h1) : RdV h1 v l := by
 obtain ⟨p, cap, e, r⟩ := r
 exact ⟨p, cap, e, r.ext x⟩
theorem OutI.rdV {e : TypeId} {h0 h : Heap} {v : Value} {l : List Int} (o : OutI e h0 h v l) : RdV h v l := by
 rcases o with ⟨rfl, rfl⟩ | ⟨_, b, h1, h2, _⟩
 ·exact ⟨none, 0, rfl, .inl rfl⟩
 ·exact ⟨_, _, h1, .inr ⟨b, e, true, rfl, h2⟩⟩
def lows (s : List (Int × Int)) : List Int := s.map (·.1)
def highs (s : List (Int × Int)) : List Int := s.map (·.2)
theorem zo1 {s : List (Int × Int)} {k : Nat} (h : k < s.length) : (lows s).take (k + 1) = (lows s).take k ++ [(s.getD k (0, 0)).1] := by
 rw [List.take_succ_eq_append_getElem (by simpa [lows] using h)]
 simp [lows, List.getD_eq_getElem?_getD, h]
theorem znz {s : List (Int × Int)} {k : Nat} (h : k < s.length) : (highs s).take (k + 1) = (highs s).take k ++ [(s.getD k (0, 0)).2] := by
 rw [List.take_succ_eq_append_getElem (by simpa [highs] using h)]
 simp [highs, List.getD_eq_getElem?_getD, h]
theorem OutI.one {e : TypeId} {h0 h : Heap} {v : Value} {l : List Int} (o : OutI e h0 h v l) : oneB v = true /\ v.cells = #[v] := by
 rcases o with ⟨_, rfl⟩ | ⟨_, b, rfl, _⟩ <;> exact ⟨rfl, rfl⟩
theorem OutI.sameV {e : TypeId} {h0 h : Heap} {v : Value} {l : List Int} (o : OutI e h0 h v l) : same 20 v v = true := by
 rcases o with ⟨_, rfl⟩ | ⟨_, b, rfl, _⟩ <;> simp [same]
theorem OutI.withinV {e : TypeId} {h0 h : Heap} {v : Value} {l : List Int} (o : OutI e h0 h v l) {m : Nat} (hm : h.n <= m) : within 20 m v = true := by
 rcases o with ⟨_, rfl⟩ | ⟨_, b, rfl, g, _⟩
 ·rfl
 ·have := Heap.get_lt g
  simp [within]; omega
theorem ends_ok (hK : NoK K) {s : List (Int × Int)} {p : Option Addr} {cap : Nat} {h : Heap} (hp : Rd h p (zas s)) (hsl : s.length <= 1000) :
  CallW Tryz.prog K 122 #[.slice p s.length cap] h (fun u h1 => ∃ u0 u1, u = .agg #[u0, u1] /\ RdV h1 u0 (lows s) /\ RdV h1 u1 (highs s) /\ Ext h h1) := by
 refine body (N := 34) Tryz.func122 rfl (hK _ _ _ rfl) rfl rfl ?_
 (repeat' (first|apply zam|apply zac|(apply O_at;rfl)|(apply zai;rfl)|apply zak|(apply zbl;rfl;rfl;rfl;rfl;exact zal rfl;rfl;rfl)|fail))
 apply zfh; rfl; rfl; rfl; rfl; exact fill146
 (repeat' (first|apply zam|apply zac|(apply O_at;rfl)|(apply zai;rfl)|apply zak|apply zao|((first|apply zag|apply zad|apply zaM);rfl;rfl;rfl;rfl)|(apply zaJ;rfl;rfl;rfl;rfl;exact zbc rfl;(focus repeat' first|exact zaa|assumption|apply zab|(apply Ext.get;assumption)|(apply ExtBut.get;assumption;(first|assumption|omega|(simp only [Heap.push];omega))));(first|exact Nat.le_of_ble_eq_true rfl|(simp;done)|(simp;omega)|(rw [zaj];omega));(first|exact zaI (by omega)|rfl))|(apply zaQ;rfl;rfl;rfl;rfl;exact zal rfl;rfl;rfl;rfl)|(apply zbl;rfl;rfl;rfl;rfl;exact zal rfl;rfl;rfl)|fail))
 refine zbd (fun a : Nat × Value × Value => [(11, .int .i64 (a.1 : Nat)), (10, .agg twoF), (4, .pointer (some ⟨h.n + 2, 0, none⟩)), (2, .pointer (some ⟨h.n, 0, none⟩)), (0, .slice p s.length cap)])
  (fun a h' => a.1 <= 2 /\ h.n + 3 <= h'.n /\ ExtBut (h.n + 2) (h.push (.cells [nilV, nilV] 141 true)) h' /\ h'.get? (h.n + 2) = some (.cells [a.2.1, a.2.2] 141 true) /\ (a.1 = 0 -> a.2.1 = nilV) /\ (a.1 <= 1 -> a.2.2 = nilV) /\ (0 < a.1 -> RdV h' a.2.1 (lows s)) /\ (1 < a.1 -> RdV h' a.2.2 (highs s))) (fun a => 2 - a.1) ?_ (0, nilV, nilV) ?_ ?_
 ·rintro ⟨i, v0, v1⟩ h' ⟨hi, hn, hx, hb, z0, z1, r0, r1⟩ ih
  dsimp only at hi hn hx hb z0 z1 r0 r1 ih ⊢
  by_cases hlt : i < 2
  ·have hlt' : (i : Int) < 2 := by omega
   rcases (show i = 0 \/ i = 1 by omega) with rfl | rfl
   ·obtain rfl := z0 rfl
    obtain rfl := z1 (by decide)
    (repeat' (first|apply zam|apply zac|(apply O_at;rfl)|(apply zai;rfl)|apply zak|(apply za0;rfl)|apply zao|apply zaG|((first|apply zag|apply zad|apply zaM);rfl;rfl;rfl;rfl)|(apply zbj;rfl;rfl;rfl;rfl;rfl;rfl;exact zaB rfl)|(apply za1;rfl;rfl;rfl;rfl;rfl;omega)|(apply zfS;rfl;rfl;rfl;rfl;rfl;(first|assumption|exact zq0|exact zq1|rfl|exact (Int.toNat_of_nonneg (by omega)).symm);exact zfA rfl;exact zaH rfl;(first|decide|omega);rfl)|fail))
    refine zbd (fun a : Nat × Value => [(17, .int .i64 (a.1 : Nat)), (16, .int .i64 (s.length : Nat)), (15, .slice p s.length cap), (5, .int .i64 ((0 : Nat) : Int)), (6, .func (.func 145) #[] #[]), (11, .int .i64 ((0 : Nat) : Int)), (10, .agg twoF), (4, .pointer (some ⟨h.n + 2, 0, none⟩)), (2, .pointer (some ⟨h.n, 0, none⟩)), (0, .slice p s.length cap)])
     (fun a h2 => a.1 <= s.length /\ ExtBut (h.n + 2) h' h2 /\ OutI 3 h' h2 a.2 ((lows s).take a.1) /\ h2.get? (h.n + 2) = some (.cells [a.2, nilV] 141 true)) (fun a => s.length - a.1) ?_ (0, nilV) ?_ ?_
    ·rintro ⟨k, v⟩ h2 ⟨hk, hx2, ho, hb2⟩ ih2
     dsimp only at hk hx2 hb2 ih2 ⊢
     replace ho : OutI 3 h' h2 v ((lows s).take k) := ho
     by_cases hks : k < s.length
     ·obtain ⟨bs, es, owns, rfl, hg⟩ := hp.at (by rw [zaj]; omega)
      have hbs : bs < h.n := Heap.get_lt hg
      have hg1 : h2.get? bs = some (.cells (zas s) es owns) := hx2.get (by omega) (hx.get (by omega) (zab hg))
      have hle : ((lows s).take k).length <= 10000 := by rw [List.length_take]; omega
      obtain ⟨one1, one2⟩ := OutI.one (e := 3) (h0 := h') ho
      have hn2 := hx2.n
      have hsv := OutI.sameV (e := 3) (h0 := h') ho
      have hwv : ∀ blk, within 20 (h2.push blk).n v = true := fun blk => OutI.withinV (e := 3) (h0 := h') ho (Nat.le_succ _)
      (repeat' (first|apply zam|apply zac|(apply O_at;rfl)|(apply N_at;rfl)|(apply zai;rfl)|apply zak|(apply za0;rfl)|(apply zbU;exact zaY (by decide +kernel))|apply zao|apply zaG|((first|apply zag|apply zad|apply zaM);rfl;rfl;rfl;rfl)|(apply za1;rfl;rfl;rfl;rfl;rfl;omega)|(apply zdk;rfl;rfl;rfl;rfl;rfl;exact zaB rfl;exact zal rfl;(first|assumption|exact zq0|exact zq1|rfl|exact (Int.toNat_of_nonneg (by omega)).symm);omega)|(apply zaJ;rfl;rfl;rfl;rfl;exact zbc rfl;(focus repeat' first|exact zaa|assumption|apply zab|(apply Ext.get;assumption)|(apply ExtBut.get;assumption;(first|assumption|omega|(simp only [Heap.push];omega))));(first|exact Nat.le_of_ble_eq_true rfl|(simp;done)|(simp;omega)|(rw [zaj];omega));(first|exact zaI (by omega)|rfl))|(apply zaQ;rfl;rfl;rfl;rfl;exact zal rfl;rfl;rfl;rfl)|(apply zbl;rfl;rfl;rfl;rfl;exact zal rfl;rfl;rfl)|(apply zmQ;rfl;rfl;rfl;rfl;rfl;rfl;rfl;exact zfd rfl)|((first|((apply zmO;rfl;rfl;rfl;rfl;exact zaH rfl;exact zhw (by decide +kernel));(focus repeat' first|exact zaa|assumption|apply zab|(apply Ext.get;assumption)|(apply ExtBut.get;assumption;(first|assumption|omega|(simp only [Heap.push];omega))));(first|rfl|assumption))|((apply zmN;rfl;rfl;rfl;rfl;exact zbc rfl;exact zbx (by decide +kernel));(focus repeat' first|exact zaa|assumption|apply zab|(apply Ext.get;assumption)|(apply ExtBut.get;assumption;(first|assumption|omega|(simp only [Heap.push];omega))));(first|exact Nat.le_of_ble_eq_true rfl|(simp;done)|(simp;omega)|(rw [zaj];omega));(first|exact zaI (by omega)|rfl)));(first|assumption|exact zdD _ _|rfl|(focus simp [same,same.all2];done));(first|rfl|assumption|exact hwv _|(simp [within];omega)))|(apply zj5;rfl;rfl;rfl;rfl;rfl;exact zfA rfl;exact zal rfl;(first|assumption|exact zq0|exact zq1|rfl|exact (Int.toNat_of_nonneg (by omega)).symm);omega)|(apply zck;rfl;rfl;rfl;rfl;rfl;rfl;rfl;exact least_ok hK;(rintro _ _ ⟨rfl,_⟩))|fail))
      rename_i h3 hx3
      have hb3 : h3.get? (h.n + 2) = some (.cells [v, nilV] 141 true) := hx3.get (zab hb2)
      apply zp6 (h0 := h'); rfl; rfl; rfl; rfl; rfl; rfl; rfl; rfl; exact zfd rfl; exact zaB rfl; exact zaa; exact OutI.ext (e := 3) (h0 := h') ho (by (focus repeat' first | exact Ext.refl _ | assumption | apply Ext.push | (refine Ext.trans ?_ (by assumption)) | (refine Ext.ofBut ?_ (by assumption) (by first | exact Nat.le_refl _ | omega)))); exact (by have := hx3.n; simp only [Heap.push] at this ⊢; omega); exact hle; rfl
      intro v3 h4 ho4 k4
      replace ho4 : OutI 3 h' h4 v3 ((lows s).take (k + 1)) := by rw [zo1 hks]; exact ho4
      have hb4 : h4.get? (h.n + 2) = some (.cells [v, nilV] 141 true) := k4.lo (by omega) (zab hb3)
      obtain ⟨on1, on2⟩ := OutI.one (e := 3) (h0 := h') ho4
      (repeat' (first|(apply N_at;rfl)|(apply zj5;rfl;rfl;rfl;rfl;rfl;exact zfA rfl;exact zal rfl;(first|assumption|exact zq0|exact zq1|rfl|exact (Int.toNat_of_nonneg (by omega)).symm);omega)|fail))
      apply zmL (c' := [v3, nilV]); rfl; rfl; rfl; rfl; exact hb4; exact zal rfl; exact (by rw [on2]; rfl); exact (by simp); exact (by rw [on2]; simp [on1]); exact (by rw [on2]; rfl); rfl
      intro h5 hb5 hx5
      have hx25 : ExtBut (h.n + 2) h' h5 := ⟨by have q1 := k4.n; have q2 := hx5.n; have q3 := hx3.n; simp only [Heap.push] at q1 q2 q3; omega, fun c x hne g => hx5.get hne (k4.lo (Heap.get_lt g) (zab (hx3.get (zab (hx2.get hne g)))))⟩
      have ho5 : OutI 3 h' h5 v3 ((lows s).take (k + 1)) := OutI.but (h0 := h') ho4 hx5 (by omega)
      (repeat' (first|apply zac|(apply O_at;rfl)|(apply zai;rfl)|apply zak|(apply zcY;rfl;refine .inr ?_;(focus repeat' first|exact trivial|exact Keeps.nil _ _|apply And.intro|rfl|(apply Keeps.cons;iterate 2 (focus repeat' first|exact zaa|assumption|apply zab|(apply Ext.get;assumption)|(apply ExtBut.get;assumption;(first|assumption|omega|(simp only [Heap.push];omega)))))))|apply zaF|((first|apply zag|apply zad|apply zaM);rfl;rfl;rfl;rfl)|(apply zbH;rfl;rfl;rfl;rfl;rfl;(unfold fit;omega))|fail))
      exact zaS (ih2 (k + 1, v3) _ (by dsimp only; omega) ⟨hks, hx25, ho5, hb5⟩) (by (focus repeat' first | rfl | exact trivial | apply And.intro))
     ·have hks' : k = s.length := by omega
      subst hks'
      (repeat' (first|apply zam|apply zac|(apply O_at;rfl)|(apply zai;rfl)|apply zak|(apply zaT;rfl)|apply zbw|apply zbA|apply za4|apply za5|apply zaF|((first|apply zag|apply zad|apply zaM);rfl;rfl;rfl;rfl)|(apply zbG;rfl;rfl;rfl;rfl;rfl;omega)|(apply zbH;rfl;rfl;rfl;rfl;rfl;(unfold fit;omega))|fail))
      have hl : (lows s).take s.length = lows s := List.take_of_length_le (by simp [lows])
      rw [hl] at ho
      exact zaS (ih (1, v, nilV) _ (by dsimp only; omega) ⟨by dsimp only; omega, by have := hx2.n; omega, hx.trans hx2, hb2, fun q => absurd q (by dsimp only; omega), fun _ => rfl, fun _ => OutI.rdV (e := 3) (h0 := h') ho, fun q => absurd q (by dsimp only; omega)⟩) (by (focus repeat' first | rfl | exact trivial | apply And.intro))
    ·exact ⟨Nat.zero_le _, ExtBut.refl _ _, OutI.nil _ _ _, hb⟩
    ·(focus repeat' first | rfl | exact trivial | apply And.intro)
   ·obtain rfl := z1 (by decide)
    obtain ⟨p0, c0, rfl, rd0⟩ := r0 (by decide)
    (repeat' (first|apply zam|apply zac|(apply O_at;rfl)|(apply zai;rfl)|apply zak|(apply za0;rfl)|apply zao|apply zaG|((first|apply zag|apply zad|apply zaM);rfl;rfl;rfl;rfl)|(apply zbj;rfl;rfl;rfl;rfl;rfl;rfl;exact zaB rfl)|(apply za1;rfl;rfl;rfl;rfl;rfl;omega)|(apply zfS;rfl;rfl;rfl;rfl;rfl;(first|assumption|exact zq0|exact zq1|rfl|exact (Int.toNat_of_nonneg (by omega)).symm);exact zfA rfl;exact zaH rfl;(first|decide|omega);rfl)|fail))
    refine zbd (fun a : Nat × Value => [(17, .int .i64 (a.1 : Nat)), (16, .int .i64 (s.length : Nat)), (15, .slice p s.length cap), (5, .int .i64 ((1 : Nat) : Int)), (6, .func (.func 146) #[] #[]), (11, .int .i64 ((1 : Nat) : Int)), (10, .agg twoF), (4, .pointer (some ⟨h.n + 2, 0, none⟩)), (2, .pointer (some ⟨h.n, 0, none⟩)), (0, .slice p s.length cap)])
     (fun a h2 => a.1 <= s.length /\ ExtBut (h.n + 2) h' h2 /\ OutI 3 h' h2 a.2 ((highs s).take a.1) /\ h2.get? (h.n + 2) = some (.cells [.slice p0 (lows s).length c0, a.2] 141 true)) (fun a => s.length - a.1) ?_ (0, nilV) ?_ ?_
    ·rintro ⟨k, v⟩ h2 ⟨hk, hx2, ho, hb2⟩ ih2
     dsimp only at hk hx2 hb2 ih2 ⊢
     replace ho : OutI 3 h' h2 v ((highs s).take k) := ho
     by_cases hks : k < s.length
     ·obtain ⟨bs, es, owns, rfl, hg⟩ := hp.at (by rw [zaj]; omega)
      have hbs : bs < h.n := Heap.get_lt hg
      have hg1 : h2.get? bs = some (.cells (zas s) es owns) := hx2.get (by omega) (hx.get (by omega) (zab hg))
      have hle : ((highs s).take k).length <= 10000 := by rw [List.length_take]; omega
      obtain ⟨one1, one2⟩ := OutI.one (e := 3) (h0 := h') ho
      have hn2 := hx2.n
      have hsv := OutI.sameV (e := 3) (h0 := h') ho
      have hwv : ∀ blk, within 20 (h2.push blk).n v = true := fun blk => OutI.withinV (e := 3) (h0 := h') ho (Nat.le_succ _)
      (repeat' (first|apply zam|apply zac|(apply O_at;rfl)|(apply N_at;rfl)|(apply zai;rfl)|apply zak|(apply za0;rfl)|(apply zbU;exact zaY (by decide +kernel))|apply zao|apply zaG|((first|apply zag|apply zad|apply zaM);rfl;rfl;rfl;rfl)|(apply za1;rfl;rfl;rfl;rfl;rfl;omega)|(apply zdk;rfl;rfl;rfl;rfl;rfl;exact zaB rfl;exact zal rfl;(first|assumption|exact zq0|exact zq1|rfl|exact (Int.toNat_of_nonneg (by omega)).symm);omega)|(apply zaJ;rfl;rfl;rfl;rfl;exact zbc rfl;(focus repeat' first|exact zaa|assumption|apply zab|(apply Ext.get;assumption)|(apply ExtBut.get;assumption;(first|assumption|omega|(simp only [Heap.push];omega))));(first|exact Nat.le_of_ble_eq_true rfl|(simp;done)|(simp;omega)|(rw [zaj];omega));(first|exact zaI (by omega)|rfl))|(apply zaQ;rfl;rfl;rfl;rfl;exact zal rfl;rfl;rfl;rfl)|(apply zbl;rfl;rfl;rfl;rfl;exact zal rfl;rfl;rfl)|(apply zmQ;rfl;rfl;rfl;rfl;rfl;rfl;rfl;exact zfd rfl)|((first|((apply zmO;rfl;rfl;rfl;rfl;exact zaH rfl;exact zhw (by decide +kernel));(focus repeat' first|exact zaa|assumption|apply zab|(apply Ext.get;assumption)|(apply ExtBut.get;assumption;(first|assumption|omega|(simp only [Heap.push];omega))));(first|rfl|assumption))|((apply zmN;rfl;rfl;rfl;rfl;exact zbc rfl;exact zbx (by decide +kernel));(focus repeat' first|exact zaa|assumption|apply zab|(apply Ext.get;assumption)|(apply ExtBut.get;assumption;(first|assumption|omega|(simp only [Heap.push];omega))));(first|exact Nat.le_of_ble_eq_true rfl|(simp;done)|(simp;omega)|(rw [zaj];omega));(first|exact zaI (by omega)|rfl)));(first|assumption|exact zdD _ _|rfl|(focus simp [same,same.all2];done));(first|rfl|assumption|exact hwv _|(simp [within];omega)))|(apply zj5;rfl;rfl;rfl;rfl;rfl;exact zfA rfl;exact zal rfl;(first|assumption|exact zq0|exact zq1|rfl|exact (Int.toNat_of_nonneg (by omega)).symm);omega)|(apply zck;rfl;rfl;rfl;rfl;rfl;rfl;rfl;exact zk5 hK;(rintro _ _ ⟨rfl,_⟩))|fail))
      rename_i h3 hx3
      have hb3 : h3.get? (h.n + 2) = some (.cells [.slice p0 (lows s).length c0, v] 141 true) := hx3.get (zab hb2)
      apply zp6 (h0 := h'); rfl; rfl; rfl; rfl; rfl; rfl; rfl; rfl; exact zfd rfl; exact zaB rfl; exact zaa; exact OutI.ext (e := 3) (h0 := h') ho (by (focus repeat' first | exact Ext.refl _ | assumption | apply Ext.push | (refine Ext.trans ?_ (by assumption)) | (refine Ext.ofBut ?_ (by assumption) (by first | exact Nat.le_refl _ | omega)))); exact (by have := hx3.n; simp only [Heap.push] at this ⊢; omega); exact hle; rfl
      intro v3 h4 ho4 k4
      replace ho4 : OutI 3 h' h4 v3 ((highs s).take (k + 1)) := by rw [znz hks]; exact ho4
      have hb4 : h4.get? (h.n + 2) = some (.cells [.slice p0 (lows s).length c0, v] 141 true) := k4.lo (by omega) (zab hb3)
      obtain ⟨on1, on2⟩ := OutI.one (e := 3) (h0 := h') ho4
      (repeat' (first|(apply N_at;rfl)|(apply zj5;rfl;rfl;rfl;rfl;rfl;exact zfA rfl;exact zal rfl;(first|assumption|exact zq0|exact zq1|rfl|exact (Int.toNat_of_nonneg (by omega)).symm);omega)|fail))
      apply zmL (c' := [.slice p0 (lows s).length c0, v3]); rfl; rfl; rfl; rfl; exact hb4; exact zal rfl; exact (by rw [on2]; rfl); exact (by simp); exact (by rw [on2]; simp [on1]); exact (by rw [on2]; rfl); rfl
      intro h5 hb5 hx5
      have hx25 : ExtBut (h.n + 2) h' h5 := ⟨by have q1 := k4.n; have q2 := hx5.n; have q3 := hx3.n; simp only [Heap.push] at q1 q2 q3; omega, fun c x hne g => hx5.get hne (k4.lo (Heap.get_lt g) (zab (hx3.get (zab (hx2.get hne g)))))⟩
      have ho5 : OutI 3 h' h5 v3 ((highs s).take (k + 1)) := OutI.but (h0 := h') ho4 hx5 (by omega)
      (repeat' (first|apply zac|(apply O_at;rfl)|(apply zai;rfl)|apply zak|(apply zcY;rfl;refine .inr ?_;(focus repeat' first|exact trivial|exact Keeps.nil _ _|apply And.intro|rfl|(apply Keeps.cons;iterate 2 (focus repeat' first|exact zaa|assumption|apply zab|(apply Ext.get;assumption)|(apply ExtBut.get;assumption;(first|assumption|omega|(simp only [Heap.push];omega)))))))|apply zaF|((first|apply zag|apply zad|apply zaM);rfl;rfl;rfl;rfl)|(apply zbH;rfl;rfl;rfl;rfl;rfl;(unfold fit;omega))|fail))
      exact zaS (ih2 (k + 1, v3) _ (by dsimp only; omega) ⟨hks, hx25, ho5, hb5⟩) (by (focus repeat' first | rfl | exact trivial | apply And.intro))
     ·have hks' : k = s.length := by omega
      subst hks'
      (repeat' (first|apply zam|apply zac|(apply O_at;rfl)|(apply zai;rfl)|apply zak|(apply zaT;rfl)|apply zbw|apply zbA|apply za4|apply za5|apply zaF|((first|apply zag|apply zad|apply zaM);rfl;rfl;rfl;rfl)|(apply zbG;rfl;rfl;rfl;rfl;rfl;omega)|(apply zbH;rfl;rfl;rfl;rfl;rfl;(unfold fit;omega))|fail))
      have hl : (highs s).take s.length = highs s := List.take_of_length_le (by simp [highs])
      rw [hl] at ho
      have rd2 : Rd h2 p0 (ints (lows s)) := by
       rcases rd0 with r | ⟨b, e, own, rfl, g⟩
       ·exact .inl r
       ·refine .inr ⟨b, e, own, rfl, hx2.get (fun q => ?_) g⟩
        subst q
        rw [hb] at g
        cases hls : lows s with
        | nil => rw [hls] at g; cases g
        | cons z l => rw [hls] at g; cases g
      exact zaS (ih (2, .slice p0 (lows s).length c0, v) _ (by dsimp only; omega) ⟨by dsimp only; omega, by have := hx2.n; omega, hx.trans hx2, hb2, fun q => absurd q (by dsimp only; omega), fun q => absurd q (by dsimp only; omega), fun _ => ⟨p0, c0, rfl, rd2⟩, fun _ => OutI.rdV (e := 3) (h0 := h') ho⟩) (by (focus repeat' first | rfl | exact trivial | apply And.intro))
    ·exact ⟨Nat.zero_le _, ExtBut.refl _ _, OutI.nil _ _ _, hb⟩
    ·(focus repeat' first | rfl | exact trivial | apply And.intro)
  ·have : i = 2 := by omega
   subst this
   obtain ⟨p0, c0, rfl, rd0⟩ := r0 (by decide)
   obtain ⟨p1, c1, rfl, rd1⟩ := r1 (by decide)
   have hg0 : h'.get? h.n = some (.cells [nilV, nilV] 141 true) := hx.get (by omega) zaa
   have hx0 : Ext h h' := Ext.ofBut ((Ext.refl _).push _) hx (by omega)
   (repeat' (first|apply zam|apply zac|(apply O_at;rfl)|(apply zai;rfl)|apply zak|(apply zaT;rfl)|apply zbw|apply zaL|apply zbA|apply za4|apply za5|apply zay|(apply zbG;rfl;rfl;rfl;rfl;rfl;omega)|(apply zaJ;rfl;rfl;rfl;rfl;exact zbc rfl;(focus repeat' first|exact zaa|assumption|apply zab|(apply Ext.get;assumption)|(apply ExtBut.get;assumption;(first|assumption|omega|(simp only [Heap.push];omega))));(first|exact Nat.le_of_ble_eq_true rfl|(simp;done)|(simp;omega)|(rw [zaj];omega));(first|exact zaI (by omega)|rfl))|(apply ziv;rfl;rfl;rfl;rfl;(focus repeat' first|exact zaa|assumption|apply zab|(apply Ext.get;assumption)|(apply ExtBut.get;assumption;(first|assumption|omega|(simp only [Heap.push];omega))));exact zal rfl;rfl;(first|rfl|exact zar _);rfl;(intro _ _ _))|fail))
   rename_i h4 hb4 hx4
   have e4 : Ext h h4 := Ext.ofBut hx0 hx4 (Nat.le_refl _)
   have hlo : ∀ {q : Option Addr} {l : List Int}, Rd h' q (ints l) -> Rd h4 q (ints l) := by
    intro q l r
    rcases r with r | ⟨b, e, own, rfl, g⟩
    ·exact .inl r
    ·refine .inr ⟨b, e, own, rfl, hx4.get (fun q => ?_) g⟩
     subst q
     rw [hg0] at g
     cases l with
     | nil => cases g
     | cons z l => cases g
   exact ⟨.inr rfl, _, zoB rfl (readA (zbc rfl) hb4 (Nat.le_of_ble_eq_true rfl) rfl) rfl, _, _, rfl, ⟨p0, c0, rfl, hlo rd0⟩, ⟨p1, c1, rfl, hlo rd1⟩, e4⟩
 ·refine ⟨by decide, Nat.le_refl _, ((Ext.refl _).push _ |>.push _).but _, zaa, fun _ => rfl, fun _ => rfl, fun q => absurd q (by dsimp only; omega), fun q => absurd q (by dsimp only; omega)⟩
 ·(focus repeat' first | rfl | exact trivial | apply And.intro)
end Go.AX.Sa

namespace Go.AX.Sa
open Go.Proofs
set_option maxRecDepth 100000
variable {K : Known}
theorem mem_at {l : List Int} {x : Int} : x ∈ l ↔ ∃ k, k < l.length /\ l.getD k 0 = x := by
 rw [List.mem_iff_getElem]
 constructor
 ·rintro ⟨k, hk, e⟩
  exact ⟨k, hk, by simpa [List.getD_eq_getElem?_getD, hk] using e⟩
 ·rintro ⟨k, hk, e⟩
  exact ⟨k, hk, by simpa [List.getD_eq_getElem?_getD, hk] using e⟩
theorem index_ok (hK : NoK K) {l : List Int} {x : Int} {p : Option Addr} {cap : Nat} {h : Heap} (hl : l.length <= 1000) (hr : Rd h p (ints l)) :
  CallW Tryz.prog K 123 #[.slice p l.length cap, .int .i64 x] h fun v h1 => ∃ n : Int, v = .int .i64 n /\ (0 <= n ↔ x ∈ l) /\ Ext h h1 := by
 refine body (N := 19) Tryz.func123 rfl (hK _ _ _ rfl) rfl rfl ?_
 (repeat' (first|apply zam|apply zac|(apply O_at;rfl)|(apply zai;rfl)|apply zak|apply zao|((first|apply zag|apply zad);rfl;rfl;rfl;rfl)|(apply zbj;rfl;rfl;rfl;rfl;rfl;rfl;exact zaB rfl)|fail))
 refine zbd (fun k : Nat => [(8, .int .i64 (k : Nat)), (7, .int .i64 (l.length : Nat)), (1, .int .i64 x), (0, .slice p l.length cap)])
  (fun k h' => k <= l.length /\ Ext h h' /\ ∀ j, j < k -> l.getD j 0 ≠ x) (fun k => l.length - k) ?_ 0 ⟨Nat.zero_le _, Ext.refl _, fun j hj => by omega⟩ ?_
 ·intro k h' ⟨hk, hx, hj⟩ ih
  by_cases hlt : k < l.length
  ·obtain ⟨b, e, own, rfl, hg⟩ := hr.at (by rw [zar]; omega)
   by_cases hc : x = l.getD k 0
   ·(repeat' (first|apply zam|apply zac|(apply O_at;rfl)|(apply zai;rfl)|apply zak|(apply za0;rfl)|apply zao|apply zaG|apply zaL|apply zbL|apply zdU|apply zdn|apply zay|((first|apply zag|apply zad);rfl;rfl;rfl;rfl)|(apply za1;rfl;rfl;rfl;rfl;rfl;omega)|(apply zhy;rfl;rfl;rfl;rfl;rfl;omega)|(apply zbT;rfl;rfl;rfl;rfl;rfl;exact zaB rfl;exact zal rfl;(first|assumption|rfl|exact (Int.toNat_of_nonneg (by omega)).symm);omega)|(apply zaq;rfl;rfl;rfl;rfl;exact zaH rfl;(focus repeat' first|assumption|(apply Ext.get;assumption));(first|exact zaw (by omega)|rfl|assumption))|fail))
    exact ⟨.inr rfl, _, rfl, (k : Int), rfl, ⟨fun _ => mem_at.2 ⟨k, hlt, hc.symm⟩, fun _ => by omega⟩, by (focus repeat' first | exact Ext.refl _ | assumption)⟩
   ·(repeat' (first|apply zam|apply zac|(apply O_at;rfl)|(apply zai;rfl)|apply zak|(apply za0;rfl)|(apply zaT;rfl)|apply zao|apply zaG|apply zaF|((first|apply zag|apply zad);rfl;rfl;rfl;rfl)|(apply za1;rfl;rfl;rfl;rfl;rfl;omega)|(apply zj3;rfl;rfl;rfl;rfl;rfl;omega)|(apply zbH;rfl;rfl;rfl;rfl;rfl;(unfold fit;omega))|(apply zbT;rfl;rfl;rfl;rfl;rfl;exact zaB rfl;exact zal rfl;(first|assumption|rfl|exact (Int.toNat_of_nonneg (by omega)).symm);omega)|(apply zaq;rfl;rfl;rfl;rfl;exact zaH rfl;(focus repeat' first|assumption|(apply Ext.get;assumption));(first|exact zaw (by omega)|rfl|assumption))|fail))
    refine zaS (ih (k + 1) _ (by omega) ⟨hlt, by (focus repeat' first | exact Ext.refl _ | assumption), fun j hj' => ?_⟩) (by (focus repeat' first | rfl | exact trivial | apply And.intro))
    by_cases hjk : j = k
    ·subst hjk; exact fun w => hc w.symm
    ·exact hj j (by omega)
  ·(repeat' (first|apply zam|apply zac|(apply O_at;rfl)|(apply zai;rfl)|apply zak|(apply zaT;rfl)|apply zbw|apply zaL|apply zbA|apply za4|apply za5|apply zay|((first|apply zag|apply zad);rfl;rfl;rfl;rfl)|(apply zbG;rfl;rfl;rfl;rfl;rfl;omega)|fail))
   refine ⟨.inr rfl, _, rfl, -1, rfl, ⟨fun q => by omega, fun q => ?_⟩, by (focus repeat' first | exact Ext.refl _ | assumption)⟩
   obtain ⟨j, hj1, hj2⟩ := mem_at.1 q
   exact absurd hj2 (hj j (by omega))
 ·(focus repeat' first | rfl | exact trivial | apply And.intro)
theorem zgE (hK : NoK K) {l : List Int} {x : Int} {p : Option Addr} {cap : Nat} {h : Heap} (hl : l.length <= 1000) (hr : Rd h p (ints l)) :
  CallW Tryz.prog K 86 #[.slice p l.length cap, .int .i64 x] h (IfB (x ∈ l) h) := by
 refine body (N := 9) Tryz.func86 rfl (hK _ _ _ rfl) rfl rfl ?_
 (repeat' (first|apply zam|apply zac|(apply O_at;rfl)|(apply zai;rfl)|apply zak|((first|apply zag|apply zad);rfl;rfl;rfl;rfl)|fail))
 apply zan; rfl; rfl; rfl; rfl; rfl; rfl; exact index_ok hK hl hr
 rintro _ _ ⟨n, rfl, hn, hx⟩
 by_cases hc : 0 <= n
 ·(repeat' (first|(apply O_at;rfl)|(apply zai;rfl)|apply zak|apply zaL|apply zay|((first|apply zag|apply zad);rfl;rfl;rfl;rfl)|(apply P_geqT;rfl;rfl;rfl;rfl;rfl;omega)|fail))
  exact ⟨.inr rfl, _, rfl, .inl ⟨rfl, hn.1 hc, by (focus repeat' first | assumption)⟩⟩
 ·(repeat' (first|(apply O_at;rfl)|(apply zai;rfl)|apply zak|apply zaL|apply zay|((first|apply zag|apply zad);rfl;rfl;rfl;rfl)|(apply P_geqF;rfl;rfl;rfl;rfl;rfl;omega)|fail))
  exact ⟨.inr rfl, _, rfl, .inr ⟨rfl, fun q => hc (hn.2 q), by (focus repeat' first | assumption)⟩⟩
theorem zh3 (s : List (Int × Int)) : (lows s).length = s.length := by simp [lows]
theorem zgr (s : List (Int × Int)) : (highs s).length = s.length := by simp [highs]
theorem zh4 {s : List (Int × Int)} {j : Nat} (h : j < s.length) : (lows s).getD j 0 = (s.getD j (0, 0)).1 := by simp [lows, List.getD_eq_getElem?_getD, h]
theorem zgs {s : List (Int × Int)} {j : Nat} (h : j < s.length) : (highs s).getD j 0 = (s.getD j (0, 0)).2 := by simp [highs, List.getD_eq_getElem?_getD, h]
theorem zhm {s : List (Int × Int)} (hV : Vals s) : zcb s (lows s) := by
 refine ⟨zh3 s, fun k hk => ?_⟩
 rw [zh3] at hk
 have := hV k hk
 unfold ValP at this
 rw [zh4 hk]; omega
theorem zgq {s : List (Int × Int)} (hV : Vals s) : zcb s (highs s) := by
 refine ⟨zgr s, fun k hk => ?_⟩
 rw [zgr] at hk
 have := hV k hk
 unfold ValP at this
 rw [zgs hk]; omega
def offv (s : List (Int × Int)) (l : List Int) (r : Int) (j : Nat) : Int :=
 if ((j : Nat) : Int) ∈ l then 0 else max ((s.getD j (0, 0)).2 - figv l (lows s) r j) (figv l (highs s) r j - (s.getD j (0, 0)).1)
def offs (s : List (Int × Int)) (l : List Int) (r : Int) (k : Nat) : List Int := (List.range k).map (offv s l r)
theorem zd1 (s : List (Int × Int)) (l : List Int) (r : Int) (k : Nat) : (offs s l r k).length = k := by simp [offs]
theorem zjk (s : List (Int × Int)) (l : List Int) (r : Int) (k : Nat) : offs s l r (k + 1) = offs s l r k ++ [offv s l r k] := by simp [offs, List.range_succ]
theorem zh1 {s : List (Int × Int)} {l : List Int} {r : Int} {k j : Nat} (h : j < k) : (offs s l r k).getD j 0 = offv s l r j := by
 simp [offs, List.getD_eq_getElem?_getD, h]
theorem row_keep {l : List Int} {n : Nat} (h : l.length < n) : l ++ List.replicate (n - l.length) 0 = (l ++ [0]) ++ List.replicate (n - (l.length + 1)) 0 := by
 rw [show n - l.length = (n - (l.length + 1)) + 1 by omega, List.replicate_succ, List.append_assoc]
 rfl
theorem Rd.butV {h h1 : Heap} {b0 : Nat} {q p : Option Addr} {l : List Int} {n c : Nat} {u : Value} {t : TypeId} {own : Bool} (r : Rd h q (ints l)) (x : ExtBut b0 h h1) (g0 : h.get? b0 = some (.cells [.slice p n c, u] t own)) : Rd h1 q (ints l) := by
 rcases r with r | ⟨b, e, own', rfl, g⟩
 ·exact .inl r
 ·refine .inr ⟨b, e, own', rfl, x.get (fun w => ?_) g⟩
  subst w
  rw [g0] at g
  cases l with
  | nil => cases g
  | cons z l => cases g
set_option maxHeartbeats 4000000 in
theorem zkN (hK : NoK K) {T : Tb} {l : List Int} {b cap : Nat} {e : TypeId} {own : Bool} {h : Heap} (hP : TbP T) (hKp : zb9 T.s.length l) (hcap : l.length <= cap) (hll : l.length <= 1000) (hTb : TbAt T h) (hg : h.get? b = some (.cells (ints l) e own)) :
  CallW Tryz.prog K 82 #[ktV T (some ⟨b, 0, none⟩) l.length cap] h (IsL (offs T.s l T.r T.s.length) h) := by
 have iF : ∀ {t : List Int} {bt ct : Nat} {et : TypeId} {ownt : Bool} {h' : Heap}, zcb T.s t -> h'.get? bt = some (.cells (ints t) et ownt) -> Ext h h' -> CallW Tryz.prog K 65 #[ktV T (some ⟨b, 0, none⟩) l.length cap, .slice (some ⟨bt, 0, none⟩) t.length ct] h' (IsL (figs l t T.r T.s.length) h') := fun a g x => zhp hK hP hKp a hcap hll (x.get hg) g
 obtain ⟨q, kq, s, r, o⟩ := T
 dsimp only [ktV] at iF ⊢
 have hn := hP.1
 have hV := hP.2.1
 dsimp only at hn hV hKp
 have hs0 := hTb.rd
 dsimp only at hs0
 obtain ⟨bs, es, owns, rfl, hgs⟩ := hs0.at (by rw [zaj]; omega)
 have hb0 := Heap.get_lt hg
 have hbs0 := Heap.get_lt hgs
 refine body (N := 64) Tryz.func82 rfl (hK _ _ _ rfl) rfl rfl ?_
 (repeat' (first|apply zam|apply zac|(apply O_at;rfl)|(apply zai;rfl)|apply zak|((first|apply zag|apply zad|apply zcd|apply zaM);rfl;rfl;rfl;rfl)|((first|apply P_fa|apply M_fa);rfl;rfl;rfl;rfl;exact zbf rfl;(first|exact Nat.zero_add _|exact Nat.add_zero _|rfl))|(apply zaq;rfl;rfl;rfl;rfl;exact zaH rfl;(focus repeat' first|exact zaa|assumption|apply zab|(apply Ext.get;assumption)|(apply ExtBut.get;assumption;(first|assumption|omega|(simp only [Heap.push];omega))));(first|exact zaw (by omega)|rfl|assumption))|(apply zbk;rfl;rfl;rfl;rfl;exact zal rfl;rfl;rfl)|(apply zbl;rfl;rfl;rfl;rfl;exact zal rfl;rfl;rfl)|fail))
 apply zan; rfl; rfl; rfl; rfl; rfl; rfl; exact ends_ok hK (hs0.ext (by (focus repeat' first | exact Ext.refl _ | assumption | apply Ext.push | (refine Ext.trans ?_ (by assumption)) | (refine Ext.ofBut ?_ (by assumption) (by first | exact Nat.le_refl _ | omega))))) (by omega)
 rintro _ h3 ⟨u0, u1, rfl, r0, r1, x3⟩
 obtain ⟨p0, c0, rfl, rd0⟩ := r0
 obtain ⟨p1, c1, rfl, rd1⟩ := r1
 have ll := zh3 s
 have hl := zgr s
 obtain ⟨b0, e0, own0, rfl, g0⟩ := rd0.at (by rw [zar]; omega)
 obtain ⟨b1, e1, own1, rfl, g1⟩ := rd1.at (by rw [zar]; omega)
 have hk3 : h3.get? h.n = some (.cells [.slice (some ⟨bs, 0, none⟩) s.length kq, .int .i64 r, .int .i64 o, .slice (some ⟨b, 0, none⟩) l.length cap] 82 true) := x3.get (zab zaa)
 have he3 : h3.get? (h.n + 1) = some (.cells [nilV, nilV] 141 true) := x3.get zaa
 have hgs3 := x3.get (zab (zab hgs))
 have hg3 := x3.get (zab (zab hg))
 have hbx0 : b0 ≠ h.n + 1 := fun w => by
  subst w
  rw [he3] at g0
  cases hls : lows s with
  | nil => rw [hls] at ll; simp at ll; omega
  | cons z m => rw [hls] at g0; cases g0
 have hbx1 : b1 ≠ h.n + 1 := fun w => by
  subst w
  rw [he3] at g1
  cases hls : highs s with
  | nil => rw [hls] at hl; simp at hl; omega
  | cons z m => rw [hls] at g1; cases g1
 (repeat' (first|(apply O_at;rfl)|(apply zai;rfl)|apply zak|apply zao|((first|apply zag|apply zad|apply zcd|apply zaM);rfl;rfl;rfl;rfl)|fail))
 refine zbd (fun a : Nat × Value × Value => [(13, .int .i64 (a.1 : Nat)), (12, .agg #[.slice (some ⟨b0, 0, none⟩) (lows s).length c0, .slice (some ⟨b1, 0, none⟩) (highs s).length c1]), (3, .pointer (some ⟨h.n + 1, 0, none⟩)), (1, .pointer (some ⟨h.n, 0, none⟩))])
  (fun a h' => a.1 <= 2 /\ ExtBut (h.n + 1) h3 h' /\ h'.get? (h.n + 1) = some (.cells [a.2.1, a.2.2] 141 true) /\ (a.1 = 0 -> a.2.1 = nilV) /\ (a.1 <= 1 -> a.2.2 = nilV) /\ (0 < a.1 -> RdV h' a.2.1 (figs l (lows s) r s.length)) /\ (1 < a.1 -> RdV h' a.2.2 (figs l (highs s) r s.length))) (fun a => 2 - a.1) ?_ (0, nilV, nilV) ?_ ?_
 ·rintro ⟨i, v0, v1⟩ h' ⟨hi, hx, hb, z0, z1, q0, q1⟩ ih
  dsimp only at hi hx hb z0 z1 q0 q1 ih ⊢
  have hn3 := x3.n
  have hn' := hx.n
  simp only [Heap.push] at hn3
  have hk' := hx.get (by omega) hk3
  have hgs' := hx.get (by omega) hgs3
  have hg' := hx.get (by omega) hg3
  have g0' := hx.get hbx0 g0
  have g1' := hx.get hbx1 g1
  by_cases hlt : i < 2
  ·have hlt' : (i : Int) < 2 := by omega
   have eh : Ext h h' := Ext.ofBut (by (focus repeat' first | exact Ext.refl _ | assumption | apply Ext.push | (refine Ext.trans ?_ (by assumption)) | (refine Ext.ofBut ?_ (by assumption) (by first | exact Nat.le_refl _ | omega)))) hx (by omega)
   rcases (show i = 0 \/ i = 1 by omega) with rfl | rfl
   ·obtain rfl := z0 rfl
    obtain rfl := z1 (by decide)
    (repeat' (first|apply zam|apply zac|(apply O_at;rfl)|(apply zai;rfl)|apply zak|(apply za0;rfl)|apply zao|apply zaG|apply zaF|((first|apply zag|apply zad|apply zcd|apply zaM);rfl;rfl;rfl;rfl)|(apply za1;rfl;rfl;rfl;rfl;rfl;omega)|(apply zbH;rfl;rfl;rfl;rfl;rfl;(unfold fit;omega))|(apply zaJ;rfl;rfl;rfl;rfl;exact zbc rfl;(focus repeat' first|exact zaa|assumption|apply zab|(apply Ext.get;assumption)|(apply ExtBut.get;assumption;(first|assumption|omega|(simp only [Heap.push];omega))));(first|exact Nat.le_of_ble_eq_true rfl|(simp;done)|(simp;omega)|(rw [zaj];omega)|(rw [zar];omega));(first|exact zaI (by omega)|rfl))|(apply zmH;rfl;rfl;rfl;rfl;(focus repeat' first|exact zaa|assumption|apply zab|(apply Ext.get;assumption)|(apply ExtBut.get;assumption;(first|assumption|omega|(simp only [Heap.push];omega))));exact zal rfl;omega;(intro _ _ _))|(apply zpW;rfl;rfl;rfl;rfl;rfl;exact zfA rfl;exact zal rfl;(first|assumption|exact zq0|exact zq1|rfl|exact (Int.toNat_of_nonneg (by omega)).symm);omega)|(apply zfS;rfl;rfl;rfl;rfl;rfl;(first|assumption|exact zq0|exact zq1|rfl|exact (Int.toNat_of_nonneg (by omega)).symm);exact zfA rfl;exact zaH rfl;(first|decide|omega);rfl)|(apply zan;rfl;rfl;rfl;rfl;rfl;rfl;exact iF (zhm hV) g0' eh;(rintro _ _ ⟨_,_,rfl,_,_⟩))|fail))
    rename_i h4 pf cf rdf xf h5 gb5 x5
    exact zaS (ih (1, .slice pf (figs l (lows s) r s.length).length cf, nilV) _ (by dsimp only; omega) ⟨by dsimp only; omega, (hx.trans (Ext.but xf _)).trans x5, gb5, fun w => absurd w (by dsimp only; omega), fun _ => rfl, fun _ => ⟨pf, cf, rfl, Rd.butV rdf x5 (xf.get hb)⟩, fun w => absurd w (by dsimp only; omega)⟩) (by (focus repeat' first | rfl | exact trivial | apply And.intro))
   ·obtain rfl := z1 (by decide)
    obtain ⟨pv, cv, rfl, rdv⟩ := q0 (by decide)
    (repeat' (first|apply zam|apply zac|(apply O_at;rfl)|(apply zai;rfl)|apply zak|(apply za0;rfl)|apply zao|apply zaG|apply zaF|((first|apply zag|apply zad|apply zcd|apply zaM);rfl;rfl;rfl;rfl)|(apply za1;rfl;rfl;rfl;rfl;rfl;omega)|(apply zbH;rfl;rfl;rfl;rfl;rfl;(unfold fit;omega))|(apply zaJ;rfl;rfl;rfl;rfl;exact zbc rfl;(focus repeat' first|exact zaa|assumption|apply zab|(apply Ext.get;assumption)|(apply ExtBut.get;assumption;(first|assumption|omega|(simp only [Heap.push];omega))));(first|exact Nat.le_of_ble_eq_true rfl|(simp;done)|(simp;omega)|(rw [zaj];omega)|(rw [zar];omega));(first|exact zaI (by omega)|rfl))|(apply zmH;rfl;rfl;rfl;rfl;(focus repeat' first|exact zaa|assumption|apply zab|(apply Ext.get;assumption)|(apply ExtBut.get;assumption;(first|assumption|omega|(simp only [Heap.push];omega))));exact zal rfl;omega;(intro _ _ _))|(apply zpW;rfl;rfl;rfl;rfl;rfl;exact zfA rfl;exact zal rfl;(first|assumption|exact zq0|exact zq1|rfl|exact (Int.toNat_of_nonneg (by omega)).symm);omega)|(apply zfS;rfl;rfl;rfl;rfl;rfl;(first|assumption|exact zq0|exact zq1|rfl|exact (Int.toNat_of_nonneg (by omega)).symm);exact zfA rfl;exact zaH rfl;(first|decide|omega);rfl)|(apply zan;rfl;rfl;rfl;rfl;rfl;rfl;exact iF (zgq hV) g1' eh;(rintro _ _ ⟨_,_,rfl,_,_⟩))|fail))
    rename_i h4 pf cf rdf xf h5 gb5 x5
    exact zaS (ih (2, .slice pv (figs l (lows s) r s.length).length cv, .slice pf (figs l (highs s) r s.length).length cf) _ (by dsimp only; omega) ⟨by dsimp only; omega, (hx.trans (Ext.but xf _)).trans x5, gb5, fun w => absurd w (by dsimp only; omega), fun w => absurd w (by dsimp only; omega), fun _ => ⟨pv, cv, rfl, Rd.butV (rdv.ext xf) x5 (xf.get hb)⟩, fun _ => ⟨pf, cf, rfl, Rd.butV rdf x5 (xf.get hb)⟩⟩) (by (focus repeat' first | rfl | exact trivial | apply And.intro))
  ·obtain rfl : i = 2 := by omega
   obtain ⟨p2, c2, rfl, rd2⟩ := q0 (by decide)
   obtain ⟨p3, c3, rfl, rd3⟩ := q1 (by decide)
   have l2 := zd3 l (lows s) r s.length
   have l3 := zd3 l (highs s) r s.length
   obtain ⟨b2, e2, own2, rfl, g2⟩ := rd2.at (by rw [zar]; omega)
   obtain ⟨b3, e3, own3, rfl, g3⟩ := rd3.at (by rw [zar]; omega)
   have n2 := Heap.get_lt g2
   have n3 := Heap.get_lt g3
   have hbk := Heap.get_lt hk'
   have hbe := Heap.get_lt hb
   have hbb := Heap.get_lt hg'
   have hbs' := Heap.get_lt hgs'
   (repeat' (first|apply zam|apply zac|(apply O_at;rfl)|(apply zai;rfl)|apply zak|(apply zaT;rfl)|apply zao|apply zbw|apply zbA|apply za4|apply za5|((first|apply zag|apply zad|apply zcd|apply zaM);rfl;rfl;rfl;rfl)|((first|apply P_fa|apply M_fa);rfl;rfl;rfl;rfl;exact zbf rfl;(first|exact Nat.zero_add _|exact Nat.add_zero _|rfl))|(apply zbj;rfl;rfl;rfl;rfl;rfl;rfl;exact zaB rfl)|(apply zbG;rfl;rfl;rfl;rfl;rfl;omega)|(apply zaq;rfl;rfl;rfl;rfl;exact zaH rfl;(focus repeat' first|exact zaa|assumption|apply zab|(apply Ext.get;assumption)|(apply ExtBut.get;assumption;(first|assumption|omega|(simp only [Heap.push];omega))));(first|exact zaw (by omega)|rfl|assumption))|(apply P_makeI;rfl;rfl;rfl;rfl;rfl;exact zfd rfl;exact zero3;omega;omega)|fail))
   rw [Int.toNat_natCast]
   refine zbd (fun k : Nat => [(32, .int .i64 (k : Nat)), (31, .int .i64 (s.length : Nat)), (30, .slice (some ⟨bs, 0, none⟩) s.length kq), (6, .slice (some ⟨h'.n, 0, none⟩) s.length s.length), (3, .pointer (some ⟨h.n + 1, 0, none⟩)), (1, .pointer (some ⟨h.n, 0, none⟩))])
    (fun k g => k <= s.length /\ ExtBut h'.n (h'.push (.cells (ints (List.replicate s.length 0)) 3 true)) g /\ g.get? h'.n = some (.cells (ints (offs s l r k ++ List.replicate (s.length - (offs s l r k).length) 0)) 3 true)) (fun k => s.length - k) ?_ 0 ?_ ?_
   ·rintro k g ⟨hk, hxg, hbg⟩ ih2
    have ok := zd1 s l r k
    have y1 := hxg.get (by omega) (zab hk')
    have y2 := hxg.get (by omega) (zab hb)
    have y3 := hxg.get (by omega) (zab g2)
    have y4 := hxg.get (by omega) (zab g3)
    have y5 := hxg.get (by omega) (zab hgs')
    have y6 := hxg.get (by omega) (zab hg')
    by_cases hks : k < s.length
    ·have hn2 := hxg.n
     have hv := hV k hks
     unfold ValP at hv
     have f1 := zds (l := l) (t := lows s) (r := r) hks
     have f2 := zds (l := l) (t := highs s) (r := r) hks
     have m1 := zgy (r := r) hV hKp (zhm hV) hks
     have m2 := zgy (r := r) hV hKp (zgq hV) hks
     have hlk : k < (offs s l r k ++ List.replicate (s.length - (offs s l r k).length) 0).length := by simp [ok]; omega
     by_cases hc : ((k : Nat) : Int) ∈ l
     ·have e0 : offv s l r k = 0 := if_pos hc
      (repeat' (first|apply zam|apply zac|(apply O_at;rfl)|(apply zai;rfl)|apply zak|(apply za0;rfl)|(apply zaT;rfl)|apply zao|apply zaG|apply zaF|((first|apply zag|apply zad|apply zcd|apply zaM);rfl;rfl;rfl;rfl)|((first|apply P_fa|apply M_fa);rfl;rfl;rfl;rfl;exact zbf rfl;(first|exact Nat.zero_add _|exact Nat.add_zero _|rfl))|(apply za1;rfl;rfl;rfl;rfl;rfl;omega)|(apply zbH;rfl;rfl;rfl;rfl;rfl;(unfold fit;omega))|(apply zdk;rfl;rfl;rfl;rfl;rfl;exact zaB rfl;exact zal rfl;(first|assumption|exact zq0|exact zq1|rfl|exact (Int.toNat_of_nonneg (by omega)).symm);omega)|(apply zaq;rfl;rfl;rfl;rfl;exact zaH rfl;(focus repeat' first|exact zaa|assumption|apply zab|(apply Ext.get;assumption)|(apply ExtBut.get;assumption;(first|assumption|omega|(simp only [Heap.push];omega))));(first|exact zaw (by omega)|rfl|assumption))|(apply zaJ;rfl;rfl;rfl;rfl;exact zbc rfl;(focus repeat' first|exact zaa|assumption|apply zab|(apply Ext.get;assumption)|(apply ExtBut.get;assumption;(first|assumption|omega|(simp only [Heap.push];omega))));(first|exact Nat.le_of_ble_eq_true rfl|(simp;done)|(simp;omega)|(rw [zaj];omega)|(rw [zar];omega));(first|exact zaI (by omega)|rfl))|(apply zaQ;rfl;rfl;rfl;rfl;exact zal rfl;rfl;rfl;rfl)|(apply zbl;rfl;rfl;rfl;rfl;exact zal rfl;rfl;rfl)|(apply zan;rfl;rfl;rfl;rfl;rfl;rfl;exact yes (zgE hK hll (.inr ⟨_,_,_,rfl,by (focus repeat' first|exact zaa|assumption|apply zab|(apply Ext.get;assumption)|(apply ExtBut.get;assumption;(first|assumption|omega|(simp only [Heap.push];omega))))⟩)) hc;(rintro _ _ ⟨rfl,_⟩))|fail))
      rename_i g1 xg1
      refine zaS (ih2 (k + 1) _ (by omega) ⟨hks, hxg.trans (Ext.but (by (focus repeat' first | exact Ext.refl _ | assumption | apply Ext.push | (refine Ext.trans ?_ (by assumption)) | (refine Ext.ofBut ?_ (by assumption) (by first | exact Nat.le_refl _ | omega)))) _), ?_⟩) (by (focus repeat' first | rfl | exact trivial | apply And.intro))
      have hr := row_keep (l := offs s l r k) (n := s.length) (by omega)
      have hs1 : offs s l r (k + 1) = offs s l r k ++ [0] := by rw [zjk, e0]
      rw [ok, <- hs1] at hr
      rw [zd1, <- hr]
      rw [ok] at hbg
      exact xg1.get (zab hbg)
     ·have e0 : offv s l r k = max ((s.getD k (0, 0)).2 - (figs l (lows s) r s.length).getD k 0) ((figs l (highs s) r s.length).getD k 0 - (s.getD k (0, 0)).1) := by rw [f1, f2]; exact if_neg hc
      (repeat' (first|apply zam|apply zac|(apply O_at;rfl)|(apply N_at;rfl)|(apply zai;rfl)|apply zak|(apply za0;rfl)|(apply zbU;exact zaY (by decide +kernel))|apply zao|apply zaG|(apply zcY;rfl;refine .inr ?_;(focus repeat' first|exact trivial|apply And.intro|rfl))|apply zaF|((first|apply zag|apply zad|apply zcd|apply zaM);rfl;rfl;rfl;rfl)|((first|apply P_fa|apply M_fa);rfl;rfl;rfl;rfl;exact zbf rfl;(first|exact Nat.zero_add _|exact Nat.add_zero _|rfl))|(apply za1;rfl;rfl;rfl;rfl;rfl;omega)|(apply zbH;rfl;rfl;rfl;rfl;rfl;(unfold fit;omega))|(apply zdk;rfl;rfl;rfl;rfl;rfl;exact zaB rfl;exact zal rfl;(first|assumption|exact zq0|exact zq1|rfl|exact (Int.toNat_of_nonneg (by omega)).symm);omega)|(apply zaq;rfl;rfl;rfl;rfl;exact zaH rfl;(focus repeat' first|exact zaa|assumption|apply zab|(apply Ext.get;assumption)|(apply ExtBut.get;assumption;(first|assumption|omega|(simp only [Heap.push];omega))));(first|exact zaw (by omega)|rfl|assumption))|(apply zaJ;rfl;rfl;rfl;rfl;exact zbc rfl;(focus repeat' first|exact zaa|assumption|apply zab|(apply Ext.get;assumption)|(apply ExtBut.get;assumption;(first|assumption|omega|(simp only [Heap.push];omega))));(first|exact Nat.le_of_ble_eq_true rfl|(simp;done)|(simp;omega)|(rw [zaj];omega)|(rw [zar];omega));(first|exact zaI (by omega)|rfl))|(apply zaQ;rfl;rfl;rfl;rfl;exact zal rfl;rfl;rfl;rfl)|(apply zbl;rfl;rfl;rfl;rfl;exact zal rfl;rfl;rfl)|(apply zet;rfl;rfl;rfl;rfl;rfl;(unfold fit;omega))|(apply zcD;rfl;rfl;rfl;rfl;rfl;exact zaB rfl;exact zal rfl;(first|assumption|exact zq0|exact zq1|rfl|exact (Int.toNat_of_nonneg (by omega)).symm);omega)|(((apply zb5;rfl;rfl;rfl;rfl;exact zaH rfl;exact zbx (by decide +kernel));(focus repeat' first|exact zaa|assumption|apply zab|(apply Ext.get;assumption)|(apply ExtBut.get;assumption;(first|assumption|omega|(simp only [Heap.push];omega))));(first|exact zaw (by omega)|rfl|assumption));(first|assumption|exact zbh _ _|exact zbW _ _ _|rfl|(focus simp [same,same.all2];done));(first|rfl|assumption|exact hwv _|(focus apply zdV;(focus repeat' first|exact zaa|assumption|apply zab|(apply Ext.get;assumption)|(apply ExtBut.get;assumption;(first|assumption|omega|(simp only [Heap.push];omega))));done)|(simp [within];omega)))|(apply zmK;rfl;rfl;rfl;rfl;(focus repeat' first|exact zaa|assumption|apply zab|(apply Ext.get;assumption)|(apply ExtBut.get;assumption;(first|assumption|omega|(simp only [Heap.push];omega))));exact zal rfl;(first|omega|(focus simp;done));rfl;(intro _ _ _))|(apply M_max;rfl;rfl;rfl;rfl;rfl;rfl)|(apply zj5;rfl;rfl;rfl;rfl;rfl;exact zfA rfl;exact zal rfl;(first|assumption|exact zq0|exact zq1|rfl|exact (Int.toNat_of_nonneg (by omega)).symm);omega)|(apply zan;rfl;rfl;rfl;rfl;rfl;rfl;exact no (zgE hK hll (.inr ⟨_,_,_,rfl,by (focus repeat' first|exact zaa|assumption|apply zab|(apply Ext.get;assumption)|(apply ExtBut.get;assumption;(first|assumption|omega|(simp only [Heap.push];omega))))⟩)) hc;(rintro _ _ ⟨rfl,_⟩))|fail))
      rename_i g1 xg1 g5 q5 xg5
      refine zaS (ih2 (k + 1) _ (by omega) ⟨hks, (hxg.trans (Ext.but (by (focus repeat' first | exact Ext.refl _ | assumption | apply Ext.push | (refine Ext.trans ?_ (by assumption)) | (refine Ext.ofBut ?_ (by assumption) (by first | exact Nat.le_refl _ | omega)))) _)).trans xg5, ?_⟩) (by (focus repeat' first | rfl | exact trivial | apply And.intro))
      have hr := row_set (l := offs s l r k) (n := s.length) (x := offv s l r k) (by omega)
      rw [<- zjk, ok] at hr
      rw [<- e0, ok] at q5
      rw [zd1, <- hr]
      exact q5
    ·obtain rfl : k = s.length := by omega
     rw [ok, Nat.sub_self, List.replicate_zero, List.append_nil] at hbg
     (repeat' (first|apply zam|apply zac|(apply O_at;rfl)|(apply zai;rfl)|apply zak|(apply zaT;rfl)|apply zbw|apply zaL|apply zbA|apply za4|apply za5|apply zay|((first|apply zag|apply zad|apply zcd|apply zaM);rfl;rfl;rfl;rfl)|(apply zbG;rfl;rfl;rfl;rfl;rfl;omega)|fail))
     refine ⟨.inr rfl, _, rfl, some ⟨h'.n, 0, none⟩, s.length, ?_, .inr ⟨_, _, _, rfl, hbg⟩, ?_⟩
     ·rw [ok]; rfl
     ·exact Ext.ofBut (Ext.push (Ext.ofBut (by (focus repeat' first | exact Ext.refl _ | assumption | apply Ext.push | (refine Ext.trans ?_ (by assumption)) | (refine Ext.ofBut ?_ (by assumption) (by first | exact Nat.le_refl _ | omega)))) hx (by omega)) _) hxg (by omega)
   ·exact ⟨Nat.zero_le _, ExtBut.refl _ _, zaa⟩
   ·(focus repeat' first | rfl | exact trivial | apply And.intro)
 ·exact ⟨by decide, ExtBut.refl _ _, he3, fun _ => rfl, fun _ => rfl, fun q => absurd q (by dsimp only; omega), fun q => absurd q (by dsimp only; omega)⟩
 ·(focus repeat' first | rfl | exact trivial | apply And.intro)
end Go.AX.Sa
