/- The law StepTrue at the reading: what the functions that it calls answer (4). -/
import Derived.Test.YtjdopbcoaocllaaGreatDoorStepTrueTextC
namespace Go.AX.Sa
open Go.Proofs
set_option maxRecDepth 100000
variable {K : Known}
set_option maxHeartbeats 4000000 in
theorem zkd (hK : NoK K) (hKn : Kn K) {T : Tb} {l t : List Int} {p pt : Option Addr} {cap ct : Nat} {h : Heap} (hTb : TbAt T h) (hl : RowAt p l cap h) (ht : RowAt pt t ct h) :
  CallW Tryz.prog K 8 #[tbV T, .slice p l.length cap, .slice pt t.length ct] h (fun v _ => v = .bool true) := by
 have iL : ∀ {h' : Heap}, Ext h h' -> CallW Tryz.prog K 26 #[tbV T, .slice p l.length cap] h' (IfB (zmG T l) h') := fun x => zkV hK (hTb.ext x) (hl.ext x)
 have iU : ∀ {h' : Heap}, T.s.length <= 16 -> t.length <= 16 -> Ext h h' -> CallW Tryz.prog K 22 #[tbV T, .slice pt t.length ct] h' (IfB (zcb T.s t) h') := fun a b x => zky hK (by omega) (hTb.ext x).rd (by omega) (ht.ext x).rd
 have iF : ∀ {h' : Heap}, TbP T -> zb9 T.s.length l -> zcb T.s t -> l.length <= 16 -> Ext h h' -> CallW Tryz.prog K 18 #[tbV T, .slice p l.length cap, .slice pt t.length ct] h' (OkL (figs l t T.r T.s.length) h') := fun a b c d x => zhf hK a b c (hl.cap (by omega)) (by omega) (hTb.ext x) (hl.ext x).rd (ht.ext x).rd (hl.ext x).b
 have iR := fun {h' : Heap} (a : TbP T) (b : zb9 T.s.length l) (c : zcb T.s t) (d : l.length <= 16) (x : Ext h h') => right_ok (cap := cap) (ct := ct) hK a b c (hl.cap (by omega)) (by omega) (hTb.ext x) (hl.ext x).rd (ht.ext x).rd (hl.ext x).b
 have iW : ∀ {w : Int} {h' : Heap}, TbP T -> zb9 T.s.length l -> l.length <= 16 -> WordP T.s l T.r T.o w -> Ext h h' -> CallW Tryz.prog K 33 #[tbV T, .slice p l.length cap] h' (IsV (.tuple #[.int .i64 w, .int .i64 0]) h') := fun a b d c x => word_ok hK a b (hl.cap (by omega)) (by omega) (hTb.ext x) (hl.ext x).rd (hl.ext x).b c
 have iD : ∀ {h' : Heap}, TbP T -> zb9 T.s.length l -> l.length <= 16 -> Ext h h' -> CallW Tryz.prog K 34 #[tbV T, .slice p l.length cap] h' (OkL (dbts T.s l T.r T.o T.s.length) h') := fun a b d x => zhD hK a b (hl.cap (by omega)) (by omega) (hTb.ext x) (hl.ext x).rd (hl.ext x).b
 obtain ⟨q, kq, s, r, o⟩ := T
 dsimp only [tbV] at *
 by_cases hRT : zmG ⟨q, kq, s, r, o⟩ l
 case neg =>
  refine body (N := 183) Tryz.func8 rfl (hK _ _ _ rfl) rfl rfl ?_
  (repeat' (first|apply zam|apply zac|(apply O_at;rfl)|(apply zai;rfl)|apply zak|(apply za0;rfl)|apply zaL|apply zbL|apply zay|(apply zcc;rfl;rfl;rfl)|((first|apply zag|apply zad|apply zcd|apply zaM|apply zb6);rfl;rfl;rfl;rfl)|((first|apply zba|apply zcW);rfl;rfl;rfl;rfl;rfl;rfl)|(apply zaJ;rfl;rfl;rfl;rfl;exact zbc rfl;(focus repeat' first|exact zaa|assumption|apply zab|(apply Ext.get;assumption));(first|exact Nat.le_of_ble_eq_true rfl|(simp;done)|(simp;omega)|(rw [zar];omega));rfl)|(apply zbk;rfl;rfl;rfl;rfl;exact zal rfl;rfl;rfl)|(apply zan;rfl;rfl;rfl;rfl;rfl;rfl;exact no (iL (by repeat' first|exact Ext.refl _|assumption|apply Ext.push|refine Ext.trans ?_ (by assumption))) hRT;(rintro _ _ ⟨rfl,_⟩))|(apply zan;rfl;rfl;rfl;rfl;rfl;rfl;exact zeL hKn;(rintro _ _ ⟨rfl,_⟩))|fail))
  exact ⟨.inr rfl, _, rfl, rfl⟩
 obtain ⟨hs, hl16, hP, hKp⟩ := id hRT
 have hV := hP.2.1
 have hOff := hP.2.2.2
 have hn := hP.1
 dsimp only [OffP] at hs hKp hV hOff hn
 have hl2 := hKp.1
 by_cases ht16 : t.length <= 16
 case neg =>
  refine body (N := 183) Tryz.func8 rfl (hK _ _ _ rfl) rfl rfl ?_
  (repeat' (first|apply zam|apply zac|(apply O_at;rfl)|(apply zai;rfl)|apply zak|(apply za0;rfl)|apply zaL|apply zbL|apply zay|(apply zcc;rfl;rfl;rfl)|((first|apply zag|apply zad|apply zcd|apply zaM|apply zb6);rfl;rfl;rfl;rfl)|(apply zbj;rfl;rfl;rfl;rfl;rfl;rfl;exact zaB rfl)|((first|apply zba|apply zcW);rfl;rfl;rfl;rfl;rfl;rfl)|(apply zhx;rfl;rfl;rfl;rfl;rfl;omega)|(apply zaJ;rfl;rfl;rfl;rfl;exact zbc rfl;(focus repeat' first|exact zaa|assumption|apply zab|(apply Ext.get;assumption));(first|exact Nat.le_of_ble_eq_true rfl|(simp;done)|(simp;omega)|(rw [zar];omega));rfl)|(apply zbk;rfl;rfl;rfl;rfl;exact zal rfl;rfl;rfl)|(apply zan;rfl;rfl;rfl;rfl;rfl;rfl;exact yes (iL (by repeat' first|exact Ext.refl _|assumption|apply Ext.push|refine Ext.trans ?_ (by assumption))) hRT;(rintro _ _ ⟨rfl,_⟩))|(apply zan;rfl;rfl;rfl;rfl;rfl;rfl;exact zeL hKn;(rintro _ _ ⟨rfl,_⟩))|fail))
  exact ⟨.inr rfl, _, rfl, rfl⟩
 by_cases hT : zcb s t
 case neg =>
  refine body (N := 183) Tryz.func8 rfl (hK _ _ _ rfl) rfl rfl ?_
  (repeat' (first|apply zam|apply zac|(apply O_at;rfl)|(apply zai;rfl)|apply zak|(apply za0;rfl)|apply zaL|apply zbL|apply zay|((first|apply zag|apply zad|apply zcd|apply zaM|apply zb6);rfl;rfl;rfl;rfl)|(apply zbj;rfl;rfl;rfl;rfl;rfl;rfl;exact zaB rfl)|((first|apply zba|apply zcW);rfl;rfl;rfl;rfl;rfl;rfl)|(apply zdx;rfl;rfl;rfl;rfl;rfl;omega)|(apply zaJ;rfl;rfl;rfl;rfl;exact zbc rfl;(focus repeat' first|exact zaa|assumption|apply zab|(apply Ext.get;assumption));(first|exact Nat.le_of_ble_eq_true rfl|(simp;done)|(simp;omega)|(rw [zar];omega));rfl)|(apply zbk;rfl;rfl;rfl;rfl;exact zal rfl;rfl;rfl)|(apply zan;rfl;rfl;rfl;rfl;rfl;rfl;exact yes (iL (by repeat' first|exact Ext.refl _|assumption|apply Ext.push|refine Ext.trans ?_ (by assumption))) hRT;(rintro _ _ ⟨rfl,_⟩))|(apply zan;rfl;rfl;rfl;rfl;rfl;rfl;exact no (iU hs ht16 (by repeat' first|exact Ext.refl _|assumption|apply Ext.push|refine Ext.trans ?_ (by assumption))) hT;(rintro _ _ ⟨rfl,_⟩))|(apply zan;rfl;rfl;rfl;rfl;rfl;rfl;exact zeL hKn;(rintro _ _ ⟨rfl,_⟩))|fail))
  exact ⟨.inr rfl, _, rfl, rfl⟩
 have htl := hT.1
 obtain ⟨b, e, own, rfl, hg⟩ := hl.rd.at (by rw [zar]; omega)
 obtain ⟨bt, et, ownt, rfl, hgt⟩ := ht.rd.at (by rw [zar]; omega)
 obtain ⟨w, hW⟩ := word_ex s l r o
 obtain ⟨isb, hisb⟩ : ∃ isb : Bool, (isb = true /\ zgQ s l t r o) \/ (isb = false /\ ¬ zgQ s l t r o) := by
  by_cases hR : zgQ s l t r o
  ·exact ⟨true, .inl ⟨rfl, hR⟩⟩
  ·exact ⟨false, .inr ⟨rfl, hR⟩⟩
 have jR : ∀ {h' : Heap}, Ext h h' -> CallW Tryz.prog K 19 #[.agg #[.slice q s.length kq, .int .i64 r, .int .i64 o], .slice (some ⟨b, 0, none⟩) l.length cap, .slice (some ⟨bt, 0, none⟩) t.length ct] h' (IsV (.tuple #[.bool isb, .int .i64 0]) h') := by
  intro h' x
  rcases hisb with ⟨rfl, hR⟩ | ⟨rfl, hR⟩
  ·exact okY (iR hP hKp hT hl16 x) hR
  ·exact okN (iR hP hKp hT hl16 x) hR
 have jW := fun {h' : Heap} (x : Ext h h') => iW hP hKp hl16 hW x
 have hcase : (w = 3 /\ isb = true) \/ (w = 2 /\ isb = true) \/ (w = 2 /\ isb = false) \/ (w = 1 /\ isb = false) := by
  rcases hW with ⟨hS, rfl⟩ | ⟨_, _, rfl⟩ | ⟨_, hC, rfl⟩
  ·rcases hisb with ⟨rfl, _⟩ | ⟨_, hR⟩
   ·exact .inl ⟨rfl, rfl⟩
   ·exact absurd (zmX hV hKp hT hS) hR
  ·rcases hisb with ⟨rfl, _⟩ | ⟨rfl, _⟩
   ·exact .inr (.inl ⟨rfl, rfl⟩)
   ·exact .inr (.inr (.inl ⟨rfl, rfl⟩))
  ·rcases hisb with ⟨rfl, hR⟩ | ⟨rfl, _⟩
   ·exact absurd (zoz hKp hT (by omega) hR) hC
   ·exact .inr (.inr (.inr ⟨rfl, rfl⟩))
 have hdl := zmu s l r o s.length
 have hz : (w = 3 /\ (dbts s l r o s.length).length = 0) \/ (w ≠ 3 /\ ¬ (dbts s l r o s.length).length = 0) := by
  rcases hW with ⟨hS, rfl⟩ | ⟨hS, _, rfl⟩ | ⟨hS, _, rfl⟩
  ·exact .inl ⟨rfl, (zij s.length).2 hS⟩
  ·exact .inr ⟨by decide, fun z => hS ((zij s.length).1 z)⟩
  ·exact .inr ⟨by decide, fun z => hS ((zij s.length).1 z)⟩
 have hoff : ∀ k : Nat, k < s.length -> (o < (figs l t r s.length).getD k 0 - t.getD k 0 \/ o < t.getD k 0 - (figs l t r s.length).getD k 0) -> isb = false /\ ((k : Nat) : Int) ∈ dbts s l r o s.length := by
  intro k hk hc
  rw [zds hk] at hc
  have hf := far_le (r := r) hV hKp hT hk
  refine ⟨?_, (zl7 s.length).2 ⟨hk, by omega⟩⟩
  rcases hisb with ⟨_, hR⟩ | ⟨rfl, _⟩
  ·have := hR k hk; omega
  ·rfl
 have hdk : ∀ k : Nat, ((k : Nat) : Int) ∈ dbts s l r o s.length -> ¬ ((k : Nat) : Int) ∈ l := by
  intro k hk hkl
  have := ((zl7 s.length).1 hk).2
  unfold offv at this
  rw [if_pos hkl] at this
  omega
 have gl := zd3 l t r s.length
 have gb : ∀ k, k < s.length -> -9999 <= (figs l t r s.length).getD k 0 /\ (figs l t r s.length).getD k 0 <= 9999 := fun k hk => zgy hV hKp hT hk
 have tb : ∀ k, k < s.length -> -9999 <= t.getD k 0 /\ t.getD k 0 <= 9999 := fun k hk => zdW hV hT hk
 have jF := fun {h' : Heap} (x : Ext h h') => iF hP hKp hT hl16 x
 have jD := fun {h' : Heap} (x : Ext h h') => iD hP hKp hl16 x
 clear iF iD iW iR hW hisb
 generalize figs l t r s.length = L at *
 generalize dbts s l r o s.length = D at *
 rcases hcase with ⟨hw, rfl⟩ | ⟨hw, rfl⟩ | ⟨hw, rfl⟩ | ⟨hw, rfl⟩
 all_goals
  refine body (N := 183) Tryz.func8 rfl (hK _ _ _ rfl) rfl rfl ?_
  (repeat' (first|apply zam|apply zac|(apply O_at;rfl)|(apply zai;rfl)|apply zak|(apply zaT;rfl)|apply zaG|((first|apply zag|apply zad|apply zcd|apply zaM|apply zb6);rfl;rfl;rfl;rfl)|(apply zbj;rfl;rfl;rfl;rfl;rfl;rfl;exact zaB rfl)|((first|apply zba|apply zcW);rfl;rfl;rfl;rfl;rfl;rfl)|(apply zcx;rfl;rfl;rfl;rfl;rfl)|(apply zdx;rfl;rfl;rfl;rfl;rfl;omega)|(apply zaJ;rfl;rfl;rfl;rfl;exact zbc rfl;(focus repeat' first|exact zaa|assumption|apply zab|(apply Ext.get;assumption));(first|exact Nat.le_of_ble_eq_true rfl|(simp;done)|(simp;omega)|(rw [zar];omega));rfl)|(apply zbk;rfl;rfl;rfl;rfl;exact zal rfl;rfl;rfl)|(apply zan;rfl;rfl;rfl;rfl;rfl;rfl;exact yes (iL (by repeat' first|exact Ext.refl _|assumption|apply Ext.push|refine Ext.trans ?_ (by assumption))) hRT;(rintro _ _ ⟨rfl,_⟩))|(apply zan;rfl;rfl;rfl;rfl;rfl;rfl;exact yes (iU hs ht16 (by repeat' first|exact Ext.refl _|assumption|apply Ext.push|refine Ext.trans ?_ (by assumption))) hT;(rintro _ _ ⟨rfl,_⟩))|(apply zan;rfl;rfl;rfl;rfl;rfl;rfl;exact jW (by repeat' first|exact Ext.refl _|assumption|apply Ext.push|refine Ext.trans ?_ (by assumption));(rintro _ _ ⟨rfl,_⟩))|(apply zan;rfl;rfl;rfl;rfl;rfl;rfl;exact jD (by repeat' first|exact Ext.refl _|assumption|apply Ext.push|refine Ext.trans ?_ (by assumption));(rintro _ _ ⟨_,_,rfl,_,_⟩))|(apply zan;rfl;rfl;rfl;rfl;rfl;rfl;exact jF (by repeat' first|exact Ext.refl _|assumption|apply Ext.push|refine Ext.trans ?_ (by assumption));(rintro _ _ ⟨_,_,rfl,_,_⟩))|fail))
  rename_i g1 x1 g2 x2 g3 x3 g4 dq dc drd dx g5 fq fc frd fx
  obtain ⟨bf, ef, ownf, rfl, gf⟩ := frd.at (by rw [zar]; omega)
  (repeat' (first|apply zam|apply zac|(apply O_at;rfl)|(apply zai;rfl)|apply zak|(apply zaT;rfl)|apply zao|apply zaG|((first|apply zag|apply zad|apply zcd|apply zaM|apply zb6);rfl;rfl;rfl;rfl)|(apply zbj;rfl;rfl;rfl;rfl;rfl;rfl;exact zaB rfl)|((first|apply zba|apply zcW);rfl;rfl;rfl;rfl;rfl;rfl)|(apply zcx;rfl;rfl;rfl;rfl;rfl)|(apply zbG;rfl;rfl;rfl;rfl;rfl;omega)|(apply zdx;rfl;rfl;rfl;rfl;rfl;omega)|(apply zj3;rfl;rfl;rfl;rfl;rfl;omega)|(apply zhy;rfl;rfl;rfl;rfl;rfl;omega)|(apply zpU;rfl;rfl;rfl;rfl;rfl;omega)|(apply P_neqB;rfl;rfl;rfl;rfl;rfl;rfl)|(apply zan;rfl;rfl;rfl;rfl;rfl;rfl;exact jR (by repeat' first|exact Ext.refl _|assumption|apply Ext.push|refine Ext.trans ?_ (by assumption));(rintro _ _ ⟨rfl,_⟩))|fail))
  rename_i g6 x6
  have gf6 := x6.get gf
  have gt6 : g6.get? bt = some (.cells (ints t) et ownt) := by (focus repeat' first | exact zaa | assumption | apply zab | (apply Ext.get; assumption))
  have gb6 : g6.get? h.n = some (.cells [.slice q s.length kq, .int .i64 r, .int .i64 o] 25 true) := by (focus repeat' first | exact zaa | assumption | apply zab | (apply Ext.get; assumption))
  have gl6 : g6.get? b = some (.cells (ints l) e own) := by (focus repeat' first | exact zaa | assumption | apply zab | (apply Ext.get; assumption))
  have rd6 : Rd g6 dq (ints D) := drd.ext (by repeat' first|exact Ext.refl _|assumption|apply Ext.push|refine Ext.trans ?_ (by assumption))
  first
   | (refine zbd (fun k : Nat => [(15, .int .i64 (k : Nat)), (13, .bool true), (11, .slice (some ⟨bf, 0, none⟩) L.length fc), (9, .slice dq D.length dc), (7, .int .i64 w), (3, .pointer (some ⟨h.n, 0, none⟩)), (2, .slice (some ⟨bt, 0, none⟩) t.length ct), (1, .slice (some ⟨b, 0, none⟩) l.length cap)]) (fun k h' => k <= L.length /\ Ext g6 h') (fun k => L.length - k) ?_ 0 ⟨Nat.zero_le _, Ext.refl _⟩ ?env; case env => (focus repeat' first | rfl | exact trivial | apply And.intro))
   | (refine zbd (fun k : Nat => [(15, .int .i64 (k : Nat)), (13, .bool false), (11, .slice (some ⟨bf, 0, none⟩) L.length fc), (9, .slice dq D.length dc), (7, .int .i64 w), (3, .pointer (some ⟨h.n, 0, none⟩)), (2, .slice (some ⟨bt, 0, none⟩) t.length ct), (1, .slice (some ⟨b, 0, none⟩) l.length cap)]) (fun k h' => k <= L.length /\ Ext g6 h') (fun k => L.length - k) ?_ 0 ⟨Nat.zero_le _, Ext.refl _⟩ ?env; case env => (focus repeat' first | rfl | exact trivial | apply And.intro))
  ·rintro k h' ⟨hk, hx⟩ ih
   have gf' := hx.get gf6
   have gt' := hx.get gt6
   have gb' := hx.get gb6
   have gl' := hx.get gl6
   have rd' := rd6.ext hx
   by_cases hlt : k < L.length
   ·have b1 := gb k (by omega)
    have b2 := tb k (by omega)
    have ho := hoff k (by omega)
    have hd := hdk k
    by_cases c1 : o < L.getD k 0 - t.getD k 0
    ·obtain ⟨hf, hm⟩ := ho (.inl c1)
     first
      | exact absurd hf (by decide)
      | ((repeat' (first|apply zam|apply zac|(apply O_at;rfl)|(apply N_at;rfl)|(apply zai;rfl)|apply zak|(apply za0;rfl)|(apply zaT;rfl)|(apply zbU;exact zaY (by decide +kernel))|apply zao|apply zaG|(apply zcY;rfl;exact (.inl (Nat.le_refl 1)))|apply zaF|((first|apply zag|apply zad|apply zcd|apply zaM|apply zb6);rfl;rfl;rfl;rfl)|(apply zbj;rfl;rfl;rfl;rfl;rfl;rfl;exact zaB rfl)|((first|apply zba|apply zcW);rfl;rfl;rfl;rfl;rfl;rfl)|(apply zbG;rfl;rfl;rfl;rfl;rfl;omega)|(apply za1;rfl;rfl;rfl;rfl;rfl;omega)|(apply zdx;rfl;rfl;rfl;rfl;rfl;omega)|(apply zbH;rfl;rfl;rfl;rfl;rfl;(unfold fit;omega))|((first|apply zbT|apply zcD);rfl;rfl;rfl;rfl;rfl;exact zaB rfl;exact zal rfl;(first|assumption|rfl|exact (Int.toNat_of_nonneg (by omega)).symm);omega)|(apply zaq;rfl;rfl;rfl;rfl;exact zaH rfl;(focus repeat' first|exact zaa|assumption|apply zab|(apply Ext.get;assumption));(first|exact zaw (by omega)|rfl|assumption))|(apply zmM;rfl;rfl;rfl;rfl)|(apply M_fa;rfl;rfl;rfl;rfl;exact zbf rfl;(first|exact Nat.zero_add _|exact Nat.add_zero _|rfl))|(apply zp5;rfl;rfl;rfl;rfl;rfl;omega)|(apply zet;rfl;rfl;rfl;rfl;rfl;(unfold fit;omega))|(((apply zb5;rfl;rfl;rfl;rfl;exact zaH rfl;exact zbx (by decide +kernel));(focus repeat' first|exact zaa|assumption|apply zab|(apply Ext.get;assumption));(first|exact zaw (by omega)|rfl|assumption));(first|assumption|exact zbh _ _|rfl|(focus simp [same,same.all2];done));(first|rfl|assumption|exact hwv _|(simp [within];omega)))|(apply zan;rfl;rfl;rfl;rfl;rfl;rfl;exact yes (zcR hK (by omega) (rd'.ext (by repeat' first|exact Ext.refl _|assumption|apply Ext.push|refine Ext.trans ?_ (by assumption)))) hm;(rintro _ _ ⟨rfl,_⟩))|(apply zan;rfl;rfl;rfl;rfl;rfl;rfl;exact no (zcR hK (by omega) (.inr ⟨_,_,_,rfl,by (focus repeat' first|exact zaa|assumption|apply zab|(apply Ext.get;assumption))⟩)) (hd hm);(rintro _ _ ⟨rfl,_⟩))|fail)); exact zaS (ih (k + 1) _ (by omega) ⟨hlt, by repeat' first|exact Ext.refl _|assumption|apply Ext.push|refine Ext.trans ?_ (by assumption)⟩) (by (focus repeat' first | rfl | exact trivial | apply And.intro)))
    ·by_cases c2 : o < t.getD k 0 - L.getD k 0
     ·obtain ⟨hf, hm⟩ := ho (.inr c2)
      first
       | exact absurd hf (by decide)
       | ((repeat' (first|apply zam|apply zac|(apply O_at;rfl)|(apply N_at;rfl)|(apply zai;rfl)|apply zak|(apply za0;rfl)|(apply zaT;rfl)|(apply zbU;exact zaY (by decide +kernel))|apply zao|apply zaG|(apply zcY;rfl;exact (.inl (Nat.le_refl 1)))|apply zaF|((first|apply zag|apply zad|apply zcd|apply zaM|apply zb6);rfl;rfl;rfl;rfl)|(apply zbj;rfl;rfl;rfl;rfl;rfl;rfl;exact zaB rfl)|((first|apply zba|apply zcW);rfl;rfl;rfl;rfl;rfl;rfl)|(apply zbG;rfl;rfl;rfl;rfl;rfl;omega)|(apply za1;rfl;rfl;rfl;rfl;rfl;omega)|(apply zdx;rfl;rfl;rfl;rfl;rfl;omega)|(apply zbH;rfl;rfl;rfl;rfl;rfl;(unfold fit;omega))|((first|apply zbT|apply zcD);rfl;rfl;rfl;rfl;rfl;exact zaB rfl;exact zal rfl;(first|assumption|rfl|exact (Int.toNat_of_nonneg (by omega)).symm);omega)|(apply zaq;rfl;rfl;rfl;rfl;exact zaH rfl;(focus repeat' first|exact zaa|assumption|apply zab|(apply Ext.get;assumption));(first|exact zaw (by omega)|rfl|assumption))|(apply M_fa;rfl;rfl;rfl;rfl;exact zbf rfl;(first|exact Nat.zero_add _|exact Nat.add_zero _|rfl))|(apply zmP;rfl;rfl;rfl;rfl;rfl;omega)|(apply zp5;rfl;rfl;rfl;rfl;rfl;omega)|(apply zet;rfl;rfl;rfl;rfl;rfl;(unfold fit;omega))|(((apply zb5;rfl;rfl;rfl;rfl;exact zaH rfl;exact zbx (by decide +kernel));(focus repeat' first|exact zaa|assumption|apply zab|(apply Ext.get;assumption));(first|exact zaw (by omega)|rfl|assumption));(first|assumption|exact zbh _ _|rfl|(focus simp [same,same.all2];done));(first|rfl|assumption|exact hwv _|(simp [within];omega)))|(apply zan;rfl;rfl;rfl;rfl;rfl;rfl;exact yes (zcR hK (by omega) (rd'.ext (by repeat' first|exact Ext.refl _|assumption|apply Ext.push|refine Ext.trans ?_ (by assumption)))) hm;(rintro _ _ ⟨rfl,_⟩))|(apply zan;rfl;rfl;rfl;rfl;rfl;rfl;exact no (zcR hK (by omega) (.inr ⟨_,_,_,rfl,by (focus repeat' first|exact zaa|assumption|apply zab|(apply Ext.get;assumption))⟩)) (hd hm);(rintro _ _ ⟨rfl,_⟩))|fail)); exact zaS (ih (k + 1) _ (by omega) ⟨hlt, by repeat' first|exact Ext.refl _|assumption|apply Ext.push|refine Ext.trans ?_ (by assumption)⟩) (by (focus repeat' first | rfl | exact trivial | apply And.intro)))
     ·by_cases hm : ((k : Nat) : Int) ∈ D
      ·(repeat' (first|apply zam|apply zac|(apply O_at;rfl)|(apply N_at;rfl)|(apply zai;rfl)|apply zak|(apply za0;rfl)|(apply zaT;rfl)|(apply zbU;exact zaY (by decide +kernel))|apply zao|apply zaG|(apply zcY;rfl;exact (.inl (Nat.le_refl 1)))|apply zaF|(apply zcc;rfl;rfl;rfl)|((first|apply zag|apply zad|apply zcd|apply zaM|apply zb6);rfl;rfl;rfl;rfl)|(apply zbj;rfl;rfl;rfl;rfl;rfl;rfl;exact zaB rfl)|((first|apply zba|apply zcW);rfl;rfl;rfl;rfl;rfl;rfl)|(apply zbG;rfl;rfl;rfl;rfl;rfl;omega)|(apply za1;rfl;rfl;rfl;rfl;rfl;omega)|(apply zdx;rfl;rfl;rfl;rfl;rfl;omega)|(apply zbH;rfl;rfl;rfl;rfl;rfl;(unfold fit;omega))|((first|apply zbT|apply zcD);rfl;rfl;rfl;rfl;rfl;exact zaB rfl;exact zal rfl;(first|assumption|rfl|exact (Int.toNat_of_nonneg (by omega)).symm);omega)|(apply zaq;rfl;rfl;rfl;rfl;exact zaH rfl;(focus repeat' first|exact zaa|assumption|apply zab|(apply Ext.get;assumption));(first|exact zaw (by omega)|rfl|assumption))|(apply M_fa;rfl;rfl;rfl;rfl;exact zbf rfl;(first|exact Nat.zero_add _|exact Nat.add_zero _|rfl))|(apply zmP;rfl;rfl;rfl;rfl;rfl;omega)|(apply zet;rfl;rfl;rfl;rfl;rfl;(unfold fit;omega))|(((apply zb5;rfl;rfl;rfl;rfl;exact zaH rfl;exact zbx (by decide +kernel));(focus repeat' first|exact zaa|assumption|apply zab|(apply Ext.get;assumption));(first|exact zaw (by omega)|rfl|assumption));(first|assumption|exact zbh _ _|rfl|(focus simp [same,same.all2];done));(first|rfl|assumption|exact hwv _|(simp [within];omega)))|(apply zan;rfl;rfl;rfl;rfl;rfl;rfl;exact yes (zcR hK (by omega) (rd'.ext (by repeat' first|exact Ext.refl _|assumption|apply Ext.push|refine Ext.trans ?_ (by assumption)))) hm;(rintro _ _ ⟨rfl,_⟩))|(apply zan;rfl;rfl;rfl;rfl;rfl;rfl;exact no (zcR hK (by omega) (.inr ⟨_,_,_,rfl,by (focus repeat' first|exact zaa|assumption|apply zab|(apply Ext.get;assumption))⟩)) (hd hm);(rintro _ _ ⟨rfl,_⟩))|fail))
       exact zaS (ih (k + 1) _ (by omega) ⟨hlt, by repeat' first|exact Ext.refl _|assumption|apply Ext.push|refine Ext.trans ?_ (by assumption)⟩) (by (focus repeat' first | rfl | exact trivial | apply And.intro))
      ·(repeat' (first|apply zam|apply zac|(apply O_at;rfl)|(apply N_at;rfl)|(apply zai;rfl)|apply zak|(apply za0;rfl)|(apply zaT;rfl)|(apply zbU;exact zaY (by decide +kernel))|apply zao|apply zaG|(apply zcY;rfl;exact (.inl (Nat.le_refl 1)))|apply zaF|(apply zcc;rfl;rfl;rfl)|((first|apply zag|apply zad|apply zcd|apply zaM|apply zb6);rfl;rfl;rfl;rfl)|(apply zbj;rfl;rfl;rfl;rfl;rfl;rfl;exact zaB rfl)|((first|apply zba|apply zcW);rfl;rfl;rfl;rfl;rfl;rfl)|(apply zbG;rfl;rfl;rfl;rfl;rfl;omega)|(apply za1;rfl;rfl;rfl;rfl;rfl;omega)|(apply zdx;rfl;rfl;rfl;rfl;rfl;omega)|(apply zbH;rfl;rfl;rfl;rfl;rfl;(unfold fit;omega))|((first|apply zbT|apply zcD);rfl;rfl;rfl;rfl;rfl;exact zaB rfl;exact zal rfl;(first|assumption|rfl|exact (Int.toNat_of_nonneg (by omega)).symm);omega)|(apply zaq;rfl;rfl;rfl;rfl;exact zaH rfl;(focus repeat' first|exact zaa|assumption|apply zab|(apply Ext.get;assumption));(first|exact zaw (by omega)|rfl|assumption))|(apply M_fa;rfl;rfl;rfl;rfl;exact zbf rfl;(first|exact Nat.zero_add _|exact Nat.add_zero _|rfl))|(apply zmP;rfl;rfl;rfl;rfl;rfl;omega)|(apply zet;rfl;rfl;rfl;rfl;rfl;(unfold fit;omega))|(((apply zb5;rfl;rfl;rfl;rfl;exact zaH rfl;exact zbx (by decide +kernel));(focus repeat' first|exact zaa|assumption|apply zab|(apply Ext.get;assumption));(first|exact zaw (by omega)|rfl|assumption));(first|assumption|exact zbh _ _|rfl|(focus simp [same,same.all2];done));(first|rfl|assumption|exact hwv _|(simp [within];omega)))|(apply zan;rfl;rfl;rfl;rfl;rfl;rfl;exact no (zcR hK (by omega) (rd'.ext (by repeat' first|exact Ext.refl _|assumption|apply Ext.push|refine Ext.trans ?_ (by assumption)))) hm;(rintro _ _ ⟨rfl,_⟩))|fail))
       exact zaS (ih (k + 1) _ (by omega) ⟨hlt, by repeat' first|exact Ext.refl _|assumption|apply Ext.push|refine Ext.trans ?_ (by assumption)⟩) (by (focus repeat' first | rfl | exact trivial | apply And.intro))
   ·obtain rfl : k = L.length := by omega
    (repeat' (first|apply zam|apply zac|(apply O_at;rfl)|(apply zai;rfl)|apply zak|(apply zaT;rfl)|apply zbw|apply zaL|apply zbA|apply za4|apply za5|apply zay|(apply zcc;rfl;rfl;rfl)|((first|apply zag|apply zad|apply zcd|apply zaM|apply zb6);rfl;rfl;rfl;rfl)|(apply zbj;rfl;rfl;rfl;rfl;rfl;rfl;exact zaB rfl)|((first|apply zba|apply zcW);rfl;rfl;rfl;rfl;rfl;rfl)|(apply zbG;rfl;rfl;rfl;rfl;rfl;omega)|(apply P_neqT;rfl;rfl;rfl;rfl;rfl;omega)|(apply zan;rfl;rfl;rfl;rfl;rfl;rfl;exact zeL hKn;(rintro _ _ ⟨rfl,_⟩))|fail))
    exact ⟨.inr rfl, _, rfl, rfl⟩
end Go.AX.Sa
