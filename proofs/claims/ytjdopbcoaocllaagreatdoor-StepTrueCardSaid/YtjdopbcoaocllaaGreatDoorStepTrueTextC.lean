/- The law StepTrue at the reading: what the functions that it calls answer (3). -/
import Derived.Test.YtjdopbcoaocllaaGreatDoorStepTrueTextB
namespace Go.AX.Sa
open Go.Proofs
set_option maxRecDepth 100000
variable {K : Known}
def dbts (s : List (Int × Int)) (l : List Int) (r o : Int) : Nat -> List Int
 | 0 => []
 | k + 1 => if o < offv s l r k then dbts s l r o k ++ [((k : Nat) : Int)] else dbts s l r o k
theorem zfP {s : List (Int × Int)} {l : List Int} {r o : Int} {k : Nat} (h : o < offv s l r k) : dbts s l r o (k + 1) = dbts s l r o k ++ [((k : Nat) : Int)] := if_pos h
theorem zii {s : List (Int × Int)} {l : List Int} {r o : Int} {k : Nat} (h : ¬ o < offv s l r k) : dbts s l r o (k + 1) = dbts s l r o k := if_neg h
theorem zmu (s : List (Int × Int)) (l : List Int) (r o : Int) : ∀ k, (dbts s l r o k).length <= k := by
 intro k
 induction k with
 | zero => exact Nat.le_refl _
 | succ k ih =>
  by_cases h : o < offv s l r k
  ·rw [zfP h, List.length_append]; simp only [List.length_cons, List.length_nil]; omega
  ·rw [zii h]; omega
def zeY (s : List (Int × Int)) (l : List Int) (r o : Int) : Prop := ∀ j, j < s.length -> offv s l r j <= o
theorem zij {s : List (Int × Int)} {l : List Int} {r o : Int} : ∀ k, (dbts s l r o k).length = 0 ↔ ∀ j, j < k -> offv s l r j <= o := by
 intro k
 induction k with
 | zero => exact ⟨fun _ j hj => absurd hj (Nat.not_lt_zero _), fun _ => rfl⟩
 | succ k ih =>
  by_cases h : o < offv s l r k
  ·rw [zfP h, List.length_append]
   simp only [List.length_cons, List.length_nil]
   exact ⟨fun q => by omega, fun q => by have := q k (Nat.lt_succ_self k); omega⟩
  ·rw [zii h, ih]
   refine ⟨fun q j hj => ?_, fun q j hj => q j (by omega)⟩
   by_cases hjk : j = k
   ·subst hjk; omega
   ·exact q j (by omega)
theorem zpv (hK : NoK K) {T : Tb} {l : List Int} {b cap : Nat} {e : TypeId} {own : Bool} {h : Heap} (hP : TbP T) (hKp : zb9 T.s.length l) (hcap : l.length <= cap) (hll : l.length <= 1000) (hTb : TbAt T h) (hg : h.get? b = some (.cells (ints l) e own)) :
  CallW Tryz.prog K 77 #[ktV T (some ⟨b, 0, none⟩) l.length cap] h (IsL (dbts T.s l T.r T.o T.s.length) h) := by
 have iO : ∀ {h' : Heap}, Ext h h' -> CallW Tryz.prog K 82 #[ktV T (some ⟨b, 0, none⟩) l.length cap] h' (IsL (offs T.s l T.r T.s.length) h') := fun x => zkN hK hP hKp hcap hll (hTb.ext x) (x.get hg)
 obtain ⟨q, kq, s, r, o⟩ := T
 have hqb : ∀ a, q = some a -> a.block < h.n := hTb.b
 have hb0 := Heap.get_lt hg
 have hn := hP.1
 dsimp only [ktV] at iO hn ⊢
 have hfl := zd1 s l r s.length
 refine body (N := 25) Tryz.func77 rfl (hK _ _ _ rfl) rfl rfl ?_
 (repeat' (first|apply zam|apply zac|(apply O_at;rfl)|(apply zai;rfl)|apply zak|apply zao|((first|apply zag|apply zad);rfl;rfl;rfl;rfl)|(apply zbj;rfl;rfl;rfl;rfl;rfl;rfl;exact zaB rfl)|(apply zaJ;rfl;rfl;rfl;rfl;exact zbc rfl;(focus repeat' first|exact zaa|assumption|(apply Ext.get;assumption));(first|exact Nat.le_of_ble_eq_true rfl|(simp;done)|(simp;omega)|(rw [zar];omega));rfl)|(apply zbk;rfl;rfl;rfl;rfl;exact zal rfl;rfl;rfl)|(apply zan;rfl;rfl;rfl;rfl;rfl;rfl;exact iO (by repeat' first|exact Ext.refl _|assumption|apply Ext.push|refine Ext.trans ?_ (by assumption));(rintro _ _ ⟨_,_,rfl,_,_⟩))|fail))
 rename_i h1 fq fc frd fx
 rw [hfl]
 obtain ⟨bf, ef, ownf, rfl, gf⟩ := frd.at (by rw [zar]; omega)
 have hk1 : h1.get? h.n = some (.cells [.slice q s.length kq, .int .i64 r, .int .i64 o, .slice (some ⟨b, 0, none⟩) l.length cap] 82 true) := fx.get zaa
 refine zbd (fun a : Nat × Value => [(9, .int .i64 (a.1 : Nat)), (8, .int .i64 (s.length : Nat)), (7, .slice (some ⟨bf, 0, none⟩) s.length fc), (3, a.2), (1, .pointer (some ⟨h.n, 0, none⟩))])
  (fun a h' => a.1 <= s.length /\ Ext h1 h' /\ OutI 3 h1 h' a.2 (dbts s l r o a.1)) (fun a => s.length - a.1) ?_ (0, nilV) ?_ ?_
 ·rintro ⟨k, v⟩ h' ⟨hk, hx, ho⟩ ih
  dsimp only at hk hx ho ih ⊢
  have hk' := hx.get hk1
  have gf' := hx.get gf
  have hle := zmu s l r o k
  by_cases hlt : k < s.length
  ·have hg1 := zh1 (s := s) (l := l) (r := r) hlt
   by_cases hc : o < offv s l r k
   ·rw [<- hg1] at hc
    (repeat' (first|apply zam|apply zac|(apply O_at;rfl)|(apply zai;rfl)|apply zak|(apply za0;rfl)|apply zao|apply zaG|apply zaF|((first|apply zag|apply zad);rfl;rfl;rfl;rfl)|(apply P_fa;rfl;rfl;rfl;rfl;exact zbf rfl;(first|exact Nat.zero_add _|exact Nat.add_zero _|rfl))|(apply za1;rfl;rfl;rfl;rfl;rfl;omega)|(apply zhx;rfl;rfl;rfl;rfl;rfl;omega)|(apply zbH;rfl;rfl;rfl;rfl;rfl;(unfold fit;omega))|(apply zbT;rfl;rfl;rfl;rfl;rfl;exact zaB rfl;exact zal rfl;(first|assumption|rfl|exact (Int.toNat_of_nonneg (by omega)).symm);omega)|(apply zaq;rfl;rfl;rfl;rfl;exact zaH rfl;(focus repeat' first|exact zaa|assumption|(apply Ext.get;assumption));(first|exact zaw (by omega)|rfl|assumption))|(apply ziy;rfl;rfl;rfl;rfl;rfl;rfl;rfl;exact zfd rfl)|(apply P_appI;rfl;rfl;rfl;rfl;rfl;rfl;rfl;rfl;exact zfd rfl;exact zaB rfl;(focus repeat' first|exact zaa|assumption|(apply Ext.get;assumption));(apply OutI.ext;assumption;(focus repeat' first|exact Ext.refl _|assumption|apply Ext.push|(refine Ext.trans ?_ (by assumption))));(focus repeat' first|exact Ext.refl _|assumption|apply Ext.push|(refine Ext.trans ?_ (by assumption)));(first|omega|(simp;omega));(intro _ _ _ _))|fail))
    rename_i v1 h2 ho2 hx2
    exact zaS (ih (k + 1, v1) _ (by dsimp only; omega) ⟨hlt, by repeat' first|exact Ext.refl _|assumption|apply Ext.push|refine Ext.trans ?_ (by assumption), by rw [hg1] at hc; rw [zfP hc]; exact ho2⟩) (by (focus repeat' first | rfl | exact trivial | apply And.intro))
   ·rw [<- hg1] at hc
    (repeat' (first|apply zam|apply zac|(apply O_at;rfl)|(apply zai;rfl)|apply zak|(apply za0;rfl)|(apply zaT;rfl)|apply zao|apply zaG|apply zaF|((first|apply zag|apply zad);rfl;rfl;rfl;rfl)|(apply P_fa;rfl;rfl;rfl;rfl;exact zbf rfl;(first|exact Nat.zero_add _|exact Nat.add_zero _|rfl))|(apply za1;rfl;rfl;rfl;rfl;rfl;omega)|(apply zdx;rfl;rfl;rfl;rfl;rfl;omega)|(apply zbH;rfl;rfl;rfl;rfl;rfl;(unfold fit;omega))|(apply zbT;rfl;rfl;rfl;rfl;rfl;exact zaB rfl;exact zal rfl;(first|assumption|rfl|exact (Int.toNat_of_nonneg (by omega)).symm);omega)|(apply zaq;rfl;rfl;rfl;rfl;exact zaH rfl;(focus repeat' first|exact zaa|assumption|(apply Ext.get;assumption));(first|exact zaw (by omega)|rfl|assumption))|fail))
    exact zaS (ih (k + 1, v) _ (by dsimp only; omega) ⟨hlt, by repeat' first|exact Ext.refl _|assumption|apply Ext.push|refine Ext.trans ?_ (by assumption), by rw [hg1] at hc; rw [zii hc]; exact ho⟩) (by (focus repeat' first | rfl | exact trivial | apply And.intro))
  ·obtain rfl : k = s.length := by omega
   (repeat' (first|apply zam|apply zac|(apply O_at;rfl)|(apply zai;rfl)|apply zak|(apply zaT;rfl)|apply zbw|apply zaL|apply zbA|apply za4|apply za5|apply zay|((first|apply zag|apply zad);rfl;rfl;rfl;rfl)|(apply zbG;rfl;rfl;rfl;rfl;rfl;omega)|fail))
   have hn1 := fx.n
   simp only [Heap.push] at hn1
   exact ⟨.inr rfl, _, rfl, (OutI.low (e := 3) ho (by omega)).isL (by repeat' first|exact Ext.refl _|assumption|apply Ext.push|refine Ext.trans ?_ (by assumption))⟩
 ·exact ⟨Nat.zero_le _, Ext.refl _, OutI.nil _ _ _⟩
 ·(focus repeat' first | rfl | exact trivial | apply And.intro)
theorem fill_db : zd9 Tryz.prog 131 [] = some (.agg #[]) := by kernel_rfl
def dbtV : Value := .iface 131 (.agg #[])
def dbtCh : List PanicEntry := [⟨dbtV, false, false⟩]
theorem zls : zdt Tryz.prog .nilIface 131 true = some (.tuple #[.agg #[], .bool false]) := by kernel_rfl
theorem assertD : zdt Tryz.prog dbtV 131 true = some (.tuple #[.agg #[], .bool true]) := by kernel_rfl
theorem dbt_fin {b : Nat} {v : Value} {h : Heap} (_hg : h.get? b = some (.cells [v] 4 true)) :
  ∃ h1, zqb Tryz.prog K 112 #[.pointer (some ⟨b, 0, none⟩)] .returning h .returning h1 /\ Ext h h1 := by
 apply bodyD (u := .returning) (N := 9) Tryz.func112; rfl; rfl; rfl; rfl; rfl; rfl; rfl
 show R1 _ _ _ _ _ _ _ ((4, .nilIface) :: _) _
 (repeat' (first|(apply O_at;rfl)|fail))
 apply zmJ; rfl; rfl; rfl; rfl; exact zls
 (repeat' (first|apply zam|apply zac|(apply O_at;rfl)|(apply zai;rfl)|apply zak|(apply zaT;rfl)|apply zaG|apply zay|((first|apply zag|apply zad);rfl;rfl;rfl;rfl)|(apply zcx;rfl;rfl;rfl;rfl;rfl)|(apply zaQ;rfl;rfl;rfl;rfl;exact zal rfl;rfl;rfl;rfl)|(apply zbl;rfl;rfl;rfl;rfl;exact zal rfl;rfl;rfl)|fail))
 exact ⟨.inl rfl, by (focus repeat' first | exact Ext.refl _ | assumption | apply Ext.push)⟩
theorem dbt_pan {b : Nat} {v : Value} {h : Heap} (hg : h.get? b = some (.cells [v] 4 true)) {h0 : Heap} (hx : Ext h0 h) (hb : h0.n <= b) :
  ∃ h1, zqb Tryz.prog K 112 #[.pointer (some ⟨b, 0, none⟩)] (.panicking dbtCh) h (.panicking [⟨dbtV, true, false⟩]) h1 /\ (h1.get? b = some (.cells [.bool false] 4 true) /\ Ext h0 h1) := by
 apply bodyD (u := .panicking dbtCh) (N := 9) Tryz.func112; rfl; rfl; rfl; rfl; rfl; rfl; rfl
 show R1 _ _ _ _ _ _ _ ((4, dbtV) :: _) _
 (repeat' (first|(apply O_at;rfl)|fail))
 apply zmJ; rfl; rfl; rfl; rfl; exact assertD
 (repeat' (first|apply zam|apply zac|(apply O_at;rfl)|(apply zai;rfl)|apply zak|(apply za0;rfl)|apply zay|((first|apply zag|apply zad);rfl;rfl;rfl;rfl)|(apply zcx;rfl;rfl;rfl;rfl;rfl)|(apply zaQ;rfl;rfl;rfl;rfl;exact zal rfl;rfl;rfl;rfl)|(apply zbl;rfl;rfl;rfl;rfl;exact zal rfl;rfl;rfl)|(apply ziv;rfl;rfl;rfl;rfl;(focus repeat' first|assumption|apply zab);exact zal rfl;rfl;(first|rfl|exact zar _);rfl;(intro _ _ _))|fail))
 rename_i h1 g1 x1
 exact ⟨.inl rfl, g1, Ext.ofBut (by (focus repeat' first | assumption | apply Ext.push | (refine Ext.ofBut ?_ (by assumption) (by first | exact Nat.le_refl _ | omega)))) x1 hb⟩
section
variable {T : Tb} {l : List Int} {b cap : Nat} {e : TypeId} {own : Bool} {h : Heap}
theorem zgh (hK : NoK K) (hP : TbP T) (hKp : zb9 T.s.length l) (hcap : l.length <= cap) (hll : l.length <= 1000) (hTb : TbAt T h) (hg : h.get? b = some (.cells (ints l) e own)) (hS : zeY T.s l T.r T.o) :
  CallW Tryz.prog K 113 #[ktV T (some ⟨b, 0, none⟩) l.length cap] h (fun _ h1 => Ext h h1) := by
 have iO : ∀ {h' : Heap}, Ext h h' -> CallW Tryz.prog K 82 #[ktV T (some ⟨b, 0, none⟩) l.length cap] h' (IsL (offs T.s l T.r T.s.length) h') := fun x => zkN hK hP hKp hcap hll (hTb.ext x) (x.get hg)
 obtain ⟨q, kq, s, r, o⟩ := T
 have hn := hP.1
 dsimp only [ktV] at iO hn hS ⊢
 have hfl := zd1 s l r s.length
 refine body (N := 19) Tryz.func113 rfl (hK _ _ _ rfl) rfl rfl ?_
 (repeat' (first|apply zam|apply zac|(apply O_at;rfl)|(apply zai;rfl)|apply zak|apply zao|((first|apply zag|apply zad);rfl;rfl;rfl;rfl)|(apply zbj;rfl;rfl;rfl;rfl;rfl;rfl;exact zaB rfl)|(apply zaJ;rfl;rfl;rfl;rfl;exact zbc rfl;(focus repeat' first|exact zaa|assumption|(apply Ext.get;assumption));(first|exact Nat.le_of_ble_eq_true rfl|(simp;done)|(simp;omega)|(rw [zar];omega));rfl)|(apply zbk;rfl;rfl;rfl;rfl;exact zal rfl;rfl;rfl)|(apply zan;rfl;rfl;rfl;rfl;rfl;rfl;exact iO (by repeat' first|exact Ext.refl _|assumption|apply Ext.push|refine Ext.trans ?_ (by assumption));(rintro _ _ ⟨_,_,rfl,_,_⟩))|fail))
 rename_i h1 fq fc frd fx
 rw [hfl]
 obtain ⟨bf, ef, ownf, rfl, gf⟩ := frd.at (by rw [zar]; omega)
 have hk1 : h1.get? h.n = some (.cells [.slice q s.length kq, .int .i64 r, .int .i64 o, .slice (some ⟨b, 0, none⟩) l.length cap] 82 true) := fx.get zaa
 refine zbd (fun k : Nat => [(7, .int .i64 (k : Nat)), (6, .int .i64 (s.length : Nat)), (5, .slice (some ⟨bf, 0, none⟩) s.length fc), (1, .pointer (some ⟨h.n, 0, none⟩))])
  (fun k h' => k <= s.length /\ Ext h1 h') (fun k => s.length - k) ?_ 0 ⟨Nat.zero_le _, Ext.refl _⟩ ?_
 ·rintro k h' ⟨hk, hx⟩ ih
  have hk' := hx.get hk1
  have gf' := hx.get gf
  by_cases hlt : k < s.length
  ·have hg1 := zh1 (s := s) (l := l) (r := r) hlt
   have hc := hS k hlt
   rw [<- hg1] at hc
   (repeat' (first|apply zam|apply zac|(apply O_at;rfl)|(apply zai;rfl)|apply zak|(apply za0;rfl)|(apply zaT;rfl)|apply zao|apply zaG|apply zaF|((first|apply zag|apply zad);rfl;rfl;rfl;rfl)|(apply P_fa;rfl;rfl;rfl;rfl;exact zbf rfl;(first|exact Nat.zero_add _|exact Nat.add_zero _|rfl))|(apply za1;rfl;rfl;rfl;rfl;rfl;omega)|(apply zdx;rfl;rfl;rfl;rfl;rfl;omega)|(apply zbH;rfl;rfl;rfl;rfl;rfl;(unfold fit;omega))|(apply zbT;rfl;rfl;rfl;rfl;rfl;exact zaB rfl;exact zal rfl;(first|assumption|rfl|exact (Int.toNat_of_nonneg (by omega)).symm);omega)|(apply zaq;rfl;rfl;rfl;rfl;exact zaH rfl;(focus repeat' first|exact zaa|assumption|(apply Ext.get;assumption));(first|exact zaw (by omega)|rfl|assumption))|fail))
   exact zaS (ih (k + 1) _ (by omega) ⟨hlt, by repeat' first|exact Ext.refl _|assumption|apply Ext.push|refine Ext.trans ?_ (by assumption)⟩) (by (focus repeat' first | rfl | exact trivial | apply And.intro))
  ·(repeat' (first|apply zam|apply zac|(apply O_at;rfl)|(apply zai;rfl)|apply zak|(apply zaT;rfl)|apply zbw|apply zbA|apply za4|apply za5|apply zay|(apply zbG;rfl;rfl;rfl;rfl;rfl;omega)|fail))
   exact ⟨.inl rfl, _, rfl, by repeat' first|exact Ext.refl _|assumption|apply Ext.push|refine Ext.trans ?_ (by assumption)⟩
 ·(focus repeat' first | rfl | exact trivial | apply And.intro)
theorem zg5 (hK : NoK K) (hP : TbP T) (hKp : zb9 T.s.length l) (hcap : l.length <= cap) (hll : l.length <= 1000) (hTb : TbAt T h) (hg : h.get? b = some (.cells (ints l) e own)) (hS : ¬ zeY T.s l T.r T.o) :
  CallP Tryz.prog K 113 #[ktV T (some ⟨b, 0, none⟩) l.length cap] h dbtCh (Ext h) := by
 have iO : ∀ {h' : Heap}, Ext h h' -> CallW Tryz.prog K 82 #[ktV T (some ⟨b, 0, none⟩) l.length cap] h' (IsL (offs T.s l T.r T.s.length) h') := fun x => zkN hK hP hKp hcap hll (hTb.ext x) (x.get hg)
 obtain ⟨q, kq, s, r, o⟩ := T
 have hn := hP.1
 dsimp only [ktV] at iO hn hS ⊢
 have hfl := zd1 s l r s.length
 refine bodyP (N := 19) Tryz.func113 rfl (hK _ _ _ rfl) rfl rfl ?_
 (repeat' (first|apply zam|apply zac|(apply O_at;rfl)|(apply zai;rfl)|apply zak|apply zao|((first|apply zag|apply zad);rfl;rfl;rfl;rfl)|(apply zbj;rfl;rfl;rfl;rfl;rfl;rfl;exact zaB rfl)|(apply zaJ;rfl;rfl;rfl;rfl;exact zbc rfl;(focus repeat' first|exact zaa|assumption|(apply Ext.get;assumption));(first|exact Nat.le_of_ble_eq_true rfl|(simp;done)|(simp;omega)|(rw [zar];omega));rfl)|(apply zbk;rfl;rfl;rfl;rfl;exact zal rfl;rfl;rfl)|(apply zan;rfl;rfl;rfl;rfl;rfl;rfl;exact iO (by repeat' first|exact Ext.refl _|assumption|apply Ext.push|refine Ext.trans ?_ (by assumption));(rintro _ _ ⟨_,_,rfl,_,_⟩))|fail))
 rename_i h1 fq fc frd fx
 rw [hfl]
 obtain ⟨bf, ef, ownf, rfl, gf⟩ := frd.at (by rw [zar]; omega)
 have hk1 : h1.get? h.n = some (.cells [.slice q s.length kq, .int .i64 r, .int .i64 o, .slice (some ⟨b, 0, none⟩) l.length cap] 82 true) := fx.get zaa
 refine zbd (fun k : Nat => [(7, .int .i64 (k : Nat)), (6, .int .i64 (s.length : Nat)), (5, .slice (some ⟨bf, 0, none⟩) s.length fc), (1, .pointer (some ⟨h.n, 0, none⟩))])
  (fun k h' => k <= s.length /\ Ext h1 h' /\ ∀ j, j < k -> offv s l r j <= o) (fun k => s.length - k) ?_ 0 ⟨Nat.zero_le _, Ext.refl _, fun j q => by omega⟩ ?_
 ·rintro k h' ⟨hk, hx, hj⟩ ih
  have hk' := hx.get hk1
  have gf' := hx.get gf
  by_cases hlt : k < s.length
  ·have hg1 := zh1 (s := s) (l := l) (r := r) hlt
   by_cases hc : offv s l r k <= o
   ·have hc' := hc
    rw [<- hg1] at hc
    (repeat' (first|apply zam|apply zac|(apply O_at;rfl)|(apply zai;rfl)|apply zak|(apply za0;rfl)|(apply zaT;rfl)|apply zao|apply zaG|apply zaF|((first|apply zag|apply zad);rfl;rfl;rfl;rfl)|(apply P_fa;rfl;rfl;rfl;rfl;exact zbf rfl;(first|exact Nat.zero_add _|exact Nat.add_zero _|rfl))|(apply za1;rfl;rfl;rfl;rfl;rfl;omega)|(apply zdx;rfl;rfl;rfl;rfl;rfl;omega)|(apply zbH;rfl;rfl;rfl;rfl;rfl;(unfold fit;omega))|(apply zbT;rfl;rfl;rfl;rfl;rfl;exact zaB rfl;exact zal rfl;(first|assumption|rfl|exact (Int.toNat_of_nonneg (by omega)).symm);omega)|(apply zaq;rfl;rfl;rfl;rfl;exact zaH rfl;(focus repeat' first|exact zaa|assumption|(apply Ext.get;assumption));(first|exact zaw (by omega)|rfl|assumption))|fail))
    refine zaS (ih (k + 1) _ (by omega) ⟨hlt, by repeat' first|exact Ext.refl _|assumption|apply Ext.push|refine Ext.trans ?_ (by assumption), fun j hj' => ?_⟩) (by (focus repeat' first | rfl | exact trivial | apply And.intro))
    by_cases hjk : j = k
    ·subst hjk; exact hc'
    ·exact hj j (by omega)
   ·rw [<- hg1] at hc
    (repeat' (first|apply zam|apply zac|(apply O_at;rfl)|(apply zai;rfl)|apply zak|(apply za0;rfl)|apply zao|apply zaG|((first|apply zag|apply zad);rfl;rfl;rfl;rfl)|(apply P_fa;rfl;rfl;rfl;rfl;exact zbf rfl;(first|exact Nat.zero_add _|exact Nat.add_zero _|rfl))|(apply za1;rfl;rfl;rfl;rfl;rfl;omega)|(apply zhx;rfl;rfl;rfl;rfl;rfl;omega)|(apply zbT;rfl;rfl;rfl;rfl;rfl;exact zaB rfl;exact zal rfl;(first|assumption|rfl|exact (Int.toNat_of_nonneg (by omega)).symm);omega)|(apply zaq;rfl;rfl;rfl;rfl;exact zaH rfl;(focus repeat' first|exact zaa|assumption|(apply Ext.get;assumption));(first|exact zaw (by omega)|rfl|assumption))|fail))
    apply zfh; rfl; rfl; rfl; rfl; exact fill_db
    (repeat' (first|(apply O_at;rfl)|fail))
    apply P_iface; rfl; rfl; rfl; rfl; kernel_rfl
    (repeat' (first|(apply O_at;rfl)|fail))
    apply P_panic; rfl; rfl; rfl
    repeat' first | apply C_panS | apply C_panL | apply C_panB
    refine zay ⟨rfl, ?_⟩
    (focus repeat' first | exact Ext.refl _ | assumption | apply Ext.push | (refine Ext.trans ?_ (by assumption)))
  ·exact absurd (fun j q => hj j (by omega)) hS
 ·(focus repeat' first | rfl | exact trivial | apply And.intro)
theorem zpb (hK : NoK K) (hP : TbP T) (hKp : zb9 T.s.length l) (hcap : l.length <= cap) (hll : l.length <= 1000) (hTb : TbAt T h) (hg : h.get? b = some (.cells (ints l) e own)) :
  CallW Tryz.prog K 75 #[ktV T (some ⟨b, 0, none⟩) l.length cap] h (IfB (zeY T.s l T.r T.o) h) := by
 have iY : ∀ {h' : Heap}, zeY T.s l T.r T.o -> Ext h h' -> CallW Tryz.prog K 113 #[ktV T (some ⟨b, 0, none⟩) l.length cap] h' (fun _ h1 => Ext h' h1) := fun a x => zgh hK hP hKp hcap hll (hTb.ext x) (x.get hg) a
 have iN : ∀ {h' : Heap}, ¬ zeY T.s l T.r T.o -> Ext h h' -> CallP Tryz.prog K 113 #[ktV T (some ⟨b, 0, none⟩) l.length cap] h' dbtCh (Ext h') := fun a x => zg5 hK hP hKp hcap hll (hTb.ext x) (x.get hg) a
 obtain ⟨q, kq, s, r, o⟩ := T
 dsimp only [ktV] at iY iN ⊢
 apply znP 1 (N := 6) Tryz.func75; rfl; exact hK _ _ _ rfl; rfl; rfl; rfl; rfl; rfl; rfl; rfl; rfl
 (repeat' (first|apply zam|apply zac|(apply O_at;rfl)|(apply zai;rfl)|apply zak|apply zaG|apply zay|(apply zbk;rfl;rfl;rfl;rfl;exact zal rfl;rfl;rfl)|(apply zbl;rfl;rfl;rfl;rfl;exact zal rfl;rfl;rfl)|fail))
 refine .inr ⟨rfl, rfl, ?_⟩
 by_cases hA : zeY s l r o
 ·(repeat' (first|apply zam|apply zac|(apply O_at;rfl)|(apply zaJ;rfl;rfl;rfl;rfl;exact zbc rfl;(focus repeat' first|exact zaa|assumption|apply zab|(apply Ext.get;assumption));(first|exact Nat.le_of_ble_eq_true rfl|(simp;done)|(simp;omega));rfl)|fail))
  apply zan; rfl; rfl; rfl; rfl; rfl; rfl; exact iY hA (by (focus repeat' first | exact Ext.refl _ | assumption | apply Ext.push | (refine Ext.trans ?_ (by assumption)) | (refine Ext.ofBut ?_ (by assumption) (by first | exact Nat.le_refl _ | omega))))
  intro _ h5 x5
  (repeat' (first|apply zam|apply zac|(apply O_at;rfl)|(apply zai;rfl)|apply zak|apply zaL|apply zay|(apply ziv;rfl;rfl;rfl;rfl;(focus repeat' first|exact zaa|assumption|apply zab|(apply Ext.get;assumption));exact zal rfl;rfl;(first|rfl|exact zar _);rfl;(intro _ _ _))|fail))
  rename_i h3 g3 x3
  obtain ⟨h6, hD, x6⟩ := dbt_fin (K := K) g3
  exact ⟨.returning, .returning, h6, rfl, hD, rfl, _, zoB rfl (read1 (zaH rfl) (x6.get g3) rfl) rfl, .inl ⟨rfl, hA, (Ext.ofBut (by (focus repeat' first | exact Ext.refl _ | assumption | apply Ext.push | (refine Ext.trans ?_ (by assumption)) | (refine Ext.ofBut ?_ (by assumption) (by first | exact Nat.le_refl _ | omega)))) x3 (Nat.le_succ _)).trans x6⟩⟩
 ·(repeat' (first|apply zam|apply zac|(apply O_at;rfl)|(apply zaJ;rfl;rfl;rfl;rfl;exact zbc rfl;(focus repeat' first|exact zaa|assumption|apply zab|(apply Ext.get;assumption));(first|exact Nat.le_of_ble_eq_true rfl|(simp;done)|(simp;omega));rfl)|fail))
  apply P_callP; rfl; rfl; rfl; rfl; rfl; exact iN hA (by (focus repeat' first | exact Ext.refl _ | assumption | apply Ext.push | (refine Ext.trans ?_ (by assumption)) | (refine Ext.ofBut ?_ (by assumption) (by first | exact Nat.le_refl _ | omega))))
  intro h7 x7
  repeat' first | apply C_panS | apply C_panL | apply C_panB
  refine zay ?_
  obtain ⟨h5, hD, q2, e5⟩ := dbt_pan (K := K) (x7.get zaa) ((((Ext.refl h).push _).push _).trans x7) (Nat.le_succ _)
  exact ⟨_, _, h5, rfl, hD, rfl, _, zoB rfl (read1 (zaH rfl) q2 rfl) rfl, .inr ⟨rfl, hA, e5⟩⟩
end
end Go.AX.Sa

namespace Go.AX.Sa
open Go.Proofs
set_option maxRecDepth 100000
variable {K : Known}
theorem zlt {n : Nat} {l : List Int} (hKp : zb9 n l) {j : Nat} (hj : j < n) : bef l (j : Nat) = aft l (j : Nat) ↔ ((j : Nat) : Int) ∈ l := by
 have hG := hKp.2.2.2
 rcases zlU hKp hj with ⟨i, hi, hij⟩ | ⟨i, hi, h1, h2⟩
 ·have e1 := zjU hG (j := (j : Nat)) hi (by omega) (fun w => by have := hG i w; omega)
  have e2 := zjZ hG (j := (j : Nat)) hi (by omega) (fun m w => by have := hG m (by omega); rw [w] at this; omega)
  exact ⟨fun _ => mem_at.2 ⟨i, hi, hij⟩, fun _ => by rw [e1, e2]⟩
 ·have e1 := zjU hG (j := (j : Nat)) (i := i) (by omega) (by omega) (fun _ => h2)
  have e2 := zjZ hG (j := (j : Nat)) (i := i + 1) hi (by omega) (fun m w => by rw [show m = i by omega]; exact h1)
  refine ⟨fun w => by rw [e1, e2] at w; omega, fun w => ?_⟩
  obtain ⟨k, hk, hkj⟩ := mem_at.1 w
  by_cases hki : k <= i
  ·have := zc2 hG hki (by omega); omega
  ·have := zc2 hG (show i + 1 <= k by omega) hk; omega
end Go.AX.Sa

namespace Go.AX.Sa
open Go.Proofs
set_option maxRecDepth 100000
variable {K : Known}
def kps (st c : Nat) : List Int := (List.range c).map fun i => ((i * st : Nat) : Int)
def cnt (last st : Nat) : Nat := (last + st - 1) / st
theorem cnt_ex {last st : Nat} (hst : 1 <= st) : last <= cnt last st * st /\ ∀ d, cnt last st = d + 1 -> d * st < last := by
 have h := Nat.div_add_mod (last + st - 1) st
 have hm := Nat.mod_lt (last + st - 1) hst
 have hc : st * ((last + st - 1) / st) = cnt last st * st := Nat.mul_comm _ _
 refine ⟨by omega, fun d hd => ?_⟩
 rw [hd, Nat.succ_mul] at hc
 omega
def kls (n st : Nat) : List Int := kps st (cnt (n - 1) st) ++ [(n : Int) - 1]
theorem cnt_le {last st : Nat} (hst : 1 <= st) : cnt last st <= last := by
 have h := (cnt_ex (last := last) hst).2
 cases hc : cnt last st with
 | zero => exact Nat.zero_le _
 | succ d =>
  have := h d hc
  have := Nat.le_mul_of_pos_right d hst
  omega
def WidP (s : List (Int × Int)) (r o : Int) (w : Int) : Prop := (1 <= w /\ w <= (s.length : Int) - 1) /\ zeY s (kls s.length w.toNat) r o /\ ∀ m : Int, w < m -> m <= (s.length : Int) - 1 -> ¬ zeY s (kls s.length m.toNat) r o
end Go.AX.Sa

namespace Go.AX.Sa
open Go.Proofs
set_option maxRecDepth 100000
variable {K : Known}
section
variable {x : Ctx} {N : Nat} {E : Env} {h : Heap} {ops : Array Oper} {F : Ex -> Env -> Heap -> Prop} {i : Nat} {Hs : List Heap} {L : List Heap -> Prop} {nw : List (Nat × Nat × Blk)}
variable {d : Nat} {ty : TypeId} {pos : String} {af : Array Edge} {g : Option (Nat × Bool)} {ps : Array (Nat × Operand)}
end
def IsK (T : Tb) (l : List Int) (h : Heap) (v : Value) (h1 : Heap) : Prop := ∃ b, v = ktV T (some ⟨b, 0, none⟩) l.length unk /\ h1.get? b = some (.cells (ints l) 3 true) /\ h.n <= b /\ Ext h h1
end Go.AX.Sa

namespace Go.AX.Sa
open Go.Proofs
set_option maxRecDepth 100000
variable {K : Known}
section
variable {T : Tb} {h : Heap}
end
end Go.AX.Sa

namespace Go.AX.Sa
open Go.Proofs
set_option maxRecDepth 100000
variable {K : Known}
def rng (a : Int) (k : Nat) : List Int := (List.range k).map fun i => a + (i : Nat)
theorem zoy (a : Int) (k : Nat) : (rng a k).length = k := by simp [rng]
theorem rng_succ (a : Int) (k : Nat) : rng a (k + 1) = rng a k ++ [a + (k : Nat)] := by simp [rng, List.range_succ]
def zn8 (p : Int × Int) : List Int := rng p.1 (p.2 - p.1 + 1).toNat
theorem mem_rng {a x : Int} {k : Nat} : x ∈ rng a k ↔ a <= x /\ x < a + (k : Nat) := by
 simp only [rng, List.mem_map, List.mem_range]
 constructor
 ·rintro ⟨i, hi, rfl⟩
  omega
 ·intro h
  exact ⟨(x - a).toNat, by omega, by omega⟩
theorem zge (hK : NoK K) {bs l : Nat} {p : Int × Int} {e : TypeId} {own : Bool} {h : Heap} (hp : -1000000 <= p.1 /\ p.2 <= 1000000 /\ p.1 <= p.2 + 1) (I : Nat -> Heap -> Prop) (R : Heap -> Prop)
  (hb : ∀ k h', I k h' -> h'.get? bs = some (.cells [.int .i64 p.1, .int .i64 p.2] e own)) (h0 : I 0 h)
  (round : ∀ (k : Nat) h', p.1 + (k : Nat) <= p.2 -> I k h' -> RoundW Tryz.prog K l #[.int .i64 (p.1 + (k : Nat))] h' (fun r h1 => (r = .bool true /\ I (k + 1) h1) \/ (r = .bool false /\ R h1))) :
  CallW Tryz.prog K 144 #[.func (.yield l) #[] #[], .pointer (some ⟨bs, 0, none⟩)] h (fun _ h1 => I (p.2 - p.1 + 1).toNat h1 \/ R h1) := by
 have hb0 := hb 0 h h0
 refine body (N := 17) Tryz.func144 rfl (hK _ _ _ rfl) rfl rfl ?_
 (repeat' (first|apply zam|apply zac|(apply O_at;rfl)|(apply zai;rfl)|apply zak|apply zao|((first|apply zag|apply zad);rfl;rfl;rfl;rfl)|(apply P_fa;rfl;rfl;rfl;rfl;exact zbf rfl;(first|exact Nat.zero_add _|exact Nat.add_zero _|rfl))|(apply zaq;rfl;rfl;rfl;rfl;exact zaH rfl;(focus repeat' first|assumption);(first|rfl|assumption))|fail))
 refine zbd (fun k : Nat => [(3, .int .i64 (p.1 + (k : Nat))), (0, .func (.yield l) #[] #[]), (1, .pointer (some ⟨bs, 0, none⟩))])
  (fun k h' => k <= (p.2 - p.1 + 1).toNat /\ I k h') (fun k => (p.2 - p.1 + 1).toNat - k) ?_ 0 ?_ ?_
 ·intro k h' ⟨hk1, hi⟩ ih
  have hb' := hb k h' hi
  by_cases hlt : p.1 + (k : Nat) <= p.2
  ·(repeat' (first|apply zam|apply zac|(apply O_at;rfl)|(apply zai;rfl)|apply zak|(apply zaT;rfl)|apply zbw|apply zbA|apply za4|apply za5|apply zay|(apply zcc;rfl;rfl;rfl)|((first|apply zag|apply zad);rfl;rfl;rfl;rfl)|(apply P_fa;rfl;rfl;rfl;rfl;exact zbf rfl;(first|exact Nat.zero_add _|exact Nat.add_zero _|rfl))|(apply zba;rfl;rfl;rfl;rfl;rfl;rfl)|(apply zj2;rfl;rfl;rfl;rfl;rfl;all_goals intro _)|(apply zaq;rfl;rfl;rfl;rfl;exact zaH rfl;(focus repeat' first|assumption);(first|rfl|assumption))|fail))
   ·apply P_yield; rfl; rfl; rfl; rfl; rfl
    ·exact round k h' hlt hi
    rintro _ h2 (⟨rfl, ha⟩ | ⟨rfl, ha⟩)
    ·(repeat' (first|apply zam|apply zac|(apply O_at;rfl)|(apply zai;rfl)|apply zak|(apply za0;rfl)|apply zao|apply zaG|apply zaF|((first|apply zag|apply zad);rfl;rfl;rfl;rfl)|(apply zba;rfl;rfl;rfl;rfl;rfl;rfl)|(apply zbH;rfl;rfl;rfl;rfl;rfl;(unfold fit;omega))|fail))
     refine zaS (ih (k + 1) _ ?_ ⟨by omega, ha⟩) ?_
     ·omega
     ·refine ⟨?_, rfl, rfl, trivial⟩
      show some (Value.int .i64 (p.1 + (k : Nat) + 1)) = _
      congr 2
      omega
    ·(repeat' (first|(apply O_at;rfl)|(apply zai;rfl)|apply zak|(apply zaT;rfl)|apply zbw|apply zbA|apply za4|apply za5|apply zay|(apply zba;rfl;rfl;rfl;rfl;rfl;rfl)|fail))
     exact ⟨.inl rfl, _, rfl, .inr ha⟩
   ·omega
  ·(repeat' (first|apply zam|apply zac|(apply O_at;rfl)|(apply zai;rfl)|apply zak|(apply zaT;rfl)|apply zbw|apply zbA|apply za4|apply za5|apply zay|(apply zcc;rfl;rfl;rfl)|((first|apply zag|apply zad);rfl;rfl;rfl;rfl)|(apply P_fa;rfl;rfl;rfl;rfl;exact zbf rfl;(first|exact Nat.zero_add _|exact Nat.add_zero _|rfl))|(apply zba;rfl;rfl;rfl;rfl;rfl;rfl)|(apply zj2;rfl;rfl;rfl;rfl;rfl;all_goals intro _)|(apply zaq;rfl;rfl;rfl;rfl;exact zaH rfl;(focus repeat' first|assumption);(first|rfl|assumption))|fail))
   ·omega
   ·refine ⟨.inl rfl, _, rfl, .inl ?_⟩
    have e : k = (p.2 - p.1 + 1).toNat := by omega
    subst e
    exact hi
 ·exact ⟨Nat.zero_le _, h0⟩
 ·refine ⟨?_, rfl, rfl, trivial⟩
  show some (Value.int .i64 p.1) = _
  congr 2
  omega
theorem zgf (hK : NoK K) {a c : Int} {h : Heap} :
  CallW Tryz.prog K 115 #[.agg #[.int .i64 a, .int .i64 c]] h fun v h1 => Ext h h1 /\ ∃ bs, v = .func (.func 144) #[] #[.pointer (some ⟨bs, 0, none⟩)] /\ h.n <= bs /\ h1.get? bs = some (.cells [.int .i64 a, .int .i64 c] 72 true) := by
 refine body (N := 4) Tryz.func115 rfl (hK _ _ _ rfl) rfl rfl ?_
 (repeat' (first|apply zam|apply zac|(apply O_at;rfl)|(apply zai;rfl)|apply zak|apply zaL|apply zay|(apply zad;rfl;rfl;rfl;rfl)|(apply zfg;rfl;rfl;rfl;rfl;rfl)|(apply zbk;rfl;rfl;rfl;rfl;exact zal rfl;rfl;rfl)|fail))
 exact ⟨.inr rfl, _, rfl, by (focus repeat' first | exact Ext.refl _ | assumption | apply Ext.push), h.n, rfl, Nat.le_refl _, zaa⟩
theorem zjX (hK : NoK K) {p : Int × Int} {bs : Nat} {e : TypeId} {own : Bool} {h : Heap} (hp : -10000 <= p.1 /\ p.2 <= 10000 /\ p.1 <= p.2 + 1 /\ p.2 <= p.1 + 100) (hg : h.get? bs = some (.cells [.int .i64 p.1, .int .i64 p.2] e own)) :
  CallW Tryz.prog K 143 #[.slice none 0 0, .func (.func 144) #[] #[.pointer (some ⟨bs, 0, none⟩)]] h (IsL (zn8 p) h) := by
 have l1 := Heap.get_lt hg
 refine zlo (N := 13) 2 Tryz.func143 rfl (hK _ _ _ rfl) rfl rfl (by rfl) (by rfl) ?_
 (repeat' (first|apply zam|apply zac|(apply O_at;rfl)|(apply zai;rfl)|apply zak|apply zaG|apply zay|((first|apply zag|apply zad);rfl;rfl;rfl;rfl)|(apply zbk;rfl;rfl;rfl;rfl;exact zal rfl;rfl;rfl)|fail))
 refine .inr ⟨rfl, _, #[], _, rfl, rfl, fun tm l hb r hE hrd hle hxb hbn hlb hdb => ?_⟩
 have hx0 : Ext h hb := by repeat' first|exact Ext.refl _|assumption|apply Ext.push|refine Ext.trans ?_ (by assumption)
 have hnn : h.n + 3 = hb.n := by simp only [Heap.push] at hbn; omega
 have hll : l = h.n + 2 := by simp only [Heap.push] at hle; omega
 have hgv := hxb.get zaa
 have key := zge (K := K) hK (bs := bs) (l := l) (p := p) (h := hb) (e := e) (own := own) (by omega)
  (fun k h' => (∃ v, OutI 3 hb h' v (rng p.1 k) /\ h'.get? h.n = some (.cells [v] 26 true)) /\ Ext h h' /\ hb.n <= h'.n /\ h'.get? l = some (.obj (.loop r)) /\ h'.get? (h.n + 1) = some (.obj (.deferred (some []))))
  (fun _ => False) ?_ ?_ ?_
 ·refine key.mono ?_
  rintro _ h2 (⟨⟨v, ho, hg⟩, hx2, hn2, hl2, hd2⟩ | w)
  ·refine ⟨none, by rw [zdI hrd]; exact hl2, fun h2' hk2 hn2' => ?_⟩
   have hx2' : Ext h h2' := hx2.keep1 (l := l) hk2 (by omega) (by omega)
   have hd2' := hk2 _ _ (by omega) hd2
   have hg' := hk2 _ _ (by omega) hg
   have ho' := ho.keepl hk2 (by omega)
   (repeat' (first|apply zam|apply zac|(apply O_at;rfl)|(apply zai;rfl)|apply zak|apply zao|apply zaG|apply zaL|apply zbL|apply zaF|apply zay|((first|apply zag|apply zad);rfl;rfl;rfl;rfl)|(apply zaq;rfl;rfl;rfl;rfl;exact zaH rfl;(focus repeat' first|exact zaa|assumption|apply zab|(apply Ext.get;assumption)|(apply ExtBut.get;assumption;(first|assumption|omega|(simp only [Heap.push];omega))));(first|rfl|assumption))|fail))
   refine ⟨.inr rfl, hd2', fun h4 hk4 hn4 => ⟨_, rfl, ?_⟩⟩
   have ho4 := ho'.keepl hk4 (by (first | omega | (simp only [Heap.push]; omega)))
   exact (ho4.low (h0' := h) (by omega)).isL (hx2'.keep1 (l := h.n + 1) hk4 (by omega) (by omega))
  ·exact w.elim
 ·rintro k h' ⟨_, hx, _⟩
  exact hx.get hg
 ·exact ⟨⟨_, OutI.nil _ _ _, hgv⟩, hx0, Nat.le_refl _, hlb, hdb⟩
 ·rintro k h' hkle ⟨⟨v, ho, hgb⟩, hx, hn, ql, qd⟩
  have hpl := zoy p.1 k
  refine ziU (N := 13) ql hrd rfl (EnvOK.param hE rfl) ?_
  (repeat' (first|apply zac|(apply O_at;rfl)|(apply zai;rfl)|apply zay|((first|apply zag|apply zad);rfl;rfl;rfl;rfl)|fail))
  refine ⟨rfl, ql, fun B hs hsl hsk hsn => ?_⟩
  have hxs : Ext h hs := hx.keep1 (l := l) hsk (by omega) (by omega)
  have hgs := hsk _ _ (by omega) hgb
  have hos := ho.keepl hsk (by omega)
  (repeat' (first|apply zac|(apply O_at;rfl)|apply zao|((first|apply zag|apply zad);rfl;rfl;rfl;rfl)|(apply zaq;rfl;rfl;rfl;rfl;exact zaH rfl;(focus repeat' first|exact zaa|assumption|apply zab|(apply Ext.get;assumption)|(apply ExtBut.get;assumption;(first|assumption|omega|(simp only [Heap.push];omega))));(first|rfl|assumption))|(apply ziy;rfl;rfl;rfl;rfl;rfl;rfl;rfl;exact zfd rfl)|fail))
  apply zpZ; rfl; rfl; rfl; rfl; rfl; rfl; rfl; rfl; exact zfd rfl; exact zaB rfl; exact zaa; exact hos.ext (by repeat' first|exact Ext.refl _|assumption|apply Ext.push|refine Ext.trans ?_ (by assumption)); exact (by (first | omega | (simp only [Heap.push]; omega))); omega
  intro v' h3 o3 k3
  have kp : ∀ b y, b < hb.n -> hs.get? b = some y -> h3.get? b = some y := fun b y q g => k3.lo q (zab g)
  have n3 : hs.n + 1 <= h3.n := k3.n
  obtain ⟨cv, ov⟩ := o3.cells
  (repeat' (first|(apply O_at;rfl)|fail))
  refine ziw (c' := [v']) rfl rfl rfl rfl (kp _ _ (by omega) hgs) (zal rfl) (by rw [cv]; rfl) (Nat.le_of_ble_eq_true rfl) (by rw [cv]; simp [ov]) (by rw [cv]; rfl) ?_
  intro h4 g4 x4
  have n4 := x4.n
  (repeat' (first|(apply zai;rfl)|apply zaF|apply zay|fail))
  refine ⟨x4.get (by omega) (kp _ _ (by omega) hsl), none, rfl, fun hf hfl hfk hfn => ?_⟩
  rw [zdI hrd] at hfl
  have o4 : OutI 3 hb hf v' (rng p.1 k ++ [p.1 + (k : Nat)]) := (o3.keepl (b0 := h.n) (fun b y q g => x4.get q g) (by omega)).keepl hfk (by omega)
  have xf : Ext h hf := ⟨by have := hx.n; omega, fun b y g => by
   have hbl := Heap.get_lt g
   exact hfk _ _ (by omega) (x4.get (by omega) (kp _ _ (by omega) (hxs.get g)))⟩
  have gf := hfk _ _ (by omega) g4
  have df := hfk _ _ (by omega) (x4.get (by omega) (kp _ _ (by omega) (hsk _ _ (by omega) qd)))
  rw [<- rng_succ] at o4
  exact .inl ⟨rfl, ⟨v', o4, gf⟩, xf, by omega, hfl, df⟩
theorem znJ (hK : NoK K) {p : Int × Int} {bs : Nat} {e : TypeId} {own : Bool} {h : Heap} (hp : -10000 <= p.1 /\ p.2 <= 10000 /\ p.1 <= p.2 + 1 /\ p.2 <= p.1 + 100) (hg : h.get? bs = some (.cells [.int .i64 p.1, .int .i64 p.2] e own)) :
  CallW Tryz.prog K 114 #[.func (.func 144) #[] #[.pointer (some ⟨bs, 0, none⟩)]] h (IsL (zn8 p) h) := by
 refine body (N := 5) Tryz.func114 rfl (hK _ _ _ rfl) rfl rfl ?_
 (repeat' (first|apply zam|apply zac|(apply O_at;rfl)|(apply zai;rfl)|apply zak|apply zaL|apply zay|((first|apply zag|apply zad);rfl;rfl;rfl;rfl)|(apply zan;rfl;rfl;rfl;rfl;rfl;rfl;exact zjX hK hp hg;(rintro _ _ ⟨_,_,rfl,_,_⟩))|fail))
 rename_i hr hx
 exact ⟨.inr rfl, _, rfl, _, _, rfl, hr, hx⟩
end Go.AX.Sa

namespace Go.AX.Sa
open Go.Proofs
set_option maxRecDepth 100000
variable {K : Known}
def zj6 (s : List (Int × Int)) (r o a c x y : Int) : Prop := ∀ j : Nat, a < (j : Nat) -> ((j : Nat) : Int) < c -> (s.getD j (0, 0)).1 - o <= rnd r (mixv a c j x y) (c - a) /\ rnd r (mixv a c j x y) (c - a) <= (s.getD j (0, 0)).2 + o
section
variable {T : Tb} {h : Heap} {A C : Nat} {x y : Int}
set_option maxHeartbeats 1000000 in
theorem zgH (hK : NoK K) {p : Option Addr} {n cap : Nat} (hP : TbP T) (hTb : TbAt T h) (hAC : A < C) (hC : C < T.s.length) (hx : -10000 <= x /\ x <= 10000) (hy : -10000 <= y /\ y <= 10000) :
  CallW Tryz.prog K 118 #[ktV T p n cap, .agg #[.int .i64 (A : Nat), .int .i64 (C : Nat)], .int .i64 x, .int .i64 y] h (IfB (zj6 T.s T.r T.o (A : Nat) (C : Nat) x y) h) := by
 obtain ⟨q, kq, s, r, o⟩ := T
 have hn := hP.1
 have hV := hP.2.1
 have hru := hP.2.2.1
 have hOff := hP.2.2.2
 have hs0 := hTb.rd
 dsimp only [ktV, OffP] at hn hV hru hOff hs0 hC ⊢
 obtain ⟨bs, es, owns, rfl, hgs⟩ := hs0.at (by rw [zaj]; omega)
 refine body (N := 48) Tryz.func118 rfl (hK _ _ _ rfl) rfl rfl ?_
 (repeat' (first|apply zam|apply zac|(apply O_at;rfl)|(apply zai;rfl)|apply zak|apply zao|((first|apply zag|apply zad|apply zaM|apply zeZ);rfl;rfl;rfl;rfl)|((first|apply P_fa|apply M_fa);rfl;rfl;rfl;rfl;exact zbf rfl;(first|exact Nat.zero_add _|exact Nat.add_zero _|rfl))|((first|apply zbH|apply zp7);rfl;rfl;rfl;rfl;rfl;(unfold fit;omega))|(apply zaq;rfl;rfl;rfl;rfl;exact zaH rfl;(focus repeat' first|exact zaa|assumption|apply zab|(apply Ext.get;assumption));(first|rfl|assumption))|(apply zbk;rfl;rfl;rfl;rfl;exact zal rfl;rfl;rfl)|fail))
 refine zbd (fun k : Nat => [(9, .int .i64 (k : Nat)), (5, .pointer (some ⟨h.n + 1, 0, none⟩)), (4, .pointer (some ⟨h.n, 0, none⟩)), (3, .int .i64 y), (2, .int .i64 x)])
  (fun k h' => (A + 1 <= k /\ k <= C) /\ Ext ((h.push (.cells [.slice (some ⟨bs, 0, none⟩) s.length kq, .int .i64 r, .int .i64 o, .slice p n cap] 82 true)).push (.cells [.int .i64 (A : Nat), .int .i64 (C : Nat)] 123 true)) h' /\ ∀ j : Nat, ((A : Nat) : Int) < (j : Nat) -> j < k -> (s.getD j (0, 0)).1 - o <= rnd r (mixv (A : Nat) (C : Nat) j x y) ((C : Int) - (A : Nat)) /\ rnd r (mixv (A : Nat) (C : Nat) j x y) ((C : Int) - (A : Nat)) <= (s.getD j (0, 0)).2 + o) (fun k => C - k) ?_ (A + 1) ?_ ?_
 ·rintro k h' ⟨hk, hx', hj⟩ ih
  have q1 : h'.get? h.n = some (.cells [.slice (some ⟨bs, 0, none⟩) s.length kq, .int .i64 r, .int .i64 o, .slice p n cap] 82 true) := hx'.get (zab zaa)
  have q2 : h'.get? (h.n + 1) = some (.cells [.int .i64 (A : Nat), .int .i64 (C : Nat)] 123 true) := hx'.get zaa
  have q3 := hx'.get (zab (zab hgs))
  by_cases hlt : k < C
  ·have hks : k < s.length := by omega
   have hv := hV k hks
   unfold ValP at hv
   by_cases hc : (s.getD k (0, 0)).1 - o <= rnd r (mixv (A : Nat) (C : Nat) k x y) ((C : Int) - (A : Nat)) /\ rnd r (mixv (A : Nat) (C : Nat) k x y) ((C : Int) - (A : Nat)) <= (s.getD k (0, 0)).2 + o
   ·(repeat' (first|apply zam|apply zac|(apply O_at;rfl)|(apply N_at;rfl)|(apply zai;rfl)|apply zak|(apply za0;rfl)|(apply zaT;rfl)|(apply zbU;exact zaY (by decide +kernel))|apply zao|apply zaG|(apply zcY;rfl;refine .inr ?_;(focus repeat' first|exact trivial|exact Keeps.nil _ _|apply And.intro|rfl|(apply Keeps.cons;iterate 2 (focus repeat' first|exact zaa|assumption|apply zab|(apply Ext.get;assumption)))))|apply zaF|((first|apply zag|apply zad|apply zaM|apply zeZ);rfl;rfl;rfl;rfl)|((first|apply P_fa|apply M_fa);rfl;rfl;rfl;rfl;exact zbf rfl;(first|exact Nat.zero_add _|exact Nat.add_zero _|rfl))|(apply za1;rfl;rfl;rfl;rfl;rfl;omega)|((first|apply zbH|apply zp7);rfl;rfl;rfl;rfl;rfl;(unfold fit;omega))|(apply zdk;rfl;rfl;rfl;rfl;rfl;exact zaB rfl;exact zal rfl;(first|assumption|rfl|exact (Int.toNat_of_nonneg (by omega)).symm);omega)|(apply zaq;rfl;rfl;rfl;rfl;exact zaH rfl;(focus repeat' first|exact zaa|assumption|apply zab|(apply Ext.get;assumption));(first|rfl|assumption))|(apply zaJ;rfl;rfl;rfl;rfl;exact zbc rfl;(focus repeat' first|exact zaa|assumption|apply zab|(apply Ext.get;assumption));(first|exact Nat.le_of_ble_eq_true rfl|(simp;done)|(simp;omega)|(rw [zaj];omega));(first|exact zaI (by omega)|rfl))|(apply zaQ;rfl;rfl;rfl;rfl;exact zal rfl;rfl;rfl;rfl)|(apply zbl;rfl;rfl;rfl;rfl;exact zal rfl;rfl;rfl)|(apply zet;rfl;rfl;rfl;rfl;rfl;(unfold fit;omega))|((first|((apply zeu;rfl;rfl;rfl;rfl;exact zaH rfl);(focus repeat' first|exact zaa|assumption|apply zab|(apply Ext.get;assumption));(first|rfl|assumption))|((apply ziA;rfl;rfl;rfl;rfl;exact zbc rfl);(focus repeat' first|exact zaa|assumption|apply zab|(apply Ext.get;assumption));(first|exact Nat.le_of_ble_eq_true rfl|(simp;done)|(simp;omega)|(rw [zaj];omega));(first|exact zaI (by omega)|rfl)));(first|assumption|exact zbh _ _|exact zdD _ _|rfl|(focus simp [same,same.all2];done));(first|rfl|assumption|exact hwv _|(simp [within];omega)))|(apply zck;rfl;rfl;rfl;rfl;rfl;rfl;rfl;exact zfe hK hx hy (by omega) (by omega) (by omega) (by omega) (by omega) hru;(rintro _ _ ⟨rfl,_⟩))|(apply zck;rfl;rfl;rfl;rfl;rfl;rfl;rfl;exact yes (zbR hK) hc;(rintro _ _ ⟨rfl,_⟩))|fail))
    refine zaS (ih (k + 1) _ (by omega) ⟨by omega, by repeat' first|exact Ext.refl _|assumption|apply Ext.push|refine Ext.trans ?_ (by assumption), fun j h1 h2 => ?_⟩) (by (focus repeat' first | rfl | exact trivial | apply And.intro))
    by_cases hjk : j = k
    ·subst hjk; exact hc
    ·exact hj j h1 (by omega)
   ·(repeat' (first|apply zam|apply zac|(apply O_at;rfl)|(apply N_at;rfl)|(apply zai;rfl)|apply zak|(apply za0;rfl)|(apply zbU;exact zaY (by decide +kernel))|apply zao|apply zaG|apply zaL|(apply zcY;rfl;refine .inr ?_;(focus repeat' first|exact trivial|exact Keeps.nil _ _|apply And.intro|rfl|(apply Keeps.cons;iterate 2 (focus repeat' first|exact zaa|assumption|apply zab|(apply Ext.get;assumption)))))|apply zbL|apply zdU|apply zdn|apply zay|((first|apply zag|apply zad|apply zaM|apply zeZ);rfl;rfl;rfl;rfl)|((first|apply P_fa|apply M_fa);rfl;rfl;rfl;rfl;exact zbf rfl;(first|exact Nat.zero_add _|exact Nat.add_zero _|rfl))|(apply za1;rfl;rfl;rfl;rfl;rfl;omega)|((first|apply zbH|apply zp7);rfl;rfl;rfl;rfl;rfl;(unfold fit;omega))|(apply zdk;rfl;rfl;rfl;rfl;rfl;exact zaB rfl;exact zal rfl;(first|assumption|rfl|exact (Int.toNat_of_nonneg (by omega)).symm);omega)|(apply zaq;rfl;rfl;rfl;rfl;exact zaH rfl;(focus repeat' first|exact zaa|assumption|apply zab|(apply Ext.get;assumption));(first|rfl|assumption))|(apply zaJ;rfl;rfl;rfl;rfl;exact zbc rfl;(focus repeat' first|exact zaa|assumption|apply zab|(apply Ext.get;assumption));(first|exact Nat.le_of_ble_eq_true rfl|(simp;done)|(simp;omega)|(rw [zaj];omega));(first|exact zaI (by omega)|rfl))|(apply zaQ;rfl;rfl;rfl;rfl;exact zal rfl;rfl;rfl;rfl)|(apply zbl;rfl;rfl;rfl;rfl;exact zal rfl;rfl;rfl)|(apply zet;rfl;rfl;rfl;rfl;rfl;(unfold fit;omega))|((first|((apply zeu;rfl;rfl;rfl;rfl;exact zaH rfl);(focus repeat' first|exact zaa|assumption|apply zab|(apply Ext.get;assumption));(first|rfl|assumption))|((apply ziA;rfl;rfl;rfl;rfl;exact zbc rfl);(focus repeat' first|exact zaa|assumption|apply zab|(apply Ext.get;assumption));(first|exact Nat.le_of_ble_eq_true rfl|(simp;done)|(simp;omega)|(rw [zaj];omega));(first|exact zaI (by omega)|rfl)));(first|assumption|exact zbh _ _|exact zdD _ _|rfl|(focus simp [same,same.all2];done));(first|rfl|assumption|exact hwv _|(simp [within];omega)))|(apply zck;rfl;rfl;rfl;rfl;rfl;rfl;rfl;exact zfe hK hx hy (by omega) (by omega) (by omega) (by omega) (by omega) hru;(rintro _ _ ⟨rfl,_⟩))|(apply zck;rfl;rfl;rfl;rfl;rfl;rfl;rfl;exact no (zbR hK) hc;(rintro _ _ ⟨rfl,_⟩))|fail))
    exact ⟨.inr rfl, _, rfl, .inr ⟨rfl, fun z => hc (z k (by omega) (by omega)), by repeat' first|exact Ext.refl _|assumption|apply Ext.push|refine Ext.trans ?_ (by assumption)⟩⟩
  ·(repeat' (first|apply zam|apply zac|(apply O_at;rfl)|(apply zai;rfl)|apply zak|(apply zaT;rfl)|apply zbw|apply zaL|apply zbA|apply za4|apply za5|apply zay|((first|apply zag|apply zad|apply zaM|apply zeZ);rfl;rfl;rfl;rfl)|((first|apply P_fa|apply M_fa);rfl;rfl;rfl;rfl;exact zbf rfl;(first|exact Nat.zero_add _|exact Nat.add_zero _|rfl))|(apply zbG;rfl;rfl;rfl;rfl;rfl;omega)|(apply zaq;rfl;rfl;rfl;rfl;exact zaH rfl;(focus repeat' first|exact zaa|assumption|apply zab|(apply Ext.get;assumption));(first|rfl|assumption))|fail))
   exact ⟨.inr rfl, _, rfl, .inl ⟨rfl, fun j h1 h2 => hj j h1 (by omega), by repeat' first|exact Ext.refl _|assumption|apply Ext.push|refine Ext.trans ?_ (by assumption)⟩⟩
 ·exact ⟨⟨Nat.le_refl _, hAC⟩, Ext.refl _, fun j h1 h2 => by omega⟩
 ·(focus repeat' first | rfl | exact trivial | apply And.intro)
theorem zlr (hK : NoK K) {p : Option Addr} {n cap bk bp ba : Nat} {ok op oa : Bool} (hP : TbP T) (hTb : TbAt T h) (hAC : A < C) (hC : C < T.s.length) (hx : -10000 <= x /\ x <= 10000) (hy : -10000 <= y /\ y <= 10000)
  (gk : h.get? bk = some (.cells [.slice T.q T.s.length T.k, .int .i64 T.r, .int .i64 T.o, .slice p n cap] 82 ok)) (gp : h.get? bp = some (.cells [.int .i64 (A : Nat), .int .i64 (C : Nat)] 123 op)) (ga : h.get? ba = some (.cells [.int .i64 y] 3 oa)) :
  CallW Tryz.prog K 117 #[.int .i64 x, .pointer (some ⟨bk, 0, none⟩), .pointer (some ⟨bp, 0, none⟩), .pointer (some ⟨ba, 0, none⟩)] h (IfB (zj6 T.s T.r T.o (A : Nat) (C : Nat) x y) h) := by
 have iB : ∀ {h' : Heap}, Ext h h' -> CallW Tryz.prog K 118 #[ktV T p n cap, .agg #[.int .i64 (A : Nat), .int .i64 (C : Nat)], .int .i64 x, .int .i64 y] h' (IfB (zj6 T.s T.r T.o (A : Nat) (C : Nat) x y) h') := fun z => zgH hK hP (hTb.ext z) hAC hC hx hy
 obtain ⟨q, kq, s, r, o⟩ := T
 dsimp only [ktV] at iB gk ⊢
 refine body (N := 11) Tryz.func117 rfl (hK _ _ _ rfl) rfl rfl ?_
 by_cases hc : zj6 s r o (A : Nat) (C : Nat) x y
 ·(repeat' (first|apply zam|apply zac|(apply O_at;rfl)|(apply zai;rfl)|apply zak|apply zaL|apply zay|((first|apply zag|apply zad);rfl;rfl;rfl;rfl)|(apply zaq;rfl;rfl;rfl;rfl;exact zaH rfl;(focus repeat' first|assumption);(first|rfl|assumption))|(apply zaJ;rfl;rfl;rfl;rfl;exact zbc rfl;(focus repeat' first|assumption);(first|exact Nat.le_of_ble_eq_true rfl|(simp;done)|(simp;omega));rfl)|(apply zan;rfl;rfl;rfl;rfl;rfl;rfl;exact yes (iB (by (focus repeat' first|exact Ext.refl _|assumption))) hc;(rintro _ _ ⟨rfl,_⟩))|fail))
  exact ⟨.inr rfl, _, rfl, .inl ⟨rfl, hc, by (focus repeat' first | exact Ext.refl _ | assumption)⟩⟩
 ·(repeat' (first|apply zam|apply zac|(apply O_at;rfl)|(apply zai;rfl)|apply zak|apply zaL|apply zay|((first|apply zag|apply zad);rfl;rfl;rfl;rfl)|(apply zaq;rfl;rfl;rfl;rfl;exact zaH rfl;(focus repeat' first|assumption);(first|rfl|assumption))|(apply zaJ;rfl;rfl;rfl;rfl;exact zbc rfl;(focus repeat' first|assumption);(first|exact Nat.le_of_ble_eq_true rfl|(simp;done)|(simp;omega));rfl)|(apply zan;rfl;rfl;rfl;rfl;rfl;rfl;exact no (iB (by (focus repeat' first|exact Ext.refl _|assumption))) hc;(rintro _ _ ⟨rfl,_⟩))|fail))
  exact ⟨.inr rfl, _, rfl, .inr ⟨rfl, hc, by (focus repeat' first | exact Ext.refl _ | assumption)⟩⟩
def zha (s : List (Int × Int)) (r o : Int) (l : List Int) (a c y : Int) : Prop := ∃ x, x ∈ l /\ zj6 s r o a c x y
theorem zph (hK : NoK K) {l : List Int} {pl p : Option Addr} {cl n cap bk bp ba : Nat} {ok op oa : Bool} (hP : TbP T) (hTb : TbAt T h) (hAC : A < C) (hC : C < T.s.length) (hl : l.length <= 1000) (hx : ∀ x, x ∈ l -> -10000 <= x /\ x <= 10000) (hy : -10000 <= y /\ y <= 10000) (hr : Rd h pl (ints l))
  (gk : h.get? bk = some (.cells [.slice T.q T.s.length T.k, .int .i64 T.r, .int .i64 T.o, .slice p n cap] 82 ok)) (gp : h.get? bp = some (.cells [.int .i64 (A : Nat), .int .i64 (C : Nat)] 123 op)) (ga : h.get? ba = some (.cells [.int .i64 y] 3 oa)) :
  CallW Tryz.prog K 133 #[.slice pl l.length cl, .func (.func 117) #[] #[.pointer (some ⟨bk, 0, none⟩), .pointer (some ⟨bp, 0, none⟩), .pointer (some ⟨ba, 0, none⟩)]] h fun v h1 => ∃ n : Int, v = .int .i64 n /\ (0 <= n ↔ zha T.s T.r T.o l (A : Nat) (C : Nat) y) /\ Ext h h1 := by
 have iB : ∀ {k : Nat} {h' : Heap}, k < l.length -> Ext h h' -> CallW Tryz.prog K 117 #[.int .i64 (l.getD k 0), .pointer (some ⟨bk, 0, none⟩), .pointer (some ⟨bp, 0, none⟩), .pointer (some ⟨ba, 0, none⟩)] h' (IfB (zj6 T.s T.r T.o (A : Nat) (C : Nat) (l.getD k 0) y) h') := fun {k} _ hk z => zlr hK hP (hTb.ext z) hAC hC (hx _ (mem_at.2 ⟨k, hk, rfl⟩)) hy (z.get gk) (z.get gp) (z.get ga)
 refine body (N := 19) Tryz.func133 rfl (hK _ _ _ rfl) rfl rfl ?_
 (repeat' (first|apply zam|apply zac|(apply O_at;rfl)|(apply zai;rfl)|apply zak|apply zao|((first|apply zag|apply zad);rfl;rfl;rfl;rfl)|(apply zbj;rfl;rfl;rfl;rfl;rfl;rfl;exact zaB rfl)|fail))
 refine zbd (fun k : Nat => [(8, .int .i64 (k : Nat)), (7, .int .i64 (l.length : Nat)), (1, .func (.func 117) #[] #[.pointer (some ⟨bk, 0, none⟩), .pointer (some ⟨bp, 0, none⟩), .pointer (some ⟨ba, 0, none⟩)]), (0, .slice pl l.length cl)])
  (fun k h' => k <= l.length /\ Ext h h' /\ ∀ j, j < k -> ¬ zj6 T.s T.r T.o (A : Nat) (C : Nat) (l.getD j 0) y) (fun k => l.length - k) ?_ 0 ⟨Nat.zero_le _, Ext.refl _, fun j hj => by omega⟩ ?_
 ·intro k h' ⟨hk, hx', hj⟩ ih
  by_cases hlt : k < l.length
  ·obtain ⟨b, e, own, rfl, hg⟩ := hr.at (by rw [zar]; omega)
   by_cases hc : zj6 T.s T.r T.o (A : Nat) (C : Nat) (l.getD k 0) y
   ·(repeat' (first|apply zam|apply zac|(apply O_at;rfl)|(apply zai;rfl)|apply zak|(apply za0;rfl)|apply zao|apply zaG|apply zaL|apply zbL|apply zdU|apply zdn|apply zay|((first|apply zag|apply zad);rfl;rfl;rfl;rfl)|(apply za1;rfl;rfl;rfl;rfl;rfl;omega)|(apply zbT;rfl;rfl;rfl;rfl;rfl;exact zaB rfl;exact zal rfl;(first|assumption|rfl|exact (Int.toNat_of_nonneg (by omega)).symm);omega)|(apply zaq;rfl;rfl;rfl;rfl;exact zaH rfl;(focus repeat' first|assumption|(apply Ext.get;assumption));(first|exact zaw (by omega)|rfl|assumption))|(apply zan;rfl;rfl;rfl;rfl;rfl;rfl;exact yes (iB hlt (by (focus repeat' first|exact Ext.refl _|assumption|(refine Ext.trans ?_ (by assumption))))) hc;(rintro _ _ ⟨rfl,_⟩))|fail))
    exact ⟨.inr rfl, _, rfl, (k : Int), rfl, ⟨fun _ => ⟨_, mem_at.2 ⟨k, hlt, rfl⟩, hc⟩, fun _ => by omega⟩, by (focus repeat' first | exact Ext.refl _ | assumption | (refine Ext.trans ?_ (by assumption)))⟩
   ·(repeat' (first|apply zam|apply zac|(apply O_at;rfl)|(apply zai;rfl)|apply zak|(apply za0;rfl)|(apply zaT;rfl)|apply zao|apply zaG|apply zaF|((first|apply zag|apply zad);rfl;rfl;rfl;rfl)|(apply za1;rfl;rfl;rfl;rfl;rfl;omega)|(apply zbH;rfl;rfl;rfl;rfl;rfl;(unfold fit;omega))|(apply zbT;rfl;rfl;rfl;rfl;rfl;exact zaB rfl;exact zal rfl;(first|assumption|rfl|exact (Int.toNat_of_nonneg (by omega)).symm);omega)|(apply zaq;rfl;rfl;rfl;rfl;exact zaH rfl;(focus repeat' first|assumption|(apply Ext.get;assumption));(first|exact zaw (by omega)|rfl|assumption))|(apply zan;rfl;rfl;rfl;rfl;rfl;rfl;exact no (iB hlt (by (focus repeat' first|exact Ext.refl _|assumption|(refine Ext.trans ?_ (by assumption))))) hc;(rintro _ _ ⟨rfl,_⟩))|fail))
    refine zaS (ih (k + 1) _ (by omega) ⟨hlt, by (focus repeat' first | exact Ext.refl _ | assumption | (refine Ext.trans ?_ (by assumption))), fun j hj' => ?_⟩) (by (focus repeat' first | rfl | exact trivial | apply And.intro))
    by_cases hjk : j = k
    ·subst hjk; exact hc
    ·exact hj j (by omega)
  ·(repeat' (first|apply zam|apply zac|(apply O_at;rfl)|(apply zai;rfl)|apply zak|(apply zaT;rfl)|apply zbw|apply zaL|apply zbA|apply za4|apply za5|apply zay|((first|apply zag|apply zad);rfl;rfl;rfl;rfl)|(apply zbG;rfl;rfl;rfl;rfl;rfl;omega)|fail))
   refine ⟨.inr rfl, _, rfl, -1, rfl, ⟨fun q => by omega, fun ⟨x, q1, q2⟩ => ?_⟩, by (focus repeat' first | exact Ext.refl _ | assumption | (refine Ext.trans ?_ (by assumption)))⟩
   obtain ⟨j, hj1, rfl⟩ := mem_at.1 q1
   exact absurd q2 (hj j (by omega))
 ·(focus repeat' first | rfl | exact trivial | apply And.intro)
theorem zjO (hK : NoK K) {l : List Int} {pl p : Option Addr} {cl n cap bk bp ba : Nat} {ok op oa : Bool} (hP : TbP T) (hTb : TbAt T h) (hAC : A < C) (hC : C < T.s.length) (hl : l.length <= 1000) (hx : ∀ x, x ∈ l -> -10000 <= x /\ x <= 10000) (hy : -10000 <= y /\ y <= 10000) (hr : Rd h pl (ints l))
  (gk : h.get? bk = some (.cells [.slice T.q T.s.length T.k, .int .i64 T.r, .int .i64 T.o, .slice p n cap] 82 ok)) (gp : h.get? bp = some (.cells [.int .i64 (A : Nat), .int .i64 (C : Nat)] 123 op)) (ga : h.get? ba = some (.cells [.int .i64 y] 3 oa)) :
  CallW Tryz.prog K 116 #[.slice pl l.length cl, .func (.func 117) #[] #[.pointer (some ⟨bk, 0, none⟩), .pointer (some ⟨bp, 0, none⟩), .pointer (some ⟨ba, 0, none⟩)]] h (IfB (zha T.s T.r T.o l (A : Nat) (C : Nat) y) h) := by
 refine body (N := 9) Tryz.func116 rfl (hK _ _ _ rfl) rfl rfl ?_
 (repeat' (first|apply zam|apply zac|(apply O_at;rfl)|(apply zai;rfl)|apply zak|((first|apply zag|apply zad);rfl;rfl;rfl;rfl)|fail))
 apply zan; rfl; rfl; rfl; rfl; rfl; rfl; exact zph hK hP hTb hAC hC hl hx hy hr gk gp ga
 rintro _ _ ⟨n, rfl, hn, hx⟩
 by_cases hc : 0 <= n
 ·(repeat' (first|(apply O_at;rfl)|(apply zai;rfl)|apply zak|apply zaL|apply zay|((first|apply zag|apply zad);rfl;rfl;rfl;rfl)|(apply P_geqT;rfl;rfl;rfl;rfl;rfl;omega)|fail))
  exact ⟨.inr rfl, _, rfl, .inl ⟨rfl, hn.1 hc, by (focus repeat' first | assumption)⟩⟩
 ·(repeat' (first|(apply O_at;rfl)|(apply zai;rfl)|apply zak|apply zaL|apply zay|((first|apply zag|apply zad);rfl;rfl;rfl;rfl)|(apply P_geqF;rfl;rfl;rfl;rfl;rfl;omega)|fail))
  exact ⟨.inr rfl, _, rfl, .inr ⟨rfl, fun q => hc (hn.2 q), by (focus repeat' first | assumption)⟩⟩
end
end Go.AX.Sa

namespace Go.AX.Sa
open Go.Proofs
set_option maxRecDepth 100000
variable {K : Known}
def filN (P : Int -> Prop) [DecidablePred P] (a : Int) : Nat -> List Int
 | 0 => []
 | k + 1 => if P (a + (k : Nat)) then filN P a k ++ [a + (k : Nat)] else filN P a k
section
variable {P : Int -> Prop} [DecidablePred P] {a : Int}
theorem zib {k : Nat} (h : P (a + (k : Nat))) : filN P a (k + 1) = filN P a k ++ [a + (k : Nat)] := if_pos h
theorem zla {k : Nat} (h : ¬ P (a + (k : Nat))) : filN P a (k + 1) = filN P a k := if_neg h
theorem zmn : ∀ k, (filN P a k).length <= k := by
 intro k
 induction k with
 | zero => exact Nat.le_refl _
 | succ k ih =>
  by_cases h : P (a + (k : Nat))
  ·rw [zib h, List.length_append]; simp only [List.length_cons, List.length_nil]; omega
  ·rw [zla h]; omega
theorem zl6 {x : Int} : ∀ k, x ∈ filN P a k ↔ (a <= x /\ x < a + (k : Nat)) /\ P x := by
 intro k
 induction k with
 | zero => exact ⟨fun h => (by cases h), fun h => by omega⟩
 | succ k ih =>
  by_cases h : P (a + (k : Nat))
  ·rw [zib h, List.mem_append, ih, List.mem_singleton]
   constructor
   ·rintro (⟨w, p⟩ | rfl)
    ·exact ⟨by omega, p⟩
    ·exact ⟨by omega, h⟩
   ·rintro ⟨w, p⟩
    by_cases q : x = a + (k : Nat)
    ·exact .inr q
    ·exact .inl ⟨by omega, p⟩
  ·rw [zla h, ih]
   refine ⟨fun ⟨w, p⟩ => ⟨by omega, p⟩, fun ⟨w, p⟩ => ⟨?_, p⟩⟩
   have : x ≠ a + (k : Nat) := fun q => h (q ▸ p)
   omega
end
noncomputable instance someDec (s : List (Int × Int)) (r o : Int) (l : List Int) (a c : Int) : DecidablePred (zha s r o l a c) := fun _ => Classical.propDecidable _
noncomputable def canL (s : List (Int × Int)) (l : List Int) (r o : Int) : Nat -> List Int
 | 0 => zn8 (s.getD 0 (0, 0))
 | k + 1 => filN (zha s r o (canL s l r o k) (l.getD k 0) (l.getD (k + 1) 0)) (s.getD (l.getD (k + 1) 0).toNat (0, 0)).1 ((s.getD (l.getD (k + 1) 0).toNat (0, 0)).2 - (s.getD (l.getD (k + 1) 0).toNat (0, 0)).1 + 1).toNat
theorem zpH {s : List (Int × Int)} {l : List Int} {r o : Int} (hV : Vals s) (hn : 0 < s.length) (hKp : zb9 s.length l) : ∀ k, k < l.length -> (∀ x, x ∈ canL s l r o k -> -10000 <= x /\ x <= 10000) /\ (canL s l r o k).length <= 100 := by
 intro k hk
 cases k with
 | zero =>
  have hv := hV 0 hn
  unfold ValP at hv
  refine ⟨fun x hx => ?_, ?_⟩
  ·have := mem_rng.1 (show x ∈ rng _ _ from hx)
   omega
  ·show (rng _ _).length <= 100
   rw [zoy]; omega
 | succ k =>
  have a := zdr hKp hk
  have hv := hV (l.getD (k + 1) 0).toNat (by omega)
  unfold ValP at hv
  refine ⟨fun x hx => ?_, ?_⟩
  ·have := ((zl6 _).1 (show x ∈ filN _ _ _ from hx)).1
   omega
  ·refine Nat.le_trans (zmn _) ?_
   omega
def CanP (s : List (Int × Int)) (l : List Int) (r o : Int) : Prop := 0 < (canL s l r o (l.length - 1)).length
set_option maxHeartbeats 4000000 in
theorem zio (hK : NoK K) {T : Tb} {l : List Int} {b cap : Nat} {e : TypeId} {own : Bool} {h : Heap} (hP : TbP T) (hKp : zb9 T.s.length l) (hcap : l.length <= cap) (hll : l.length <= 1000) (hTb : TbAt T h) (hg : h.get? b = some (.cells (ints l) e own)) :
  CallW Tryz.prog K 76 #[ktV T (some ⟨b, 0, none⟩) l.length cap] h (IfB (CanP T.s l T.r T.o) h) := by
 have iPr : ∀ {h' : Heap}, Ext h h' -> CallW Tryz.prog K 104 #[ktV T (some ⟨b, 0, none⟩) l.length cap] h' (IsP (prs l (l.length - 1)) h') := fun x => zl1 hK ⟨hKp.1, hll⟩ hcap (x.get hg)
 have hTb' := hTb
 obtain ⟨q, kq, s, r, o⟩ := T
 have hn := hP.1
 have hV := hP.2.1
 have hG := hKp.2.2.2
 have hl2 := hKp.1
 have hs0 := hTb.rd
 dsimp only [ktV] at iPr hn hV hKp hs0 ⊢
 obtain ⟨bs, es, owns, rfl, hgs⟩ := hs0.at (by rw [zaj]; omega)
 have hv0 := hV 0 (by omega)
 unfold ValP at hv0
 have z0 := (zpH (r := r) (o := o) hV (by omega) hKp 0 (by omega)).2
 refine bodyM (N := 43) Tryz.func76 rfl (hK _ _ _ rfl) rfl rfl ?_
 refine zdm (zfj ?_)
 (repeat' (first|apply zac|(apply O_at;rfl)|(apply zai;rfl)|apply zay|((first|apply zag|apply zad);rfl;rfl;rfl;rfl)|(apply zbk;rfl;rfl;rfl;rfl;exact zal rfl;rfl;rfl)|fail))
 refine Or.inl ⟨rfl, ?_⟩
 refine zdm (zfj ?_)
 (repeat' (first|apply zac|(apply O_at;rfl)|(apply P_fa;rfl;rfl;rfl;rfl;exact zbf rfl;(first|exact Nat.zero_add _|exact Nat.add_zero _|rfl))|(apply zdk;rfl;rfl;rfl;rfl;rfl;exact zaB rfl;exact zal rfl;(first|assumption|exact zq0|rfl|exact (Int.toNat_of_nonneg (by omega)).symm);omega)|(apply zaq;rfl;rfl;rfl;rfl;exact zaH rfl;(focus repeat' first|exact zaa|assumption|apply zab|(apply Ext.get;assumption)|(apply ExtBut.get;assumption;(first|assumption|omega|(simp only [Heap.push];omega))));(first|rfl|assumption))|(apply zaJ;rfl;rfl;rfl;rfl;exact zbc rfl;(focus repeat' first|exact zaa|assumption|apply zab|(apply Ext.get;assumption)|(apply ExtBut.get;assumption;(first|assumption|omega|(simp only [Heap.push];omega))));(first|exact Nat.le_of_ble_eq_true rfl|(simp;done)|(simp;omega)|(rw [zaj];omega));(first|exact zaI (by omega)|rfl))|fail))
 apply zan; rfl; rfl; rfl; rfl; rfl; rfl; exact zgf hK (a := (s.getD 0 (0, 0)).1) (c := (s.getD 0 (0, 0)).2)
 rintro _ h2 ⟨x2, bz, rfl, hbz, gz⟩
 (repeat' (first|(apply O_at;rfl)|fail))
 apply zan; rfl; rfl; rfl; rfl; rfl; rfl; exact znJ hK (p := s.getD 0 (0, 0)) (by omega) gz
 rintro _ h3 ⟨pc, cc, rfl, rdc, x3⟩
 (repeat' (first|(apply O_at;rfl)|(apply zai;rfl)|apply zay|(apply zaQ;rfl;rfl;rfl;rfl;exact zal rfl;rfl;rfl;rfl)|(apply zbl;rfl;rfl;rfl;rfl;exact zal rfl;rfl;rfl)|fail))
 refine Or.inl ⟨rfl, ?_⟩
 refine zdm (zfj ?_)
 (repeat' (first|apply zac|(apply O_at;rfl)|(apply zaJ;rfl;rfl;rfl;rfl;exact zbc rfl;(focus repeat' first|exact zaa|assumption|apply zab|(apply Ext.get;assumption)|(apply ExtBut.get;assumption;(first|assumption|omega|(simp only [Heap.push];omega))));(first|exact Nat.le_of_ble_eq_true rfl|(simp;done)|(simp;omega)|(rw [zaj];omega));(first|exact zaI (by omega)|rfl))|fail))
 apply zan; rfl; rfl; rfl; rfl; rfl; rfl; exact iPr (by (focus repeat' first | exact Ext.refl _ | assumption | apply Ext.push | (refine Ext.trans ?_ (by assumption)) | (refine Ext.ofBut ?_ (by assumption) (by first | exact Nat.le_refl _ | omega))))
 rintro _ h4 ⟨pp, cp, rfl, rp, fp, x4⟩
 have hpl := zhS l (l.length - 1)
 obtain ⟨bp, ep, ownp, rfl, gp⟩ := rp.at (by rw [zaj]; omega)
 have lbp := Heap.get_lt gp
 have fp' := fp _ rfl
 simp only [Heap.push] at fp'
 have n2 := x2.n
 have n3 := x3.n
 have n4 := x4.n
 simp only [Heap.push] at n2 n4
 have w3 : Ext h h3 := by (focus repeat' first | exact Ext.refl _ | assumption | apply Ext.push | (refine Ext.trans ?_ (by assumption)) | (refine Ext.ofBut ?_ (by assumption) (by first | exact Nat.le_refl _ | omega)))
 have w4 : Ext h h4 := w3.trans ((Ext.push (Ext.refl _) _).trans x4)
 have gc4 : h4.get? h3.n = some (.cells [.slice pc (zn8 (s.getD 0 (0, 0))).length cc] 26 true) := x4.get zaa
 have gk4 : h4.get? h.n = some (.cells [.slice (some ⟨bs, 0, none⟩) s.length kq, .int .i64 r, .int .i64 o, .slice (some ⟨b, 0, none⟩) l.length cap] 82 true) := x4.get (zab (x3.get (x2.get zaa)))
 have gs4 := w4.get hgs
 have lbs := Heap.get_lt hgs
 have rdc4 : Rd h4 pc (ints (zn8 (s.getD 0 (0, 0)))) := (rdc.ext (Ext.push (Ext.refl _) _)).ext x4
 rw [hpl]
 (repeat' (first|(apply O_at;rfl)|(apply zai;rfl)|apply zay|((first|apply zag|apply zad);rfl;rfl;rfl;rfl)|(apply zbj;rfl;rfl;rfl;rfl;rfl;rfl;exact zaB rfl)|fail))
 refine Or.inl ⟨rfl, ?_⟩
 refine zdm (ziC (KM_loop (fun i : Nat => [(18, .int .i64 (i : Nat)), (17, .int .i64 ((l.length - 1 : Nat) : Int)), (16, .slice (some ⟨bp, 0, none⟩) (l.length - 1) cp), (3, .pointer (some ⟨h3.n, 0, none⟩)), (1, .pointer (some ⟨h.n, 0, none⟩))])
  (fun i h' M => i <= l.length - 1 /\ (∃ v, h'.get? h3.n = some (.cells [v] 26 true) /\ RdV h' v (canL s l r o i)) /\ ExtBut h3.n h4 h' /\ M.Nodup /\ (∀ r ∈ M, h'.get? r = some (.obj (.deferred (some [])))) /\ (∀ r ∈ M, h4.n <= r)) (fun i => l.length - 1 - i) ?_ 0 ?_ ?_))
 ·rintro i h' M ⟨hi, ⟨v, hv, pv, cv, rfl, rdv⟩, hx, hM1, hM2, hM3⟩ ih
  by_cases hlt : i < l.length - 1
  ·have hpi : i < (prs l (l.length - 1)).length := by omega
   have hpg := zoL (l := l) (k := l.length - 1) hlt
   have a1 := zdr hKp (i := i) (by omega)
   have a2 := zdr hKp (i := i + 1) (by omega)
   have a3 := hG i (by omega)
   have e1 : ((prs l (l.length - 1)).getD i (0, 0)).1 = l.getD i 0 := by rw [hpg]
   have e2 : ((prs l (l.length - 1)).getD i (0, 0)).2 = l.getD (i + 1) 0 := by rw [hpg]
   obtain ⟨A, hA⟩ : ∃ A : Nat, l.getD i 0 = (A : Nat) := ⟨(l.getD i 0).toNat, by omega⟩
   obtain ⟨C, hC⟩ : ∃ C : Nat, l.getD (i + 1) 0 = (C : Nat) := ⟨(l.getD (i + 1) 0).toNat, by omega⟩
   have hn' := hx.n
   have gp' := hx.get (by omega) gp
   have gk' := hx.get (by omega) gk4
   have gs' := hx.get (by omega) gs4
   obtain ⟨ci, cl⟩ := zpH (r := r) (o := o) hV (by omega) hKp i (by omega)
   refine zdm (zfj ?_)
   (repeat' (first|apply zac|(apply O_at;rfl)|(apply zai;rfl)|apply zay|(apply za1;rfl;rfl;rfl;rfl;rfl;omega)|fail))
   refine Or.inl ⟨rfl, ?_⟩
   refine zdm (zfj ?_)
   (repeat' (first|(apply za0;rfl)|apply zaG|apply zay|fail))
   refine Or.inl ⟨rfl, ?_⟩
   refine zdm (zp8 (Q := fun e E1 h2 M1 => e = .normal /\ E1.get 18 = some (.int .i64 (i : Nat)) /\ E1.get 17 = some (.int .i64 ((l.length - 1 : Nat) : Int)) /\ E1.get 16 = some (.slice (some ⟨bp, 0, none⟩) (l.length - 1) cp) /\ E1.get 3 = some (.pointer (some ⟨h3.n, 0, none⟩)) /\ E1.get 1 = some (.pointer (some ⟨h.n, 0, none⟩)) /\
    (i + 1 <= l.length - 1 /\ (∃ v, h2.get? h3.n = some (.cells [v] 26 true) /\ RdV h2 v (canL s l r o (i + 1))) /\ ExtBut h3.n h4 h2 /\ M1.Nodup /\ (∀ r ∈ M1, h2.get? r = some (.obj (.deferred (some [])))) /\ (∀ r ∈ M1, h4.n <= r))) (ziC ?_) ?_)
   ·refine zdm (zfj ?_)
    (repeat' (first|apply zac|(apply O_at;rfl)|(apply zai;rfl)|apply zay|(apply zdk;rfl;rfl;rfl;rfl;rfl;exact zaB rfl;exact zal rfl;(first|assumption|exact zq0|rfl|exact (Int.toNat_of_nonneg (by omega)).symm);omega)|(apply zaJ;rfl;rfl;rfl;rfl;exact zbc rfl;(focus repeat' first|exact zaa|assumption|apply zab|(apply Ext.get;assumption)|(apply ExtBut.get;assumption;(first|assumption|omega|(simp only [Heap.push];omega))));(first|exact Nat.le_of_ble_eq_true rfl|(simp;done)|(simp;omega)|(rw [zaj];omega));(first|exact zaI (by omega)|rfl))|(apply zaQ;rfl;rfl;rfl;rfl;exact zal rfl;rfl;rfl;rfl)|(apply zbl;rfl;rfl;rfl;rfl;exact zal rfl;rfl;rfl)|fail))
    simp only [e1, e2, hA, hC]
    refine Or.inl ⟨rfl, ?_⟩
    refine zdm (zfj ?_)
    (repeat' (first|apply zac|(apply O_at;rfl)|(apply zai;rfl)|apply zay|(apply zbl;rfl;rfl;rfl;rfl;exact zal rfl;rfl;rfl)|fail))
    refine Or.inl ⟨rfl, ?_⟩
    refine zdm (zdm (zfj ?_))
    have hCs : C < s.length := by omega
    have hvC := hV C hCs
    unfold ValP at hvC
    (repeat' (first|apply zac|(apply O_at;rfl)|(apply P_fa;rfl;rfl;rfl;rfl;exact zbf rfl;(first|exact Nat.zero_add _|exact Nat.add_zero _|rfl))|(apply zdk;rfl;rfl;rfl;rfl;rfl;exact zaB rfl;exact zal rfl;(first|assumption|exact zq0|rfl|exact (Int.toNat_of_nonneg (by omega)).symm);omega)|(apply zaq;rfl;rfl;rfl;rfl;exact zaH rfl;(focus repeat' first|exact zaa|assumption|apply zab|(apply Ext.get;assumption)|(apply ExtBut.get;assumption;(first|assumption|omega|(simp only [Heap.push];omega))));(first|rfl|assumption))|(apply zaJ;rfl;rfl;rfl;rfl;exact zbc rfl;(focus repeat' first|exact zaa|assumption|apply zab|(apply Ext.get;assumption)|(apply ExtBut.get;assumption;(first|assumption|omega|(simp only [Heap.push];omega))));(first|exact Nat.le_of_ble_eq_true rfl|(simp;done)|(simp;omega)|(rw [zaj];omega));(first|exact zaI (by omega)|rfl))|fail))
    apply zan; rfl; rfl; rfl; rfl; rfl; rfl; exact zgf hK (a := (s.getD C (0, 0)).1) (c := (s.getD C (0, 0)).2)
    rintro _ h6 ⟨x6, by_, rfl, hby, gy⟩
    (repeat' (first|(apply zai;rfl)|apply zay|fail))
    refine Or.inl ⟨rfl, ?_⟩
    have n6 := x6.n
    simp only [Heap.push] at n6 hby
    have lby := Heap.get_lt gy
    have gk6 := x6.get (zab (zab gk'))
    have gp6 : h6.get? h'.n = some (.cells [.int .i64 (A : Nat), .int .i64 (C : Nat)] 123 true) := x6.get (zab zaa)
    have gn6 : h6.get? (h'.n + 1) = some (.cells [nilV] 26 true) := x6.get zaa
    have gv6 := x6.get (zab (zab hv))
    have w6 : Ext h' h6 := (((Ext.refl h').push _).push _).trans x6
    have hcan : canL s l r o (i + 1) = filN (zha s r o (canL s l r o i) (A : Nat) (C : Nat)) (s.getD C (0, 0)).1 ((s.getD C (0, 0)).2 - (s.getD C (0, 0)).1 + 1).toNat := by
     show filN (zha s r o (canL s l r o i) (l.getD i 0) (l.getD (i + 1) 0)) _ _ = _
     rw [hA, hC, Int.toNat_natCast]
    refine zp8 (Q := fun e E1 h7 M1 => e = .normal /\ E1.get 18 = some (.int .i64 (i : Nat)) /\ E1.get 17 = some (.int .i64 ((l.length - 1 : Nat) : Int)) /\ E1.get 16 = some (.slice (some ⟨bp, 0, none⟩) (l.length - 1) cp) /\ E1.get 3 = some (.pointer (some ⟨h3.n, 0, none⟩)) /\ E1.get 1 = some (.pointer (some ⟨h.n, 0, none⟩)) /\ E1.get 6 = some (.pointer (some ⟨h'.n + 1, 0, none⟩)) /\
     (∃ v', h7.get? (h'.n + 1) = some (.cells [v'] 26 true) /\ OutI 3 h6 h7 v' (canL s l r o (i + 1))) /\ (∀ b x, b ≠ h'.n + 1 -> h6.get? b = some x -> h7.get? b = some x) /\ h6.n <= h7.n /\ M1 = h6.n :: M /\ h7.get? h6.n = some (.obj (.deferred (some []))))
     (ziC (KM_range (g0 := 144) (fi := #[]) (ca := #[.pointer (some ⟨by_, 0, none⟩)]) rfl rfl rfl ?_)) ?_
    ·intro tm lq hb rr hEO hr hlq hxb hbn hlb hdb
     refine (zge hK (e := 72) (own := true) (bs := by_) (l := lq) (p := s.getD C (0, 0)) (by omega)
      (fun k h8 => h8.get? lq = some (.obj (.loop rr)) /\ (∃ v, OutI 3 hb h8 v (filN (zha s r o (canL s l r o i) (A : Nat) (C : Nat)) (s.getD C (0, 0)).1 k) /\ h8.get? (h'.n + 1) = some (.cells [v] 26 true)) /\ (∀ b x, b ≠ lq -> b ≠ h'.n + 1 -> hb.get? b = some x -> h8.get? b = some x) /\ hb.n <= h8.n)
      (fun _ => False) ?_ ?_ ?_).mono ?_
     ·rintro k h8 ⟨_, _, kk, _⟩
      exact kk by_ _ (by omega) (by omega) (hxb.get gy)
     ·exact ⟨hlb, ⟨_, OutI.nil _ _ _, hxb.get gn6⟩, fun b x _ _ g => g, Nat.le_refl _⟩
     ·rintro k h8 hle ⟨gl, ⟨v, ho, hgb⟩, kk, nn⟩
      refine ziU (N := 43) gl hr rfl (EnvOK.param hEO rfl) ?_
      (repeat' (first|apply zac|(apply O_at;rfl)|(apply zai;rfl)|apply zay|(apply zaQ;rfl;rfl;rfl;rfl;exact zal rfl;rfl;rfl;rfl)|(apply zbl;rfl;rfl;rfl;rfl;exact zal rfl;rfl;rfl)|fail))
      refine ⟨rfl, by (focus repeat' first | exact zaa | assumption | apply zab | (apply Ext.get; assumption) | (apply ExtBut.get; assumption; (first | assumption | omega | (simp only [Heap.push]; omega)))), fun Bz hs hsl hsk hsn => ?_⟩
      simp only [Heap.push] at hsn
      have old : ∀ {b : Nat} {x : Blk}, b ≠ h'.n + 1 -> h6.get? b = some x -> hs.get? b = some x := fun {b} {x} q g => hsk b x (by have := Heap.get_lt g; omega) (zab (kk b x (by have := Heap.get_lt g; omega) q (hxb.get g)))
      have x's : Ext h' hs := ⟨by omega, fun b x g => old (by have := Heap.get_lt g; omega) (w6.get g)⟩
      have xhs : Ext h hs := (Ext.ofBut w4 hx (by omega)).trans x's
      have ga : hs.get? h8.n = some (.cells [.int .i64 ((s.getD C (0, 0)).1 + (k : Nat))] 3 true) := hsk _ _ (by omega) zaa
      have gks := x's.get gk'
      have gps := old (by omega) gp6
      have gvs := x's.get hv
      have gbs : hs.get? (h'.n + 1) = some (.cells [v] 26 true) := hsk _ _ (by omega) (zab hgb)
      have hos : OutI 3 hb hs v _ := (ho.ext (Ext.push (Ext.refl _) _)).keepl hsk (by omega)
      have hfl := zmn (P := zha s r o (canL s l r o i) (A : Nat) (C : Nat)) (a := (s.getD C (0, 0)).1) k
      have iC : CallW Tryz.prog K 116 #[.slice pv (canL s l r o i).length cv, .func (.func 117) #[] #[.pointer (some ⟨h.n, 0, none⟩), .pointer (some ⟨h'.n, 0, none⟩), .pointer (some ⟨h8.n, 0, none⟩)]] hs (IfB (zha s r o (canL s l r o i) (A : Nat) (C : Nat) ((s.getD C (0, 0)).1 + (k : Nat))) hs) :=
       zjO hK hP (hTb'.ext xhs) (by omega) hCs (by omega) ci (by omega) (rdv.ext x's) gks gps ga
      by_cases hc : zha s r o (canL s l r o i) (A : Nat) (C : Nat) ((s.getD C (0, 0)).1 + (k : Nat))
      ·(repeat' (first|apply zam|apply zac|(apply O_at;rfl)|(apply zai;rfl)|apply zak|(apply za0;rfl)|apply zao|(apply zfg;rfl;rfl;rfl;rfl;rfl)|(apply zaq;rfl;rfl;rfl;rfl;exact zaH rfl;(focus repeat' first|exact zaa|assumption|apply zab|(apply Ext.get;assumption)|(apply ExtBut.get;assumption;(first|assumption|omega|(simp only [Heap.push];omega))));(first|rfl|assumption))|(apply ziy;rfl;rfl;rfl;rfl;rfl;rfl;rfl;exact zfd rfl)|(apply zan;rfl;rfl;rfl;rfl;rfl;rfl;exact yes iC hc;(rintro _ _ ⟨rfl,_⟩))|fail))
       rename_i h10 x10
       have n10 := x10.n
       apply zpZ; rfl; rfl; rfl; rfl; rfl; rfl; rfl; rfl; exact zfd rfl; exact zaB rfl; exact zaa; exact (hos.ext x10).ext (Ext.push (Ext.refl _) _); exact (by simp only [Heap.push]; omega); omega
       intro v' h11 o11 k11
       have kp : ∀ b y, b < hb.n -> h10.get? b = some y -> h11.get? b = some y := fun b y q g => k11.lo q (zab g)
       have n11 : h10.n + 1 <= h11.n := k11.n
       obtain ⟨cv', ov⟩ := o11.cells
       (repeat' (first|(apply O_at;rfl)|fail))
       refine ziw (c' := [v']) rfl rfl rfl rfl (kp (h'.n + 1) _ (by omega) (x10.get gbs)) (zal rfl) (by rw [cv']; rfl) (Nat.le_of_ble_eq_true rfl) (by rw [cv']; simp [ov]) (by rw [cv']; rfl) ?_
       intro h12 g12 x12
       replace g12 : h12.get? (h'.n + 1) = some (.cells [v'] 26 true) := g12
       replace x12 : ExtBut (h'.n + 1) h11 h12 := x12
       have n12 := x12.n
       (repeat' (first|(apply zai;rfl)|apply zaF|apply zay|fail))
       refine ⟨x12.get (by omega) (kp _ _ (by omega) (x10.get hsl)), none, rfl, fun hf hfl hfk hfn => Or.inl ⟨rfl, by rw [zdI hr] at hfl; exact hfl, ⟨v', ?_, hfk _ _ (by omega) g12⟩, fun b x q q2 g => hfk b x q (x12.get q2 (kp b x (Heap.get_lt g) (x10.get (hsk b x q (zab (kk b x q q2 g)))))), by omega⟩⟩
       rw [zib hc]
       exact (o11.keepl (b0 := h'.n + 1) (fun b y q g => x12.get q g) (by omega)).keepl hfk (by omega)
      ·(repeat' (first|apply zam|apply zac|(apply O_at;rfl)|(apply zai;rfl)|apply zak|(apply zaT;rfl)|apply zao|apply zaG|apply zaF|apply zay|(apply zfg;rfl;rfl;rfl;rfl;rfl)|(apply zaq;rfl;rfl;rfl;rfl;exact zaH rfl;(focus repeat' first|exact zaa|assumption|apply zab|(apply Ext.get;assumption)|(apply ExtBut.get;assumption;(first|assumption|omega|(simp only [Heap.push];omega))));(first|rfl|assumption))|(apply zan;rfl;rfl;rfl;rfl;rfl;rfl;exact no iC hc;(rintro _ _ ⟨rfl,_⟩))|fail))
       rename_i h10 x10
       have n10 := x10.n
       refine ⟨x10.get hsl, none, rfl, fun hf hfl hfk hfn => Or.inl ⟨rfl, by rw [zdI hr] at hfl; exact hfl, ⟨v, ?_, hfk _ _ (by omega) (x10.get gbs)⟩, fun b x q q2 g => hfk b x q (x10.get (hsk b x q (zab (kk b x q q2 g)))), by omega⟩⟩
       rw [zla hc]
       exact (hos.ext x10).keepl hfk (by omega)
     ·rintro _ h9 (⟨gl, ⟨v, ho, hgb⟩, kk, nn⟩ | w)
      ·refine ⟨none, by rw [zdI hr]; exact gl, fun h7 k7 n7 => KM_skip (Or.inr ⟨(by intro q; cases q), rfl, rfl, rfl, rfl, rfl, rfl, rfl, ⟨v, k7 _ _ (by omega) hgb, by rw [hcan]; exact (ho.keepl k7 (by omega)).low (h0' := h6) (by omega)⟩, fun b x q g => k7 b x (by have := Heap.get_lt g; omega) (kk b x (by have := Heap.get_lt g; omega) q (hxb.get g)), by omega, rfl, k7 _ _ (by omega) (kk _ _ (by omega) (by omega) hdb)⟩)⟩
      ·exact w.elim
    ·rintro _ E1 h7 M1 ⟨rfl, g18, g17, g16, g3, g1, g6, ⟨v', gv', ho'⟩, k7, n7, rfl, gm⟩
     have gv7 := k7 _ _ (by omega) gv6
     obtain ⟨cv', ov⟩ := ho'.cells
     refine Or.inl ⟨rfl, ziB (E' := [(18, .int .i64 (i : Nat)), (17, .int .i64 ((l.length - 1 : Nat) : Int)), (16, .slice (some ⟨bp, 0, none⟩) (l.length - 1) cp), (3, .pointer (some ⟨h3.n, 0, none⟩)), (1, .pointer (some ⟨h.n, 0, none⟩)), (6, .pointer (some ⟨h'.n + 1, 0, none⟩))]) (zfj ?_) ⟨g18, g17, g16, g3, g1, g6, trivial⟩⟩
     (repeat' (first|apply zac|(apply O_at;rfl)|(apply zaq;rfl;rfl;rfl;rfl;exact zaH rfl;(focus repeat' first|exact zaa|assumption|apply zab|(apply Ext.get;assumption)|(apply ExtBut.get;assumption;(first|assumption|omega|(simp only [Heap.push];omega))));(first|rfl|assumption))|fail))
     refine ziw (c' := [v']) rfl rfl rfl rfl gv7 (zal rfl) (by rw [cv']; rfl) (Nat.le_of_ble_eq_true rfl) (by rw [cv']; simp [ov]) (by rw [cv']; rfl) ?_
     intro h12 g12 x12
     have n12 := x12.n
     (repeat' (first|(apply zai;rfl)|apply zay|fail))
     have hmr : ∀ r ∈ M, r < h'.n := fun r q => Heap.get_lt (hM2 r q)
     refine Or.inr ⟨(by intro q; cases q), rfl, rfl, rfl, rfl, rfl, rfl, by omega, ⟨v', g12, OutI.rdV (e := 3) (h0 := h6) (OutI.but (e := 3) (h0 := h6) ho' x12 (by omega))⟩, ⟨by omega, fun b x ne g => x12.get ne (k7 b x (by have := Heap.get_lt g; omega) (w6.get (hx.get ne g)))⟩, List.nodup_cons.2 ⟨fun q => by have := hmr _ q; omega, hM1⟩, fun r q => ?_, fun r q => ?_⟩
     ·rcases List.mem_cons.1 q with rfl | q
      ·exact x12.get (by omega) gm
      ·have a := hM3 r q
       have c := hmr r q
       exact x12.get (by omega) (k7 r _ (by omega) (w6.get (hM2 r q)))
     ·rcases List.mem_cons.1 q with rfl | q
      ·omega
      ·exact hM3 r q
   ·rintro _ E1 h2 M1 ⟨rfl, g18, g17, g16, g3, g1, hJ⟩
    refine Or.inl ⟨rfl, ziB (E' := [(18, .int .i64 (i : Nat)), (17, .int .i64 ((l.length - 1 : Nat) : Int)), (16, .slice (some ⟨bp, 0, none⟩) (l.length - 1) cp), (3, .pointer (some ⟨h3.n, 0, none⟩)), (1, .pointer (some ⟨h.n, 0, none⟩))]) (zfj ?_) ⟨g18, g17, g16, g3, g1, trivial⟩⟩
    (repeat' (first|apply zac|(apply O_at;rfl)|(apply zai;rfl)|apply zay|((first|apply zag|apply zad);rfl;rfl;rfl;rfl)|(apply zbH;rfl;rfl;rfl;rfl;rfl;(unfold fit;omega))|fail))
    exact Or.inl ⟨rfl, ziB (ih (i + 1) _ _ (by omega) hJ) (by (focus repeat' first | rfl | exact trivial | apply And.intro))⟩
  ·obtain rfl : i = l.length - 1 := by omega
   refine zdm (zfj ?_)
   (repeat' (first|apply zac|(apply O_at;rfl)|(apply zai;rfl)|apply zay|(apply zbG;rfl;rfl;rfl;rfl;rfl;omega)|fail))
   refine Or.inl ⟨rfl, ?_⟩
   refine zdm (zfj ?_)
   (repeat' (first|(apply zaT;rfl)|apply zbw|apply zay|fail))
   refine Or.inr ⟨(by intro q; cases q), Or.inr ⟨(by intro q; cases q), Or.inl ⟨rfl, Or.inl ⟨rfl, zfj ?_⟩⟩⟩⟩
   have eh : Ext h h' := Ext.ofBut w4 hx (by omega)
   have wh : ∀ h2, (∀ b x, b ∉ M -> h'.get? b = some x -> h2.get? b = some x) -> h2.n = h'.n -> Ext h h2 := fun h2 k2 n2 => ⟨by rw [n2]; exact eh.n, fun q y g => k2 q y (fun w => by have := hM3 _ w; have := Heap.get_lt g; omega) (eh.get g)⟩
   by_cases hc : 0 < (canL s l r o (l.length - 1)).length
   ·(repeat' (first|apply zam|apply zac|(apply O_at;rfl)|(apply zai;rfl)|apply zak|apply zaL|apply zbL|apply zay|((first|apply zag|apply zad);rfl;rfl;rfl;rfl)|(apply zbj;rfl;rfl;rfl;rfl;rfl;rfl;exact zaB rfl)|(apply zhx;rfl;rfl;rfl;rfl;rfl;omega)|(apply zaq;rfl;rfl;rfl;rfl;exact zaH rfl;(focus repeat' first|exact zaa|assumption|apply zab|(apply Ext.get;assumption)|(apply ExtBut.get;assumption;(first|assumption|omega|(simp only [Heap.push];omega))));(first|rfl|assumption))|fail))
    refine ⟨.inr rfl, hM1, hM2, fun h2 k2 n2 => ⟨_, rfl, ?_⟩⟩
    exact .inl ⟨rfl, hc, wh h2 k2 n2⟩
   ·(repeat' (first|apply zam|apply zac|(apply O_at;rfl)|(apply zai;rfl)|apply zak|apply zaL|apply zbL|apply zay|((first|apply zag|apply zad);rfl;rfl;rfl;rfl)|(apply zbj;rfl;rfl;rfl;rfl;rfl;rfl;exact zaB rfl)|(apply zdx;rfl;rfl;rfl;rfl;rfl;omega)|(apply zaq;rfl;rfl;rfl;rfl;exact zaH rfl;(focus repeat' first|exact zaa|assumption|apply zab|(apply Ext.get;assumption)|(apply ExtBut.get;assumption;(first|assumption|omega|(simp only [Heap.push];omega))));(first|rfl|assumption))|fail))
    refine ⟨.inr rfl, hM1, hM2, fun h2 k2 n2 => ⟨_, rfl, ?_⟩⟩
    exact .inr ⟨rfl, hc, wh h2 k2 n2⟩
 ·exact ⟨Nat.zero_le _, ⟨_, gc4, pc, cc, rfl, rdc4⟩, ExtBut.refl _ _, List.nodup_nil, fun r q => (by cases q), fun r q => (by cases q)⟩
 ·(focus repeat' first | rfl | exact trivial | apply And.intro)
end Go.AX.Sa

namespace Go.AX.Sa
open Go.Proofs
set_option maxRecDepth 100000
variable {K : Known}
def WordP (s : List (Int × Int)) (l : List Int) (r o w : Int) : Prop := (zeY s l r o /\ w = 3) \/ (¬ zeY s l r o /\ CanP s l r o /\ w = 2) \/ (¬ zeY s l r o /\ ¬ CanP s l r o /\ w = 1)
theorem word_ex (s : List (Int × Int)) (l : List Int) (r o : Int) : ∃ w, WordP s l r o w := by
 by_cases h1 : zeY s l r o
 ·exact ⟨3, .inl ⟨h1, rfl⟩⟩
 ·by_cases h2 : CanP s l r o
  ·exact ⟨2, .inr (.inl ⟨h1, h2, rfl⟩)⟩
  ·exact ⟨1, .inr (.inr ⟨h1, h2, rfl⟩)⟩
section
variable {T : Tb} {l : List Int} {h : Heap}
theorem word_ok (hK : NoK K) {p : Option Addr} {cap : Nat} {w : Int} (hP : TbP T) (hKp : zb9 T.s.length l) (hcap : l.length <= cap) (hll : l.length <= 1000) (hTb : TbAt T h) (hr : Rd h p (ints l)) (hpb : ∀ a, p = some a -> a.block < h.n) (hW : WordP T.s l T.r T.o w) :
  CallW Tryz.prog K 33 #[tbV T, .slice p l.length cap] h (IsV (.tuple #[.int .i64 w, .int .i64 0]) h) := by
 have hn := hP.1
 have hl2 := hKp.1
 obtain ⟨b, e, own, rfl, hg⟩ := hr.at (by rw [zar]; omega)
 have iK : ∀ {h' : Heap}, Ext h h' -> CallW Tryz.prog K 63 #[ktV T (some ⟨b, 0, none⟩) l.length cap] h' (IsV (.bool true) h') := fun x => yes (zgo hK (by omega) hll (hTb.ext x) (hr.ext x) (fun a w => Nat.lt_of_lt_of_le (hpb a w) x.n)) ⟨hP, hKp⟩
 have iS : ∀ {h' : Heap}, Ext h h' -> CallW Tryz.prog K 75 #[ktV T (some ⟨b, 0, none⟩) l.length cap] h' (IfB (zeY T.s l T.r T.o) h') := fun x => zpb hK hP hKp hcap hll (hTb.ext x) (x.get hg)
 have iC : ∀ {h' : Heap}, Ext h h' -> CallW Tryz.prog K 76 #[ktV T (some ⟨b, 0, none⟩) l.length cap] h' (IfB (CanP T.s l T.r T.o) h') := fun x => zio hK hP hKp hcap hll (hTb.ext x) (x.get hg)
 obtain ⟨q, kq, s, r, o⟩ := T
 dsimp only [tbV, ktV] at iK iS iC hW ⊢
 refine body (N := 20) Tryz.func33 rfl (hK _ _ _ rfl) rfl rfl ?_
 rcases hW with ⟨h1, rfl⟩ | ⟨h1, h2, rfl⟩ | ⟨h1, h2, rfl⟩
 ·(repeat' (first|apply zam|apply zac|(apply O_at;rfl)|(apply zai;rfl)|apply zak|(apply za0;rfl)|(apply zaT;rfl)|apply zao|apply zaL|apply zbL|apply zdn|apply zay|((first|apply zag|apply zad|apply zcd);rfl;rfl;rfl;rfl)|(apply zaJ;rfl;rfl;rfl;rfl;exact zbc rfl;(focus repeat' first|exact zaa|assumption|(apply Ext.get;assumption));(first|exact Nat.le_of_ble_eq_true rfl|(simp;done)|(simp;omega)|(rw [zar];omega));rfl)|(apply zaQ;rfl;rfl;rfl;rfl;exact zal rfl;rfl;rfl;rfl)|(apply zdl;rfl;rfl;rfl;rfl)|(apply zbk;rfl;rfl;rfl;rfl;exact zal rfl;rfl;rfl)|(apply zbl;rfl;rfl;rfl;rfl;exact zal rfl;rfl;rfl)|(apply zan;rfl;rfl;rfl;rfl;rfl;rfl;exact iK (by repeat' first|exact Ext.refl _|assumption|apply Ext.push|refine Ext.trans ?_ (by assumption));(rintro _ _ ⟨rfl,_⟩))|(apply zan;rfl;rfl;rfl;rfl;rfl;rfl;exact yes (iS (by repeat' first|exact Ext.refl _|assumption|apply Ext.push|refine Ext.trans ?_ (by assumption))) h1;(rintro _ _ ⟨rfl,_⟩))|fail))
  exact ⟨.inr rfl, _, rfl, rfl, by repeat' first|exact Ext.refl _|assumption|apply Ext.push|refine Ext.trans ?_ (by assumption)⟩
 ·(repeat' (first|apply zam|apply zac|(apply O_at;rfl)|(apply zai;rfl)|apply zak|(apply za0;rfl)|(apply zaT;rfl)|apply zao|apply zaL|apply zbL|apply zdn|apply zay|((first|apply zag|apply zad|apply zcd);rfl;rfl;rfl;rfl)|(apply zaJ;rfl;rfl;rfl;rfl;exact zbc rfl;(focus repeat' first|exact zaa|assumption|(apply Ext.get;assumption));(first|exact Nat.le_of_ble_eq_true rfl|(simp;done)|(simp;omega)|(rw [zar];omega));rfl)|(apply zaQ;rfl;rfl;rfl;rfl;exact zal rfl;rfl;rfl;rfl)|(apply zdl;rfl;rfl;rfl;rfl)|(apply zbk;rfl;rfl;rfl;rfl;exact zal rfl;rfl;rfl)|(apply zbl;rfl;rfl;rfl;rfl;exact zal rfl;rfl;rfl)|(apply zan;rfl;rfl;rfl;rfl;rfl;rfl;exact iK (by repeat' first|exact Ext.refl _|assumption|apply Ext.push|refine Ext.trans ?_ (by assumption));(rintro _ _ ⟨rfl,_⟩))|(apply zan;rfl;rfl;rfl;rfl;rfl;rfl;exact no (iS (by repeat' first|exact Ext.refl _|assumption|apply Ext.push|refine Ext.trans ?_ (by assumption))) h1;(rintro _ _ ⟨rfl,_⟩))|(apply zan;rfl;rfl;rfl;rfl;rfl;rfl;exact yes (iC (by repeat' first|exact Ext.refl _|assumption|apply Ext.push|refine Ext.trans ?_ (by assumption))) h2;(rintro _ _ ⟨rfl,_⟩))|fail))
  exact ⟨.inr rfl, _, rfl, rfl, by repeat' first|exact Ext.refl _|assumption|apply Ext.push|refine Ext.trans ?_ (by assumption)⟩
 ·(repeat' (first|apply zam|apply zac|(apply O_at;rfl)|(apply zai;rfl)|apply zak|(apply zaT;rfl)|apply zao|apply zaG|apply zaL|apply zaF|apply zay|((first|apply zag|apply zad|apply zcd);rfl;rfl;rfl;rfl)|(apply zaJ;rfl;rfl;rfl;rfl;exact zbc rfl;(focus repeat' first|exact zaa|assumption|(apply Ext.get;assumption));(first|exact Nat.le_of_ble_eq_true rfl|(simp;done)|(simp;omega)|(rw [zar];omega));rfl)|(apply zaQ;rfl;rfl;rfl;rfl;exact zal rfl;rfl;rfl;rfl)|(apply zdl;rfl;rfl;rfl;rfl)|(apply zbk;rfl;rfl;rfl;rfl;exact zal rfl;rfl;rfl)|(apply zbl;rfl;rfl;rfl;rfl;exact zal rfl;rfl;rfl)|(apply zan;rfl;rfl;rfl;rfl;rfl;rfl;exact iK (by repeat' first|exact Ext.refl _|assumption|apply Ext.push|refine Ext.trans ?_ (by assumption));(rintro _ _ ⟨rfl,_⟩))|(apply zan;rfl;rfl;rfl;rfl;rfl;rfl;exact no (iS (by repeat' first|exact Ext.refl _|assumption|apply Ext.push|refine Ext.trans ?_ (by assumption))) h1;(rintro _ _ ⟨rfl,_⟩))|(apply zan;rfl;rfl;rfl;rfl;rfl;rfl;exact no (iC (by repeat' first|exact Ext.refl _|assumption|apply Ext.push|refine Ext.trans ?_ (by assumption))) h2;(rintro _ _ ⟨rfl,_⟩))|fail))
  exact ⟨.inr rfl, _, rfl, rfl, by repeat' first|exact Ext.refl _|assumption|apply Ext.push|refine Ext.trans ?_ (by assumption)⟩
theorem zhD (hK : NoK K) {p : Option Addr} {cap : Nat} (hP : TbP T) (hKp : zb9 T.s.length l) (hcap : l.length <= cap) (hll : l.length <= 1000) (hTb : TbAt T h) (hr : Rd h p (ints l)) (hpb : ∀ a, p = some a -> a.block < h.n) :
  CallW Tryz.prog K 34 #[tbV T, .slice p l.length cap] h (OkL (dbts T.s l T.r T.o T.s.length) h) := by
 have hn := hP.1
 have hl2 := hKp.1
 obtain ⟨b, e, own, rfl, hg⟩ := hr.at (by rw [zar]; omega)
 have iK : ∀ {h' : Heap}, Ext h h' -> CallW Tryz.prog K 63 #[ktV T (some ⟨b, 0, none⟩) l.length cap] h' (IsV (.bool true) h') := fun x => yes (zgo hK (by omega) hll (hTb.ext x) (hr.ext x) (fun a w => Nat.lt_of_lt_of_le (hpb a w) x.n)) ⟨hP, hKp⟩
 have iD : ∀ {h' : Heap}, Ext h h' -> CallW Tryz.prog K 77 #[ktV T (some ⟨b, 0, none⟩) l.length cap] h' (IsL (dbts T.s l T.r T.o T.s.length) h') := fun x => zpv hK hP hKp hcap hll (hTb.ext x) (x.get hg)
 obtain ⟨q, kq, s, r, o⟩ := T
 dsimp only [tbV, ktV] at iK iD ⊢
 refine body (N := 15) Tryz.func34 rfl (hK _ _ _ rfl) rfl rfl ?_
 (repeat' (first|apply zam|apply zac|(apply O_at;rfl)|(apply zai;rfl)|apply zak|(apply zaT;rfl)|apply zaG|apply zaL|apply zay|((first|apply zag|apply zad|apply zcd);rfl;rfl;rfl;rfl)|(apply zaJ;rfl;rfl;rfl;rfl;exact zbc rfl;(focus repeat' first|exact zaa|assumption|(apply Ext.get;assumption));(first|exact Nat.le_of_ble_eq_true rfl|(simp;done)|(simp;omega)|(rw [zar];omega));rfl)|(apply zaQ;rfl;rfl;rfl;rfl;exact zal rfl;rfl;rfl;rfl)|(apply zdl;rfl;rfl;rfl;rfl)|(apply zbk;rfl;rfl;rfl;rfl;exact zal rfl;rfl;rfl)|(apply zbl;rfl;rfl;rfl;rfl;exact zal rfl;rfl;rfl)|(apply zan;rfl;rfl;rfl;rfl;rfl;rfl;exact iK (by repeat' first|exact Ext.refl _|assumption|apply Ext.push|refine Ext.trans ?_ (by assumption));(rintro _ _ ⟨rfl,_⟩))|(apply zan;rfl;rfl;rfl;rfl;rfl;rfl;exact iD (by repeat' first|exact Ext.refl _|assumption|apply Ext.push|refine Ext.trans ?_ (by assumption));(rintro _ _ ⟨_,_,rfl,_,_⟩))|fail))
 rename_i rd1 y1
 exact ⟨.inr rfl, _, rfl, _, _, rfl, rd1, by repeat' first|exact Ext.refl _|assumption|apply Ext.push|refine Ext.trans ?_ (by assumption)⟩
end
end Go.AX.Sa

namespace Go.AX.Sa
open Go.Proofs
set_option maxRecDepth 100000
variable {K : Known}
end Go.AX.Sa

namespace Go.AX.Sa
open Go.Proofs
set_option maxRecDepth 100000
variable {K : Known}
theorem zl7 {s : List (Int × Int)} {l : List Int} {r o : Int} {j : Nat} : ∀ k, ((j : Nat) : Int) ∈ dbts s l r o k ↔ j < k /\ o < offv s l r j := by
 intro k
 induction k with
 | zero => exact ⟨fun h => (by cases h), fun h => absurd h.1 (Nat.not_lt_zero _)⟩
 | succ k ih =>
  by_cases h : o < offv s l r k
  ·rw [zfP h, List.mem_append, ih, List.mem_singleton]
   constructor
   ·rintro (⟨w, p⟩ | w)
    ·exact ⟨by omega, p⟩
    ·have : j = k := by omega
     subst this
     exact ⟨Nat.lt_succ_self _, h⟩
   ·rintro ⟨w, p⟩
    by_cases q : j = k
    ·exact .inr (by omega)
    ·exact .inl ⟨by omega, p⟩
  ·rw [zii h, ih]
   refine ⟨fun ⟨w, p⟩ => ⟨by omega, p⟩, fun ⟨w, p⟩ => ⟨?_, p⟩⟩
   have : j ≠ k := fun q => h (q ▸ p)
   omega
section
variable {s : List (Int × Int)} {l t : List Int} {r o : Int}
theorem far_le (_hV : Vals s) (hKp : zb9 s.length l) (hT : zcb s t) {j : Nat} (hj : j < s.length) : figv l t r j - t.getD j 0 <= offv s l r j /\ t.getD j 0 - figv l t r j <= offv s l r j := by
 have hb : ∀ k : Nat, k < s.length -> (lows s).getD k 0 <= t.getD k 0 /\ t.getD k 0 <= (highs s).getD k 0 := fun k hk => by
  have := hT.2 k (by rw [hT.1]; exact hk)
  rw [zh4 hk, zgs hk]; exact this
 have b := hb j hj
 rw [zh4 hj, zgs hj] at b
 rcases zlU hKp hj with ⟨i, hi, hij⟩ | ⟨i, hi, h1, h2⟩
 ·have e : offv s l r j = 0 := if_pos (mem_at.2 ⟨i, hi, hij⟩)
  rw [zcS hKp.2.2.2 hi hij, e]; omega
 ·have a1 := zdr hKp (i := i) (by omega)
  have a2 := zdr hKp hi
  have hno : ¬ ((j : Nat) : Int) ∈ l := fun w => by
   have := (zlt hKp hj).2 w
   rw [zjU hKp.2.2.2 (j := (j : Nat)) (i := i) (by omega) (by omega) (fun _ => h2), zjZ hKp.2.2.2 (j := (j : Nat)) (i := i + 1) hi (by omega) (fun m w => by rw [show m = i by omega]; exact h1)] at this
   omega
  have e : offv s l r j = max ((s.getD j (0, 0)).2 - figv l (lows s) r j) (figv l (highs s) r j - (s.getD j (0, 0)).1) := if_neg hno
  have b1 := hb (l.getD i 0).toNat (by omega)
  have b2 := hb (l.getD (i + 1) 0).toNat (by omega)
  have m1 : figv l (lows s) r j <= figv l t r j := by
   rw [zc5 hKp.2.2.2 hi h1 h2, zc5 hKp.2.2.2 hi h1 h2, zgi, zgi]
   exact zfG (by omega) (zfM (by omega) (by omega) b1.1 b2.1)
  have m2 : figv l t r j <= figv l (highs s) r j := by
   rw [zc5 hKp.2.2.2 hi h1 h2, zc5 hKp.2.2.2 hi h1 h2, zgi, zgi]
   exact zfG (by omega) (zfM (by omega) (by omega) b1.2 b2.2)
  rw [e]; omega
theorem zmX (hV : Vals s) (hKp : zb9 s.length l) (hT : zcb s t) (hS : zeY s l r o) : zgQ s l t r o := fun j hj => by
 have := far_le (r := r) hV hKp hT hj
 have := hS j hj
 omega
theorem zoz (hKp : zb9 s.length l) (hT : zcb s t) (hn : 0 < s.length) (hR : zgQ s l t r o) : CanP s l r o := by
 have hT2 : ∀ k : Nat, k < s.length -> (s.getD k (0, 0)).1 <= t.getD k 0 /\ t.getD k 0 <= (s.getD k (0, 0)).2 := fun k hk => hT.2 k (by rw [hT.1]; exact hk)
 have key : ∀ i, i < l.length -> t.getD (l.getD i 0).toNat 0 ∈ canL s l r o i := by
  intro i
  induction i with
  | zero =>
   intro _
   rw [hKp.2.1]
   have := hT2 0 hn
   exact mem_rng.2 (show _ /\ _ by rw [show (0 : Int).toNat = 0 from rfl]; omega)
  | succ i ih =>
   intro hi
   have ih := ih (by omega)
   have a1 := zdr hKp (i := i) (by omega)
   have a2 := zdr hKp hi
   have a3 := hT2 (l.getD (i + 1) 0).toNat (by omega)
   refine (zl6 _).2 ⟨by omega, _, ih, fun j h1 h2 => ?_⟩
   have b := hT2 j (by omega)
   have c := hR j (by omega)
   rw [zc5 hKp.2.2.2 hi h1 h2] at c
   omega
 have hk := key (l.length - 1) (by have := hKp.1; omega)
 unfold CanP
 rcases hc : canL s l r o (l.length - 1) with _ | ⟨a, m⟩
 ·rw [hc] at hk; cases hk
 ·exact Nat.succ_pos _
end
theorem zcR (hK : NoK K) {l : List Int} {x : Int} {p : Option Addr} {cap : Nat} {h : Heap} (hl : l.length <= 1000) (hr : Rd h p (ints l)) :
  CallW Tryz.prog K 37 #[.slice p l.length cap, .int .i64 x] h (IfB (x ∈ l) h) := by
 refine body (N := 18) Tryz.func37 rfl (hK _ _ _ rfl) rfl rfl ?_
 (repeat' (first|apply zam|apply zac|(apply O_at;rfl)|(apply zai;rfl)|apply zak|apply zao|((first|apply zag|apply zad);rfl;rfl;rfl;rfl)|fail))
 refine zbd (fun k : Nat => [(5, .int .i64 (k : Nat)), (1, .int .i64 x), (0, .slice p l.length cap)])
  (fun k h' => k <= l.length /\ Ext h h' /\ ∀ j, j < k -> l.getD j 0 ≠ x) (fun k => l.length - k) ?_ 0 ⟨Nat.zero_le _, Ext.refl _, fun j hj => by omega⟩ ?_
 ·intro k h' ⟨hk, hx, hj⟩ ih
  by_cases hlt : k < l.length
  ·obtain ⟨b, e, own, rfl, hg⟩ := hr.at (by rw [zar]; omega)
   by_cases hc : l.getD k 0 = x
   ·(repeat' (first|apply zam|apply zac|(apply O_at;rfl)|(apply zai;rfl)|apply zak|(apply za0;rfl)|apply zao|apply zaG|apply zaL|apply zbL|apply zdU|apply zdn|apply zay|((first|apply zag|apply zad);rfl;rfl;rfl;rfl)|(apply zbj;rfl;rfl;rfl;rfl;rfl;rfl;exact zaB rfl)|(apply za1;rfl;rfl;rfl;rfl;rfl;omega)|(apply zhy;rfl;rfl;rfl;rfl;rfl;omega)|(apply zbT;rfl;rfl;rfl;rfl;rfl;exact zaB rfl;exact zal rfl;(first|assumption|rfl|exact (Int.toNat_of_nonneg (by omega)).symm);omega)|(apply zaq;rfl;rfl;rfl;rfl;exact zaH rfl;(focus repeat' first|assumption|(apply Ext.get;assumption));(first|exact zaw (by omega)|rfl|assumption))|fail))
    exact ⟨.inr rfl, _, rfl, .inl ⟨rfl, mem_at.2 ⟨k, hlt, hc⟩, by (focus repeat' first | exact Ext.refl _ | assumption)⟩⟩
   ·(repeat' (first|apply zam|apply zac|(apply O_at;rfl)|(apply zai;rfl)|apply zak|(apply za0;rfl)|(apply zaT;rfl)|apply zao|apply zaG|apply zaF|((first|apply zag|apply zad);rfl;rfl;rfl;rfl)|(apply zbj;rfl;rfl;rfl;rfl;rfl;rfl;exact zaB rfl)|(apply za1;rfl;rfl;rfl;rfl;rfl;omega)|(apply zj3;rfl;rfl;rfl;rfl;rfl;omega)|(apply zbH;rfl;rfl;rfl;rfl;rfl;(unfold fit;omega))|(apply zbT;rfl;rfl;rfl;rfl;rfl;exact zaB rfl;exact zal rfl;(first|assumption|rfl|exact (Int.toNat_of_nonneg (by omega)).symm);omega)|(apply zaq;rfl;rfl;rfl;rfl;exact zaH rfl;(focus repeat' first|assumption|(apply Ext.get;assumption));(first|exact zaw (by omega)|rfl|assumption))|fail))
    refine zaS (ih (k + 1) _ (by omega) ⟨hlt, by (focus repeat' first | exact Ext.refl _ | assumption), fun j hj' => ?_⟩) (by (focus repeat' first | rfl | exact trivial | apply And.intro))
    by_cases hjk : j = k
    ·subst hjk; exact hc
    ·exact hj j (by omega)
  ·(repeat' (first|apply zam|apply zac|(apply O_at;rfl)|(apply zai;rfl)|apply zak|(apply zaT;rfl)|apply zbw|apply zaL|apply zbA|apply za4|apply za5|apply zay|((first|apply zag|apply zad);rfl;rfl;rfl;rfl)|(apply zbj;rfl;rfl;rfl;rfl;rfl;rfl;exact zaB rfl)|(apply zbG;rfl;rfl;rfl;rfl;rfl;omega)|fail))
   refine ⟨.inr rfl, _, rfl, .inr ⟨rfl, fun q => ?_, by (focus repeat' first | exact Ext.refl _ | assumption)⟩⟩
   obtain ⟨j, hj1, hj2⟩ := mem_at.1 q
   exact absurd hj2 (hj j (by omega))
 ·(focus repeat' first | rfl | exact trivial | apply And.intro)
end Go.AX.Sa
