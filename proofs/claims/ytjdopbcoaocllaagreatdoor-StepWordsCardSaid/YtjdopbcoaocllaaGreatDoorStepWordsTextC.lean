/- The law StepWords at the reading: what the functions that it calls answer (3). -/
import Derived.Test.YtjdopbcoaocllaaGreatDoorStepWordsTextB
namespace Go.AX.Sa
open Go.Proofs
set_option maxRecDepth 100000
variable {K : Known}
def dbts (s : List (Int × Int)) (l : List Int) (r o : Int) : Nat -> List Int
 | 0 => []
 | k + 1 => if o < offv s l r k then dbts s l r o k ++ [((k : Nat) : Int)] else dbts s l r o k
theorem zf8 {s : List (Int × Int)} {l : List Int} {r o : Int} {k : Nat} (h : o < offv s l r k) : dbts s l r o (k + 1) = dbts s l r o k ++ [((k : Nat) : Int)] := if_pos h
theorem zix {s : List (Int × Int)} {l : List Int} {r o : Int} {k : Nat} (h : ¬ o < offv s l r k) : dbts s l r o (k + 1) = dbts s l r o k := if_neg h
theorem zf9 (s : List (Int × Int)) (l : List Int) (r o : Int) : ∀ k, (dbts s l r o k).length <= k := by
 intro k
 induction k with
 | zero => exact Nat.le_refl _
 | succ k ih =>
  by_cases h : o < offv s l r k
  ·rw [zf8 h, List.length_append]; simp only [List.length_cons, List.length_nil]; omega
  ·rw [zix h]; omega
def zfd (s : List (Int × Int)) (l : List Int) (r o : Int) : Prop := ∀ j, j < s.length -> offv s l r j <= o
theorem dbts_nil {s : List (Int × Int)} {l : List Int} {r o : Int} : ∀ k, (dbts s l r o k).length = 0 ↔ ∀ j, j < k -> offv s l r j <= o := by
 intro k
 induction k with
 | zero => exact ⟨fun _ j hj => absurd hj (Nat.not_lt_zero _), fun _ => rfl⟩
 | succ k ih =>
  by_cases h : o < offv s l r k
  ·rw [zf8 h, List.length_append]
   simp only [List.length_cons, List.length_nil]
   exact ⟨fun q => by omega, fun q => by have := q k (Nat.lt_succ_self k); omega⟩
  ·rw [zix h, ih]
   refine ⟨fun q j hj => ?_, fun q j hj => q j (by omega)⟩
   by_cases hjk : j = k
   ·subst hjk; omega
   ·exact q j (by omega)
theorem zpE (hK : NoK K) {T : Tb} {l : List Int} {b cap : Nat} {e : TypeId} {own : Bool} {h : Heap} (hP : TbP T) (hKp : zb3 T.s.length l) (hcap : l.length <= cap) (hll : l.length <= 1000) (hTb : TbAt T h) (hg : h.get? b = some (.cells (ints l) e own)) :
  CallW Tryz.prog K 77 #[ktV T (some ⟨b, 0, none⟩) l.length cap] h (IsL (dbts T.s l T.r T.o T.s.length) h) := by
 have iO : ∀ {h' : Heap}, Ext h h' -> CallW Tryz.prog K 82 #[ktV T (some ⟨b, 0, none⟩) l.length cap] h' (IsL (offs T.s l T.r T.s.length) h') := fun x => zkU hK hP hKp hcap hll (hTb.ext x) (x.get hg)
 obtain ⟨q, kq, s, r, o⟩ := T
 have hqb : ∀ a, q = some a -> a.block < h.n := hTb.b
 have hb0 := Heap.get_lt hg
 have hn := hP.1
 dsimp only [ktV] at iO hn ⊢
 have hfl := zd9 s l r s.length
 refine body (N := 25) Tryz.func77 rfl (hK _ _ _ rfl) rfl rfl ?_
 (repeat' (first|apply zal|apply zac|(apply O_at;rfl)|(apply zai;rfl)|apply zak|apply zan|((first|apply zaf|apply zad);rfl;rfl;rfl;rfl)|(apply zbf;rfl;rfl;rfl;rfl;rfl;rfl;exact zar rfl)|(apply zaN;rfl;rfl;rfl;rfl;exact za7 rfl;(focus repeat' first|exact zaa|assumption|(apply Ext.get;assumption));(first|exact Nat.le_of_ble_eq_true rfl|(simp;done)|(simp;omega)|(rw [zas];omega));rfl)|(apply zbb;rfl;rfl;rfl;rfl;exact zam rfl;rfl;rfl)|(apply zao;rfl;rfl;rfl;rfl;rfl;rfl;exact iO (by repeat' first|exact Ext.refl _|assumption|apply Ext.push|refine Ext.trans ?_ (by assumption));(rintro _ _ ⟨_,_,rfl,_,_⟩))|fail))
 rename_i h1 fq fc frd fx
 rw [hfl]
 obtain ⟨bf, ef, ownf, rfl, gf⟩ := frd.at (by rw [zas]; omega)
 have hk1 : h1.get? h.n = some (.cells [.slice q s.length kq, .int .i64 r, .int .i64 o, .slice (some ⟨b, 0, none⟩) l.length cap] 82 true) := fx.get zaa
 refine zba (fun a : Nat × Value => [(9, .int .i64 (a.1 : Nat)), (8, .int .i64 (s.length : Nat)), (7, .slice (some ⟨bf, 0, none⟩) s.length fc), (3, a.2), (1, .pointer (some ⟨h.n, 0, none⟩))])
  (fun a h' => a.1 <= s.length /\ Ext h1 h' /\ OutI 3 h1 h' a.2 (dbts s l r o a.1)) (fun a => s.length - a.1) ?_ (0, nilV) ?_ ?_
 ·rintro ⟨k, v⟩ h' ⟨hk, hx, ho⟩ ih
  dsimp only at hk hx ho ih ⊢
  have hk' := hx.get hk1
  have gf' := hx.get gf
  have hle := zf9 s l r o k
  by_cases hlt : k < s.length
  ·have hg1 := zif (s := s) (l := l) (r := r) hlt
   by_cases hc : o < offv s l r k
   ·rw [<- hg1] at hc
    (repeat' (first|apply zal|apply zac|(apply O_at;rfl)|(apply zai;rfl)|apply zak|(apply zaR;rfl)|apply zan|apply zaD|apply zav|((first|apply zaf|apply zad);rfl;rfl;rfl;rfl)|(apply P_fa;rfl;rfl;rfl;rfl;exact za1 rfl;(first|exact Nat.zero_add _|exact Nat.add_zero _|rfl))|(apply zaX;rfl;rfl;rfl;rfl;rfl;omega)|(apply zg2;rfl;rfl;rfl;rfl;rfl;omega)|(apply zbk;rfl;rfl;rfl;rfl;rfl;(unfold fit;omega))|(apply zcp;rfl;rfl;rfl;rfl;rfl;exact zar rfl;exact zam rfl;(first|assumption|rfl|exact (Int.toNat_of_nonneg (by omega)).symm);omega)|(apply zap;rfl;rfl;rfl;rfl;exact zaF rfl;(focus repeat' first|exact zaa|assumption|(apply Ext.get;assumption));(first|exact zau (by omega)|rfl|assumption))|(apply zdb;rfl;rfl;rfl;rfl;rfl;rfl;rfl;exact zc0 rfl)|(apply zhM;rfl;rfl;rfl;rfl;rfl;rfl;rfl;rfl;exact zc0 rfl;exact zar rfl;(focus repeat' first|exact zaa|assumption|(apply Ext.get;assumption));(apply OutI.ext;assumption;(focus repeat' first|exact Ext.refl _|assumption|apply Ext.push|(refine Ext.trans ?_ (by assumption))));(focus repeat' first|exact Ext.refl _|assumption|apply Ext.push|(refine Ext.trans ?_ (by assumption)));(first|omega|(simp;omega));(intro _ _ _ _))|fail))
    rename_i v1 h2 ho2 hx2
    exact zaO (ih (k + 1, v1) _ (by dsimp only; omega) ⟨hlt, by repeat' first|exact Ext.refl _|assumption|apply Ext.push|refine Ext.trans ?_ (by assumption), by rw [hg1] at hc; rw [zf8 hc]; exact ho2⟩) (by (focus repeat' first | rfl | exact trivial | apply And.intro))
   ·rw [<- hg1] at hc
    (repeat' (first|apply zal|apply zac|(apply O_at;rfl)|(apply zai;rfl)|apply zak|(apply zaR;rfl)|(apply zaU;rfl)|apply zan|apply zaD|apply zav|((first|apply zaf|apply zad);rfl;rfl;rfl;rfl)|(apply P_fa;rfl;rfl;rfl;rfl;exact za1 rfl;(first|exact Nat.zero_add _|exact Nat.add_zero _|rfl))|(apply zaX;rfl;rfl;rfl;rfl;rfl;omega)|(apply zeo;rfl;rfl;rfl;rfl;rfl;omega)|(apply zbk;rfl;rfl;rfl;rfl;rfl;(unfold fit;omega))|(apply zcp;rfl;rfl;rfl;rfl;rfl;exact zar rfl;exact zam rfl;(first|assumption|rfl|exact (Int.toNat_of_nonneg (by omega)).symm);omega)|(apply zap;rfl;rfl;rfl;rfl;exact zaF rfl;(focus repeat' first|exact zaa|assumption|(apply Ext.get;assumption));(first|exact zau (by omega)|rfl|assumption))|fail))
    exact zaO (ih (k + 1, v) _ (by dsimp only; omega) ⟨hlt, by repeat' first|exact Ext.refl _|assumption|apply Ext.push|refine Ext.trans ?_ (by assumption), by rw [hg1] at hc; rw [zix hc]; exact ho⟩) (by (focus repeat' first | rfl | exact trivial | apply And.intro))
  ·obtain rfl : k = s.length := by omega
   (repeat' (first|apply zal|apply zac|(apply O_at;rfl)|(apply zai;rfl)|apply zak|(apply zaU;rfl)|apply zbl|apply zaH|apply zbo|apply zaY|apply zaZ|apply zat|((first|apply zaf|apply zad);rfl;rfl;rfl;rfl)|(apply zby;rfl;rfl;rfl;rfl;rfl;omega)|fail))
   have hn1 := fx.n
   simp only [Heap.push] at hn1
   exact ⟨.inr rfl, _, rfl, (OutI.low (e := 3) ho (by omega)).isL (by repeat' first|exact Ext.refl _|assumption|apply Ext.push|refine Ext.trans ?_ (by assumption))⟩
 ·exact ⟨Nat.zero_le _, Ext.refl _, OutI.nil _ _ _⟩
 ·(focus repeat' first | rfl | exact trivial | apply And.intro)
theorem fill_db : zeh Tryz.prog 131 [] = some (.agg #[]) := by kernel_rfl
def dbtV : Value := .iface 131 (.agg #[])
def dbtCh : List PanicEntry := [⟨dbtV, false, false⟩]
theorem zlw : zdz Tryz.prog .nilIface 131 true = some (.tuple #[.agg #[], .bool false]) := by kernel_rfl
theorem assertD : zdz Tryz.prog dbtV 131 true = some (.tuple #[.agg #[], .bool true]) := by kernel_rfl
theorem dbt_fin {b : Nat} {v : Value} {h : Heap} (_hg : h.get? b = some (.cells [v] 4 true)) :
  ∃ h1, zqk Tryz.prog K 112 #[.pointer (some ⟨b, 0, none⟩)] .returning h .returning h1 /\ Ext h h1 := by
 apply bodyD (u := .returning) (N := 9) Tryz.func112; rfl; rfl; rfl; rfl; rfl; rfl; rfl
 show R1 _ _ _ _ _ _ _ ((4, .nilIface) :: _) _
 (repeat' (first|(apply O_at;rfl)|fail))
 apply zmO; rfl; rfl; rfl; rfl; exact zlw
 (repeat' (first|apply zal|apply zac|(apply O_at;rfl)|(apply zai;rfl)|apply zak|(apply zaU;rfl)|apply zaD|apply zat|((first|apply zaf|apply zad);rfl;rfl;rfl;rfl)|(apply zbX;rfl;rfl;rfl;rfl;rfl)|(apply zaW;rfl;rfl;rfl;rfl;exact zam rfl;rfl;rfl;rfl)|(apply zbq;rfl;rfl;rfl;rfl;exact zam rfl;rfl;rfl)|fail))
 exact ⟨.inl rfl, by (focus repeat' first | exact Ext.refl _ | assumption | apply Ext.push)⟩
theorem dbt_pan {b : Nat} {v : Value} {h : Heap} (hg : h.get? b = some (.cells [v] 4 true)) {h0 : Heap} (hx : Ext h0 h) (hb : h0.n <= b) :
  ∃ h1, zqk Tryz.prog K 112 #[.pointer (some ⟨b, 0, none⟩)] (.panicking dbtCh) h (.panicking [⟨dbtV, true, false⟩]) h1 /\ (h1.get? b = some (.cells [.bool false] 4 true) /\ Ext h0 h1) := by
 apply bodyD (u := .panicking dbtCh) (N := 9) Tryz.func112; rfl; rfl; rfl; rfl; rfl; rfl; rfl
 show R1 _ _ _ _ _ _ _ ((4, dbtV) :: _) _
 (repeat' (first|(apply O_at;rfl)|fail))
 apply zmO; rfl; rfl; rfl; rfl; exact assertD
 (repeat' (first|apply zal|apply zac|(apply O_at;rfl)|(apply zai;rfl)|apply zak|(apply zaR;rfl)|apply zat|((first|apply zaf|apply zad);rfl;rfl;rfl;rfl)|(apply zbX;rfl;rfl;rfl;rfl;rfl)|(apply zaW;rfl;rfl;rfl;rfl;exact zam rfl;rfl;rfl;rfl)|(apply zbq;rfl;rfl;rfl;rfl;exact zam rfl;rfl;rfl)|(apply ziI;rfl;rfl;rfl;rfl;(focus repeat' first|assumption|apply zab);exact zam rfl;rfl;(first|rfl|exact zas _);rfl;(intro _ _ _))|fail))
 rename_i h1 g1 x1
 exact ⟨.inl rfl, g1, Ext.ofBut (by (focus repeat' first | assumption | apply Ext.push | (refine Ext.ofBut ?_ (by assumption) (by first | exact Nat.le_refl _ | omega)))) x1 hb⟩
section
variable {T : Tb} {l : List Int} {b cap : Nat} {e : TypeId} {own : Bool} {h : Heap}
theorem zgB (hK : NoK K) (hP : TbP T) (hKp : zb3 T.s.length l) (hcap : l.length <= cap) (hll : l.length <= 1000) (hTb : TbAt T h) (hg : h.get? b = some (.cells (ints l) e own)) (hS : zfd T.s l T.r T.o) :
  CallW Tryz.prog K 113 #[ktV T (some ⟨b, 0, none⟩) l.length cap] h (fun _ h1 => Ext h h1) := by
 have iO : ∀ {h' : Heap}, Ext h h' -> CallW Tryz.prog K 82 #[ktV T (some ⟨b, 0, none⟩) l.length cap] h' (IsL (offs T.s l T.r T.s.length) h') := fun x => zkU hK hP hKp hcap hll (hTb.ext x) (x.get hg)
 obtain ⟨q, kq, s, r, o⟩ := T
 have hn := hP.1
 dsimp only [ktV] at iO hn hS ⊢
 have hfl := zd9 s l r s.length
 refine body (N := 19) Tryz.func113 rfl (hK _ _ _ rfl) rfl rfl ?_
 (repeat' (first|apply zal|apply zac|(apply O_at;rfl)|(apply zai;rfl)|apply zak|apply zan|((first|apply zaf|apply zad);rfl;rfl;rfl;rfl)|(apply zbf;rfl;rfl;rfl;rfl;rfl;rfl;exact zar rfl)|(apply zaN;rfl;rfl;rfl;rfl;exact za7 rfl;(focus repeat' first|exact zaa|assumption|(apply Ext.get;assumption));(first|exact Nat.le_of_ble_eq_true rfl|(simp;done)|(simp;omega)|(rw [zas];omega));rfl)|(apply zbb;rfl;rfl;rfl;rfl;exact zam rfl;rfl;rfl)|(apply zao;rfl;rfl;rfl;rfl;rfl;rfl;exact iO (by repeat' first|exact Ext.refl _|assumption|apply Ext.push|refine Ext.trans ?_ (by assumption));(rintro _ _ ⟨_,_,rfl,_,_⟩))|fail))
 rename_i h1 fq fc frd fx
 rw [hfl]
 obtain ⟨bf, ef, ownf, rfl, gf⟩ := frd.at (by rw [zas]; omega)
 have hk1 : h1.get? h.n = some (.cells [.slice q s.length kq, .int .i64 r, .int .i64 o, .slice (some ⟨b, 0, none⟩) l.length cap] 82 true) := fx.get zaa
 refine zba (fun k : Nat => [(7, .int .i64 (k : Nat)), (6, .int .i64 (s.length : Nat)), (5, .slice (some ⟨bf, 0, none⟩) s.length fc), (1, .pointer (some ⟨h.n, 0, none⟩))])
  (fun k h' => k <= s.length /\ Ext h1 h') (fun k => s.length - k) ?_ 0 ⟨Nat.zero_le _, Ext.refl _⟩ ?_
 ·rintro k h' ⟨hk, hx⟩ ih
  have hk' := hx.get hk1
  have gf' := hx.get gf
  by_cases hlt : k < s.length
  ·have hg1 := zif (s := s) (l := l) (r := r) hlt
   have hc := hS k hlt
   rw [<- hg1] at hc
   (repeat' (first|apply zal|apply zac|(apply O_at;rfl)|(apply zai;rfl)|apply zak|(apply zaR;rfl)|(apply zaU;rfl)|apply zan|apply zaD|apply zav|((first|apply zaf|apply zad);rfl;rfl;rfl;rfl)|(apply P_fa;rfl;rfl;rfl;rfl;exact za1 rfl;(first|exact Nat.zero_add _|exact Nat.add_zero _|rfl))|(apply zaX;rfl;rfl;rfl;rfl;rfl;omega)|(apply zeo;rfl;rfl;rfl;rfl;rfl;omega)|(apply zbk;rfl;rfl;rfl;rfl;rfl;(unfold fit;omega))|(apply zcp;rfl;rfl;rfl;rfl;rfl;exact zar rfl;exact zam rfl;(first|assumption|rfl|exact (Int.toNat_of_nonneg (by omega)).symm);omega)|(apply zap;rfl;rfl;rfl;rfl;exact zaF rfl;(focus repeat' first|exact zaa|assumption|(apply Ext.get;assumption));(first|exact zau (by omega)|rfl|assumption))|fail))
   exact zaO (ih (k + 1) _ (by omega) ⟨hlt, by repeat' first|exact Ext.refl _|assumption|apply Ext.push|refine Ext.trans ?_ (by assumption)⟩) (by (focus repeat' first | rfl | exact trivial | apply And.intro))
  ·(repeat' (first|apply zal|apply zac|(apply O_at;rfl)|(apply zai;rfl)|apply zak|(apply zaU;rfl)|apply zbl|apply zbo|apply zaY|apply zaZ|apply zat|(apply zby;rfl;rfl;rfl;rfl;rfl;omega)|fail))
   exact ⟨.inl rfl, _, rfl, by repeat' first|exact Ext.refl _|assumption|apply Ext.push|refine Ext.trans ?_ (by assumption)⟩
 ·(focus repeat' first | rfl | exact trivial | apply And.intro)
theorem zhk (hK : NoK K) (hP : TbP T) (hKp : zb3 T.s.length l) (hcap : l.length <= cap) (hll : l.length <= 1000) (hTb : TbAt T h) (hg : h.get? b = some (.cells (ints l) e own)) (hS : ¬ zfd T.s l T.r T.o) :
  CallP Tryz.prog K 113 #[ktV T (some ⟨b, 0, none⟩) l.length cap] h dbtCh (Ext h) := by
 have iO : ∀ {h' : Heap}, Ext h h' -> CallW Tryz.prog K 82 #[ktV T (some ⟨b, 0, none⟩) l.length cap] h' (IsL (offs T.s l T.r T.s.length) h') := fun x => zkU hK hP hKp hcap hll (hTb.ext x) (x.get hg)
 obtain ⟨q, kq, s, r, o⟩ := T
 have hn := hP.1
 dsimp only [ktV] at iO hn hS ⊢
 have hfl := zd9 s l r s.length
 refine bodyP (N := 19) Tryz.func113 rfl (hK _ _ _ rfl) rfl rfl ?_
 (repeat' (first|apply zal|apply zac|(apply O_at;rfl)|(apply zai;rfl)|apply zak|apply zan|((first|apply zaf|apply zad);rfl;rfl;rfl;rfl)|(apply zbf;rfl;rfl;rfl;rfl;rfl;rfl;exact zar rfl)|(apply zaN;rfl;rfl;rfl;rfl;exact za7 rfl;(focus repeat' first|exact zaa|assumption|(apply Ext.get;assumption));(first|exact Nat.le_of_ble_eq_true rfl|(simp;done)|(simp;omega)|(rw [zas];omega));rfl)|(apply zbb;rfl;rfl;rfl;rfl;exact zam rfl;rfl;rfl)|(apply zao;rfl;rfl;rfl;rfl;rfl;rfl;exact iO (by repeat' first|exact Ext.refl _|assumption|apply Ext.push|refine Ext.trans ?_ (by assumption));(rintro _ _ ⟨_,_,rfl,_,_⟩))|fail))
 rename_i h1 fq fc frd fx
 rw [hfl]
 obtain ⟨bf, ef, ownf, rfl, gf⟩ := frd.at (by rw [zas]; omega)
 have hk1 : h1.get? h.n = some (.cells [.slice q s.length kq, .int .i64 r, .int .i64 o, .slice (some ⟨b, 0, none⟩) l.length cap] 82 true) := fx.get zaa
 refine zba (fun k : Nat => [(7, .int .i64 (k : Nat)), (6, .int .i64 (s.length : Nat)), (5, .slice (some ⟨bf, 0, none⟩) s.length fc), (1, .pointer (some ⟨h.n, 0, none⟩))])
  (fun k h' => k <= s.length /\ Ext h1 h' /\ ∀ j, j < k -> offv s l r j <= o) (fun k => s.length - k) ?_ 0 ⟨Nat.zero_le _, Ext.refl _, fun j q => by omega⟩ ?_
 ·rintro k h' ⟨hk, hx, hj⟩ ih
  have hk' := hx.get hk1
  have gf' := hx.get gf
  by_cases hlt : k < s.length
  ·have hg1 := zif (s := s) (l := l) (r := r) hlt
   by_cases hc : offv s l r k <= o
   ·have hc' := hc
    rw [<- hg1] at hc
    (repeat' (first|apply zal|apply zac|(apply O_at;rfl)|(apply zai;rfl)|apply zak|(apply zaR;rfl)|(apply zaU;rfl)|apply zan|apply zaD|apply zav|((first|apply zaf|apply zad);rfl;rfl;rfl;rfl)|(apply P_fa;rfl;rfl;rfl;rfl;exact za1 rfl;(first|exact Nat.zero_add _|exact Nat.add_zero _|rfl))|(apply zaX;rfl;rfl;rfl;rfl;rfl;omega)|(apply zeo;rfl;rfl;rfl;rfl;rfl;omega)|(apply zbk;rfl;rfl;rfl;rfl;rfl;(unfold fit;omega))|(apply zcp;rfl;rfl;rfl;rfl;rfl;exact zar rfl;exact zam rfl;(first|assumption|rfl|exact (Int.toNat_of_nonneg (by omega)).symm);omega)|(apply zap;rfl;rfl;rfl;rfl;exact zaF rfl;(focus repeat' first|exact zaa|assumption|(apply Ext.get;assumption));(first|exact zau (by omega)|rfl|assumption))|fail))
    refine zaO (ih (k + 1) _ (by omega) ⟨hlt, by repeat' first|exact Ext.refl _|assumption|apply Ext.push|refine Ext.trans ?_ (by assumption), fun j hj' => ?_⟩) (by (focus repeat' first | rfl | exact trivial | apply And.intro))
    by_cases hjk : j = k
    ·subst hjk; exact hc'
    ·exact hj j (by omega)
   ·rw [<- hg1] at hc
    (repeat' (first|apply zal|apply zac|(apply O_at;rfl)|(apply zai;rfl)|apply zak|(apply zaR;rfl)|apply zan|apply zaD|((first|apply zaf|apply zad);rfl;rfl;rfl;rfl)|(apply P_fa;rfl;rfl;rfl;rfl;exact za1 rfl;(first|exact Nat.zero_add _|exact Nat.add_zero _|rfl))|(apply zaX;rfl;rfl;rfl;rfl;rfl;omega)|(apply zg2;rfl;rfl;rfl;rfl;rfl;omega)|(apply zcp;rfl;rfl;rfl;rfl;rfl;exact zar rfl;exact zam rfl;(first|assumption|rfl|exact (Int.toNat_of_nonneg (by omega)).symm);omega)|(apply zap;rfl;rfl;rfl;rfl;exact zaF rfl;(focus repeat' first|exact zaa|assumption|(apply Ext.get;assumption));(first|exact zau (by omega)|rfl|assumption))|fail))
    apply zfx; rfl; rfl; rfl; rfl; exact fill_db
    (repeat' (first|(apply O_at;rfl)|fail))
    apply P_iface; rfl; rfl; rfl; rfl; kernel_rfl
    (repeat' (first|(apply O_at;rfl)|fail))
    apply P_panic; rfl; rfl; rfl
    repeat' first | apply C_panS | apply C_panL | apply C_panB
    refine zat ⟨rfl, ?_⟩
    (focus repeat' first | exact Ext.refl _ | assumption | apply Ext.push | (refine Ext.trans ?_ (by assumption)))
  ·exact absurd (fun j q => hj j (by omega)) hS
 ·(focus repeat' first | rfl | exact trivial | apply And.intro)
theorem zpj (hK : NoK K) (hP : TbP T) (hKp : zb3 T.s.length l) (hcap : l.length <= cap) (hll : l.length <= 1000) (hTb : TbAt T h) (hg : h.get? b = some (.cells (ints l) e own)) :
  CallW Tryz.prog K 75 #[ktV T (some ⟨b, 0, none⟩) l.length cap] h (IfB (zfd T.s l T.r T.o) h) := by
 have iY : ∀ {h' : Heap}, zfd T.s l T.r T.o -> Ext h h' -> CallW Tryz.prog K 113 #[ktV T (some ⟨b, 0, none⟩) l.length cap] h' (fun _ h1 => Ext h' h1) := fun a x => zgB hK hP hKp hcap hll (hTb.ext x) (x.get hg) a
 have iN : ∀ {h' : Heap}, ¬ zfd T.s l T.r T.o -> Ext h h' -> CallP Tryz.prog K 113 #[ktV T (some ⟨b, 0, none⟩) l.length cap] h' dbtCh (Ext h') := fun a x => zhk hK hP hKp hcap hll (hTb.ext x) (x.get hg) a
 obtain ⟨q, kq, s, r, o⟩ := T
 dsimp only [ktV] at iY iN ⊢
 apply znV 1 (N := 6) Tryz.func75; rfl; exact hK _ _ _ rfl; rfl; rfl; rfl; rfl; rfl; rfl; rfl; rfl
 (repeat' (first|apply zal|apply zac|(apply O_at;rfl)|(apply zai;rfl)|apply zak|apply zaD|apply zat|(apply zbb;rfl;rfl;rfl;rfl;exact zam rfl;rfl;rfl)|(apply zbq;rfl;rfl;rfl;rfl;exact zam rfl;rfl;rfl)|fail))
 refine .inr ⟨rfl, rfl, ?_⟩
 by_cases hA : zfd s l r o
 ·(repeat' (first|apply zal|apply zac|(apply O_at;rfl)|(apply zaN;rfl;rfl;rfl;rfl;exact za7 rfl;(focus repeat' first|exact zaa|assumption|apply zab|(apply Ext.get;assumption));(first|exact Nat.le_of_ble_eq_true rfl|(simp;done)|(simp;omega));rfl)|fail))
  apply zao; rfl; rfl; rfl; rfl; rfl; rfl; exact iY hA (by (focus repeat' first | exact Ext.refl _ | assumption | apply Ext.push | (refine Ext.trans ?_ (by assumption)) | (refine Ext.ofBut ?_ (by assumption) (by first | exact Nat.le_refl _ | omega))))
  intro _ h5 x5
  (repeat' (first|apply zal|apply zac|(apply O_at;rfl)|(apply zai;rfl)|apply zak|apply zaH|apply zat|(apply ziI;rfl;rfl;rfl;rfl;(focus repeat' first|exact zaa|assumption|apply zab|(apply Ext.get;assumption));exact zam rfl;rfl;(first|rfl|exact zas _);rfl;(intro _ _ _))|fail))
  rename_i h3 g3 x3
  obtain ⟨h6, hD, x6⟩ := dbt_fin (K := K) g3
  exact ⟨.returning, .returning, h6, rfl, hD, rfl, _, zoI rfl (read1 (zaF rfl) (x6.get g3) rfl) rfl, .inl ⟨rfl, hA, (Ext.ofBut (by (focus repeat' first | exact Ext.refl _ | assumption | apply Ext.push | (refine Ext.trans ?_ (by assumption)) | (refine Ext.ofBut ?_ (by assumption) (by first | exact Nat.le_refl _ | omega)))) x3 (Nat.le_succ _)).trans x6⟩⟩
 ·(repeat' (first|apply zal|apply zac|(apply O_at;rfl)|(apply zaN;rfl;rfl;rfl;rfl;exact za7 rfl;(focus repeat' first|exact zaa|assumption|apply zab|(apply Ext.get;assumption));(first|exact Nat.le_of_ble_eq_true rfl|(simp;done)|(simp;omega));rfl)|fail))
  apply P_callP; rfl; rfl; rfl; rfl; rfl; exact iN hA (by (focus repeat' first | exact Ext.refl _ | assumption | apply Ext.push | (refine Ext.trans ?_ (by assumption)) | (refine Ext.ofBut ?_ (by assumption) (by first | exact Nat.le_refl _ | omega))))
  intro h7 x7
  repeat' first | apply C_panS | apply C_panL | apply C_panB
  refine zat ?_
  obtain ⟨h5, hD, q2, e5⟩ := dbt_pan (K := K) (x7.get zaa) ((((Ext.refl h).push _).push _).trans x7) (Nat.le_succ _)
  exact ⟨_, _, h5, rfl, hD, rfl, _, zoI rfl (read1 (zaF rfl) q2 rfl) rfl, .inr ⟨rfl, hA, e5⟩⟩
end
end Go.AX.Sa

namespace Go.AX.Sa
open Go.Proofs
set_option maxRecDepth 100000
variable {K : Known}
theorem zno (hK : NoK K) {T : Tb} {h : Heap} (hsl : T.s.length <= 1000) (hTb : TbAt T h) :
  CallW Tryz.prog K 84 #[tbV T] h (IsL (lows T.s) h) := by
 obtain ⟨q, kq, s, r, o⟩ := T
 have hs0 := hTb.rd
 dsimp only [tbV] at hsl hs0 ⊢
 refine body (N := 22) Tryz.func84 rfl (hK _ _ _ rfl) rfl rfl ?_
 (repeat' (first|apply zal|apply zac|(apply O_at;rfl)|(apply zai;rfl)|apply zak|apply zan|((first|apply zaf|apply zad);rfl;rfl;rfl;rfl)|(apply zbb;rfl;rfl;rfl;rfl;exact zam rfl;rfl;rfl)|fail))
 refine zba (fun a : Nat × Value => [(4, .int .i64 (a.1 : Nat)), (3, a.2), (1, .pointer (some ⟨h.n, 0, none⟩))])
  (fun a h' => a.1 <= s.length /\ Ext (h.push (.cells [.slice q s.length kq, .int .i64 r, .int .i64 o] 25 true)) h' /\ OutI 3 (h.push (.cells [.slice q s.length kq, .int .i64 r, .int .i64 o] 25 true)) h' a.2 ((lows s).take a.1)) (fun a => s.length - a.1) ?_ (0, nilV) ?_ ?_
 ·rintro ⟨k, v⟩ h' ⟨hk, hx, ho⟩ ih
  dsimp only at hk hx ho ih ⊢
  have hb : h'.get? h.n = some (.cells [.slice q s.length kq, .int .i64 r, .int .i64 o] 25 true) := hx.get zaa
  have hle : ((lows s).take k).length <= 10000 := by rw [List.length_take]; omega
  by_cases hlt : k < s.length
  ·obtain ⟨bs, es, owns, rfl, hgs⟩ := hs0.at (by rw [zah]; omega)
   have hgs' := hx.get (zab hgs)
   (repeat' (first|apply zal|apply zac|(apply O_at;rfl)|(apply zai;rfl)|apply zak|(apply zaR;rfl)|apply zan|apply zaD|apply zav|((first|apply zaf|apply zad);rfl;rfl;rfl;rfl)|(apply P_fa;rfl;rfl;rfl;rfl;exact za1 rfl;(first|exact Nat.zero_add _|exact Nat.add_zero _|rfl))|(apply zbf;rfl;rfl;rfl;rfl;rfl;rfl;exact zar rfl)|(apply zaX;rfl;rfl;rfl;rfl;rfl;omega)|(apply zbk;rfl;rfl;rfl;rfl;rfl;(unfold fit;omega))|(apply zci;rfl;rfl;rfl;rfl;rfl;exact zar rfl;exact zam rfl;(first|assumption|rfl|exact (Int.toNat_of_nonneg (by omega)).symm);omega)|(apply zap;rfl;rfl;rfl;rfl;exact zaF rfl;(focus repeat' first|exact zaa|assumption|apply zab|(apply Ext.get;assumption));(first|exact zbM (by omega)|rfl|assumption))|(apply zdb;rfl;rfl;rfl;rfl;rfl;rfl;rfl;exact zc0 rfl)|(apply zhM;rfl;rfl;rfl;rfl;rfl;rfl;rfl;rfl;exact zc0 rfl;exact zar rfl;(focus repeat' first|exact zaa|assumption|apply zab|(apply Ext.get;assumption));(apply OutI.ext;assumption;(focus repeat' first|exact Ext.refl _|assumption|apply Ext.push|(refine Ext.trans ?_ (by assumption))));(focus repeat' first|exact Ext.refl _|assumption|apply Ext.push|(refine Ext.trans ?_ (by assumption)));(first|omega|(simp;omega));(intro _ _ _ _))|fail))
   rename_i v1 h2 ho2 hx2
   exact zaO (ih (k + 1, v1) _ (by dsimp only; omega) ⟨hlt, by repeat' first|exact Ext.refl _|assumption|apply Ext.push|refine Ext.trans ?_ (by assumption), by rw [zjz hlt]; exact ho2⟩) (by (focus repeat' first | rfl | exact trivial | apply And.intro))
  ·obtain rfl : k = s.length := by omega
   rw [List.take_of_length_le (by rw [zeW]; exact Nat.le_refl _)] at ho
   (repeat' (first|apply zal|apply zac|(apply O_at;rfl)|(apply zai;rfl)|apply zak|(apply zaU;rfl)|apply zbl|apply zaH|apply zbo|apply zaY|apply zaZ|apply zat|((first|apply zaf|apply zad);rfl;rfl;rfl;rfl)|(apply P_fa;rfl;rfl;rfl;rfl;exact za1 rfl;(first|exact Nat.zero_add _|exact Nat.add_zero _|rfl))|(apply zbf;rfl;rfl;rfl;rfl;rfl;rfl;exact zar rfl)|(apply zby;rfl;rfl;rfl;rfl;rfl;omega)|(apply zap;rfl;rfl;rfl;rfl;exact zaF rfl;(focus repeat' first|exact zaa|assumption|apply zab|(apply Ext.get;assumption));(first|exact zbM (by omega)|rfl|assumption))|fail))
   exact ⟨.inr rfl, _, rfl, (OutI.low (e := 3) ho (Nat.le_succ _)).isL (by repeat' first|exact Ext.refl _|assumption|apply Ext.push|refine Ext.trans ?_ (by assumption))⟩
 ·exact ⟨Nat.zero_le _, Ext.refl _, OutI.nil _ _ _⟩
 ·(focus repeat' first | rfl | exact trivial | apply And.intro)
theorem zkG (hK : NoK K) {T : Tb} {h : Heap} (hsl : T.s.length <= 1000) (hTb : TbAt T h) :
  CallW Tryz.prog K 120 #[tbV T] h (IsL (highs T.s) h) := by
 obtain ⟨q, kq, s, r, o⟩ := T
 have hs0 := hTb.rd
 dsimp only [tbV] at hsl hs0 ⊢
 refine body (N := 22) Tryz.func120 rfl (hK _ _ _ rfl) rfl rfl ?_
 (repeat' (first|apply zal|apply zac|(apply O_at;rfl)|(apply zai;rfl)|apply zak|apply zan|((first|apply zaf|apply zad);rfl;rfl;rfl;rfl)|(apply zbb;rfl;rfl;rfl;rfl;exact zam rfl;rfl;rfl)|fail))
 refine zba (fun a : Nat × Value => [(4, .int .i64 (a.1 : Nat)), (3, a.2), (1, .pointer (some ⟨h.n, 0, none⟩))])
  (fun a h' => a.1 <= s.length /\ Ext (h.push (.cells [.slice q s.length kq, .int .i64 r, .int .i64 o] 25 true)) h' /\ OutI 3 (h.push (.cells [.slice q s.length kq, .int .i64 r, .int .i64 o] 25 true)) h' a.2 ((highs s).take a.1)) (fun a => s.length - a.1) ?_ (0, nilV) ?_ ?_
 ·rintro ⟨k, v⟩ h' ⟨hk, hx, ho⟩ ih
  dsimp only at hk hx ho ih ⊢
  have hb : h'.get? h.n = some (.cells [.slice q s.length kq, .int .i64 r, .int .i64 o] 25 true) := hx.get zaa
  have hle : ((highs s).take k).length <= 10000 := by rw [List.length_take]; omega
  by_cases hlt : k < s.length
  ·obtain ⟨bs, es, owns, rfl, hgs⟩ := hs0.at (by rw [zah]; omega)
   have hgs' := hx.get (zab hgs)
   (repeat' (first|apply zal|apply zac|(apply O_at;rfl)|(apply zai;rfl)|apply zak|(apply zaR;rfl)|apply zan|apply zaD|apply zav|((first|apply zaf|apply zad);rfl;rfl;rfl;rfl)|(apply P_fa;rfl;rfl;rfl;rfl;exact za1 rfl;(first|exact Nat.zero_add _|exact Nat.add_zero _|rfl))|(apply zbf;rfl;rfl;rfl;rfl;rfl;rfl;exact zar rfl)|(apply zaX;rfl;rfl;rfl;rfl;rfl;omega)|(apply zbk;rfl;rfl;rfl;rfl;rfl;(unfold fit;omega))|(apply zci;rfl;rfl;rfl;rfl;rfl;exact zar rfl;exact zam rfl;(first|assumption|rfl|exact (Int.toNat_of_nonneg (by omega)).symm);omega)|(apply zap;rfl;rfl;rfl;rfl;exact zaF rfl;(focus repeat' first|exact zaa|assumption|apply zab|(apply Ext.get;assumption));(first|exact zbN (by omega)|rfl|assumption))|(apply zdb;rfl;rfl;rfl;rfl;rfl;rfl;rfl;exact zc0 rfl)|(apply zhM;rfl;rfl;rfl;rfl;rfl;rfl;rfl;rfl;exact zc0 rfl;exact zar rfl;(focus repeat' first|exact zaa|assumption|apply zab|(apply Ext.get;assumption));(apply OutI.ext;assumption;(focus repeat' first|exact Ext.refl _|assumption|apply Ext.push|(refine Ext.trans ?_ (by assumption))));(focus repeat' first|exact Ext.refl _|assumption|apply Ext.push|(refine Ext.trans ?_ (by assumption)));(first|omega|(simp;omega));(intro _ _ _ _))|fail))
   rename_i v1 h2 ho2 hx2
   exact zaO (ih (k + 1, v1) _ (by dsimp only; omega) ⟨hlt, by repeat' first|exact Ext.refl _|assumption|apply Ext.push|refine Ext.trans ?_ (by assumption), by rw [zhB hlt]; exact ho2⟩) (by (focus repeat' first | rfl | exact trivial | apply And.intro))
  ·obtain rfl : k = s.length := by omega
   rw [List.take_of_length_le (by rw [zdU]; exact Nat.le_refl _)] at ho
   (repeat' (first|apply zal|apply zac|(apply O_at;rfl)|(apply zai;rfl)|apply zak|(apply zaU;rfl)|apply zbl|apply zaH|apply zbo|apply zaY|apply zaZ|apply zat|((first|apply zaf|apply zad);rfl;rfl;rfl;rfl)|(apply P_fa;rfl;rfl;rfl;rfl;exact za1 rfl;(first|exact Nat.zero_add _|exact Nat.add_zero _|rfl))|(apply zbf;rfl;rfl;rfl;rfl;rfl;rfl;exact zar rfl)|(apply zby;rfl;rfl;rfl;rfl;rfl;omega)|(apply zap;rfl;rfl;rfl;rfl;exact zaF rfl;(focus repeat' first|exact zaa|assumption|apply zab|(apply Ext.get;assumption));(first|exact zbN (by omega)|rfl|assumption))|fail))
   exact ⟨.inr rfl, _, rfl, (OutI.low (e := 3) ho (Nat.le_succ _)).isL (by repeat' first|exact Ext.refl _|assumption|apply Ext.push|refine Ext.trans ?_ (by assumption))⟩
 ·exact ⟨Nat.zero_le _, Ext.refl _, OutI.nil _ _ _⟩
 ·(focus repeat' first | rfl | exact trivial | apply And.intro)
theorem zlx {n : Nat} {l : List Int} (hKp : zb3 n l) {j : Nat} (hj : j < n) : bef l (j : Nat) = aft l (j : Nat) ↔ ((j : Nat) : Int) ∈ l := by
 have hG := hKp.2.2.2
 rcases zoA hKp hj with ⟨i, hi, hij⟩ | ⟨i, hi, h1, h2⟩
 ·have e1 := zhH hG (j := (j : Nat)) hi (by omega) (fun w => by have := hG i w; omega)
  have e2 := zhJ hG (j := (j : Nat)) hi (by omega) (fun m w => by have := hG m (by omega); rw [w] at this; omega)
  exact ⟨fun _ => mem_at.2 ⟨i, hi, hij⟩, fun _ => by rw [e1, e2]⟩
 ·have e1 := zhH hG (j := (j : Nat)) (i := i) (by omega) (by omega) (fun _ => h2)
  have e2 := zhJ hG (j := (j : Nat)) (i := i + 1) hi (by omega) (fun m w => by rw [show m = i by omega]; exact h1)
  refine ⟨fun w => by rw [e1, e2] at w; omega, fun w => ?_⟩
  obtain ⟨k, hk, hkj⟩ := mem_at.1 w
  by_cases hki : k <= i
  ·have := zc8 hG hki (by omega); omega
  ·have := zc8 hG (show i + 1 <= k by omega) hk; omega
set_option maxHeartbeats 2000000 in
theorem zoM (hK : NoK K) {T : Tb} {l : List Int} {p : Option Addr} {cap j : Nat} {h : Heap} (hP : TbP T) (hKp : zb3 T.s.length l) (hll : l.length <= 1000) (hj : j < T.s.length) (hTb : TbAt T h) (hr : Rd h p (ints l)) :
  CallW Tryz.prog K 79 #[tbV T, .slice p l.length cap, .int .i64 (j : Nat)] h (IsV (.int .i64 (offv T.s l T.r j)) h) := by
 have iH : ∀ {h' : Heap}, Ext h h' -> CallW Tryz.prog K 120 #[tbV T] h' (IsL (highs T.s) h') := fun x => zkG hK (by have := hP.1; omega) (hTb.ext x)
 have iL : ∀ {h' : Heap}, Ext h h' -> CallW Tryz.prog K 84 #[tbV T] h' (IsL (lows T.s) h') := fun x => zno hK (by have := hP.1; omega) (hTb.ext x)
 have iF : ∀ {t : List Int} {pt : Option Addr} {ct : Nat} {h' : Heap}, zfc T.s t -> Rd h' pt (ints t) -> Ext h h' -> CallW Tryz.prog K 69 #[tbV T, .slice p l.length cap, .int .i64 (j : Nat), .slice pt t.length ct] h' (IsV (.int .i64 (figv l t T.r j)) h') := fun a g x => zh1 hK hP hKp a hll hj (hTb.ext x) (hr.ext x) g
 have f1 := ze0 (r := T.r) hP.2.1 hKp (zea hP.2.1) hj
 have f2 := ze0 (r := T.r) hP.2.1 hKp (zdy hP.2.1) hj
 rw [ze1 hj] at f1 f2
 have hv := hP.2.1 j hj
 obtain ⟨q, kq, s, r, o⟩ := T
 have hqb : ∀ a, q = some a -> a.block < h.n := hTb.b
 have hs0 := hTb.rd
 have hn := hP.1
 have hV := hP.2.1
 dsimp only [tbV, ValP] at iH iL iF f1 f2 hv hn hV hKp hj hs0 ⊢
 have hl2 := hKp.1
 obtain ⟨bs, es, owns, rfl, hgs⟩ := hs0.at (by rw [zah]; omega)
 have ll := zeW s
 have hl := zdU s
 refine body (N := 45) Tryz.func79 rfl (hK _ _ _ rfl) rfl rfl ?_
 have hsame := zlx hKp hj
 by_cases hc : ((j : Nat) : Int) ∈ l
 ·have hba := hsame.2 hc
  have e0 : offv s l r j = 0 := if_pos hc
  rw [e0]
  (repeat' (first|apply zal|apply zac|(apply O_at;rfl)|(apply zai;rfl)|apply zak|(apply zaR;rfl)|apply zaH|apply zbF|apply zat|((first|apply zaf|apply zad|apply zay|apply zaP);rfl;rfl;rfl;rfl)|(apply zbX;rfl;rfl;rfl;rfl;rfl)|(apply zds;rfl;rfl;rfl;rfl;rfl;omega)|(apply zbb;rfl;rfl;rfl;rfl;exact zam rfl;rfl;rfl)|((first|(apply zao;rfl;rfl;rfl;rfl;rfl;rfl)|(apply za8;rfl;rfl;rfl;rfl;rfl;rfl;rfl));exact zdM hK (by omega) (hr.ext (by repeat' first|exact Ext.refl _|assumption|apply Ext.push|refine Ext.trans ?_ (by assumption)));(rintro _ _ ⟨rfl,_⟩))|fail))
  exact ⟨.inr rfl, _, rfl, rfl, by repeat' first|exact Ext.refl _|assumption|apply Ext.push|refine Ext.trans ?_ (by assumption)⟩
 ·have hba : ¬ bef l (j : Nat) = aft l (j : Nat) := fun w => hc (hsame.1 w)
  have e0 : offv s l r j = max ((s.getD j (0, 0)).2 - figv l (lows s) r j) (figv l (highs s) r j - (s.getD j (0, 0)).1) := if_neg hc
  rw [e0]
  (repeat' (first|apply zal|apply zac|(apply O_at;rfl)|(apply N_at;rfl)|(apply zai;rfl)|apply zak|(apply zaU;rfl)|(apply zbs;exact zaK (by decide +kernel))|apply zaD|((first|apply zaf|apply zad|apply zay|apply zaP);rfl;rfl;rfl;rfl)|(apply zbX;rfl;rfl;rfl;rfl;rfl)|(apply zfe;rfl;rfl;rfl;rfl;rfl;omega)|(apply zbb;rfl;rfl;rfl;rfl;exact zam rfl;rfl;rfl)|((first|((apply zbL;rfl;rfl;rfl;rfl;exact zaF rfl);(focus repeat' first|exact zaa|assumption|apply zab|(apply Ext.get;assumption));(first|exact zbM (by omega)|exact zbN (by omega)|rfl|assumption))|((apply zb8;rfl;rfl;rfl;rfl;exact za7 rfl);(focus repeat' first|exact zaa|assumption|apply zab|(apply Ext.get;assumption));(first|exact Nat.le_of_ble_eq_true rfl|(simp;done)|(simp;omega)|(rw [zah];omega));rfl));(first|assumption|exact zaS _ _|exact za6 _ _ _|exact zcr _ _ _ _ _|rfl|(focus simp [same,same.all2];done));(first|rfl|assumption|exact hwv _|(focus apply zbG;(focus repeat' first|exact zaa|assumption|apply zab|(apply Ext.get;assumption));done)|exact zbt (by assumption) (by repeat' first|exact Ext.refl _|assumption|apply Ext.push|refine Ext.trans ?_ (by assumption))|(simp [within];omega)))|((first|(apply zao;rfl;rfl;rfl;rfl;rfl;rfl)|(apply za8;rfl;rfl;rfl;rfl;rfl;rfl;rfl));exact zdM hK (by omega) (hr.ext (by repeat' first|exact Ext.refl _|assumption|apply Ext.push|refine Ext.trans ?_ (by assumption)));(rintro _ _ ⟨rfl,_⟩))|((first|(apply zao;rfl;rfl;rfl;rfl;rfl;rfl)|(apply za8;rfl;rfl;rfl;rfl;rfl;rfl;rfl));exact iH (by repeat' first|exact Ext.refl _|assumption|apply Ext.push|refine Ext.trans ?_ (by assumption));(rintro _ _ ⟨_,_,rfl,_,_⟩))|fail))
  rename_i h1 x1 h2 p2 c2 rd2 x2
  (repeat' (first|(apply N_at;rfl)|((first|apply zaf|apply zad|apply zay|apply zaP);rfl;rfl;rfl;rfl)|(apply M_fa;rfl;rfl;rfl;rfl;exact za1 rfl;(first|exact Nat.zero_add _|exact Nat.add_zero _|rfl))|(apply zei;rfl;rfl;rfl;rfl;rfl;(unfold fit;omega))|(apply zqf;rfl;rfl;rfl;rfl;rfl;exact zar rfl;exact zam rfl;(first|assumption|rfl|exact (Int.toNat_of_nonneg (by omega)).symm);omega)|((first|((apply zbL;rfl;rfl;rfl;rfl;exact zaF rfl);(focus repeat' first|exact zaa|assumption|apply zab|(apply Ext.get;assumption));(first|exact zbM (by omega)|exact zbN (by omega)|rfl|assumption))|((apply zb8;rfl;rfl;rfl;rfl;exact za7 rfl);(focus repeat' first|exact zaa|assumption|apply zab|(apply Ext.get;assumption));(first|exact Nat.le_of_ble_eq_true rfl|(simp;done)|(simp;omega)|(rw [zah];omega));rfl));(first|assumption|exact zaS _ _|exact za6 _ _ _|exact zcr _ _ _ _ _|rfl|(focus simp [same,same.all2];done));(first|rfl|assumption|exact hwv _|(focus apply zbG;(focus repeat' first|exact zaa|assumption|apply zab|(apply Ext.get;assumption));done)|exact zbt (by assumption) (by repeat' first|exact Ext.refl _|assumption|apply Ext.push|refine Ext.trans ?_ (by assumption))|(simp [within];omega)))|((first|(apply zao;rfl;rfl;rfl;rfl;rfl;rfl)|(apply za8;rfl;rfl;rfl;rfl;rfl;rfl;rfl));exact iF (zdy hV) rd2 (by repeat' first|exact Ext.refl _|assumption|apply Ext.push|refine Ext.trans ?_ (by assumption));(rintro _ _ ⟨rfl,_⟩))|((first|(apply zao;rfl;rfl;rfl;rfl;rfl;rfl)|(apply za8;rfl;rfl;rfl;rfl;rfl;rfl;rfl));exact iL (by repeat' first|exact Ext.refl _|assumption|apply Ext.push|refine Ext.trans ?_ (by assumption));(rintro _ _ ⟨_,_,rfl,_,_⟩))|fail))
  rename_i h3 x3 h4 p4 c4 rd4 x4
  (repeat' (first|(apply N_at;rfl)|apply zak|apply zaH|(apply zcc;rfl;refine .inr ?_;(focus repeat' first|exact trivial|exact Keeps.nil _ _|apply And.intro|rfl|(apply Keeps.cons;iterate 2 (focus repeat' first|exact zaa|assumption|apply zab|(apply Ext.get;assumption)))))|apply zat|((first|apply zaf|apply zad|apply zay|apply zaP);rfl;rfl;rfl;rfl)|(apply zei;rfl;rfl;rfl;rfl;rfl;(unfold fit;omega))|(apply M_max;rfl;rfl;rfl;rfl;rfl;rfl)|((first|(apply zao;rfl;rfl;rfl;rfl;rfl;rfl)|(apply za8;rfl;rfl;rfl;rfl;rfl;rfl;rfl));exact iF (zea hV) rd4 (by repeat' first|exact Ext.refl _|assumption|apply Ext.push|refine Ext.trans ?_ (by assumption));(rintro _ _ ⟨rfl,_⟩))|fail))
  refine ⟨.inr rfl, _, rfl, ?_, by repeat' first|exact Ext.refl _|assumption|apply Ext.push|refine Ext.trans ?_ (by assumption)⟩
  exact congrArg (Value.int .i64) (by omega)
set_option maxHeartbeats 1000000 in
theorem zfF (hK : NoK K) {T : Tb} {l : List Int} {p : Option Addr} {cap : Nat} {h : Heap} (hP : TbP T) (hKp : zb3 T.s.length l) (hll : l.length <= 1000) (hTb : TbAt T h) (hr : Rd h p (ints l)) :
  CallW Tryz.prog K 36 #[tbV T, .slice p l.length cap] h (IsL (dbts T.s l T.r T.o T.s.length) h) := by
 have hF : ∀ {j : Nat} {h' : Heap}, j < T.s.length -> Ext h h' -> CallW Tryz.prog K 79 #[tbV T, .slice p l.length cap, .int .i64 (j : Nat)] h' (IsV (.int .i64 (offv T.s l T.r j)) h') := fun hj x => zoM hK hP hKp hll hj (hTb.ext x) (hr.ext x)
 obtain ⟨q, kq, s, r, o⟩ := T
 have hqb : ∀ a, q = some a -> a.block < h.n := hTb.b
 have hn := hP.1
 dsimp only [tbV] at hF hn ⊢
 refine body (N := 26) Tryz.func36 rfl (hK _ _ _ rfl) rfl rfl ?_
 (repeat' (first|apply zal|apply zac|(apply O_at;rfl)|(apply zai;rfl)|apply zak|apply zan|((first|apply zaf|apply zad|apply zay);rfl;rfl;rfl;rfl)|(apply zbb;rfl;rfl;rfl;rfl;exact zam rfl;rfl;rfl)|fail))
 refine zba (fun a : Nat × Value => [(6, .int .i64 (a.1 : Nat)), (5, a.2), (2, .pointer (some ⟨h.n, 0, none⟩)), (1, .slice p l.length cap)])
  (fun a h' => a.1 <= s.length /\ Ext (h.push (.cells [.slice q s.length kq, .int .i64 r, .int .i64 o] 25 true)) h' /\ OutI 3 (h.push (.cells [.slice q s.length kq, .int .i64 r, .int .i64 o] 25 true)) h' a.2 (dbts s l r o a.1)) (fun a => s.length - a.1) ?_ (0, nilV) ?_ ?_
 ·rintro ⟨k, v⟩ h' ⟨hk, hx, ho⟩ ih
  dsimp only at hk hx ho ih ⊢
  have hb : h'.get? h.n = some (.cells [.slice q s.length kq, .int .i64 r, .int .i64 o] 25 true) := hx.get zaa
  have hle := zf9 s l r o k
  by_cases hlt : k < s.length
  ·by_cases hc : o < offv s l r k
   ·(repeat' (first|apply zal|apply zac|(apply O_at;rfl)|(apply N_at;rfl)|(apply zai;rfl)|apply zak|(apply zaR;rfl)|(apply zbs;exact zaK (by decide +kernel))|apply zan|apply zaD|(apply zcc;rfl;refine .inr ?_;(focus repeat' first|exact trivial|exact Keeps.nil _ _|apply And.intro|rfl|(apply Keeps.cons;iterate 2 (focus repeat' first|exact zaa|assumption|(apply Ext.get;assumption)))))|apply zav|((first|apply zaf|apply zad|apply zay);rfl;rfl;rfl;rfl)|((first|apply P_fa|apply M_fa);rfl;rfl;rfl;rfl;exact za1 rfl;(first|exact Nat.zero_add _|exact Nat.add_zero _|rfl))|(apply zbf;rfl;rfl;rfl;rfl;rfl;rfl;exact zar rfl)|(apply zaX;rfl;rfl;rfl;rfl;rfl;omega)|(apply zbk;rfl;rfl;rfl;rfl;rfl;(unfold fit;omega))|(apply zap;rfl;rfl;rfl;rfl;exact zaF rfl;(focus repeat' first|exact zaa|assumption|(apply Ext.get;assumption));(first|rfl|assumption))|(apply zdb;rfl;rfl;rfl;rfl;rfl;rfl;rfl;exact zc0 rfl)|(apply zhM;rfl;rfl;rfl;rfl;rfl;rfl;rfl;rfl;exact zc0 rfl;exact zar rfl;(focus repeat' first|exact zaa|assumption|(apply Ext.get;assumption));(apply OutI.ext;assumption;(focus repeat' first|exact Ext.refl _|assumption|apply Ext.push|(refine Ext.trans ?_ (by assumption))));(focus repeat' first|exact Ext.refl _|assumption|apply Ext.push|(refine Ext.trans ?_ (by assumption)));(first|omega|(simp;omega));(intro _ _ _ _))|(apply zmT;rfl;rfl;rfl;rfl;rfl;omega)|((first|((apply zbL;rfl;rfl;rfl;rfl;exact zaF rfl);(focus repeat' first|exact zaa|assumption|(apply Ext.get;assumption));(first|rfl|assumption))|((apply zb8;rfl;rfl;rfl;rfl;exact za7 rfl);(focus repeat' first|exact zaa|assumption|(apply Ext.get;assumption));(first|exact Nat.le_of_ble_eq_true rfl|(simp;done)|(simp;omega));rfl));(first|assumption|exact zaS _ _|exact zcr _ _ _ _ _|rfl|(focus simp [same,same.all2];done));(first|rfl|assumption|exact hwv _|exact zbt (by assumption) (by repeat' first|exact Ext.refl _|assumption|apply Ext.push|refine Ext.trans ?_ (by assumption))|(simp [within];omega)))|(apply za8;rfl;rfl;rfl;rfl;rfl;rfl;rfl;exact hF hlt (by repeat' first|exact Ext.refl _|assumption|apply Ext.push|refine Ext.trans ?_ (by assumption));(rintro _ _ ⟨rfl,_⟩))|fail))
    rename_i v1 h2 ho2 hx2
    exact zaO (ih (k + 1, v1) _ (by dsimp only; omega) ⟨hlt, by repeat' first|exact Ext.refl _|assumption|apply Ext.push|refine Ext.trans ?_ (by assumption), by rw [zf8 hc]; exact ho2⟩) (by (focus repeat' first | rfl | exact trivial | apply And.intro))
   ·(repeat' (first|apply zal|apply zac|(apply O_at;rfl)|(apply N_at;rfl)|(apply zai;rfl)|apply zak|(apply zaR;rfl)|(apply zaU;rfl)|(apply zbs;exact zaK (by decide +kernel))|apply zan|apply zaD|(apply zcc;rfl;refine .inr ?_;(focus repeat' first|exact trivial|exact Keeps.nil _ _|apply And.intro|rfl|(apply Keeps.cons;iterate 2 (focus repeat' first|exact zaa|assumption|(apply Ext.get;assumption)))))|apply zav|((first|apply zaf|apply zad|apply zay);rfl;rfl;rfl;rfl)|((first|apply P_fa|apply M_fa);rfl;rfl;rfl;rfl;exact za1 rfl;(first|exact Nat.zero_add _|exact Nat.add_zero _|rfl))|(apply zbf;rfl;rfl;rfl;rfl;rfl;rfl;exact zar rfl)|(apply zaX;rfl;rfl;rfl;rfl;rfl;omega)|(apply zbk;rfl;rfl;rfl;rfl;rfl;(unfold fit;omega))|(apply zap;rfl;rfl;rfl;rfl;exact zaF rfl;(focus repeat' first|exact zaa|assumption|(apply Ext.get;assumption));(first|rfl|assumption))|(apply M_gtrF;rfl;rfl;rfl;rfl;rfl;omega)|((first|((apply zbL;rfl;rfl;rfl;rfl;exact zaF rfl);(focus repeat' first|exact zaa|assumption|(apply Ext.get;assumption));(first|rfl|assumption))|((apply zb8;rfl;rfl;rfl;rfl;exact za7 rfl);(focus repeat' first|exact zaa|assumption|(apply Ext.get;assumption));(first|exact Nat.le_of_ble_eq_true rfl|(simp;done)|(simp;omega));rfl));(first|assumption|exact zaS _ _|exact zcr _ _ _ _ _|rfl|(focus simp [same,same.all2];done));(first|rfl|assumption|exact hwv _|exact zbt (by assumption) (by repeat' first|exact Ext.refl _|assumption|apply Ext.push|refine Ext.trans ?_ (by assumption))|(simp [within];omega)))|(apply za8;rfl;rfl;rfl;rfl;rfl;rfl;rfl;exact hF hlt (by repeat' first|exact Ext.refl _|assumption|apply Ext.push|refine Ext.trans ?_ (by assumption));(rintro _ _ ⟨rfl,_⟩))|fail))
    exact zaO (ih (k + 1, v) _ (by dsimp only; omega) ⟨hlt, by repeat' first|exact Ext.refl _|assumption|apply Ext.push|refine Ext.trans ?_ (by assumption), by rw [zix hc]; exact OutI.ext (e := 3) ho (by repeat' first|exact Ext.refl _|assumption|apply Ext.push|refine Ext.trans ?_ (by assumption))⟩) (by (focus repeat' first | rfl | exact trivial | apply And.intro))
  ·obtain rfl : k = s.length := by omega
   (repeat' (first|apply zal|apply zac|(apply O_at;rfl)|(apply zai;rfl)|apply zak|(apply zaU;rfl)|apply zbl|apply zaH|apply zbo|apply zaY|apply zaZ|apply zat|((first|apply zaf|apply zad|apply zay);rfl;rfl;rfl;rfl)|((first|apply P_fa|apply M_fa);rfl;rfl;rfl;rfl;exact za1 rfl;(first|exact Nat.zero_add _|exact Nat.add_zero _|rfl))|(apply zbf;rfl;rfl;rfl;rfl;rfl;rfl;exact zar rfl)|(apply zby;rfl;rfl;rfl;rfl;rfl;omega)|(apply zap;rfl;rfl;rfl;rfl;exact zaF rfl;(focus repeat' first|exact zaa|assumption|(apply Ext.get;assumption));(first|rfl|assumption))|fail))
   exact ⟨.inr rfl, _, rfl, (OutI.low (e := 3) ho (Nat.le_succ _)).isL (by repeat' first|exact Ext.refl _|assumption|apply Ext.push|refine Ext.trans ?_ (by assumption))⟩
 ·exact ⟨Nat.zero_le _, Ext.refl _, OutI.nil _ _ _⟩
 ·(focus repeat' first | rfl | exact trivial | apply And.intro)
end Go.AX.Sa

namespace Go.AX.Sa
open Go.Proofs
set_option maxRecDepth 100000
variable {K : Known}
def kps (st c : Nat) : List Int := (List.range c).map fun i => ((i * st : Nat) : Int)
def cnt (last st : Nat) : Nat := (last + st - 1) / st
theorem cnt_ex {last st : Nat} (hst : 1 <= st) : last <= cnt last st * st /\ ∀ d, cnt last st = d + 1 -> d * st < last := by
 have h := Nat.div_add_mod (last + st - 1) st
 have hm := Nat.mod_lt (last + st - 1) hst
 have hc : st * ((last + st - 1) / st) = cnt last st * st := Nat.mul_comm _ _
 refine ⟨by omega, fun d hd => ?_⟩
 rw [hd, Nat.succ_mul] at hc
 omega
def kls (n st : Nat) : List Int := kps st (cnt (n - 1) st) ++ [(n : Int) - 1]
theorem cnt_le {last st : Nat} (hst : 1 <= st) : cnt last st <= last := by
 have h := (cnt_ex (last := last) hst).2
 cases hc : cnt last st with
 | zero => exact Nat.zero_le _
 | succ d =>
  have := h d hc
  have := Nat.le_mul_of_pos_right d hst
  omega
def WidP (s : List (Int × Int)) (r o : Int) (w : Int) : Prop := (1 <= w /\ w <= (s.length : Int) - 1) /\ zfd s (kls s.length w.toNat) r o /\ ∀ m : Int, w < m -> m <= (s.length : Int) - 1 -> ¬ zfd s (kls s.length m.toNat) r o
end Go.AX.Sa

namespace Go.AX.Sa
open Go.Proofs
set_option maxRecDepth 100000
variable {K : Known}
section
variable {x : Ctx} {N : Nat} {E : Env} {h : Heap} {ops : Array Oper} {F : Ex -> Env -> Heap -> Prop} {i : Nat} {Hs : List Heap} {L : List Heap -> Prop} {nw : List (Nat × Nat × Blk)}
variable {d : Nat} {ty : TypeId} {pos : String} {af : Array Edge} {g : Option (Nat × Bool)} {ps : Array (Nat × Operand)}
end
def IsK (T : Tb) (l : List Int) (h : Heap) (v : Value) (h1 : Heap) : Prop := ∃ b, v = ktV T (some ⟨b, 0, none⟩) l.length unk /\ h1.get? b = some (.cells (ints l) 3 true) /\ h.n <= b /\ Ext h h1
end Go.AX.Sa

namespace Go.AX.Sa
open Go.Proofs
set_option maxRecDepth 100000
variable {K : Known}
section
variable {T : Tb} {h : Heap}
end
end Go.AX.Sa

namespace Go.AX.Sa
open Go.Proofs
set_option maxRecDepth 100000
variable {K : Known}
def rng (a : Int) (k : Nat) : List Int := (List.range k).map fun i => a + (i : Nat)
theorem zkB (a : Int) (k : Nat) : (rng a k).length = k := by simp [rng]
theorem zl0 (a : Int) (k : Nat) : rng a (k + 1) = rng a k ++ [a + (k : Nat)] := by simp [rng, List.range_succ]
def zog (p : Int × Int) : List Int := rng p.1 (p.2 - p.1 + 1).toNat
theorem mem_rng {a x : Int} {k : Nat} : x ∈ rng a k ↔ a <= x /\ x < a + (k : Nat) := by
 simp only [rng, List.mem_map, List.mem_range]
 constructor
 ·rintro ⟨i, hi, rfl⟩
  omega
 ·intro h
  exact ⟨(x - a).toNat, by omega, by omega⟩
theorem zgy (hK : NoK K) {bs l : Nat} {p : Int × Int} {e : TypeId} {own : Bool} {h : Heap} (hp : -1000000 <= p.1 /\ p.2 <= 1000000 /\ p.1 <= p.2 + 1) (I : Nat -> Heap -> Prop) (R : Heap -> Prop)
  (hb : ∀ k h', I k h' -> h'.get? bs = some (.cells [.int .i64 p.1, .int .i64 p.2] e own)) (h0 : I 0 h)
  (round : ∀ (k : Nat) h', p.1 + (k : Nat) <= p.2 -> I k h' -> RoundW Tryz.prog K l #[.int .i64 (p.1 + (k : Nat))] h' (fun r h1 => (r = .bool true /\ I (k + 1) h1) \/ (r = .bool false /\ R h1))) :
  CallW Tryz.prog K 144 #[.func (.yield l) #[] #[], .pointer (some ⟨bs, 0, none⟩)] h (fun _ h1 => I (p.2 - p.1 + 1).toNat h1 \/ R h1) := by
 have hb0 := hb 0 h h0
 refine body (N := 17) Tryz.func144 rfl (hK _ _ _ rfl) rfl rfl ?_
 (repeat' (first|apply zal|apply zac|(apply O_at;rfl)|(apply zai;rfl)|apply zak|apply zan|((first|apply zaf|apply zad);rfl;rfl;rfl;rfl)|(apply P_fa;rfl;rfl;rfl;rfl;exact za1 rfl;(first|exact Nat.zero_add _|exact Nat.add_zero _|rfl))|(apply zap;rfl;rfl;rfl;rfl;exact zaF rfl;(focus repeat' first|assumption);(first|rfl|assumption))|fail))
 refine zba (fun k : Nat => [(3, .int .i64 (p.1 + (k : Nat))), (0, .func (.yield l) #[] #[]), (1, .pointer (some ⟨bs, 0, none⟩))])
  (fun k h' => k <= (p.2 - p.1 + 1).toNat /\ I k h') (fun k => (p.2 - p.1 + 1).toNat - k) ?_ 0 ?_ ?_
 ·intro k h' ⟨hk1, hi⟩ ih
  have hb' := hb k h' hi
  by_cases hlt : p.1 + (k : Nat) <= p.2
  ·(repeat' (first|apply zal|apply zac|(apply O_at;rfl)|(apply zai;rfl)|apply zak|(apply zaU;rfl)|apply zbl|apply zbo|apply zaY|apply zaZ|apply zat|(apply zcM;rfl;rfl;rfl)|((first|apply zaf|apply zad);rfl;rfl;rfl;rfl)|(apply P_fa;rfl;rfl;rfl;rfl;exact za1 rfl;(first|exact Nat.zero_add _|exact Nat.add_zero _|rfl))|(apply zbE;rfl;rfl;rfl;rfl;rfl;rfl)|(apply zka;rfl;rfl;rfl;rfl;rfl;all_goals intro _)|(apply zap;rfl;rfl;rfl;rfl;exact zaF rfl;(focus repeat' first|assumption);(first|rfl|assumption))|fail))
   ·apply P_yield; rfl; rfl; rfl; rfl; rfl
    ·exact round k h' hlt hi
    rintro _ h2 (⟨rfl, ha⟩ | ⟨rfl, ha⟩)
    ·(repeat' (first|apply zal|apply zac|(apply O_at;rfl)|(apply zai;rfl)|apply zak|(apply zaR;rfl)|apply zan|apply zaD|apply zav|((first|apply zaf|apply zad);rfl;rfl;rfl;rfl)|(apply zbE;rfl;rfl;rfl;rfl;rfl;rfl)|(apply zbk;rfl;rfl;rfl;rfl;rfl;(unfold fit;omega))|fail))
     refine zaO (ih (k + 1) _ ?_ ⟨by omega, ha⟩) ?_
     ·omega
     ·refine ⟨?_, rfl, rfl, trivial⟩
      show some (Value.int .i64 (p.1 + (k : Nat) + 1)) = _
      congr 2
      omega
    ·(repeat' (first|(apply O_at;rfl)|(apply zai;rfl)|apply zak|(apply zaU;rfl)|apply zbl|apply zbo|apply zaY|apply zaZ|apply zat|(apply zbE;rfl;rfl;rfl;rfl;rfl;rfl)|fail))
     exact ⟨.inl rfl, _, rfl, .inr ha⟩
   ·omega
  ·(repeat' (first|apply zal|apply zac|(apply O_at;rfl)|(apply zai;rfl)|apply zak|(apply zaU;rfl)|apply zbl|apply zbo|apply zaY|apply zaZ|apply zat|(apply zcM;rfl;rfl;rfl)|((first|apply zaf|apply zad);rfl;rfl;rfl;rfl)|(apply P_fa;rfl;rfl;rfl;rfl;exact za1 rfl;(first|exact Nat.zero_add _|exact Nat.add_zero _|rfl))|(apply zbE;rfl;rfl;rfl;rfl;rfl;rfl)|(apply zka;rfl;rfl;rfl;rfl;rfl;all_goals intro _)|(apply zap;rfl;rfl;rfl;rfl;exact zaF rfl;(focus repeat' first|assumption);(first|rfl|assumption))|fail))
   ·omega
   ·refine ⟨.inl rfl, _, rfl, .inl ?_⟩
    have e : k = (p.2 - p.1 + 1).toNat := by omega
    subst e
    exact hi
 ·exact ⟨Nat.zero_le _, h0⟩
 ·refine ⟨?_, rfl, rfl, trivial⟩
  show some (Value.int .i64 p.1) = _
  congr 2
  omega
theorem zgz (hK : NoK K) {a c : Int} {h : Heap} :
  CallW Tryz.prog K 115 #[.agg #[.int .i64 a, .int .i64 c]] h fun v h1 => Ext h h1 /\ ∃ bs, v = .func (.func 144) #[] #[.pointer (some ⟨bs, 0, none⟩)] /\ h.n <= bs /\ h1.get? bs = some (.cells [.int .i64 a, .int .i64 c] 72 true) := by
 refine body (N := 4) Tryz.func115 rfl (hK _ _ _ rfl) rfl rfl ?_
 (repeat' (first|apply zal|apply zac|(apply O_at;rfl)|(apply zai;rfl)|apply zak|apply zaH|apply zat|(apply zad;rfl;rfl;rfl;rfl)|(apply zfw;rfl;rfl;rfl;rfl;rfl)|(apply zbb;rfl;rfl;rfl;rfl;exact zam rfl;rfl;rfl)|fail))
 exact ⟨.inr rfl, _, rfl, by (focus repeat' first | exact Ext.refl _ | assumption | apply Ext.push), h.n, rfl, Nat.le_refl _, zaa⟩
theorem zj7 (hK : NoK K) {p : Int × Int} {bs : Nat} {e : TypeId} {own : Bool} {h : Heap} (hp : -10000 <= p.1 /\ p.2 <= 10000 /\ p.1 <= p.2 + 1 /\ p.2 <= p.1 + 100) (hg : h.get? bs = some (.cells [.int .i64 p.1, .int .i64 p.2] e own)) :
  CallW Tryz.prog K 143 #[.slice none 0 0, .func (.func 144) #[] #[.pointer (some ⟨bs, 0, none⟩)]] h (IsL (zog p) h) := by
 have l1 := Heap.get_lt hg
 refine zls (N := 13) 2 Tryz.func143 rfl (hK _ _ _ rfl) rfl rfl (by rfl) (by rfl) ?_
 (repeat' (first|apply zal|apply zac|(apply O_at;rfl)|(apply zai;rfl)|apply zak|apply zaD|apply zat|((first|apply zaf|apply zad);rfl;rfl;rfl;rfl)|(apply zbb;rfl;rfl;rfl;rfl;exact zam rfl;rfl;rfl)|fail))
 refine .inr ⟨rfl, _, #[], _, rfl, rfl, fun tm l hb r hE hrd hle hxb hbn hlb hdb => ?_⟩
 have hx0 : Ext h hb := by repeat' first|exact Ext.refl _|assumption|apply Ext.push|refine Ext.trans ?_ (by assumption)
 have hnn : h.n + 3 = hb.n := by simp only [Heap.push] at hbn; omega
 have hll : l = h.n + 2 := by simp only [Heap.push] at hle; omega
 have hgv := hxb.get zaa
 have key := zgy (K := K) hK (bs := bs) (l := l) (p := p) (h := hb) (e := e) (own := own) (by omega)
  (fun k h' => (∃ v, OutI 3 hb h' v (rng p.1 k) /\ h'.get? h.n = some (.cells [v] 26 true)) /\ Ext h h' /\ hb.n <= h'.n /\ h'.get? l = some (.obj (.loop r)) /\ h'.get? (h.n + 1) = some (.obj (.deferred (some []))))
  (fun _ => False) ?_ ?_ ?_
 ·refine key.mono ?_
  rintro _ h2 (⟨⟨v, ho, hg⟩, hx2, hn2, hl2, hd2⟩ | w)
  ·refine ⟨none, by rw [zdQ hrd]; exact hl2, fun h2' hk2 hn2' => ?_⟩
   have hx2' : Ext h h2' := hx2.keep1 (l := l) hk2 (by omega) (by omega)
   have hd2' := hk2 _ _ (by omega) hd2
   have hg' := hk2 _ _ (by omega) hg
   have ho' := ho.keepl hk2 (by omega)
   (repeat' (first|apply zal|apply zac|(apply O_at;rfl)|(apply zai;rfl)|apply zak|apply zan|apply zaD|apply zaH|apply zbF|apply zav|apply zat|((first|apply zaf|apply zad);rfl;rfl;rfl;rfl)|(apply zap;rfl;rfl;rfl;rfl;exact zaF rfl;(focus repeat' first|exact zaa|assumption|apply zab|(apply Ext.get;assumption)|(apply ExtBut.get;assumption;(first|assumption|omega|(simp only [Heap.push];omega))));(first|rfl|assumption))|fail))
   refine ⟨.inr rfl, hd2', fun h4 hk4 hn4 => ⟨_, rfl, ?_⟩⟩
   have ho4 := ho'.keepl hk4 (by (first | omega | (simp only [Heap.push]; omega)))
   exact (ho4.low (h0' := h) (by omega)).isL (hx2'.keep1 (l := h.n + 1) hk4 (by omega) (by omega))
  ·exact w.elim
 ·rintro k h' ⟨_, hx, _⟩
  exact hx.get hg
 ·exact ⟨⟨_, OutI.nil _ _ _, hgv⟩, hx0, Nat.le_refl _, hlb, hdb⟩
 ·rintro k h' hkle ⟨⟨v, ho, hgb⟩, hx, hn, ql, qd⟩
  have hpl := zkB p.1 k
  refine zi6 (N := 13) ql hrd rfl (EnvOK.param hE rfl) ?_
  (repeat' (first|apply zac|(apply O_at;rfl)|(apply zai;rfl)|apply zat|((first|apply zaf|apply zad);rfl;rfl;rfl;rfl)|fail))
  refine ⟨rfl, ql, fun B hs hsl hsk hsn => ?_⟩
  have hxs : Ext h hs := hx.keep1 (l := l) hsk (by omega) (by omega)
  have hgs := hsk _ _ (by omega) hgb
  have hos := ho.keepl hsk (by omega)
  (repeat' (first|apply zac|(apply O_at;rfl)|apply zan|((first|apply zaf|apply zad);rfl;rfl;rfl;rfl)|(apply zap;rfl;rfl;rfl;rfl;exact zaF rfl;(focus repeat' first|exact zaa|assumption|apply zab|(apply Ext.get;assumption)|(apply ExtBut.get;assumption;(first|assumption|omega|(simp only [Heap.push];omega))));(first|rfl|assumption))|(apply zdb;rfl;rfl;rfl;rfl;rfl;rfl;rfl;exact zc0 rfl)|fail))
  apply zp8; rfl; rfl; rfl; rfl; rfl; rfl; rfl; rfl; exact zc0 rfl; exact zar rfl; exact zaa; exact hos.ext (by repeat' first|exact Ext.refl _|assumption|apply Ext.push|refine Ext.trans ?_ (by assumption)); exact (by (first | omega | (simp only [Heap.push]; omega))); omega
  intro v' h3 o3 k3
  have kp : ∀ b y, b < hb.n -> hs.get? b = some y -> h3.get? b = some y := fun b y q g => k3.lo q (zab g)
  have n3 : hs.n + 1 <= h3.n := k3.n
  obtain ⟨cv, ov⟩ := o3.cells
  (repeat' (first|(apply O_at;rfl)|fail))
  refine ziJ (c' := [v']) rfl rfl rfl rfl (kp _ _ (by omega) hgs) (zam rfl) (by rw [cv]; rfl) (Nat.le_of_ble_eq_true rfl) (by rw [cv]; simp [ov]) (by rw [cv]; rfl) ?_
  intro h4 g4 x4
  have n4 := x4.n
  (repeat' (first|(apply zai;rfl)|apply zav|apply zat|fail))
  refine ⟨x4.get (by omega) (kp _ _ (by omega) hsl), none, rfl, fun hf hfl hfk hfn => ?_⟩
  rw [zdQ hrd] at hfl
  have o4 : OutI 3 hb hf v' (rng p.1 k ++ [p.1 + (k : Nat)]) := (o3.keepl (b0 := h.n) (fun b y q g => x4.get q g) (by omega)).keepl hfk (by omega)
  have xf : Ext h hf := ⟨by have := hx.n; omega, fun b y g => by
   have hbl := Heap.get_lt g
   exact hfk _ _ (by omega) (x4.get (by omega) (kp _ _ (by omega) (hxs.get g)))⟩
  have gf := hfk _ _ (by omega) g4
  have df := hfk _ _ (by omega) (x4.get (by omega) (kp _ _ (by omega) (hsk _ _ (by omega) qd)))
  rw [<- zl0] at o4
  exact .inl ⟨rfl, ⟨v', o4, gf⟩, xf, by omega, hfl, df⟩
theorem znP (hK : NoK K) {p : Int × Int} {bs : Nat} {e : TypeId} {own : Bool} {h : Heap} (hp : -10000 <= p.1 /\ p.2 <= 10000 /\ p.1 <= p.2 + 1 /\ p.2 <= p.1 + 100) (hg : h.get? bs = some (.cells [.int .i64 p.1, .int .i64 p.2] e own)) :
  CallW Tryz.prog K 114 #[.func (.func 144) #[] #[.pointer (some ⟨bs, 0, none⟩)]] h (IsL (zog p) h) := by
 refine body (N := 5) Tryz.func114 rfl (hK _ _ _ rfl) rfl rfl ?_
 (repeat' (first|apply zal|apply zac|(apply O_at;rfl)|(apply zai;rfl)|apply zak|apply zaH|apply zat|((first|apply zaf|apply zad);rfl;rfl;rfl;rfl)|(apply zao;rfl;rfl;rfl;rfl;rfl;rfl;exact zj7 hK hp hg;(rintro _ _ ⟨_,_,rfl,_,_⟩))|fail))
 rename_i hr hx
 exact ⟨.inr rfl, _, rfl, _, _, rfl, hr, hx⟩
end Go.AX.Sa

namespace Go.AX.Sa
open Go.Proofs
set_option maxRecDepth 100000
variable {K : Known}
def zfU (s : List (Int × Int)) (r o a c x y : Int) : Prop := ∀ j : Nat, a < (j : Nat) -> ((j : Nat) : Int) < c -> (s.getD j (0, 0)).1 - o <= rnd r (mixv a c j x y) (c - a) /\ rnd r (mixv a c j x y) (c - a) <= (s.getD j (0, 0)).2 + o
section
variable {T : Tb} {h : Heap} {A C : Nat} {x y : Int}
set_option maxHeartbeats 1000000 in
theorem zgT (hK : NoK K) {p : Option Addr} {n cap : Nat} (hP : TbP T) (hTb : TbAt T h) (hAC : A < C) (hC : C < T.s.length) (hx : -10000 <= x /\ x <= 10000) (hy : -10000 <= y /\ y <= 10000) :
  CallW Tryz.prog K 118 #[ktV T p n cap, .agg #[.int .i64 (A : Nat), .int .i64 (C : Nat)], .int .i64 x, .int .i64 y] h (IfB (zfU T.s T.r T.o (A : Nat) (C : Nat) x y) h) := by
 obtain ⟨q, kq, s, r, o⟩ := T
 have hn := hP.1
 have hV := hP.2.1
 have hru := hP.2.2.1
 have hOff := hP.2.2.2
 have hs0 := hTb.rd
 dsimp only [ktV, OffP] at hn hV hru hOff hs0 hC ⊢
 obtain ⟨bs, es, owns, rfl, hgs⟩ := hs0.at (by rw [zah]; omega)
 refine body (N := 48) Tryz.func118 rfl (hK _ _ _ rfl) rfl rfl ?_
 (repeat' (first|apply zal|apply zac|(apply O_at;rfl)|(apply zai;rfl)|apply zak|apply zan|((first|apply zaf|apply zad|apply zay|apply zkc);rfl;rfl;rfl;rfl)|((first|apply P_fa|apply M_fa);rfl;rfl;rfl;rfl;exact za1 rfl;(first|exact Nat.zero_add _|exact Nat.add_zero _|rfl))|((first|apply zbk|apply zn3);rfl;rfl;rfl;rfl;rfl;(unfold fit;omega))|(apply zap;rfl;rfl;rfl;rfl;exact zaF rfl;(focus repeat' first|exact zaa|assumption|apply zab|(apply Ext.get;assumption));(first|rfl|assumption))|(apply zbb;rfl;rfl;rfl;rfl;exact zam rfl;rfl;rfl)|fail))
 refine zba (fun k : Nat => [(9, .int .i64 (k : Nat)), (5, .pointer (some ⟨h.n + 1, 0, none⟩)), (4, .pointer (some ⟨h.n, 0, none⟩)), (3, .int .i64 y), (2, .int .i64 x)])
  (fun k h' => (A + 1 <= k /\ k <= C) /\ Ext ((h.push (.cells [.slice (some ⟨bs, 0, none⟩) s.length kq, .int .i64 r, .int .i64 o, .slice p n cap] 82 true)).push (.cells [.int .i64 (A : Nat), .int .i64 (C : Nat)] 123 true)) h' /\ ∀ j : Nat, ((A : Nat) : Int) < (j : Nat) -> j < k -> (s.getD j (0, 0)).1 - o <= rnd r (mixv (A : Nat) (C : Nat) j x y) ((C : Int) - (A : Nat)) /\ rnd r (mixv (A : Nat) (C : Nat) j x y) ((C : Int) - (A : Nat)) <= (s.getD j (0, 0)).2 + o) (fun k => C - k) ?_ (A + 1) ?_ ?_
 ·rintro k h' ⟨hk, hx', hj⟩ ih
  have q1 : h'.get? h.n = some (.cells [.slice (some ⟨bs, 0, none⟩) s.length kq, .int .i64 r, .int .i64 o, .slice p n cap] 82 true) := hx'.get (zab zaa)
  have q2 : h'.get? (h.n + 1) = some (.cells [.int .i64 (A : Nat), .int .i64 (C : Nat)] 123 true) := hx'.get zaa
  have q3 := hx'.get (zab (zab hgs))
  by_cases hlt : k < C
  ·have hks : k < s.length := by omega
   have hv := hV k hks
   unfold ValP at hv
   by_cases hc : (s.getD k (0, 0)).1 - o <= rnd r (mixv (A : Nat) (C : Nat) k x y) ((C : Int) - (A : Nat)) /\ rnd r (mixv (A : Nat) (C : Nat) k x y) ((C : Int) - (A : Nat)) <= (s.getD k (0, 0)).2 + o
   ·(repeat' (first|apply zal|apply zac|(apply O_at;rfl)|(apply N_at;rfl)|(apply zai;rfl)|apply zak|(apply zaR;rfl)|(apply zaU;rfl)|(apply zbs;exact zaK (by decide +kernel))|apply zan|apply zaD|(apply zcc;rfl;refine .inr ?_;(focus repeat' first|exact trivial|exact Keeps.nil _ _|apply And.intro|rfl|(apply Keeps.cons;iterate 2 (focus repeat' first|exact zaa|assumption|apply zab|(apply Ext.get;assumption)))))|apply zav|((first|apply zaf|apply zad|apply zay|apply zkc);rfl;rfl;rfl;rfl)|((first|apply P_fa|apply M_fa);rfl;rfl;rfl;rfl;exact za1 rfl;(first|exact Nat.zero_add _|exact Nat.add_zero _|rfl))|(apply zaX;rfl;rfl;rfl;rfl;rfl;omega)|((first|apply zbk|apply zn3);rfl;rfl;rfl;rfl;rfl;(unfold fit;omega))|(apply zci;rfl;rfl;rfl;rfl;rfl;exact zar rfl;exact zam rfl;(first|assumption|rfl|exact (Int.toNat_of_nonneg (by omega)).symm);omega)|(apply zap;rfl;rfl;rfl;rfl;exact zaF rfl;(focus repeat' first|exact zaa|assumption|apply zab|(apply Ext.get;assumption));(first|rfl|assumption))|(apply zaN;rfl;rfl;rfl;rfl;exact za7 rfl;(focus repeat' first|exact zaa|assumption|apply zab|(apply Ext.get;assumption));(first|exact Nat.le_of_ble_eq_true rfl|(simp;done)|(simp;omega)|(rw [zah];omega));(first|exact zaM (by omega)|rfl))|(apply zaW;rfl;rfl;rfl;rfl;exact zam rfl;rfl;rfl;rfl)|(apply zbq;rfl;rfl;rfl;rfl;exact zam rfl;rfl;rfl)|(apply zei;rfl;rfl;rfl;rfl;rfl;(unfold fit;omega))|((first|((apply zbL;rfl;rfl;rfl;rfl;exact zaF rfl);(focus repeat' first|exact zaa|assumption|apply zab|(apply Ext.get;assumption));(first|rfl|assumption))|((apply zb8;rfl;rfl;rfl;rfl;exact za7 rfl);(focus repeat' first|exact zaa|assumption|apply zab|(apply Ext.get;assumption));(first|exact Nat.le_of_ble_eq_true rfl|(simp;done)|(simp;omega)|(rw [zah];omega));(first|exact zaM (by omega)|rfl)));(first|assumption|exact zaS _ _|exact zdJ _ _|rfl|(focus simp [same,same.all2];done));(first|rfl|assumption|exact hwv _|(simp [within];omega)))|(apply za8;rfl;rfl;rfl;rfl;rfl;rfl;rfl;exact zfu hK hx hy (by omega) (by omega) (by omega) (by omega) (by omega) hru;(rintro _ _ ⟨rfl,_⟩))|(apply za8;rfl;rfl;rfl;rfl;rfl;rfl;rfl;exact yes (zcC hK) hc;(rintro _ _ ⟨rfl,_⟩))|fail))
    refine zaO (ih (k + 1) _ (by omega) ⟨by omega, by repeat' first|exact Ext.refl _|assumption|apply Ext.push|refine Ext.trans ?_ (by assumption), fun j h1 h2 => ?_⟩) (by (focus repeat' first | rfl | exact trivial | apply And.intro))
    by_cases hjk : j = k
    ·subst hjk; exact hc
    ·exact hj j h1 (by omega)
   ·(repeat' (first|apply zal|apply zac|(apply O_at;rfl)|(apply N_at;rfl)|(apply zai;rfl)|apply zak|(apply zaR;rfl)|(apply zbs;exact zaK (by decide +kernel))|apply zan|apply zaD|apply zaH|(apply zcc;rfl;refine .inr ?_;(focus repeat' first|exact trivial|exact Keeps.nil _ _|apply And.intro|rfl|(apply Keeps.cons;iterate 2 (focus repeat' first|exact zaa|assumption|apply zab|(apply Ext.get;assumption)))))|apply zbF|apply zff|apply zdD|apply zat|((first|apply zaf|apply zad|apply zay|apply zkc);rfl;rfl;rfl;rfl)|((first|apply P_fa|apply M_fa);rfl;rfl;rfl;rfl;exact za1 rfl;(first|exact Nat.zero_add _|exact Nat.add_zero _|rfl))|(apply zaX;rfl;rfl;rfl;rfl;rfl;omega)|((first|apply zbk|apply zn3);rfl;rfl;rfl;rfl;rfl;(unfold fit;omega))|(apply zci;rfl;rfl;rfl;rfl;rfl;exact zar rfl;exact zam rfl;(first|assumption|rfl|exact (Int.toNat_of_nonneg (by omega)).symm);omega)|(apply zap;rfl;rfl;rfl;rfl;exact zaF rfl;(focus repeat' first|exact zaa|assumption|apply zab|(apply Ext.get;assumption));(first|rfl|assumption))|(apply zaN;rfl;rfl;rfl;rfl;exact za7 rfl;(focus repeat' first|exact zaa|assumption|apply zab|(apply Ext.get;assumption));(first|exact Nat.le_of_ble_eq_true rfl|(simp;done)|(simp;omega)|(rw [zah];omega));(first|exact zaM (by omega)|rfl))|(apply zaW;rfl;rfl;rfl;rfl;exact zam rfl;rfl;rfl;rfl)|(apply zbq;rfl;rfl;rfl;rfl;exact zam rfl;rfl;rfl)|(apply zei;rfl;rfl;rfl;rfl;rfl;(unfold fit;omega))|((first|((apply zbL;rfl;rfl;rfl;rfl;exact zaF rfl);(focus repeat' first|exact zaa|assumption|apply zab|(apply Ext.get;assumption));(first|rfl|assumption))|((apply zb8;rfl;rfl;rfl;rfl;exact za7 rfl);(focus repeat' first|exact zaa|assumption|apply zab|(apply Ext.get;assumption));(first|exact Nat.le_of_ble_eq_true rfl|(simp;done)|(simp;omega)|(rw [zah];omega));(first|exact zaM (by omega)|rfl)));(first|assumption|exact zaS _ _|exact zdJ _ _|rfl|(focus simp [same,same.all2];done));(first|rfl|assumption|exact hwv _|(simp [within];omega)))|(apply za8;rfl;rfl;rfl;rfl;rfl;rfl;rfl;exact zfu hK hx hy (by omega) (by omega) (by omega) (by omega) (by omega) hru;(rintro _ _ ⟨rfl,_⟩))|(apply za8;rfl;rfl;rfl;rfl;rfl;rfl;rfl;exact no (zcC hK) hc;(rintro _ _ ⟨rfl,_⟩))|fail))
    exact ⟨.inr rfl, _, rfl, .inr ⟨rfl, fun z => hc (z k (by omega) (by omega)), by repeat' first|exact Ext.refl _|assumption|apply Ext.push|refine Ext.trans ?_ (by assumption)⟩⟩
  ·(repeat' (first|apply zal|apply zac|(apply O_at;rfl)|(apply zai;rfl)|apply zak|(apply zaU;rfl)|apply zbl|apply zaH|apply zbo|apply zaY|apply zaZ|apply zat|((first|apply zaf|apply zad|apply zay|apply zkc);rfl;rfl;rfl;rfl)|((first|apply P_fa|apply M_fa);rfl;rfl;rfl;rfl;exact za1 rfl;(first|exact Nat.zero_add _|exact Nat.add_zero _|rfl))|(apply zby;rfl;rfl;rfl;rfl;rfl;omega)|(apply zap;rfl;rfl;rfl;rfl;exact zaF rfl;(focus repeat' first|exact zaa|assumption|apply zab|(apply Ext.get;assumption));(first|rfl|assumption))|fail))
   exact ⟨.inr rfl, _, rfl, .inl ⟨rfl, fun j h1 h2 => hj j h1 (by omega), by repeat' first|exact Ext.refl _|assumption|apply Ext.push|refine Ext.trans ?_ (by assumption)⟩⟩
 ·exact ⟨⟨Nat.le_refl _, hAC⟩, Ext.refl _, fun j h1 h2 => by omega⟩
 ·(focus repeat' first | rfl | exact trivial | apply And.intro)
set_option maxHeartbeats 1000000 in
theorem znq (hK : NoK K) (hP : TbP T) (hTb : TbAt T h) (hAC : A < C) (hC : C < T.s.length) (hx : -10000 <= x /\ x <= 10000) (hy : -10000 <= y /\ y <= 10000) :
  CallW Tryz.prog K 119 #[tbV T, .int .i64 (A : Nat), .int .i64 (C : Nat), .int .i64 x, .int .i64 y] h (IfB (zfU T.s T.r T.o (A : Nat) (C : Nat) x y) h) := by
 obtain ⟨q, kq, s, r, o⟩ := T
 have hn := hP.1
 have hV := hP.2.1
 have hru := hP.2.2.1
 have hOff := hP.2.2.2
 have hs0 := hTb.rd
 dsimp only [tbV, OffP] at hn hV hru hOff hs0 hC ⊢
 obtain ⟨bs, es, owns, rfl, hgs⟩ := hs0.at (by rw [zah]; omega)
 refine body (N := 47) Tryz.func119 rfl (hK _ _ _ rfl) rfl rfl ?_
 (repeat' (first|apply zal|apply zac|(apply O_at;rfl)|(apply zai;rfl)|apply zak|apply zan|((first|apply zaf|apply zad|apply zay|apply zkc);rfl;rfl;rfl;rfl)|((first|apply zbk|apply zn3);rfl;rfl;rfl;rfl;rfl;(unfold fit;omega))|(apply zbb;rfl;rfl;rfl;rfl;exact zam rfl;rfl;rfl)|fail))
 refine zba (fun k : Nat => [(11, .int .i64 (k : Nat)), (5, .pointer (some ⟨h.n, 0, none⟩)), (4, .int .i64 y), (3, .int .i64 x), (2, .int .i64 (C : Nat)), (1, .int .i64 (A : Nat))])
  (fun k h' => (A + 1 <= k /\ k <= C) /\ Ext (h.push (.cells [.slice (some ⟨bs, 0, none⟩) s.length kq, .int .i64 r, .int .i64 o] 25 true)) h' /\ ∀ j : Nat, ((A : Nat) : Int) < (j : Nat) -> j < k -> (s.getD j (0, 0)).1 - o <= rnd r (mixv (A : Nat) (C : Nat) j x y) ((C : Int) - (A : Nat)) /\ rnd r (mixv (A : Nat) (C : Nat) j x y) ((C : Int) - (A : Nat)) <= (s.getD j (0, 0)).2 + o) (fun k => C - k) ?_ (A + 1) ?_ ?_
 ·rintro k h' ⟨hk, hx', hj⟩ ih
  have q1 : h'.get? h.n = some (.cells [.slice (some ⟨bs, 0, none⟩) s.length kq, .int .i64 r, .int .i64 o] 25 true) := hx'.get zaa
  have q3 := hx'.get (zab hgs)
  by_cases hlt : k < C
  ·have hks : k < s.length := by omega
   have hv := hV k hks
   unfold ValP at hv
   by_cases hc : (s.getD k (0, 0)).1 - o <= rnd r (mixv (A : Nat) (C : Nat) k x y) ((C : Int) - (A : Nat)) /\ rnd r (mixv (A : Nat) (C : Nat) k x y) ((C : Int) - (A : Nat)) <= (s.getD k (0, 0)).2 + o
   ·(repeat' (first|apply zal|apply zac|(apply O_at;rfl)|(apply N_at;rfl)|(apply zai;rfl)|apply zak|(apply zaR;rfl)|(apply zaU;rfl)|(apply zbs;exact zaK (by decide +kernel))|apply zan|apply zaD|(apply zcc;rfl;refine .inr ?_;(focus repeat' first|exact trivial|exact Keeps.nil _ _|apply And.intro|rfl|(apply Keeps.cons;iterate 2 (focus repeat' first|exact zaa|assumption|apply zab|(apply Ext.get;assumption)))))|apply zav|((first|apply zaf|apply zad|apply zay|apply zkc);rfl;rfl;rfl;rfl)|(apply zaX;rfl;rfl;rfl;rfl;rfl;omega)|((first|apply zbk|apply zn3);rfl;rfl;rfl;rfl;rfl;(unfold fit;omega))|(apply M_fa;rfl;rfl;rfl;rfl;exact za1 rfl;(first|exact Nat.zero_add _|exact Nat.add_zero _|rfl))|(apply zei;rfl;rfl;rfl;rfl;rfl;(unfold fit;omega))|(apply zqf;rfl;rfl;rfl;rfl;rfl;exact zar rfl;exact zam rfl;(first|assumption|rfl|exact (Int.toNat_of_nonneg (by omega)).symm);omega)|(((apply zbL;rfl;rfl;rfl;rfl;exact zaF rfl);(focus repeat' first|exact zaa|assumption|apply zab|(apply Ext.get;assumption));(first|exact zbM (by omega)|exact zbN (by omega)|rfl|assumption));(first|assumption|exact zaS _ _|exact za6 _ _ _|rfl|(focus simp [same,same.all2];done));(first|rfl|assumption|exact hwv _|(focus apply zbG;(focus repeat' first|exact zaa|assumption|apply zab|(apply Ext.get;assumption));done)|(simp [within];omega)))|(apply za8;rfl;rfl;rfl;rfl;rfl;rfl;rfl;exact zdL hK hx hy (by omega) (by omega) (by omega) (by omega) (by omega);(rintro _ _ ⟨rfl,_⟩))|(apply za8;rfl;rfl;rfl;rfl;rfl;rfl;rfl;exact yes (zeO hK) hc;(rintro _ _ ⟨rfl,_⟩))|fail))
    refine zaO (ih (k + 1) _ (by omega) ⟨by omega, by repeat' first|exact Ext.refl _|assumption|apply Ext.push|refine Ext.trans ?_ (by assumption), fun j h1 h2 => ?_⟩) (by (focus repeat' first | rfl | exact trivial | apply And.intro))
    by_cases hjk : j = k
    ·subst hjk; exact hc
    ·exact hj j h1 (by omega)
   ·(repeat' (first|apply zal|apply zac|(apply O_at;rfl)|(apply N_at;rfl)|(apply zai;rfl)|apply zak|(apply zaR;rfl)|(apply zbs;exact zaK (by decide +kernel))|apply zan|apply zaD|apply zaH|(apply zcc;rfl;refine .inr ?_;(focus repeat' first|exact trivial|exact Keeps.nil _ _|apply And.intro|rfl|(apply Keeps.cons;iterate 2 (focus repeat' first|exact zaa|assumption|apply zab|(apply Ext.get;assumption)))))|apply zbF|apply zff|apply zdD|apply zat|((first|apply zaf|apply zad|apply zay|apply zkc);rfl;rfl;rfl;rfl)|(apply zaX;rfl;rfl;rfl;rfl;rfl;omega)|((first|apply zbk|apply zn3);rfl;rfl;rfl;rfl;rfl;(unfold fit;omega))|(apply M_fa;rfl;rfl;rfl;rfl;exact za1 rfl;(first|exact Nat.zero_add _|exact Nat.add_zero _|rfl))|(apply zei;rfl;rfl;rfl;rfl;rfl;(unfold fit;omega))|(apply zqf;rfl;rfl;rfl;rfl;rfl;exact zar rfl;exact zam rfl;(first|assumption|rfl|exact (Int.toNat_of_nonneg (by omega)).symm);omega)|(((apply zbL;rfl;rfl;rfl;rfl;exact zaF rfl);(focus repeat' first|exact zaa|assumption|apply zab|(apply Ext.get;assumption));(first|exact zbM (by omega)|exact zbN (by omega)|rfl|assumption));(first|assumption|exact zaS _ _|exact za6 _ _ _|rfl|(focus simp [same,same.all2];done));(first|rfl|assumption|exact hwv _|(focus apply zbG;(focus repeat' first|exact zaa|assumption|apply zab|(apply Ext.get;assumption));done)|(simp [within];omega)))|(apply za8;rfl;rfl;rfl;rfl;rfl;rfl;rfl;exact zdL hK hx hy (by omega) (by omega) (by omega) (by omega) (by omega);(rintro _ _ ⟨rfl,_⟩))|(apply za8;rfl;rfl;rfl;rfl;rfl;rfl;rfl;exact no (zeO hK) hc;(rintro _ _ ⟨rfl,_⟩))|fail))
    exact ⟨.inr rfl, _, rfl, .inr ⟨rfl, fun z => hc (z k (by omega) (by omega)), by repeat' first|exact Ext.refl _|assumption|apply Ext.push|refine Ext.trans ?_ (by assumption)⟩⟩
  ·(repeat' (first|apply zal|apply zac|(apply O_at;rfl)|(apply zai;rfl)|apply zak|(apply zaU;rfl)|apply zbl|apply zaH|apply zbo|apply zaY|apply zaZ|apply zat|((first|apply zaf|apply zad|apply zay|apply zkc);rfl;rfl;rfl;rfl)|(apply zby;rfl;rfl;rfl;rfl;rfl;omega)|fail))
   exact ⟨.inr rfl, _, rfl, .inl ⟨rfl, fun j h1 h2 => hj j h1 (by omega), by repeat' first|exact Ext.refl _|assumption|apply Ext.push|refine Ext.trans ?_ (by assumption)⟩⟩
 ·exact ⟨⟨Nat.le_refl _, hAC⟩, Ext.refl _, fun j h1 h2 => by omega⟩
 ·(focus repeat' first | rfl | exact trivial | apply And.intro)
theorem zlv (hK : NoK K) {p : Option Addr} {n cap bk bp ba : Nat} {ok op oa : Bool} (hP : TbP T) (hTb : TbAt T h) (hAC : A < C) (hC : C < T.s.length) (hx : -10000 <= x /\ x <= 10000) (hy : -10000 <= y /\ y <= 10000)
  (gk : h.get? bk = some (.cells [.slice T.q T.s.length T.k, .int .i64 T.r, .int .i64 T.o, .slice p n cap] 82 ok)) (gp : h.get? bp = some (.cells [.int .i64 (A : Nat), .int .i64 (C : Nat)] 123 op)) (ga : h.get? ba = some (.cells [.int .i64 y] 3 oa)) :
  CallW Tryz.prog K 117 #[.int .i64 x, .pointer (some ⟨bk, 0, none⟩), .pointer (some ⟨bp, 0, none⟩), .pointer (some ⟨ba, 0, none⟩)] h (IfB (zfU T.s T.r T.o (A : Nat) (C : Nat) x y) h) := by
 have iB : ∀ {h' : Heap}, Ext h h' -> CallW Tryz.prog K 118 #[ktV T p n cap, .agg #[.int .i64 (A : Nat), .int .i64 (C : Nat)], .int .i64 x, .int .i64 y] h' (IfB (zfU T.s T.r T.o (A : Nat) (C : Nat) x y) h') := fun z => zgT hK hP (hTb.ext z) hAC hC hx hy
 obtain ⟨q, kq, s, r, o⟩ := T
 dsimp only [ktV] at iB gk ⊢
 refine body (N := 11) Tryz.func117 rfl (hK _ _ _ rfl) rfl rfl ?_
 by_cases hc : zfU s r o (A : Nat) (C : Nat) x y
 ·(repeat' (first|apply zal|apply zac|(apply O_at;rfl)|(apply zai;rfl)|apply zak|apply zaH|apply zat|((first|apply zaf|apply zad);rfl;rfl;rfl;rfl)|(apply zap;rfl;rfl;rfl;rfl;exact zaF rfl;(focus repeat' first|assumption);(first|rfl|assumption))|(apply zaN;rfl;rfl;rfl;rfl;exact za7 rfl;(focus repeat' first|assumption);(first|exact Nat.le_of_ble_eq_true rfl|(simp;done)|(simp;omega));rfl)|(apply zao;rfl;rfl;rfl;rfl;rfl;rfl;exact yes (iB (by (focus repeat' first|exact Ext.refl _|assumption))) hc;(rintro _ _ ⟨rfl,_⟩))|fail))
  exact ⟨.inr rfl, _, rfl, .inl ⟨rfl, hc, by (focus repeat' first | exact Ext.refl _ | assumption)⟩⟩
 ·(repeat' (first|apply zal|apply zac|(apply O_at;rfl)|(apply zai;rfl)|apply zak|apply zaH|apply zat|((first|apply zaf|apply zad);rfl;rfl;rfl;rfl)|(apply zap;rfl;rfl;rfl;rfl;exact zaF rfl;(focus repeat' first|assumption);(first|rfl|assumption))|(apply zaN;rfl;rfl;rfl;rfl;exact za7 rfl;(focus repeat' first|assumption);(first|exact Nat.le_of_ble_eq_true rfl|(simp;done)|(simp;omega));rfl)|(apply zao;rfl;rfl;rfl;rfl;rfl;rfl;exact no (iB (by (focus repeat' first|exact Ext.refl _|assumption))) hc;(rintro _ _ ⟨rfl,_⟩))|fail))
  exact ⟨.inr rfl, _, rfl, .inr ⟨rfl, hc, by (focus repeat' first | exact Ext.refl _ | assumption)⟩⟩
def zd3 (s : List (Int × Int)) (r o : Int) (l : List Int) (a c y : Int) : Prop := ∃ x, x ∈ l /\ zfU s r o a c x y
theorem zpp (hK : NoK K) {l : List Int} {pl p : Option Addr} {cl n cap bk bp ba : Nat} {ok op oa : Bool} (hP : TbP T) (hTb : TbAt T h) (hAC : A < C) (hC : C < T.s.length) (hl : l.length <= 1000) (hx : ∀ x, x ∈ l -> -10000 <= x /\ x <= 10000) (hy : -10000 <= y /\ y <= 10000) (hr : Rd h pl (ints l))
  (gk : h.get? bk = some (.cells [.slice T.q T.s.length T.k, .int .i64 T.r, .int .i64 T.o, .slice p n cap] 82 ok)) (gp : h.get? bp = some (.cells [.int .i64 (A : Nat), .int .i64 (C : Nat)] 123 op)) (ga : h.get? ba = some (.cells [.int .i64 y] 3 oa)) :
  CallW Tryz.prog K 133 #[.slice pl l.length cl, .func (.func 117) #[] #[.pointer (some ⟨bk, 0, none⟩), .pointer (some ⟨bp, 0, none⟩), .pointer (some ⟨ba, 0, none⟩)]] h fun v h1 => ∃ n : Int, v = .int .i64 n /\ (0 <= n ↔ zd3 T.s T.r T.o l (A : Nat) (C : Nat) y) /\ Ext h h1 := by
 have iB : ∀ {k : Nat} {h' : Heap}, k < l.length -> Ext h h' -> CallW Tryz.prog K 117 #[.int .i64 (l.getD k 0), .pointer (some ⟨bk, 0, none⟩), .pointer (some ⟨bp, 0, none⟩), .pointer (some ⟨ba, 0, none⟩)] h' (IfB (zfU T.s T.r T.o (A : Nat) (C : Nat) (l.getD k 0) y) h') := fun {k} _ hk z => zlv hK hP (hTb.ext z) hAC hC (hx _ (mem_at.2 ⟨k, hk, rfl⟩)) hy (z.get gk) (z.get gp) (z.get ga)
 refine body (N := 19) Tryz.func133 rfl (hK _ _ _ rfl) rfl rfl ?_
 (repeat' (first|apply zal|apply zac|(apply O_at;rfl)|(apply zai;rfl)|apply zak|apply zan|((first|apply zaf|apply zad);rfl;rfl;rfl;rfl)|(apply zbf;rfl;rfl;rfl;rfl;rfl;rfl;exact zar rfl)|fail))
 refine zba (fun k : Nat => [(8, .int .i64 (k : Nat)), (7, .int .i64 (l.length : Nat)), (1, .func (.func 117) #[] #[.pointer (some ⟨bk, 0, none⟩), .pointer (some ⟨bp, 0, none⟩), .pointer (some ⟨ba, 0, none⟩)]), (0, .slice pl l.length cl)])
  (fun k h' => k <= l.length /\ Ext h h' /\ ∀ j, j < k -> ¬ zfU T.s T.r T.o (A : Nat) (C : Nat) (l.getD j 0) y) (fun k => l.length - k) ?_ 0 ⟨Nat.zero_le _, Ext.refl _, fun j hj => by omega⟩ ?_
 ·intro k h' ⟨hk, hx', hj⟩ ih
  by_cases hlt : k < l.length
  ·obtain ⟨b, e, own, rfl, hg⟩ := hr.at (by rw [zas]; omega)
   by_cases hc : zfU T.s T.r T.o (A : Nat) (C : Nat) (l.getD k 0) y
   ·(repeat' (first|apply zal|apply zac|(apply O_at;rfl)|(apply zai;rfl)|apply zak|(apply zaR;rfl)|apply zan|apply zaD|apply zaH|apply zbF|apply zff|apply zdD|apply zat|((first|apply zaf|apply zad);rfl;rfl;rfl;rfl)|(apply zaX;rfl;rfl;rfl;rfl;rfl;omega)|(apply zcp;rfl;rfl;rfl;rfl;rfl;exact zar rfl;exact zam rfl;(first|assumption|rfl|exact (Int.toNat_of_nonneg (by omega)).symm);omega)|(apply zap;rfl;rfl;rfl;rfl;exact zaF rfl;(focus repeat' first|assumption|(apply Ext.get;assumption));(first|exact zau (by omega)|rfl|assumption))|(apply zao;rfl;rfl;rfl;rfl;rfl;rfl;exact yes (iB hlt (by (focus repeat' first|exact Ext.refl _|assumption|(refine Ext.trans ?_ (by assumption))))) hc;(rintro _ _ ⟨rfl,_⟩))|fail))
    exact ⟨.inr rfl, _, rfl, (k : Int), rfl, ⟨fun _ => ⟨_, mem_at.2 ⟨k, hlt, rfl⟩, hc⟩, fun _ => by omega⟩, by (focus repeat' first | exact Ext.refl _ | assumption | (refine Ext.trans ?_ (by assumption)))⟩
   ·(repeat' (first|apply zal|apply zac|(apply O_at;rfl)|(apply zai;rfl)|apply zak|(apply zaR;rfl)|(apply zaU;rfl)|apply zan|apply zaD|apply zav|((first|apply zaf|apply zad);rfl;rfl;rfl;rfl)|(apply zaX;rfl;rfl;rfl;rfl;rfl;omega)|(apply zbk;rfl;rfl;rfl;rfl;rfl;(unfold fit;omega))|(apply zcp;rfl;rfl;rfl;rfl;rfl;exact zar rfl;exact zam rfl;(first|assumption|rfl|exact (Int.toNat_of_nonneg (by omega)).symm);omega)|(apply zap;rfl;rfl;rfl;rfl;exact zaF rfl;(focus repeat' first|assumption|(apply Ext.get;assumption));(first|exact zau (by omega)|rfl|assumption))|(apply zao;rfl;rfl;rfl;rfl;rfl;rfl;exact no (iB hlt (by (focus repeat' first|exact Ext.refl _|assumption|(refine Ext.trans ?_ (by assumption))))) hc;(rintro _ _ ⟨rfl,_⟩))|fail))
    refine zaO (ih (k + 1) _ (by omega) ⟨hlt, by (focus repeat' first | exact Ext.refl _ | assumption | (refine Ext.trans ?_ (by assumption))), fun j hj' => ?_⟩) (by (focus repeat' first | rfl | exact trivial | apply And.intro))
    by_cases hjk : j = k
    ·subst hjk; exact hc
    ·exact hj j (by omega)
  ·(repeat' (first|apply zal|apply zac|(apply O_at;rfl)|(apply zai;rfl)|apply zak|(apply zaU;rfl)|apply zbl|apply zaH|apply zbo|apply zaY|apply zaZ|apply zat|((first|apply zaf|apply zad);rfl;rfl;rfl;rfl)|(apply zby;rfl;rfl;rfl;rfl;rfl;omega)|fail))
   refine ⟨.inr rfl, _, rfl, -1, rfl, ⟨fun q => by omega, fun ⟨x, q1, q2⟩ => ?_⟩, by (focus repeat' first | exact Ext.refl _ | assumption | (refine Ext.trans ?_ (by assumption)))⟩
   obtain ⟨j, hj1, rfl⟩ := mem_at.1 q1
   exact absurd q2 (hj j (by omega))
 ·(focus repeat' first | rfl | exact trivial | apply And.intro)
theorem zj0 (hK : NoK K) {l : List Int} {pl p : Option Addr} {cl n cap bk bp ba : Nat} {ok op oa : Bool} (hP : TbP T) (hTb : TbAt T h) (hAC : A < C) (hC : C < T.s.length) (hl : l.length <= 1000) (hx : ∀ x, x ∈ l -> -10000 <= x /\ x <= 10000) (hy : -10000 <= y /\ y <= 10000) (hr : Rd h pl (ints l))
  (gk : h.get? bk = some (.cells [.slice T.q T.s.length T.k, .int .i64 T.r, .int .i64 T.o, .slice p n cap] 82 ok)) (gp : h.get? bp = some (.cells [.int .i64 (A : Nat), .int .i64 (C : Nat)] 123 op)) (ga : h.get? ba = some (.cells [.int .i64 y] 3 oa)) :
  CallW Tryz.prog K 116 #[.slice pl l.length cl, .func (.func 117) #[] #[.pointer (some ⟨bk, 0, none⟩), .pointer (some ⟨bp, 0, none⟩), .pointer (some ⟨ba, 0, none⟩)]] h (IfB (zd3 T.s T.r T.o l (A : Nat) (C : Nat) y) h) := by
 refine body (N := 9) Tryz.func116 rfl (hK _ _ _ rfl) rfl rfl ?_
 (repeat' (first|apply zal|apply zac|(apply O_at;rfl)|(apply zai;rfl)|apply zak|((first|apply zaf|apply zad);rfl;rfl;rfl;rfl)|fail))
 apply zao; rfl; rfl; rfl; rfl; rfl; rfl; exact zpp hK hP hTb hAC hC hl hx hy hr gk gp ga
 rintro _ _ ⟨n, rfl, hn, hx⟩
 by_cases hc : 0 <= n
 ·(repeat' (first|(apply O_at;rfl)|(apply zai;rfl)|apply zak|apply zaH|apply zat|((first|apply zaf|apply zad);rfl;rfl;rfl;rfl)|(apply zkb;rfl;rfl;rfl;rfl;rfl;omega)|fail))
  exact ⟨.inr rfl, _, rfl, .inl ⟨rfl, hn.1 hc, by (focus repeat' first | assumption)⟩⟩
 ·(repeat' (first|(apply O_at;rfl)|(apply zai;rfl)|apply zak|apply zaH|apply zat|((first|apply zaf|apply zad);rfl;rfl;rfl;rfl)|(apply zmM;rfl;rfl;rfl;rfl;rfl;omega)|fail))
  exact ⟨.inr rfl, _, rfl, .inr ⟨rfl, fun q => hc (hn.2 q), by (focus repeat' first | assumption)⟩⟩
end
end Go.AX.Sa
