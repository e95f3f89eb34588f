/- The law StepProved at the reading: what the functions that it calls answer (4). -/
import Derived.Test.YtjdopbcoaocllaaGreatDoorStepProvedTextC
namespace Go.AX.Sa
open Go.Proofs
set_option maxRecDepth 100000
variable {K : Known}
section
variable {T : Tb} {l : List Int} {h : Heap}
theorem ziV (hK : NoK K) {p : Option Addr} {cap : Nat} (hP : TbP T) (hKp : zbK T.s.length l) (hcap : l.length <= cap) (hll : l.length <= 1000) (hTb : TbAt T h) (hr : Rd h p (ints l)) (hpb : ∀ a, p = some a -> a.block < h.n) (hS : ¬ zbU T.s l T.r T.o) :
  CallW Tryz.prog K 38 #[tbV T, .slice p l.length cap] h (OkL (prf T.s l T.r T.o) h) := by
 have hn := hP.1
 have hl2 := hKp.1
 obtain ⟨b, e, own, rfl, hg⟩ := hr.at (by rw [zap]; omega)
 have iK : ∀ {h' : Heap}, Ext h h' -> CallW Tryz.prog K 63 #[ktV T (some ⟨b, 0, none⟩) l.length cap] h' (IsV (.bool true) h') := fun x => yes (zdQ hK (by omega) hll (hTb.ext x) (hr.ext x) (fun a w => Nat.lt_of_lt_of_le (hpb a w) x.n)) ⟨hP, hKp⟩
 have iS : ∀ {h' : Heap}, Ext h h' -> CallW Tryz.prog K 75 #[ktV T (some ⟨b, 0, none⟩) l.length cap] h' (IsV (.bool false) h') := fun x => no (zeZ hK hP hKp hcap hll (hTb.ext x) (x.get hg)) hS
 have iF : ∀ {h' : Heap}, Ext h h' -> CallW Tryz.prog K 80 #[ktV T (some ⟨b, 0, none⟩) l.length cap] h' (IsL (prf T.s l T.r T.o) h') := fun x => zgK hK hP hKp hcap hll (hTb.ext x) (x.get hg) hS
 obtain ⟨q, kq, s, r, o⟩ := T
 dsimp only [tbV, ktV] at iK iS iF ⊢
 refine body (N := 19) Tryz.func38 rfl (hK _ _ _ rfl) rfl rfl ?_
 (repeat' (first|apply zao|apply zac|(apply O_at;rfl)|(apply zaj;rfl)|apply zam|(apply zaT;rfl)|apply zaq|apply zaF|apply zaJ|apply zaL|apply zas|((first|apply zag|apply zad|apply zbD);rfl;rfl;rfl;rfl)|(apply zaA;rfl;rfl;rfl;rfl;exact zaX rfl;(focus repeat' first|exact zaa|assumption|(apply Ext.get;assumption));(first|exact Nat.le_of_ble_eq_true rfl|(simp;done)|(simp;omega)|(rw [zap];omega));rfl)|(apply zaM;rfl;rfl;rfl;rfl;exact zan rfl;rfl;rfl;rfl)|(apply zcw;rfl;rfl;rfl;rfl)|(apply zbf;rfl;rfl;rfl;rfl;exact zan rfl;rfl;rfl)|(apply za0;rfl;rfl;rfl;rfl;exact zan rfl;rfl;rfl)|(apply zal;rfl;rfl;rfl;rfl;rfl;rfl;exact iK (by repeat' first|exact Ext.refl _|assumption|apply Ext.push|refine Ext.trans ?_ (by assumption));(rintro _ _ ⟨rfl,_⟩))|(apply zal;rfl;rfl;rfl;rfl;rfl;rfl;exact iS (by repeat' first|exact Ext.refl _|assumption|apply Ext.push|refine Ext.trans ?_ (by assumption));(rintro _ _ ⟨rfl,_⟩))|(apply zal;rfl;rfl;rfl;rfl;rfl;rfl;exact iF (by repeat' first|exact Ext.refl _|assumption|apply Ext.push|refine Ext.trans ?_ (by assumption));(rintro _ _ ⟨_,_,rfl,_,_⟩))|fail))
 rename_i rd1 y1
 exact ⟨.inr rfl, _, rfl, _, _, rfl, rd1, by repeat' first|exact Ext.refl _|assumption|apply Ext.push|refine Ext.trans ?_ (by assumption)⟩
theorem zha (hK : NoK K) {p : Option Addr} {cap : Nat} (hP : TbP T) (hKp : zbK T.s.length l) (hcap : l.length <= cap) (hll : l.length <= 1000) (hTb : TbAt T h) (hr : Rd h p (ints l)) (hpb : ∀ a, p = some a -> a.block < h.n) (hS : zbU T.s l T.r T.o) :
  CallW Tryz.prog K 38 #[tbV T, .slice p l.length cap] h (IsV (.tuple #[.slice none 0 0, .int .i64 5]) h) := by
 have hn := hP.1
 have hl2 := hKp.1
 obtain ⟨b, e, own, rfl, hg⟩ := hr.at (by rw [zap]; omega)
 have iK : ∀ {h' : Heap}, Ext h h' -> CallW Tryz.prog K 63 #[ktV T (some ⟨b, 0, none⟩) l.length cap] h' (IsV (.bool true) h') := fun x => yes (zdQ hK (by omega) hll (hTb.ext x) (hr.ext x) (fun a w => Nat.lt_of_lt_of_le (hpb a w) x.n)) ⟨hP, hKp⟩
 have iS : ∀ {h' : Heap}, Ext h h' -> CallW Tryz.prog K 75 #[ktV T (some ⟨b, 0, none⟩) l.length cap] h' (IsV (.bool true) h') := fun x => yes (zeZ hK hP hKp hcap hll (hTb.ext x) (x.get hg)) hS
 obtain ⟨q, kq, s, r, o⟩ := T
 dsimp only [tbV, ktV] at iK iS ⊢
 refine body (N := 19) Tryz.func38 rfl (hK _ _ _ rfl) rfl rfl ?_
 (repeat' (first|apply zao|apply zac|(apply O_at;rfl)|(apply zaj;rfl)|apply zam|(apply zaY;rfl)|(apply zaT;rfl)|apply zaq|apply zaJ|apply zbx|apply zc4|apply zas|((first|apply zag|apply zad|apply zbD);rfl;rfl;rfl;rfl)|(apply zaA;rfl;rfl;rfl;rfl;exact zaX rfl;(focus repeat' first|exact zaa|assumption|(apply Ext.get;assumption));(first|exact Nat.le_of_ble_eq_true rfl|(simp;done)|(simp;omega)|(rw [zap];omega));rfl)|(apply zaM;rfl;rfl;rfl;rfl;exact zan rfl;rfl;rfl;rfl)|(apply zcw;rfl;rfl;rfl;rfl)|(apply zbf;rfl;rfl;rfl;rfl;exact zan rfl;rfl;rfl)|(apply za0;rfl;rfl;rfl;rfl;exact zan rfl;rfl;rfl)|(apply zal;rfl;rfl;rfl;rfl;rfl;rfl;exact iK (by repeat' first|exact Ext.refl _|assumption|apply Ext.push|refine Ext.trans ?_ (by assumption));(rintro _ _ ⟨rfl,_⟩))|(apply zal;rfl;rfl;rfl;rfl;rfl;rfl;exact iS (by repeat' first|exact Ext.refl _|assumption|apply Ext.push|refine Ext.trans ?_ (by assumption));(rintro _ _ ⟨rfl,_⟩))|fail))
 exact ⟨.inr rfl, _, rfl, rfl, by repeat' first|exact Ext.refl _|assumption|apply Ext.push|refine Ext.trans ?_ (by assumption)⟩
end
end Go.AX.Sa

namespace Go.AX.Sa
open Go.Proofs
set_option maxRecDepth 100000
variable {K : Known}
end Go.AX.Sa

namespace Go.AX.Sa
open Go.Proofs
set_option maxRecDepth 100000
variable {K : Known}
section
variable {s : List (Int × Int)} {l t : List Int} {r o : Int}
theorem zo4 (hV : Vals s) (hKp : zbK s.length l) (ho : 0 <= o) (hS : ¬ zbU s l r o) : zb8 s (prf s l r o) := by
 refine ⟨zfj, fun k hk => ?_⟩
 rw [zfj] at hk
 have f := (zkS hV hKp ho hS hk).1
 rw [zh9 k (Nat.le_refl _) hk] at f
 rw [zfk hk]
 exact f
theorem prf_not (hV : Vals s) (hKp : zbK s.length l) (ho : 0 <= o) (hS : ¬ zbU s l r o) : ¬ zfN s l (prf s l r o) r o := by
 obtain ⟨_, hN⟩ := zmd hV hKp ho hS s.length (Nat.le_refl _)
 intro hR
 apply hN
 intro j hj
 rw [zcG] at hj
 have e : (pfs s l r o s.length).getD j (0, 0) = (pfn (pfs s l r o j) l r o j, pfn (pfs s l r o j) l r o j) := zme _ hj (Nat.le_refl _)
 have eh : highs (pfs s l r o s.length) = prf s l r o := by
  refine zpp (by rw [zdT, zcG, zfj]) fun i hi => ?_
  rw [zdT, zcG] at hi
  rw [zcD (by rw [zcG]; exact hi), zme _ hi (Nat.le_refl _), zfk hi]
 have c := hR j hj
 rw [zfk hj] at c
 by_cases hm : ((j : Nat) : Int) ∈ l
 ·unfold offv
  rw [if_pos hm]
  exact ho
 ·unfold offv
  rw [if_neg hm, eh, e]
  show max (pfn (pfs s l r o j) l r o j - figv l (prf s l r o) r j) (figv l (prf s l r o) r j - pfn (pfs s l r o j) l r o j) <= o
  omega
def BefP (a b : List Int) : Prop := ∃ j, j < a.length /\ (∀ i, i < j -> a.getD i 0 = b.getD i 0) /\ a.getD j 0 < b.getD j 0
theorem znD (hV : Vals s) (hKp : zbK s.length l) (ho : 0 <= o) (hS : ¬ zbU s l r o) (hT : zb8 s t) (hB : BefP t (prf s l r o)) : zfN s l t r o := by
 obtain ⟨j, hj, h1, h2⟩ := hB
 rw [hT.1] at hj
 have hT2 : ∀ k : Nat, k < s.length -> (s.getD k (0, 0)).1 <= t.getD k 0 /\ t.getD k 0 <= (s.getD k (0, 0)).2 := fun k hk => hT.2 k (by rw [hT.1]; exact hk)
 obtain ⟨f1, f2, f3⟩ := zkS hV hKp ho hS hj
 have eP := zh9 (s := s) (l := l) (r := r) (o := o) (j := j) j (Nat.le_refl _) hj
 have lP := zcG (s := s) (l := l) (r := r) (o := o) j
 obtain ⟨vP, _⟩ := zmd hV hKp ho hS j (by omega)
 have b := hT2 j hj
 rw [zfk hj] at h2
 have hsu := f3 (t.getD j 0) (by rw [eP]; exact b.1) h2
 have hvu : Vals (nar (pfs s l r o j) j (t.getD j 0)) := zij vP (by omega) (by rw [eP]; exact b)
 have hTu : zb8 (nar (pfs s l r o j) j (t.getD j 0)) t := by
  refine ⟨by rw [zcr, lP]; exact hT.1, fun k hk => ?_⟩
  rw [hT.1] at hk
  rw [zdi (by omega)]
  by_cases q : k = j
  ·subst q
   rw [if_pos rfl]
   exact ⟨Int.le_refl _, Int.le_refl _⟩
  ·rw [if_neg q]
   by_cases q2 : k < j
   ·rw [zme _ q2 (by omega), h1 k q2, zfk hk]
    exact ⟨Int.le_refl _, Int.le_refl _⟩
   ·rw [zh9 _ (by omega) hk]
    exact hT2 k hk
 have hR := zhw hvu (by rw [zcr, lP]; exact hKp) hTu hsu
 intro k hk
 exact hR k (by rw [zcr, lP]; exact hk)
end
theorem zqb (hK : NoK K) {a c : List Int} {p q : Option Addr} {cap cap' : Nat} {h : Heap} (hl : a.length = c.length) (hn : a.length <= 1000) (hr : Rd h p (ints a)) (hq : Rd h q (ints c)) :
  CallW Tryz.prog K 43 #[.slice p a.length cap, .slice q c.length cap'] h (IfB (BefP a c) h) := by
 refine body (N := 41) Tryz.func43 rfl (hK _ _ _ rfl) rfl rfl ?_
 (repeat' (first|apply zao|apply zac|(apply O_at;rfl)|(apply zaj;rfl)|apply zam|apply zaq|((first|apply zag|apply zad|apply zaO|apply zdC);rfl;rfl;rfl;rfl)|fail))
 refine zbl (fun k : Nat => [(5, .int .i64 (k : Nat)), (1, .slice q c.length cap'), (0, .slice p a.length cap)])
  (fun k h' => k <= a.length /\ Ext h h' /\ ∀ j, j < k -> a.getD j 0 = c.getD j 0) (fun k => a.length - k) ?_ 0 ⟨Nat.zero_le _, Ext.refl _, fun j hj => by omega⟩ ?_
 ·intro k h' ⟨hk, hx, hj⟩ ih
  by_cases hlt : k < a.length
  ·obtain ⟨b, e, own, rfl, hg⟩ := hr.at (by rw [zap]; omega)
   obtain ⟨b2, e2, own2, rfl, hg2⟩ := hq.at (by rw [zap]; omega)
   have hg' := hx.get hg
   have hg2' := hx.get hg2
   by_cases hc : a.getD k 0 = c.getD k 0
   ·(repeat' (first|apply zao|apply zac|(apply O_at;rfl)|(apply N_at;rfl)|(apply zaj;rfl)|apply zam|(apply zaY;rfl)|(apply zaT;rfl)|(apply zb5;exact za2 (by decide +kernel))|apply zaq|apply zaF|(apply zdk;rfl;exact (.inl (Nat.le_refl 1)))|apply zaL|((first|apply zag|apply zad|apply zaO|apply zdC);rfl;rfl;rfl;rfl)|(apply zbk;rfl;rfl;rfl;rfl;rfl;rfl;exact zaB rfl)|(apply za4;rfl;rfl;rfl;rfl;rfl;rfl)|(apply zba;rfl;rfl;rfl;rfl;rfl;omega)|(apply zbS;rfl;rfl;rfl;rfl;rfl;(unfold fit;omega))|(apply zqr;rfl;rfl;rfl;rfl;rfl;omega)|(apply zc3;rfl;rfl;rfl;rfl;rfl;exact zaB rfl;exact zan rfl;(first|assumption|rfl|exact (Int.toNat_of_nonneg (by omega)).symm);omega)|(((apply zcl;rfl;rfl;rfl;rfl;exact zaK rfl;exact zbJ (by decide +kernel));(focus repeat' first|assumption|(apply Ext.get;assumption));(first|exact zaH (by omega)|rfl|assumption));(first|assumption|exact zbs _ _|rfl|(focus simp [same,same.all2];done));(first|rfl|assumption|exact hwv _|(simp [within];omega)))|fail))
    refine za5 (ih (k + 1) _ (by omega) ⟨hlt, by (focus repeat' first | exact Ext.refl _ | assumption), fun j hj' => ?_⟩) (by (focus repeat' first | rfl | exact trivial | apply And.intro))
    by_cases hjk : j = k
    ·subst hjk; exact hc
    ·exact hj j (by omega)
   ·by_cases hc2 : a.getD k 0 < c.getD k 0
    ·(repeat' (first|apply zao|apply zac|(apply O_at;rfl)|(apply N_at;rfl)|(apply zaj;rfl)|apply zam|(apply zaY;rfl)|(apply zb5;exact za2 (by decide +kernel))|apply zaq|apply zaF|apply zaJ|(apply zdk;rfl;exact (.inl (Nat.le_refl 1)))|apply zbx|apply zdF|apply zc4|apply zas|((first|apply zag|apply zad|apply zaO|apply zdC);rfl;rfl;rfl;rfl)|(apply zbk;rfl;rfl;rfl;rfl;rfl;rfl;exact zaB rfl)|(apply za4;rfl;rfl;rfl;rfl;rfl;rfl)|(apply zba;rfl;rfl;rfl;rfl;rfl;omega)|(apply M_lssT;rfl;rfl;rfl;rfl;rfl;omega)|(apply zm2;rfl;rfl;rfl;rfl;rfl;omega)|(apply zc3;rfl;rfl;rfl;rfl;rfl;exact zaB rfl;exact zan rfl;(first|assumption|rfl|exact (Int.toNat_of_nonneg (by omega)).symm);omega)|(((apply zcl;rfl;rfl;rfl;rfl;exact zaK rfl;exact zbJ (by decide +kernel));(focus repeat' first|assumption|(apply Ext.get;assumption));(first|exact zaH (by omega)|rfl|assumption));(first|assumption|exact zbs _ _|rfl|(focus simp [same,same.all2];done));(first|rfl|assumption|exact hwv _|(simp [within];omega)))|fail))
     exact ⟨.inr rfl, _, rfl, .inl ⟨rfl, ⟨k, hlt, hj, hc2⟩, by (focus repeat' first | exact Ext.refl _ | assumption)⟩⟩
    ·(repeat' (first|apply zao|apply zac|(apply O_at;rfl)|(apply N_at;rfl)|(apply zaj;rfl)|apply zam|(apply zaY;rfl)|(apply zb5;exact za2 (by decide +kernel))|apply zaq|apply zaF|apply zaJ|(apply zdk;rfl;exact (.inl (Nat.le_refl 1)))|apply zbx|apply zdF|apply zc4|apply zas|((first|apply zag|apply zad|apply zaO|apply zdC);rfl;rfl;rfl;rfl)|(apply zbk;rfl;rfl;rfl;rfl;rfl;rfl;exact zaB rfl)|(apply za4;rfl;rfl;rfl;rfl;rfl;rfl)|(apply zba;rfl;rfl;rfl;rfl;rfl;omega)|(apply zm3;rfl;rfl;rfl;rfl;rfl;omega)|(apply zm2;rfl;rfl;rfl;rfl;rfl;omega)|(apply zc3;rfl;rfl;rfl;rfl;rfl;exact zaB rfl;exact zan rfl;(first|assumption|rfl|exact (Int.toNat_of_nonneg (by omega)).symm);omega)|(((apply zcl;rfl;rfl;rfl;rfl;exact zaK rfl;exact zbJ (by decide +kernel));(focus repeat' first|assumption|(apply Ext.get;assumption));(first|exact zaH (by omega)|rfl|assumption));(first|assumption|exact zbs _ _|rfl|(focus simp [same,same.all2];done));(first|rfl|assumption|exact hwv _|(simp [within];omega)))|fail))
     refine ⟨.inr rfl, _, rfl, .inr ⟨rfl, fun ⟨j, q1, q2, q3⟩ => ?_, by (focus repeat' first | exact Ext.refl _ | assumption)⟩⟩
     rcases Nat.lt_trichotomy j k with z | z | z
     ·have := hj j z; omega
     ·subst z; exact hc2 q3
     ·exact hc (q2 k z)
  ·obtain rfl : k = a.length := by omega
   (repeat' (first|apply zao|apply zac|(apply O_at;rfl)|(apply zaj;rfl)|apply zam|(apply zaT;rfl)|apply zbr|apply zaJ|apply zbF|apply za7|apply za8|apply zas|(apply zb9;rfl;rfl;rfl)|((first|apply zag|apply zad|apply zaO|apply zdC);rfl;rfl;rfl;rfl)|(apply zbk;rfl;rfl;rfl;rfl;rfl;rfl;exact zaB rfl)|(apply za4;rfl;rfl;rfl;rfl;rfl;rfl)|(apply zbP;rfl;rfl;rfl;rfl;rfl;omega)|fail))
   exact ⟨.inr rfl, _, rfl, .inr ⟨rfl, fun ⟨j, q1, q2, q3⟩ => by have := hj j q1; omega, by (focus repeat' first | exact Ext.refl _ | assumption)⟩⟩
 ·(focus repeat' first | rfl | exact trivial | apply And.intro)
end Go.AX.Sa

namespace Go.AX.Sa
open Go.Proofs
set_option maxRecDepth 100000
variable {K : Known}
set_option maxHeartbeats 8000000 in
theorem zhS (hK : NoK K) (hKn : Kn K) {T : Tb} {l t : List Int} {p pt : Option Addr} {cap ct : Nat} {of : Int} {h : Heap} (hTb : TbAt T h) (hl : RowAt p l cap h) (ht : RowAt pt t ct h) :
  CallW Tryz.prog K 10 #[tbV T, .slice p l.length cap, .slice pt t.length ct, .int .i64 of] h (fun v _ => v = .bool true) := by
 have iL : ∀ {h' : Heap}, Ext h h' -> CallW Tryz.prog K 26 #[tbV T, .slice p l.length cap] h' (IfB (zmU T l) h') := fun x => zlc hK (hTb.ext x) (hl.ext x)
 have iU : ∀ {m : List Int} {pm : Option Addr} {cm : Nat} {h' : Heap}, T.s.length <= 16 -> m.length <= 16 -> Rd h' pm (ints m) -> Ext h h' -> CallW Tryz.prog K 22 #[tbV T, .slice pm m.length cm] h' (IfB (zb8 T.s m) h') := fun a b g x => zkO hK (by omega) (hTb.ext x).rd (by omega) g
 have iR := fun {m : List Int} {pm : Option Addr} {cm : Nat} {h' : Heap} (a : TbP T) (b : zbK T.s.length l) (c : zb8 T.s m) (d : l.length <= 16) (g : Rd h' pm (ints m)) (x : Ext h h') => right_ok (cap := cap) (ct := cm) hK a b c (hl.cap (by omega)) (by omega) (hTb.ext x) (hl.ext x).rd g (hl.ext x).b
 have iP : ∀ {h' : Heap}, TbP T -> zbK T.s.length l -> l.length <= 16 -> ¬ zbU T.s l T.r T.o -> Ext h h' -> CallW Tryz.prog K 38 #[tbV T, .slice p l.length cap] h' (OkL (prf T.s l T.r T.o) h') := fun a b d c x => ziV hK a b (hl.cap (by omega)) (by omega) (hTb.ext x) (hl.ext x).rd (hl.ext x).b c
 have iPn : ∀ {h' : Heap}, TbP T -> zbK T.s.length l -> l.length <= 16 -> zbU T.s l T.r T.o -> Ext h h' -> CallW Tryz.prog K 38 #[tbV T, .slice p l.length cap] h' (IsV (.tuple #[.slice none 0 0, .int .i64 5]) h') := fun a b d c x => zha hK a b (hl.cap (by omega)) (by omega) (hTb.ext x) (hl.ext x).rd (hl.ext x).b c
 have iM : ∀ {h' : Heap}, TbP T -> zbK T.s.length l -> l.length <= 16 -> Ext h h' -> CallW Tryz.prog K 39 #[tbV T, .slice p l.length cap] h' (IsV (.tuple #[.int .i64 (lst T.s l T.r T.s.length), .int .i64 0]) h') := fun a b d x => ziW hK a b (hl.cap (by omega)) (by omega) (hTb.ext x) (hl.ext x).rd (hl.ext x).b
 have iW : ∀ {w : Int} {h' : Heap}, TbP ⟨T.q, T.k, T.s, T.r, of⟩ -> zbK T.s.length l -> l.length <= 16 -> WordP T.s l T.r of w -> Ext h h' -> CallW Tryz.prog K 33 #[.agg #[.slice T.q T.s.length T.k, .int .i64 T.r, .int .i64 of], .slice p l.length cap] h' (IsV (.tuple #[.int .i64 w, .int .i64 0]) h') := fun a b d c x => word_ok (T := ⟨T.q, T.k, T.s, T.r, of⟩) hK a b (hl.cap (by omega)) (by omega) ⟨(hTb.ext x).rd, (hTb.ext x).b⟩ (hl.ext x).rd (hl.ext x).b c
 obtain ⟨q, kq, s, r, o⟩ := T
 have hqb : ∀ a, q = some a -> a.block < h.n := hTb.b
 dsimp only [tbV] at *
 by_cases hRT : zmU ⟨q, kq, s, r, o⟩ l
 case neg =>
  refine body (N := 148) Tryz.func10 rfl (hK _ _ _ rfl) rfl rfl ?_
  (repeat' (first|apply zao|apply zac|(apply O_at;rfl)|(apply zaj;rfl)|apply zam|(apply zaY;rfl)|apply zaJ|apply zbx|apply zas|(apply zb9;rfl;rfl;rfl)|((first|apply zag|apply zad|apply zbD);rfl;rfl;rfl;rfl)|(apply za4;rfl;rfl;rfl;rfl;rfl;rfl)|(apply zaA;rfl;rfl;rfl;rfl;exact zaX rfl;(focus repeat' first|exact zaa|assumption|apply zab|(apply Ext.get;assumption)|(apply ExtBut.get;assumption;(first|assumption|omega|(simp only [Heap.push];omega))));(first|exact Nat.le_of_ble_eq_true rfl|(simp;done)|(simp;omega)|(rw [zap];omega));rfl)|(apply zbf;rfl;rfl;rfl;rfl;exact zan rfl;rfl;rfl)|(apply zal;rfl;rfl;rfl;rfl;rfl;rfl;exact no (iL (by (focus repeat' first|exact Ext.refl _|assumption|apply Ext.push|(refine Ext.trans ?_ (by assumption))|(refine Ext.ofBut ?_ (by assumption) (by first|exact Nat.le_refl _|omega))))) hRT;(rintro _ _ ⟨rfl,_⟩))|(apply zal;rfl;rfl;rfl;rfl;rfl;rfl;exact zds hKn;(rintro _ _ ⟨rfl,_⟩))|fail))
  exact ⟨.inr rfl, _, rfl, rfl⟩
 obtain ⟨hs, hl16, hP, hKp⟩ := id hRT
 have hV := hP.2.1
 have hOff := hP.2.2.2
 have hn := hP.1
 have hru := hP.2.2.1
 dsimp only [OffP] at hs hKp hV hOff hn hru
 have hl2 := hKp.1
 by_cases ht16 : t.length <= 16
 case neg =>
  refine body (N := 148) Tryz.func10 rfl (hK _ _ _ rfl) rfl rfl ?_
  (repeat' (first|apply zao|apply zac|(apply O_at;rfl)|(apply zaj;rfl)|apply zam|(apply zaY;rfl)|apply zaJ|apply zbx|apply zas|(apply zb9;rfl;rfl;rfl)|((first|apply zag|apply zad|apply zbD);rfl;rfl;rfl;rfl)|(apply zbk;rfl;rfl;rfl;rfl;rfl;rfl;exact zaB rfl)|(apply za4;rfl;rfl;rfl;rfl;rfl;rfl)|(apply zkh;rfl;rfl;rfl;rfl;rfl;omega)|(apply zaA;rfl;rfl;rfl;rfl;exact zaX rfl;(focus repeat' first|exact zaa|assumption|apply zab|(apply Ext.get;assumption)|(apply ExtBut.get;assumption;(first|assumption|omega|(simp only [Heap.push];omega))));(first|exact Nat.le_of_ble_eq_true rfl|(simp;done)|(simp;omega)|(rw [zap];omega));rfl)|(apply zbf;rfl;rfl;rfl;rfl;exact zan rfl;rfl;rfl)|(apply zal;rfl;rfl;rfl;rfl;rfl;rfl;exact yes (iL (by (focus repeat' first|exact Ext.refl _|assumption|apply Ext.push|(refine Ext.trans ?_ (by assumption))|(refine Ext.ofBut ?_ (by assumption) (by first|exact Nat.le_refl _|omega))))) hRT;(rintro _ _ ⟨rfl,_⟩))|(apply zal;rfl;rfl;rfl;rfl;rfl;rfl;exact zds hKn;(rintro _ _ ⟨rfl,_⟩))|fail))
  exact ⟨.inr rfl, _, rfl, rfl⟩
 by_cases hT : zb8 s t
 case neg =>
  refine body (N := 148) Tryz.func10 rfl (hK _ _ _ rfl) rfl rfl ?_
  (repeat' (first|apply zao|apply zac|(apply O_at;rfl)|(apply zaj;rfl)|apply zam|(apply zaY;rfl)|apply zaJ|apply zbx|apply zas|(apply zb9;rfl;rfl;rfl)|((first|apply zag|apply zad|apply zbD);rfl;rfl;rfl;rfl)|(apply zbk;rfl;rfl;rfl;rfl;rfl;rfl;exact zaB rfl)|(apply za4;rfl;rfl;rfl;rfl;rfl;rfl)|(apply zfO;rfl;rfl;rfl;rfl;rfl;omega)|(apply zaA;rfl;rfl;rfl;rfl;exact zaX rfl;(focus repeat' first|exact zaa|assumption|apply zab|(apply Ext.get;assumption)|(apply ExtBut.get;assumption;(first|assumption|omega|(simp only [Heap.push];omega))));(first|exact Nat.le_of_ble_eq_true rfl|(simp;done)|(simp;omega)|(rw [zap];omega));rfl)|(apply zbf;rfl;rfl;rfl;rfl;exact zan rfl;rfl;rfl)|(apply zal;rfl;rfl;rfl;rfl;rfl;rfl;exact yes (iL (by (focus repeat' first|exact Ext.refl _|assumption|apply Ext.push|(refine Ext.trans ?_ (by assumption))|(refine Ext.ofBut ?_ (by assumption) (by first|exact Nat.le_refl _|omega))))) hRT;(rintro _ _ ⟨rfl,_⟩))|(apply zal;rfl;rfl;rfl;rfl;rfl;rfl;exact no (iU hs ht16 (ht.rd.ext (by (focus repeat' first|exact Ext.refl _|assumption|apply Ext.push|(refine Ext.trans ?_ (by assumption))|(refine Ext.ofBut ?_ (by assumption) (by first|exact Nat.le_refl _|omega))))) (by (focus repeat' first|exact Ext.refl _|assumption|apply Ext.push|(refine Ext.trans ?_ (by assumption))|(refine Ext.ofBut ?_ (by assumption) (by first|exact Nat.le_refl _|omega))))) hT;(rintro _ _ ⟨rfl,_⟩))|(apply zal;rfl;rfl;rfl;rfl;rfl;rfl;exact zds hKn;(rintro _ _ ⟨rfl,_⟩))|fail))
  exact ⟨.inr rfl, _, rfl, rfl⟩
 by_cases hof : OffP of
 case neg =>
  refine body (N := 148) Tryz.func10 rfl (hK _ _ _ rfl) rfl rfl ?_
  (repeat' (first|apply zao|apply zac|(apply O_at;rfl)|(apply zaj;rfl)|apply zam|(apply zaY;rfl)|apply zaJ|apply zbx|apply zas|((first|apply zag|apply zad|apply zbD);rfl;rfl;rfl;rfl)|(apply zbk;rfl;rfl;rfl;rfl;rfl;rfl;exact zaB rfl)|(apply za4;rfl;rfl;rfl;rfl;rfl;rfl)|(apply zfO;rfl;rfl;rfl;rfl;rfl;omega)|(apply zaA;rfl;rfl;rfl;rfl;exact zaX rfl;(focus repeat' first|exact zaa|assumption|apply zab|(apply Ext.get;assumption)|(apply ExtBut.get;assumption;(first|assumption|omega|(simp only [Heap.push];omega))));(first|exact Nat.le_of_ble_eq_true rfl|(simp;done)|(simp;omega)|(rw [zap];omega));rfl)|(apply zbf;rfl;rfl;rfl;rfl;exact zan rfl;rfl;rfl)|(apply zal;rfl;rfl;rfl;rfl;rfl;rfl;exact yes (iL (by (focus repeat' first|exact Ext.refl _|assumption|apply Ext.push|(refine Ext.trans ?_ (by assumption))|(refine Ext.ofBut ?_ (by assumption) (by first|exact Nat.le_refl _|omega))))) hRT;(rintro _ _ ⟨rfl,_⟩))|(apply zal;rfl;rfl;rfl;rfl;rfl;rfl;exact yes (iU hs ht16 (ht.rd.ext (by (focus repeat' first|exact Ext.refl _|assumption|apply Ext.push|(refine Ext.trans ?_ (by assumption))|(refine Ext.ofBut ?_ (by assumption) (by first|exact Nat.le_refl _|omega))))) (by (focus repeat' first|exact Ext.refl _|assumption|apply Ext.push|(refine Ext.trans ?_ (by assumption))|(refine Ext.ofBut ?_ (by assumption) (by first|exact Nat.le_refl _|omega))))) hT;(rintro _ _ ⟨rfl,_⟩))|(apply zal;rfl;rfl;rfl;rfl;rfl;rfl;exact no (zeQ hK) hof;(rintro _ _ ⟨rfl,_⟩))|(apply zal;rfl;rfl;rfl;rfl;rfl;rfl;exact zds hKn;(rintro _ _ ⟨rfl,_⟩))|fail))
  exact ⟨.inr rfl, _, rfl, rfl⟩
 have htl := hT.1
 have hof' := hof
 unfold OffP at hof'
 obtain ⟨w, hW⟩ := word_ex s l r of
 have hle := lst_le (s := s) (l := l) (r := r) (o := o) hOff.1 s.length
 have hlf := lst_le (s := s) (l := l) (r := r) (o := of) hof'.1 s.length
 have hl0 := lst_lo s l r s.length
 have hw3 : (w = 3 /\ lst s l r s.length <= of) \/ (w ≠ 3 /\ of < lst s l r s.length) := by
  rcases hW with ⟨hS, rfl⟩ | ⟨hS, _, rfl⟩ | ⟨hS, _, rfl⟩
  ·exact .inl ⟨rfl, hlf.2 hS⟩
  ·exact .inr ⟨by decide, by have : ¬ lst s l r s.length <= of := fun z => hS (hlf.1 z); omega⟩
  ·exact .inr ⟨by decide, by have : ¬ lst s l r s.length <= of := fun z => hS (hlf.1 z); omega⟩
 have jW := fun {h' : Heap} (x : Ext h h') => iW ⟨hn, hV, hru, hof⟩ hKp hl16 hW x
 have jM := fun {h' : Heap} (x : Ext h h') => iM hP hKp hl16 x
 obtain ⟨isb, hisb⟩ : ∃ isb : Bool, (isb = true /\ zfN s l t r o) \/ (isb = false /\ ¬ zfN s l t r o) := by
  by_cases hR : zfN s l t r o
  ·exact ⟨true, .inl ⟨rfl, hR⟩⟩
  ·exact ⟨false, .inr ⟨rfl, hR⟩⟩
 have jR : ∀ {h' : Heap}, Ext h h' -> CallW Tryz.prog K 19 #[.agg #[.slice q s.length kq, .int .i64 r, .int .i64 o], .slice p l.length cap, .slice pt t.length ct] h' (IsV (.tuple #[.bool isb, .int .i64 0]) h') := by
  intro h' x
  rcases hisb with ⟨rfl, hR⟩ | ⟨rfl, hR⟩
  ·exact okY (iR hP hKp hT hl16 (ht.rd.ext x) x) hR
  ·exact okN (iR hP hKp hT hl16 (ht.rd.ext x) x) hR
 by_cases hS : zbU s l r o
 ·have hlo : lst s l r s.length <= o := hle.2 hS
  have hi : isb = true := by
   rcases hisb with ⟨e, _⟩ | ⟨_, hR⟩
   ·exact e
   ·exact absurd (zhw hV hKp hT hS) hR
  subst hi
  have jP := fun {h' : Heap} (x : Ext h h') => iPn hP hKp hl16 hS x
  clear iW iM iP iPn iR hW hisb
  rcases hw3 with ⟨hw, hww⟩ | ⟨hw, hww⟩
  all_goals
   refine body (N := 148) Tryz.func10 rfl (hK _ _ _ rfl) rfl rfl ?_
   (repeat' (first|apply zao|apply zac|(apply O_at;rfl)|(apply zaj;rfl)|apply zam|(apply zaT;rfl)|apply zaF|((first|apply zag|apply zad|apply zbD);rfl;rfl;rfl;rfl)|(apply P_fa;rfl;rfl;rfl;rfl;exact zbd rfl;(first|exact Nat.zero_add _|exact Nat.add_zero _|rfl))|(apply zbk;rfl;rfl;rfl;rfl;rfl;rfl;exact zaB rfl)|(apply za4;rfl;rfl;rfl;rfl;rfl;rfl)|(apply zbY;rfl;rfl;rfl;rfl;rfl)|(apply zfO;rfl;rfl;rfl;rfl;rfl;omega)|(apply zaA;rfl;rfl;rfl;rfl;exact zaX rfl;(focus repeat' first|exact zaa|assumption|apply zab|(apply Ext.get;assumption)|(apply ExtBut.get;assumption;(first|assumption|omega|(simp only [Heap.push];omega))));(first|exact Nat.le_of_ble_eq_true rfl|(simp;done)|(simp;omega)|(rw [zap];omega));rfl)|(apply zaM;rfl;rfl;rfl;rfl;exact zan rfl;rfl;rfl;rfl)|(apply zbf;rfl;rfl;rfl;rfl;exact zan rfl;rfl;rfl)|(apply za0;rfl;rfl;rfl;rfl;exact zan rfl;rfl;rfl)|(apply zal;rfl;rfl;rfl;rfl;rfl;rfl;exact yes (iL (by (focus repeat' first|exact Ext.refl _|assumption|apply Ext.push|(refine Ext.trans ?_ (by assumption))|(refine Ext.ofBut ?_ (by assumption) (by first|exact Nat.le_refl _|omega))))) hRT;(rintro _ _ ⟨rfl,_⟩))|(apply zal;rfl;rfl;rfl;rfl;rfl;rfl;exact yes (iU hs ht16 (ht.rd.ext (by (focus repeat' first|exact Ext.refl _|assumption|apply Ext.push|(refine Ext.trans ?_ (by assumption))|(refine Ext.ofBut ?_ (by assumption) (by first|exact Nat.le_refl _|omega))))) (by (focus repeat' first|exact Ext.refl _|assumption|apply Ext.push|(refine Ext.trans ?_ (by assumption))|(refine Ext.ofBut ?_ (by assumption) (by first|exact Nat.le_refl _|omega))))) hT;(rintro _ _ ⟨rfl,_⟩))|(apply zal;rfl;rfl;rfl;rfl;rfl;rfl;exact yes (zeQ hK) hof;(rintro _ _ ⟨rfl,_⟩))|(apply zal;rfl;rfl;rfl;rfl;rfl;rfl;exact jP (by (focus repeat' first|exact Ext.refl _|assumption|apply Ext.push|(refine Ext.trans ?_ (by assumption))|(refine Ext.ofBut ?_ (by assumption) (by first|exact Nat.le_refl _|omega))));(rintro _ _ ⟨rfl,_⟩))|(apply zal;rfl;rfl;rfl;rfl;rfl;rfl;exact jM (by (focus repeat' first|exact Ext.refl _|assumption|apply Ext.push|(refine Ext.trans ?_ (by assumption))|(refine Ext.ofBut ?_ (by assumption) (by first|exact Nat.le_refl _|omega))));(rintro _ _ ⟨rfl,_⟩))|(apply zal;rfl;rfl;rfl;rfl;rfl;rfl;exact jR (by (focus repeat' first|exact Ext.refl _|assumption|apply Ext.push|(refine Ext.trans ?_ (by assumption))|(refine Ext.ofBut ?_ (by assumption) (by first|exact Nat.le_refl _|omega))));(rintro _ _ ⟨rfl,_⟩))|fail))
   rename_i g1 x1 g2 x2 g3 x3 g4 x4 g5 x5 g6 x6
   have e6 := x1.trans (x2.trans (x3.trans (x4.trans (x5.trans x6))))
   have n6 := e6.n
   simp only [Heap.push] at n6
   refine zdB (c' := [.slice q s.length kq, .int .i64 r, .int .i64 of]) rfl rfl rfl rfl zaa (zan rfl) rfl (Nat.le_of_ble_eq_true rfl) rfl rfl ?_
   intro g7 gg7 x7
   have gb7 : g7.get? h.n = some (.cells [.slice q s.length kq, .int .i64 r, .int .i64 o] 25 true) := x7.get (by omega) (zab (e6.get zaa))
   (repeat' (first|apply zao|apply zac|(apply O_at;rfl)|(apply zaj;rfl)|apply zam|(apply zaY;rfl)|(apply zaT;rfl)|apply zaF|apply zaJ|apply zbx|apply zas|((first|apply zag|apply zad|apply zbD);rfl;rfl;rfl;rfl)|(apply P_fa;rfl;rfl;rfl;rfl;exact zbd rfl;(first|exact Nat.zero_add _|exact Nat.add_zero _|rfl))|(apply za4;rfl;rfl;rfl;rfl;rfl;rfl)|(apply zbY;rfl;rfl;rfl;rfl;rfl)|(apply zbP;rfl;rfl;rfl;rfl;rfl;omega)|(apply zmY;rfl;rfl;rfl;rfl;rfl;omega)|(apply zmX;rfl;rfl;rfl;rfl;rfl;omega)|(apply zki;rfl;rfl;rfl;rfl;rfl;omega)|(apply zg5;rfl;rfl;rfl;rfl;rfl;omega)|(apply zmW;rfl;rfl;rfl;rfl;rfl;omega)|(apply P_neqT;rfl;rfl;rfl;rfl;rfl;omega)|(apply zat;rfl;rfl;rfl;rfl;exact zaK rfl;(focus repeat' first|exact zaa|assumption|apply zab|(apply Ext.get;assumption)|(apply ExtBut.get;assumption;(first|assumption|omega|(simp only [Heap.push];omega))));(first|rfl|assumption))|(apply zaA;rfl;rfl;rfl;rfl;exact zaX rfl;(focus repeat' first|exact zaa|assumption|apply zab|(apply Ext.get;assumption)|(apply ExtBut.get;assumption;(first|assumption|omega|(simp only [Heap.push];omega))));(first|exact Nat.le_of_ble_eq_true rfl|(simp;done)|(simp;omega)|(rw [zap];omega));rfl)|(apply P_neqB;rfl;rfl;rfl;rfl;rfl;rfl)|(apply zal;rfl;rfl;rfl;rfl;rfl;rfl;exact jW (by (focus repeat' first|exact Ext.refl _|assumption|apply Ext.push|(refine Ext.trans ?_ (by assumption))|(refine Ext.ofBut ?_ (by assumption) (by first|exact Nat.le_refl _|omega))));(rintro _ _ ⟨rfl,_⟩))|(apply zal;rfl;rfl;rfl;rfl;rfl;rfl;exact zds hKn;(rintro _ _ ⟨rfl,_⟩))|fail))
   exact ⟨.inr rfl, _, rfl, rfl⟩
 ·have hlo : o < lst s l r s.length := by
   have : ¬ lst s l r s.length <= o := fun z => hS (hle.1 z)
   omega
  have jP := fun {h' : Heap} (x : Ext h h') => iP hP hKp hl16 hS x
  have hpT := zo4 hV hKp hOff.1 hS
  have hpl := zfj (s := s) (l := l) (r := r) (o := o)
  have hpN := prf_not hV hKp hOff.1 hS
  have jR2 := fun {pm : Option Addr} {cm : Nat} {h' : Heap} (g : Rd h' pm (ints (prf s l r o))) (x : Ext h h') => okN (@iR (prf s l r o) pm cm h' hP hKp hpT hl16 g x) hpN
  have hbf : isb = true \/ (isb = false /\ ¬ BefP t (prf s l r o)) := by
   rcases hisb with ⟨e, _⟩ | ⟨e, hR⟩
   ·exact .inl e
   ·exact .inr ⟨e, fun z => hR (znD hV hKp hOff.1 hS hT z)⟩
  clear iW iM iP iPn iR hW hisb
  generalize prf s l r o = D at *
  rcases hw3 with ⟨hw, hww⟩ | ⟨hw, hww⟩
  all_goals rcases hbf with rfl | ⟨rfl, hB⟩
  all_goals
   refine body (N := 148) Tryz.func10 rfl (hK _ _ _ rfl) rfl rfl ?_
   (repeat' (first|apply zao|apply zac|(apply O_at;rfl)|(apply zaj;rfl)|apply zam|(apply zaT;rfl)|apply zaF|((first|apply zag|apply zad|apply zbD);rfl;rfl;rfl;rfl)|(apply P_fa;rfl;rfl;rfl;rfl;exact zbd rfl;(first|exact Nat.zero_add _|exact Nat.add_zero _|rfl))|(apply zbk;rfl;rfl;rfl;rfl;rfl;rfl;exact zaB rfl)|(apply za4;rfl;rfl;rfl;rfl;rfl;rfl)|(apply zbY;rfl;rfl;rfl;rfl;rfl)|(apply zfO;rfl;rfl;rfl;rfl;rfl;omega)|(apply zaA;rfl;rfl;rfl;rfl;exact zaX rfl;(focus repeat' first|exact zaa|assumption|apply zab|(apply Ext.get;assumption)|(apply ExtBut.get;assumption;(first|assumption|omega|(simp only [Heap.push];omega))));(first|exact Nat.le_of_ble_eq_true rfl|(simp;done)|(simp;omega)|(rw [zap];omega));rfl)|(apply zaM;rfl;rfl;rfl;rfl;exact zan rfl;rfl;rfl;rfl)|(apply zbf;rfl;rfl;rfl;rfl;exact zan rfl;rfl;rfl)|(apply za0;rfl;rfl;rfl;rfl;exact zan rfl;rfl;rfl)|(apply zal;rfl;rfl;rfl;rfl;rfl;rfl;exact yes (iL (by (focus repeat' first|exact Ext.refl _|assumption|apply Ext.push|(refine Ext.trans ?_ (by assumption))|(refine Ext.ofBut ?_ (by assumption) (by first|exact Nat.le_refl _|omega))))) hRT;(rintro _ _ ⟨rfl,_⟩))|(apply zal;rfl;rfl;rfl;rfl;rfl;rfl;exact yes (iU hs ht16 (ht.rd.ext (by (focus repeat' first|exact Ext.refl _|assumption|apply Ext.push|(refine Ext.trans ?_ (by assumption))|(refine Ext.ofBut ?_ (by assumption) (by first|exact Nat.le_refl _|omega))))) (by (focus repeat' first|exact Ext.refl _|assumption|apply Ext.push|(refine Ext.trans ?_ (by assumption))|(refine Ext.ofBut ?_ (by assumption) (by first|exact Nat.le_refl _|omega))))) hT;(rintro _ _ ⟨rfl,_⟩))|(apply zal;rfl;rfl;rfl;rfl;rfl;rfl;exact yes (zeQ hK) hof;(rintro _ _ ⟨rfl,_⟩))|(apply zal;rfl;rfl;rfl;rfl;rfl;rfl;exact jP (by (focus repeat' first|exact Ext.refl _|assumption|apply Ext.push|(refine Ext.trans ?_ (by assumption))|(refine Ext.ofBut ?_ (by assumption) (by first|exact Nat.le_refl _|omega))));(rintro _ _ ⟨_,_,rfl,_,_⟩))|(apply zal;rfl;rfl;rfl;rfl;rfl;rfl;exact jM (by (focus repeat' first|exact Ext.refl _|assumption|apply Ext.push|(refine Ext.trans ?_ (by assumption))|(refine Ext.ofBut ?_ (by assumption) (by first|exact Nat.le_refl _|omega))));(rintro _ _ ⟨rfl,_⟩))|(apply zal;rfl;rfl;rfl;rfl;rfl;rfl;exact jR (by (focus repeat' first|exact Ext.refl _|assumption|apply Ext.push|(refine Ext.trans ?_ (by assumption))|(refine Ext.ofBut ?_ (by assumption) (by first|exact Nat.le_refl _|omega))));(rintro _ _ ⟨rfl,_⟩))|fail))
   rename_i g1 x1 g2 x2 g3 x3 g4 pd cd rdd x4 g5 x5 g6 x6
   have e6 := x1.trans (x2.trans (x3.trans (x4.trans (x5.trans x6))))
   have rd6 : Rd g6 pd (ints D) := rdd.ext (x5.trans x6)
   have n6 := e6.n
   simp only [Heap.push] at n6
   obtain ⟨bd, ed, ownd, rfl, gd⟩ := rd6.at (by rw [zap]; omega)
   have lbd := Heap.get_lt gd
   refine zdB (c' := [.slice q s.length kq, .int .i64 r, .int .i64 of]) rfl rfl rfl rfl zaa (zan rfl) rfl (Nat.le_of_ble_eq_true rfl) rfl rfl ?_
   intro g7 gg7 x7
   have gb7 : g7.get? h.n = some (.cells [.slice q s.length kq, .int .i64 r, .int .i64 o] 25 true) := x7.get (by omega) (zab (e6.get zaa))
   have gd7 := x7.get (by omega) (zab gd)
   (repeat' (first|apply zao|apply zac|(apply O_at;rfl)|(apply zaj;rfl)|apply zam|(apply zaT;rfl)|apply zaF|(apply zb9;rfl;rfl;rfl)|((first|apply zag|apply zad|apply zbD);rfl;rfl;rfl;rfl)|(apply P_fa;rfl;rfl;rfl;rfl;exact zbd rfl;(first|exact Nat.zero_add _|exact Nat.add_zero _|rfl))|(apply za4;rfl;rfl;rfl;rfl;rfl;rfl)|(apply zbY;rfl;rfl;rfl;rfl;rfl)|(apply zbP;rfl;rfl;rfl;rfl;rfl;omega)|(apply zmY;rfl;rfl;rfl;rfl;rfl;omega)|(apply zmX;rfl;rfl;rfl;rfl;rfl;omega)|(apply zki;rfl;rfl;rfl;rfl;rfl;omega)|(apply zg5;rfl;rfl;rfl;rfl;rfl;omega)|(apply zmW;rfl;rfl;rfl;rfl;rfl;omega)|(apply zat;rfl;rfl;rfl;rfl;exact zaK rfl;(focus repeat' first|exact zaa|assumption|apply zab|(apply Ext.get;assumption)|(apply ExtBut.get;assumption;(first|assumption|omega|(simp only [Heap.push];omega))));(first|rfl|assumption))|(apply zaA;rfl;rfl;rfl;rfl;exact zaX rfl;(focus repeat' first|exact zaa|assumption|apply zab|(apply Ext.get;assumption)|(apply ExtBut.get;assumption;(first|assumption|omega|(simp only [Heap.push];omega))));(first|exact Nat.le_of_ble_eq_true rfl|(simp;done)|(simp;omega)|(rw [zap];omega));rfl)|(apply P_neqB;rfl;rfl;rfl;rfl;rfl;rfl)|(apply zal;rfl;rfl;rfl;rfl;rfl;rfl;exact jW (by (focus repeat' first|exact Ext.refl _|assumption|apply Ext.push|(refine Ext.trans ?_ (by assumption))|(refine Ext.ofBut ?_ (by assumption) (by first|exact Nat.le_refl _|omega))));(rintro _ _ ⟨rfl,_⟩))|fail))
   rename_i g8 x8
   have gd8 := x8.get gd7
   have hD16 : D.length <= 16 := by omega
   (repeat' (first|apply zao|apply zac|(apply O_at;rfl)|(apply zaj;rfl)|apply zam|(apply zaT;rfl)|apply zaF|apply zaJ|apply zas|(apply zb9;rfl;rfl;rfl)|((first|apply zag|apply zad|apply zbD);rfl;rfl;rfl;rfl)|(apply za4;rfl;rfl;rfl;rfl;rfl;rfl)|(apply zbY;rfl;rfl;rfl;rfl;rfl)|(apply zg5;rfl;rfl;rfl;rfl;rfl;omega)|(apply zaA;rfl;rfl;rfl;rfl;exact zaX rfl;(focus repeat' first|exact zaa|assumption|apply zab|(apply Ext.get;assumption)|(apply ExtBut.get;assumption;(first|assumption|omega|(simp only [Heap.push];omega))));(first|exact Nat.le_of_ble_eq_true rfl|(simp;done)|(simp;omega)|(rw [zap];omega));rfl)|(apply zal;rfl;rfl;rfl;rfl;rfl;rfl;exact yes (iU hs hD16 (.inr ⟨_,_,_,rfl,by (focus repeat' first|exact zaa|assumption|apply zab|(apply Ext.get;assumption)|(apply ExtBut.get;assumption;(first|assumption|omega|(simp only [Heap.push];omega))))⟩) (by (focus repeat' first|exact Ext.refl _|assumption|apply Ext.push|(refine Ext.trans ?_ (by assumption))|(refine Ext.ofBut ?_ (by assumption) (by first|exact Nat.le_refl _|omega))))) hpT;(rintro _ _ ⟨rfl,_⟩))|(apply zal;rfl;rfl;rfl;rfl;rfl;rfl;exact no (zqb hK (by omega) (by omega) (ht.rd.ext (by (focus repeat' first|exact Ext.refl _|assumption|apply Ext.push|(refine Ext.trans ?_ (by assumption))|(refine Ext.ofBut ?_ (by assumption) (by first|exact Nat.le_refl _|omega))))) (.inr ⟨_,_,_,rfl,by (focus repeat' first|exact zaa|assumption|apply zab|(apply Ext.get;assumption)|(apply ExtBut.get;assumption;(first|assumption|omega|(simp only [Heap.push];omega))))⟩)) hB;(rintro _ _ ⟨rfl,_⟩))|(apply zal;rfl;rfl;rfl;rfl;rfl;rfl;exact jR2 (.inr ⟨_,_,_,rfl,by (focus repeat' first|exact zaa|assumption|apply zab|(apply Ext.get;assumption)|(apply ExtBut.get;assumption;(first|assumption|omega|(simp only [Heap.push];omega))))⟩) (by (focus repeat' first|exact Ext.refl _|assumption|apply Ext.push|(refine Ext.trans ?_ (by assumption))|(refine Ext.ofBut ?_ (by assumption) (by first|exact Nat.le_refl _|omega))));(rintro _ _ ⟨rfl,_⟩))|(apply zal;rfl;rfl;rfl;rfl;rfl;rfl;exact zds hKn;(rintro _ _ ⟨rfl,_⟩))|fail))
   exact ⟨.inr rfl, _, rfl, rfl⟩
end Go.AX.Sa
