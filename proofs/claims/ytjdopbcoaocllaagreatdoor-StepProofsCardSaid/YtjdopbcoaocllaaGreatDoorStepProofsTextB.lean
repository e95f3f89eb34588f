/- The law StepProofs at the reading: what the functions that it calls answer (2). -/
import Derived.Test.YtjdopbcoaocllaaGreatDoorStepProofsTextA
namespace Go.AX.Sa
open Go.Proofs
set_option maxRecDepth 100000
variable {K : Known}
theorem keptLt {l : List Int} (hG : zfs l) {m : Nat} : ∀ d, m + d + 1 < l.length -> l.getD m 0 < l.getD (m + d + 1) 0 := by
 intro d
 induction d with
 | zero => intro h; exact hG m h
 | succ d ih =>
  intro h
  have h1 := ih (by omega)
  have h2 := hG (m + d + 1) (by omega)
  rw [show m + (d + 1) + 1 = m + d + 1 + 1 by omega]
  omega
theorem zc7 {l : List Int} (hG : zfs l) {m n : Nat} (h : m <= n) (hn : n < l.length) : l.getD m 0 <= l.getD n 0 := by
 by_cases he : m = n
 ·subst he; exact Int.le_refl _
 ·have := keptLt hG (m := m) (n - m - 1) (by omega)
  rw [show m + (n - m - 1) + 1 = n by omega] at this
  omega
def befK (l : List Int) (j : Int) : Nat -> Int
 | 0 => l.getD 0 0
 | k + 1 => if l.getD k 0 <= j then max (befK l j k) (l.getD k 0) else befK l j k
def aftK (l : List Int) (j : Int) : Nat -> Int
 | 0 => l.getD (l.length - 1) 0
 | k + 1 => if j <= l.getD k 0 then min (aftK l j k) (l.getD k 0) else aftK l j k
theorem befK_is {l : List Int} (hG : zfs l) {j : Int} {i : Nat} (hi : i < l.length) (h1 : l.getD i 0 <= j) (h2 : i + 1 < l.length -> j < l.getD (i + 1) 0) : ∀ k, k <= l.length -> befK l j k = l.getD (min (k - 1) i) 0 := by
 intro k
 induction k with
 | zero => intro _; show l.getD 0 0 = _; rw [show min (0 - 1) i = 0 by omega]
 | succ k ih =>
  intro hk
  have ih := ih (by omega)
  unfold befK
  by_cases hki : k <= i
  ·have a := zc7 hG hki hi
   have b := zc7 hG (show min (k - 1) i <= k by omega) (by omega)
   rw [if_pos (by omega), ih, show min (k + 1 - 1) i = k by omega]
   omega
  ·have a := h2 (by omega)
   have b := zc7 hG (show i + 1 <= k by omega) (by omega)
   rw [if_neg (by omega), ih, show min (k - 1) i = i by omega, show min (k + 1 - 1) i = i by omega]
theorem aftK_is {l : List Int} (hG : zfs l) {j : Int} {i : Nat} (hi : i < l.length) (h1 : j <= l.getD i 0) (h2 : ∀ m, m + 1 = i -> l.getD m 0 < j) : ∀ k, k <= l.length -> aftK l j k = if k <= i then l.getD (l.length - 1) 0 else l.getD i 0 := by
 intro k
 induction k with
 | zero => intro _; rw [if_pos (Nat.zero_le _)]; rfl
 | succ k ih =>
  intro hk
  have ih := ih (by omega)
  unfold aftK
  by_cases hki : k < i
  ·have a := h2 (i - 1) (by omega)
   have b := zc7 hG (show k <= i - 1 by omega) (by omega)
   rw [if_neg (by omega), ih, if_pos (by omega), if_pos (by omega)]
  ·have a := zc7 hG (show i <= k by omega) (by omega)
   have c := zc7 hG (show k <= l.length - 1 by omega) (by omega)
   rw [if_pos (by omega), if_neg (by omega), ih]
   by_cases hke : k = i
   ·subst hke; rw [if_pos (Nat.le_refl _)]; omega
   ·rw [if_neg (by omega)]; omega
def bef (l : List Int) (j : Int) : Int := befK l j l.length
def aft (l : List Int) (j : Int) : Int := aftK l j l.length
theorem zhE {l : List Int} (hG : zfs l) {j : Int} {i : Nat} (hi : i < l.length) (h1 : l.getD i 0 <= j) (h2 : i + 1 < l.length -> j < l.getD (i + 1) 0) : bef l j = l.getD i 0 := by
 unfold bef; rw [befK_is hG hi h1 h2 _ (Nat.le_refl _), show min (l.length - 1) i = i by omega]
theorem zhG {l : List Int} (hG : zfs l) {j : Int} {i : Nat} (hi : i < l.length) (h1 : j <= l.getD i 0) (h2 : ∀ m, m + 1 = i -> l.getD m 0 < j) : aft l j = l.getD i 0 := by
 unfold aft; rw [aftK_is hG hi h1 h2 _ (Nat.le_refl _), if_neg (by omega)]
def figv (l t : List Int) (r : Int) (j : Nat) : Int :=
 if bef l j = aft l j then t.getD (bef l j).toNat 0 else rnd r (mixv (bef l j) (aft l j) j (t.getD (bef l j).toNat 0) (t.getD (aft l j).toNat 0)) (aft l j - bef l j)
theorem zcA {l t : List Int} {r : Int} {i j : Nat} (hG : zfs l) (hi : i < l.length) (hj : l.getD i 0 = (j : Nat)) : figv l t r j = t.getD j 0 := by
 have e1 := zhE hG (j := (j : Nat)) hi (by omega) (fun w => by have := hG i w; omega)
 have e2 := zhG hG (j := (j : Nat)) hi (by omega) (fun m w => by have := hG m (by omega); rw [w] at this; omega)
 unfold figv
 rw [e1, e2, if_pos rfl, hj, Int.toNat_natCast]
theorem zcJ {l t : List Int} {r : Int} {i j : Nat} (hG : zfs l) (hi : i + 1 < l.length) (h1 : l.getD i 0 < (j : Nat)) (h2 : ((j : Nat) : Int) < l.getD (i + 1) 0) :
  figv l t r j = rnd r (mixv (l.getD i 0) (l.getD (i + 1) 0) j (t.getD (l.getD i 0).toNat 0) (t.getD (l.getD (i + 1) 0).toNat 0)) (l.getD (i + 1) 0 - l.getD i 0) := by
 have e1 := zhE hG (j := (j : Nat)) (i := i) (by omega) (by omega) (fun _ => h2)
 have e2 := zhG hG (j := (j : Nat)) (i := i + 1) hi (by omega) (fun m w => by rw [show m = i by omega]; exact h1)
 unfold figv
 rw [e1, e2, if_neg (by omega)]
def figs (l t : List Int) (r : Int) (k : Nat) : List Int := (List.range k).map (figv l t r)
theorem zfX (l t : List Int) (r : Int) (k : Nat) : (figs l t r k).length = k := by simp [figs]
theorem ze0 {l t : List Int} {r : Int} {k j : Nat} (h : j < k) : (figs l t r k).getD j 0 = figv l t r j := by
 simp [figs, List.getD_eq_getElem?_getD, h]
theorem zhp {n : Nat} {l : List Int} (hP : zbD n l) {j : Nat} (hj : j < n) : (∃ i, i < l.length /\ l.getD i 0 = (j : Nat)) \/ ∃ i, i + 1 < l.length /\ l.getD i 0 < (j : Nat) /\ ((j : Nat) : Int) < l.getD (i + 1) 0 := by
 obtain ⟨h2, h0, h1, hG⟩ := hP
 have key : ∀ m, m < l.length -> ((j : Nat) : Int) <= l.getD m 0 -> (∃ i, i < l.length /\ l.getD i 0 = (j : Nat)) \/ ∃ i, i + 1 < l.length /\ l.getD i 0 < (j : Nat) /\ ((j : Nat) : Int) < l.getD (i + 1) 0 := by
  intro m
  induction m with
  | zero => intro hm hle; exact .inl ⟨0, hm, by omega⟩
  | succ m ih =>
   intro hm hle
   by_cases he : l.getD (m + 1) 0 = (j : Nat)
   ·exact .inl ⟨m + 1, hm, he⟩
   ·by_cases hl : ((j : Nat) : Int) <= l.getD m 0
    ·exact ih (by omega) hl
    ·exact .inr ⟨m, hm, by omega, by omega⟩
 exact key (l.length - 1) (by omega) (by omega)
theorem zdL (hK : NoK K) {l : List Int} {p : Option Addr} {cap : Nat} {row : Int} {h : Heap} (hl : 1 <= l.length /\ l.length <= 1000) (hr : Rd h p (ints l)) :
  CallW Tryz.prog K 106 #[.slice p l.length cap, .int .i64 row] h (IsV (.tuple #[.int .i64 (bef l row), .int .i64 (aft l row)]) h) := by
 obtain ⟨b, e, own, rfl, hg⟩ := hr.at (by rw [zar]; omega)
 have hz : ((l.length : Nat) : Int) - 1 = ((l.length - 1 : Nat) : Int) := by omega
 refine body (N := 50) Tryz.func106 rfl (hK _ _ _ rfl) rfl rfl ?_
 (repeat' (first|apply zam|apply zad|(apply O_at;rfl)|(apply N_at;rfl)|(apply zak;rfl)|apply zal|(apply zb0;exact zaN (by decide +kernel))|apply zaq|(apply zcL;rfl;exact (.inl (Nat.le_refl 1)))|((first|apply zag|apply zac|apply zaL|apply zbv);rfl;rfl;rfl;rfl)|((first|apply za8|apply zek);rfl;rfl;rfl;rfl;rfl;rfl;exact zav rfl)|((first|apply zcB|apply zcC);rfl;rfl;rfl;rfl;rfl;exact zav rfl;exact zao rfl;(first|assumption|exact zq0|rfl|exact (Int.toNat_of_nonneg (by omega)).symm);omega)|(apply zg0;rfl;rfl;rfl;rfl;rfl;(unfold fit;omega))|(((apply zdb;rfl;rfl;rfl;rfl;exact zaJ rfl;exact zbY (by decide +kernel));(focus repeat' first|assumption|(apply Ext.get;assumption));(first|exact zaD (by omega)|rfl|assumption));(first|assumption|exact za6 _ _|rfl|(focus simp [same,same.all2];done));(first|rfl|assumption|exact hwv _|(simp [within];omega)))|fail))
 refine zbh (fun k : Nat => [(8, .int .i64 (k : Nat)), (7, .int .i64 (aftK l row k)), (6, .int .i64 (befK l row k)), (1, .int .i64 row), (0, .slice (some ⟨b, 0, none⟩) l.length cap)])
  (fun k h' => k <= l.length /\ Ext h h') (fun k => l.length - k) ?_ 0 ⟨Nat.zero_le _, by (focus repeat' first | exact Ext.refl _ | assumption)⟩ ?_
 ·intro k h' ⟨hk, hx⟩ ih
  have hg' := hx.get hg
  by_cases hlt : k < l.length
  ·have ea : aftK l row (k + 1) = if row <= l.getD k 0 then min (aftK l row k) (l.getD k 0) else aftK l row k := rfl
   have eb : befK l row (k + 1) = if l.getD k 0 <= row then max (befK l row k) (l.getD k 0) else befK l row k := rfl
   by_cases c1 : l.getD k 0 <= row
   ·by_cases c2 : row <= l.getD k 0
    ·rw [if_pos c2] at ea; rw [if_pos c1] at eb
     (repeat' (first|apply zam|apply zad|(apply O_at;rfl)|(apply zak;rfl)|apply zal|(apply zaX;rfl)|apply zaq|apply zaG|apply zaE|((first|apply zag|apply zac|apply zaL|apply zbv);rfl;rfl;rfl;rfl)|((first|apply za8|apply zek);rfl;rfl;rfl;rfl;rfl;rfl;exact zav rfl)|(apply za1;rfl;rfl;rfl;rfl;rfl;omega)|(apply zmQ;rfl;rfl;rfl;rfl;rfl;omega)|(apply zmR;rfl;rfl;rfl;rfl;rfl;omega)|(apply zbL;rfl;rfl;rfl;rfl;rfl;(unfold fit;omega))|((first|apply zcB|apply zcC);rfl;rfl;rfl;rfl;rfl;exact zav rfl;exact zao rfl;(first|assumption|exact zq0|rfl|exact (Int.toNat_of_nonneg (by omega)).symm);omega)|(apply zat;rfl;rfl;rfl;rfl;exact zaJ rfl;(focus repeat' first|assumption|(apply Ext.get;assumption));(first|exact zaD (by omega)|rfl|assumption))|(apply P_min;rfl;rfl;rfl;rfl;rfl;rfl)|(apply P_max;rfl;rfl;rfl;rfl;rfl;rfl)|fail))
     exact zaR (ih (k + 1) _ (by omega) ⟨hlt, by (focus repeat' first | exact Ext.refl _ | assumption)⟩) (by rw [ea, eb]; (focus repeat' first | rfl | exact trivial | apply And.intro))
    ·rw [if_neg c2] at ea; rw [if_pos c1] at eb
     (repeat' (first|apply zam|apply zad|(apply O_at;rfl)|(apply zak;rfl)|apply zal|(apply zaX;rfl)|(apply zaS;rfl)|apply zaq|apply zaG|apply zaE|((first|apply zag|apply zac|apply zaL|apply zbv);rfl;rfl;rfl;rfl)|((first|apply za8|apply zek);rfl;rfl;rfl;rfl;rfl;rfl;exact zav rfl)|(apply za1;rfl;rfl;rfl;rfl;rfl;omega)|(apply zmQ;rfl;rfl;rfl;rfl;rfl;omega)|(apply zp6;rfl;rfl;rfl;rfl;rfl;omega)|(apply zbL;rfl;rfl;rfl;rfl;rfl;(unfold fit;omega))|((first|apply zcB|apply zcC);rfl;rfl;rfl;rfl;rfl;exact zav rfl;exact zao rfl;(first|assumption|exact zq0|rfl|exact (Int.toNat_of_nonneg (by omega)).symm);omega)|(apply zat;rfl;rfl;rfl;rfl;exact zaJ rfl;(focus repeat' first|assumption|(apply Ext.get;assumption));(first|exact zaD (by omega)|rfl|assumption))|(apply P_max;rfl;rfl;rfl;rfl;rfl;rfl)|fail))
     exact zaR (ih (k + 1) _ (by omega) ⟨hlt, by (focus repeat' first | exact Ext.refl _ | assumption)⟩) (by rw [ea, eb]; (focus repeat' first | rfl | exact trivial | apply And.intro))
   ·rw [if_pos (by omega)] at ea; rw [if_neg c1] at eb
    (repeat' (first|apply zam|apply zad|(apply O_at;rfl)|(apply zak;rfl)|apply zal|(apply zaX;rfl)|(apply zaS;rfl)|apply zaq|apply zaG|apply zaE|((first|apply zag|apply zac|apply zaL|apply zbv);rfl;rfl;rfl;rfl)|((first|apply za8|apply zek);rfl;rfl;rfl;rfl;rfl;rfl;exact zav rfl)|(apply za1;rfl;rfl;rfl;rfl;rfl;omega)|(apply zp4;rfl;rfl;rfl;rfl;rfl;omega)|(apply zmR;rfl;rfl;rfl;rfl;rfl;omega)|(apply zbL;rfl;rfl;rfl;rfl;rfl;(unfold fit;omega))|((first|apply zcB|apply zcC);rfl;rfl;rfl;rfl;rfl;exact zav rfl;exact zao rfl;(first|assumption|exact zq0|rfl|exact (Int.toNat_of_nonneg (by omega)).symm);omega)|(apply zat;rfl;rfl;rfl;rfl;exact zaJ rfl;(focus repeat' first|assumption|(apply Ext.get;assumption));(first|exact zaD (by omega)|rfl|assumption))|(apply P_min;rfl;rfl;rfl;rfl;rfl;rfl)|fail))
    exact zaR (ih (k + 1) _ (by omega) ⟨hlt, by (focus repeat' first | exact Ext.refl _ | assumption)⟩) (by rw [ea, eb]; (focus repeat' first | rfl | exact trivial | apply And.intro))
  ·obtain rfl : k = l.length := by omega
   (repeat' (first|apply zam|apply zad|(apply O_at;rfl)|(apply zak;rfl)|apply zal|(apply zaS;rfl)|apply zbx|apply zaH|apply zbF|apply za4|apply za5|apply zax|((first|apply zag|apply zac|apply zaL|apply zbv);rfl;rfl;rfl;rfl)|((first|apply za8|apply zek);rfl;rfl;rfl;rfl;rfl;rfl;exact zav rfl)|(apply zbJ;rfl;rfl;rfl;rfl;rfl;omega)|fail))
   exact ⟨.inr rfl, _, rfl, rfl, by (focus repeat' first | exact Ext.refl _ | assumption)⟩
 ·(focus repeat' first | rfl | exact trivial | apply And.intro)
end Go.AX.Sa

namespace Go.AX.Sa
open Go.Proofs
set_option maxRecDepth 100000
variable {K : Known}
theorem getD_set {l : List Int} {k j : Nat} {n : Int} (h : k < l.length) : (l.set k n).getD j 0 = if j = k then n else l.getD j 0 := by
 simp only [List.getD_eq_getElem?_getD, List.getElem?_set]
 by_cases hj : k = j
 ·subst hj; simp [h]
 ·rw [if_neg hj, if_neg (fun q => hj q.symm)]
theorem list_eq {a b : List Int} (hl : a.length = b.length) (h : ∀ j, j < a.length -> a.getD j 0 = b.getD j 0) : a = b := by
 apply List.ext_getElem hl
 intro j h1 h2
 have := h j h1
 simpa [List.getD_eq_getElem?_getD, h1, h2] using this
theorem clone_ok (hK : NoK K) {t : List Int} {q : Option Addr} {cap : Nat} {h : Heap} (hp : 0 < t.length) (hl : t.length <= 1000) (hr : Rd h q (ints t)) :
  CallW Tryz.prog K 103 #[.slice q t.length cap] h fun v h1 => Ext h h1 /\ ∃ b, v = .slice (some ⟨b, 0, none⟩) t.length unk /\ h1.get? b = some (.cells (ints t) 3 true) /\ h.n <= b := by
 obtain ⟨b, e, own, rfl, hg⟩ := hr.at (by rw [zar]; omega)
 refine body (N := 8) Tryz.func103 rfl (hK _ _ _ rfl) rfl rfl ?_
 (repeat' (first|apply zam|apply zad|(apply O_at;rfl)|(apply zak;rfl)|apply zal|(apply zaS;rfl)|apply zaG|apply zaH|apply zax|((first|apply zag|apply zac);rfl;rfl;rfl;rfl)|(apply P_nilF;rfl;rfl;rfl;rfl;rfl;exact zav rfl)|(apply P_build0;rfl;rfl;rfl;rfl;exact zeD rfl)|(apply zcK;rfl;rfl;rfl;rfl;rfl;rfl;(apply app_full;rfl;rfl;exact zeD rfl;exact zav rfl;(focus repeat' first|exact zaa|assumption|apply zab);(first|rfl|exact zar _);(first|decide|omega);(first|decide|omega);(first|rfl|exact ints_one _);(focus repeat' first|exact zaa|assumption|apply zab);(first|rfl|exact zar _);omega;omega))|fail))
 refine ⟨.inr rfl, _, rfl, ?_, (h.push (.cells [] 3 true)).n, ?_, ?_, ?_⟩
 ·(focus repeat' first | exact Ext.refl _ | assumption | apply Ext.push)
 ·simp [resV]
 ·exact zaa
 ·exact Nat.le_succ _
theorem zlV {s : List (Int × Int)} {t : List Int} (hV : Vals s) (hT : zfb s t) {j : Nat} (hj : j < s.length) : -10000 <= t.getD j 0 /\ t.getD j 0 <= 10000 := by
 have h1 := hV j hj
 have h2 := hT.2 j (by rw [hT.1]; exact hj)
 unfold ValP at h1
 omega
set_option maxHeartbeats 2000000 in
theorem znF (hK : NoK K) {T : Tb} {l t : List Int} {b bt cap ct : Nat} {e et : TypeId} {own ownt : Bool} {h : Heap} (hP : TbP T) (hKp : zbD T.s.length l) (hT : zfb T.s t) (hcap : l.length <= cap) (hll : l.length <= 1000)
  (hg : h.get? b = some (.cells (ints l) e own)) (hgt : h.get? bt = some (.cells (ints t) et ownt)) :
  CallW Tryz.prog K 65 #[ktV T (some ⟨b, 0, none⟩) l.length cap, .slice (some ⟨bt, 0, none⟩) t.length ct] h (IsL (figs l t T.r T.s.length) h) := by
 obtain ⟨q, kq, s, r, o⟩ := T
 dsimp only at hP hKp hT ⊢
 have htl := hT.1
 have hn := hP.1
 dsimp only at hn
 have hr := hP.2.2.1
 have hG := hKp.2.2.2
 have hl2 := hKp.1
 have h0 := hKp.2.1
 have h1 := hKp.2.2.1
 have hbd : ∀ j, j < s.length -> -10000 <= t.getD j 0 /\ t.getD j 0 <= 10000 := fun j hj => zlV hP.2.1 hT hj
 have hlk : ∀ i, i < l.length -> 0 <= l.getD i 0 /\ l.getD i 0 <= (s.length : Int) - 1 := fun i hi => by
  have a := zc7 hG (Nat.zero_le i) hi
  have c := zc7 hG (show i <= l.length - 1 by omega) (by omega)
  omega
 have hb0 := Heap.get_lt hg
 have hbt0 := Heap.get_lt hgt
 refine body (N := 48) Tryz.func65 rfl (hK _ _ _ rfl) rfl rfl ?_
 (repeat' (first|apply zam|apply zad|(apply O_at;rfl)|(apply zak;rfl)|apply zal|((first|apply zag|apply zac|apply zaL);rfl;rfl;rfl;rfl)|(apply za3;rfl;rfl;rfl;rfl;exact zao rfl;rfl;rfl)|fail))
 apply zan; rfl; rfl; rfl; rfl; rfl; rfl
 exact clone_ok hK (by omega) (by omega) (.inr ⟨_, _, _, rfl, zab hgt⟩)
 rintro _ h2 ⟨x2, bc, rfl, gc, hbc⟩
 have hk2 : h2.get? h.n = some (.cells [.slice q s.length kq, .int .i64 r, .int .i64 o, .slice (some ⟨b, 0, none⟩) l.length cap] 82 true) := x2.get zaa
 have hg2 := x2.get (zab hg)
 have hgt2 := x2.get (zab hgt)
 (repeat' (first|apply zam|apply zad|(apply O_at;rfl)|(apply zak;rfl)|apply zal|((first|apply zag|apply zac|apply zaL);rfl;rfl;rfl;rfl)|(apply zaK;rfl;rfl;rfl;rfl;exact za2 rfl;(focus repeat' first|exact zaa|assumption|apply zab|(apply Ext.get;assumption)|(apply ExtBut.get;assumption;(first|assumption|omega|(simp only [Heap.push];omega))));(first|exact Nat.le_of_ble_eq_true rfl|(simp;done)|(simp;omega)|(rw [zaj];omega));(first|exact zaP (by omega)|rfl))|fail))
 apply zan; rfl; rfl; rfl; rfl; rfl; rfl
 exact pairs_ok (T := ⟨q, kq, s, r, o⟩) hK ⟨hl2, hll⟩ hcap hg2
 rintro _ h3 ⟨pp, cp, rfl, rp, fp, x3⟩
 have hpl := zkJ l (l.length - 1)
 obtain ⟨bp, ep, ownp, rfl, gp⟩ := rp.at (by rw [zaj]; omega)
 have gc3 := x3.get gc
 have hk3 := x3.get hk2
 have hgt3 := x3.get hgt2
 have hbp := Heap.get_lt gp
 have hn3 := Heap.get_lt gc3
 have hn2 := Heap.get_lt gc
 have fp' := fp _ rfl
 dsimp only at fp'
 simp only [Heap.push] at hbc
 rw [hpl]
 (repeat' (first|(apply O_at;rfl)|(apply zak;rfl)|apply zal|apply zaq|((first|apply zag|apply zac|apply zaL);rfl;rfl;rfl;rfl)|(apply za8;rfl;rfl;rfl;rfl;rfl;rfl;exact zav rfl)|fail))
 refine zbh (fun a : Nat × List Int => [(14, .int .i64 (a.1 : Nat)), (13, .int .i64 ((l.length - 1 : Nat) : Int)), (12, .slice (some ⟨bp, 0, none⟩) (l.length - 1) cp), (5, .slice (some ⟨bc, 0, none⟩) t.length unk), (2, .pointer (some ⟨h.n, 0, none⟩)), (1, .slice (some ⟨bt, 0, none⟩) t.length ct)])
  (fun a h' => a.1 <= l.length - 1 /\ ExtBut bc h3 h' /\ h'.get? bc = some (.cells (ints a.2) 3 true) /\ a.2.length = t.length /\ ∀ j, j < t.length -> a.2.getD j 0 = if ((j : Nat) : Int) < l.getD a.1 0 then figv l t r j else t.getD j 0) (fun a => l.length - 1 - a.1) ?_ (0, t) ?_ ?_
 ·rintro ⟨i, F⟩ h' ⟨hi, hx, hb, hF, hj⟩ ih
  dsimp only at hi hb hF hj ih ⊢
  have hne : bp ≠ bc := by omega
  have hne2 : h.n ≠ bc := by omega
  have hne3 : bt ≠ bc := by omega
  have gp' := hx.get hne gp
  have hk' := hx.get hne2 hk3
  have hgt' := hx.get hne3 hgt3
  by_cases hlt : i < l.length - 1
  ·have hpi : i < (prs l (l.length - 1)).length := by omega
   have hpg := prs_get (l := l) (k := l.length - 1) hlt
   have a1 := hlk i (by omega)
   have a2 := hlk (i + 1) (by omega)
   have a3 := hG i (by omega)
   have e1 : ((prs l (l.length - 1)).getD i (0, 0)).1 = l.getD i 0 := by rw [hpg]
   have e2 : ((prs l (l.length - 1)).getD i (0, 0)).2 = l.getD (i + 1) 0 := by rw [hpg]
   obtain ⟨A, hA⟩ : ∃ A : Nat, l.getD i 0 = (A : Nat) := ⟨(l.getD i 0).toNat, by omega⟩
   obtain ⟨C, hC⟩ : ∃ C : Nat, l.getD (i + 1) 0 = (C : Nat) := ⟨(l.getD (i + 1) 0).toNat, by omega⟩
   have hn' := hx.n
   (repeat' (first|apply zam|apply zad|(apply O_at;rfl)|(apply zak;rfl)|apply zal|(apply zaX;rfl)|apply zaq|apply zaG|((first|apply zag|apply zac|apply zaL);rfl;rfl;rfl;rfl)|((first|apply P_fa|apply M_fa);rfl;rfl;rfl;rfl;exact za0 rfl;(first|exact Nat.zero_add _|exact Nat.add_zero _|rfl))|(apply za1;rfl;rfl;rfl;rfl;rfl;omega)|(apply zbL;rfl;rfl;rfl;rfl;rfl;(unfold fit;omega))|(apply zdt;rfl;rfl;rfl;rfl;rfl;exact zav rfl;exact zao rfl;(first|assumption|rfl|exact (Int.toNat_of_nonneg (by omega)).symm);omega)|(apply zat;rfl;rfl;rfl;rfl;exact zaJ rfl;(focus repeat' first|exact zaa|assumption|apply zab|(apply Ext.get;assumption)|(apply ExtBut.get;assumption;(first|assumption|omega|(simp only [Heap.push];omega))));(first|exact zaD (by omega)|rfl|assumption))|(apply zaK;rfl;rfl;rfl;rfl;exact za2 rfl;(focus repeat' first|exact zaa|assumption|apply zab|(apply Ext.get;assumption)|(apply ExtBut.get;assumption;(first|assumption|omega|(simp only [Heap.push];omega))));(first|exact Nat.le_of_ble_eq_true rfl|(simp;done)|(simp;omega)|(rw [zaj];omega));(first|exact zaP (by omega)|rfl))|(apply zbk;rfl;rfl;rfl;rfl;exact zao rfl;rfl;rfl;rfl)|(apply zbK;rfl;rfl;rfl;rfl;exact zao rfl;rfl;rfl)|fail))
   simp only [e1, e2, hA, hC]
   refine zbh (fun a : Nat × List Int => [(8, .int .i64 (a.1 : Nat)), (14, .int .i64 (i : Nat)), (13, .int .i64 ((l.length - 1 : Nat) : Int)), (12, .slice (some ⟨bp, 0, none⟩) (l.length - 1) cp), (7, .pointer (some ⟨h'.n, 0, none⟩)), (5, .slice (some ⟨bc, 0, none⟩) t.length unk), (2, .pointer (some ⟨h.n, 0, none⟩)), (1, .slice (some ⟨bt, 0, none⟩) t.length ct)])
    (fun a g => A + 1 <= a.1 /\ a.1 <= C /\ ExtBut bc (h'.push (.cells [.int .i64 (A : Nat), .int .i64 (C : Nat)] 123 true)) g /\ g.get? bc = some (.cells (ints a.2) 3 true) /\ a.2.length = t.length /\ ∀ j, j < t.length -> a.2.getD j 0 = if j < a.1 then figv l t r j else t.getD j 0) (fun a => C - a.1) ?_ (A + 1, F) ?_ ?_
   ·rintro ⟨row, G⟩ g ⟨hr1, hr2, hxg, hbg, hGl, hGj⟩ ih2
    dsimp only at hr1 hr2 hbg hGl hGj ih2 ⊢
    have q1 : g.get? h'.n = some (.cells [.int .i64 (A : Nat), .int .i64 (C : Nat)] 123 true) := hxg.get (by omega) zaa
    have q2 := hxg.get hne2 (zab hk')
    have q3 := hxg.get hne3 (zab hgt')
    by_cases hrow : row < C
    ·have hm := zcJ (l := l) (t := t) (r := r) (i := i) (j := row) hG (by omega) (by omega) (by omega)
     rw [hA, hC, Int.toNat_natCast, Int.toNat_natCast] at hm
     have hA1 := hbd A (by omega)
     have hC1 := hbd C (by omega)
     have hlr : row < G.length := by omega
     (repeat' (first|apply zam|apply zad|(apply O_at;rfl)|(apply N_at;rfl)|(apply zak;rfl)|apply zal|(apply zaX;rfl)|(apply zb0;exact zaN (by decide +kernel))|apply zaq|apply zaG|(apply zcL;rfl;refine .inr ?_;(focus repeat' first|exact trivial|exact Keeps.nil _ _|apply And.intro|rfl|(apply Keeps.cons;iterate 2 (focus repeat' first|exact zaa|assumption|apply zab|(apply Ext.get;assumption)|(apply ExtBut.get;assumption;(first|assumption|omega|(simp only [Heap.push];omega)))))))|apply zaE|((first|apply zag|apply zac|apply zaL);rfl;rfl;rfl;rfl)|((first|apply P_fa|apply M_fa);rfl;rfl;rfl;rfl;exact za0 rfl;(first|exact Nat.zero_add _|exact Nat.add_zero _|rfl))|(apply za1;rfl;rfl;rfl;rfl;rfl;omega)|(apply zbL;rfl;rfl;rfl;rfl;rfl;(unfold fit;omega))|(apply zat;rfl;rfl;rfl;rfl;exact zaJ rfl;(focus repeat' first|exact zaa|assumption|apply zab|(apply Ext.get;assumption)|(apply ExtBut.get;assumption;(first|assumption|omega|(simp only [Heap.push];omega))));(first|exact zaD (by omega)|rfl|assumption))|(apply zcC;rfl;rfl;rfl;rfl;rfl;exact zav rfl;exact zao rfl;(first|assumption|rfl|exact (Int.toNat_of_nonneg (by omega)).symm);omega)|((first|((apply zck;rfl;rfl;rfl;rfl;exact zaJ rfl);(focus repeat' first|exact zaa|assumption|apply zab|(apply Ext.get;assumption)|(apply ExtBut.get;assumption;(first|assumption|omega|(simp only [Heap.push];omega))));(first|exact zaD (by omega)|rfl|assumption))|((apply zc1;rfl;rfl;rfl;rfl;exact za2 rfl);(focus repeat' first|exact zaa|assumption|apply zab|(apply Ext.get;assumption)|(apply ExtBut.get;assumption;(first|assumption|omega|(simp only [Heap.push];omega))));(first|exact Nat.le_of_ble_eq_true rfl|(simp;done)|(simp;omega)|(rw [zaj];omega));(first|exact zaP (by omega)|rfl)));(first|assumption|exact za6 _ _|exact zge _ _|rfl|(focus simp [same,same.all2];done));(first|rfl|assumption|exact hwv _|(simp [within];omega)))|(apply zmT;rfl;rfl;rfl;rfl;(focus repeat' first|exact zaa|assumption|apply zab|(apply Ext.get;assumption)|(apply ExtBut.get;assumption;(first|assumption|omega|(simp only [Heap.push];omega))));exact zao rfl;(first|omega|(focus simp;done));rfl;(intro _ _ _))|((first|(apply zan;rfl;rfl;rfl;rfl;rfl;rfl)|(apply zbE;rfl;rfl;rfl;rfl;rfl;rfl;rfl));exact znW hK hA1 hC1 (by omega) (by omega) (by omega) (by omega) (by omega) hr;(rintro _ _ ⟨rfl,_⟩))|fail))
     rename_i g1 xg1 g2 qg2 xg2
     rw [<- hm] at qg2
     refine zaR (ih2 (row + 1, G.set row (figv l t r row)) _ (by dsimp only; omega) ⟨by dsimp only; omega, by dsimp only; omega, (hxg.trans (Ext.but xg1 _)).trans xg2, qg2, by simpa using hGl, fun j hj' => ?_⟩) (by (focus repeat' first | rfl | exact trivial | apply And.intro))
     dsimp only
     rw [getD_set hlr]
     by_cases w : j = row
     ·subst w; rw [if_pos rfl, if_pos (by omega)]
     ·rw [if_neg w, hGj j hj']
      by_cases w2 : j < row
      ·rw [if_pos w2, if_pos (by omega)]
      ·rw [if_neg w2, if_neg (by omega)]
    ·have : row = C := by omega
     subst this
     (repeat' (first|apply zam|apply zad|(apply O_at;rfl)|(apply zak;rfl)|apply zal|(apply zaS;rfl)|apply zbx|apply zbF|apply za4|apply za5|apply zaE|((first|apply zag|apply zac|apply zaL);rfl;rfl;rfl;rfl)|((first|apply P_fa|apply M_fa);rfl;rfl;rfl;rfl;exact za0 rfl;(first|exact Nat.zero_add _|exact Nat.add_zero _|rfl))|(apply zbJ;rfl;rfl;rfl;rfl;rfl;omega)|(apply zbL;rfl;rfl;rfl;rfl;rfl;(unfold fit;omega))|(apply zat;rfl;rfl;rfl;rfl;exact zaJ rfl;(focus repeat' first|exact zaa|assumption|apply zab|(apply Ext.get;assumption)|(apply ExtBut.get;assumption;(first|assumption|omega|(simp only [Heap.push];omega))));(first|exact zaD (by omega)|rfl|assumption))|fail))
     refine zaR (ih (i + 1, G) _ (by dsimp only; omega) ⟨by dsimp only; omega, (hx.trans (Ext.but (Ext.push (Ext.refl _) _) _)).trans hxg, hbg, hGl, fun j hj' => ?_⟩) (by (focus repeat' first | rfl | exact trivial | apply And.intro))
     dsimp only
     rw [hGj j hj', hC]
     by_cases w : j < row
     ·rw [if_pos w, if_pos (by omega)]
     ·rw [if_neg w, if_neg (by omega)]
   ·refine ⟨Nat.le_refl _, by omega, ExtBut.refl _ _, zab hb, hF, fun j hj' => ?_⟩
    dsimp only
    rw [hj j hj', hA]
    by_cases w : j < A
    ·rw [if_pos (by omega), if_pos (by omega)]
    ·by_cases w2 : j = A
     ·subst w2
      rw [if_neg (by omega), if_pos (by omega), zcA hG (by omega) hA]
     ·rw [if_neg (by omega), if_neg (by omega)]
   ·(focus repeat' first | rfl | exact trivial | apply And.intro)
  ·have : i = l.length - 1 := by omega
   subst this
   (repeat' (first|apply zam|apply zad|(apply O_at;rfl)|(apply zak;rfl)|apply zal|(apply zaS;rfl)|apply zbx|apply zaH|apply zbF|apply za4|apply za5|apply zax|((first|apply zag|apply zac|apply zaL);rfl;rfl;rfl;rfl)|(apply zbJ;rfl;rfl;rfl;rfl;rfl;omega)|fail))
   have hfin : F = figs l t r s.length := by
    refine list_eq (by rw [hF, zfX, htl]) fun j hj' => ?_
    rw [hj j (by omega), ze0 (by omega)]
    by_cases w : ((j : Nat) : Int) < l.getD (l.length - 1) 0
    ·rw [if_pos w]
    ·rw [if_neg w, zcA hG (show l.length - 1 < l.length by omega) (by omega)]
   refine ⟨.inr rfl, _, rfl, some ⟨bc, 0, none⟩, unk, ?_, .inr ⟨_, _, _, rfl, hfin ▸ hb⟩, ?_⟩
   ·rw [zfX, <- htl]; rfl
   ·exact Ext.ofBut (((Ext.push (Ext.refl h) _).trans x2).trans x3) hx (by omega)
 ·exact ⟨Nat.zero_le _, ExtBut.refl _ _, gc3, rfl, fun j hj => by dsimp only; rw [h0, if_neg (by omega)]⟩
 ·(focus repeat' first | rfl | exact trivial | apply And.intro)
end Go.AX.Sa

namespace Go.AX.Sa
open Go.Proofs
set_option maxRecDepth 100000
variable {K : Known}
theorem zfx (hK : NoK K) {l : List Int} {p : Option Addr} {cap : Nat} {row a c : Int} {h : Heap} (hl : 1 <= l.length /\ l.length <= 1000) (hr : Rd h p (ints l)) (e1 : bef l row = a) (e2 : aft l row = c) :
  CallW Tryz.prog K 106 #[.slice p l.length cap, .int .i64 row] h (IsV (.tuple #[.int .i64 a, .int .i64 c]) h) := by
 have := zdL (cap := cap) hK hl hr (row := row)
 rw [e1, e2] at this
 exact this
theorem zh7 (hK : NoK K) {T : Tb} {l t : List Int} {p pt : Option Addr} {cap ct j : Nat} {h : Heap} (hP : TbP T) (hKp : zbD T.s.length l) (hT : zfb T.s t) (hll : l.length <= 1000) (hj : j < T.s.length) (hTb : TbAt T h) (hr : Rd h p (ints l)) (hrt : Rd h pt (ints t)) :
  CallW Tryz.prog K 69 #[tbV T, .slice p l.length cap, .int .i64 (j : Nat), .slice pt t.length ct] h (IsV (.int .i64 (figv l t T.r j)) h) := by
 obtain ⟨q, kq, s, r, o⟩ := T
 have hqb : ∀ a, q = some a -> a.block < h.n := hTb.b
 dsimp only [tbV] at hP hKp hT hj ⊢
 have htl := hT.1
 have hn := hP.1
 dsimp only at hn
 have hr4 := hP.2.2.1
 have hG := hKp.2.2.2
 have hl2 := hKp.1
 have hbd : ∀ j, j < s.length -> -10000 <= t.getD j 0 /\ t.getD j 0 <= 10000 := fun j hj => zlV hP.2.1 hT hj
 have hlk : ∀ i, i < l.length -> 0 <= l.getD i 0 /\ l.getD i 0 <= (s.length : Int) - 1 := fun i hi => by
  have a := zc7 hG (Nat.zero_le i) hi
  have c := zc7 hG (show i <= l.length - 1 by omega) (by omega)
  have h0 := hKp.2.1
  have h1 := hKp.2.2.1
  omega
 obtain ⟨b, e, own, rfl, hg⟩ := hr.at (by rw [zar]; omega)
 obtain ⟨bt, et, ownt, rfl, hgt⟩ := hrt.at (by rw [zar]; omega)
 refine body (N := 31) Tryz.func69 rfl (hK _ _ _ rfl) rfl rfl ?_
 rcases zhp hKp hj with ⟨i, hi, hij⟩ | ⟨i, hi, h1, h2⟩
 ·have e1 := zhE hG (j := (j : Nat)) hi (by omega) (fun w => by have := hG i w; omega)
  have e2 := zhG hG (j := (j : Nat)) hi (by omega) (fun m w => by have := hG m (by omega); rw [w] at this; omega)
  rw [hij] at e1 e2
  rw [zcA hG hi hij]
  (repeat' (first|apply zam|apply zad|(apply O_at;rfl)|(apply N_at;rfl)|(apply zak;rfl)|apply zal|(apply zb0;exact zaN (by decide +kernel))|apply zaH|(apply zcL;rfl;refine .inr ?_;(focus repeat' first|exact trivial|exact Keeps.nil _ _|apply And.intro|rfl|(apply Keeps.cons;iterate 2 (focus repeat' first|exact zaa|assumption|apply zab|(apply Ext.get;assumption)))))|apply zax|((first|apply zag|apply zac|apply zaL|apply zbv);rfl;rfl;rfl;rfl)|(apply zbA;rfl;rfl;rfl;rfl;rfl)|(apply za3;rfl;rfl;rfl;rfl;exact zao rfl;rfl;rfl)|(apply M_fa;rfl;rfl;rfl;rfl;exact za0 rfl;(first|exact Nat.zero_add _|exact Nat.add_zero _|rfl))|(apply zcC;rfl;rfl;rfl;rfl;rfl;exact zav rfl;exact zao rfl;(first|assumption|rfl|exact (Int.toNat_of_nonneg (by omega)).symm);omega)|(((apply zck;rfl;rfl;rfl;rfl;exact zaJ rfl);(focus repeat' first|exact zaa|assumption|apply zab|(apply Ext.get;assumption));(first|exact zaD (by omega)|rfl|assumption));(first|assumption|exact za6 _ _|rfl|(focus simp [same,same.all2];done));(first|rfl|assumption|exact hwv _|(simp [within];omega)))|((first|(apply zan;rfl;rfl;rfl;rfl;rfl;rfl)|(apply zbE;rfl;rfl;rfl;rfl;rfl;rfl;rfl));exact zfx hK (by omega) (hr.ext (by repeat' first|exact Ext.refl _|assumption|apply Ext.push|refine Ext.trans ?_ (by assumption))) e1 e2;(rintro _ _ ⟨rfl,_⟩))|((first|(apply zan;rfl;rfl;rfl;rfl;rfl;rfl)|(apply zbE;rfl;rfl;rfl;rfl;rfl;rfl;rfl));exact zg8 hK;(rintro _ _ ⟨rfl,_⟩))|fail))
  exact ⟨.inr rfl, _, rfl, rfl, by repeat' first|exact Ext.refl _|assumption|apply Ext.push|refine Ext.trans ?_ (by assumption)⟩
 ·have e1 := zhE hG (j := (j : Nat)) (i := i) (by omega) (by omega) (fun _ => h2)
  have e2 := zhG hG (j := (j : Nat)) (i := i + 1) hi (by omega) (fun m w => by rw [show m = i by omega]; exact h1)
  have a1 := hlk i (by omega)
  have a2 := hlk (i + 1) hi
  have hm := zcJ (l := l) (t := t) (r := r) (i := i) (j := j) hG hi h1 h2
  obtain ⟨A, hA⟩ : ∃ A : Nat, l.getD i 0 = (A : Nat) := ⟨(l.getD i 0).toNat, by omega⟩
  obtain ⟨C, hC⟩ : ∃ C : Nat, l.getD (i + 1) 0 = (C : Nat) := ⟨(l.getD (i + 1) 0).toNat, by omega⟩
  rw [hA] at e1 h1 hm
  rw [hC] at e2 h2 hm
  rw [Int.toNat_natCast, Int.toNat_natCast] at hm
  have hA1 := hbd A (by omega)
  have hC1 := hbd C (by omega)
  rw [hm]
  (repeat' (first|apply zam|apply zad|(apply O_at;rfl)|(apply N_at;rfl)|(apply zak;rfl)|apply zal|(apply zb0;exact zaN (by decide +kernel))|apply zaH|(apply zcL;rfl;refine .inr ?_;(focus repeat' first|exact trivial|exact Keeps.nil _ _|apply And.intro|rfl|(apply Keeps.cons;iterate 2 (focus repeat' first|exact zaa|assumption|apply zab|(apply Ext.get;assumption)))))|apply zax|((first|apply zag|apply zac|apply zaL|apply zbv);rfl;rfl;rfl;rfl)|(apply zbA;rfl;rfl;rfl;rfl;rfl)|(apply za3;rfl;rfl;rfl;rfl;exact zao rfl;rfl;rfl)|(apply M_fa;rfl;rfl;rfl;rfl;exact za0 rfl;(first|exact Nat.zero_add _|exact Nat.add_zero _|rfl))|(apply zcC;rfl;rfl;rfl;rfl;rfl;exact zav rfl;exact zao rfl;(first|assumption|rfl|exact (Int.toNat_of_nonneg (by omega)).symm);omega)|(((apply zck;rfl;rfl;rfl;rfl;exact zaJ rfl);(focus repeat' first|exact zaa|assumption|apply zab|(apply Ext.get;assumption));(first|exact zaD (by omega)|rfl|assumption));(first|assumption|exact za6 _ _|rfl|(focus simp [same,same.all2];done));(first|rfl|assumption|exact hwv _|(simp [within];omega)))|((first|(apply zan;rfl;rfl;rfl;rfl;rfl;rfl)|(apply zbE;rfl;rfl;rfl;rfl;rfl;rfl;rfl));exact zfx hK (by omega) (hr.ext (by repeat' first|exact Ext.refl _|assumption|apply Ext.push|refine Ext.trans ?_ (by assumption))) e1 e2;(rintro _ _ ⟨rfl,_⟩))|((first|(apply zan;rfl;rfl;rfl;rfl;rfl;rfl)|(apply zbE;rfl;rfl;rfl;rfl;rfl;rfl;rfl));exact zjc hK hA1 hC1 (by omega) (by omega) (by omega) (by omega) (by omega);(rintro _ _ ⟨rfl,_⟩))|fail))
  exact ⟨.inr rfl, _, rfl, rfl, by repeat' first|exact Ext.refl _|assumption|apply Ext.push|refine Ext.trans ?_ (by assumption)⟩
end Go.AX.Sa

namespace Go.AX.Sa
open Go.Proofs
set_option maxRecDepth 100000
variable {K : Known}
def RightP (s : List (Int × Int)) (l t : List Int) (r o : Int) : Prop := ∀ j, j < s.length -> t.getD j 0 - o <= figv l t r j /\ figv l t r j <= t.getD j 0 + o
end Go.AX.Sa

namespace Go.AX.Sa
open Go.Proofs
set_option maxRecDepth 100000
variable {K : Known}
theorem fill_st (q p : Option Addr) (n k m j : Nat) (r o : Int) : zdW Tryz.prog 82 [(0, .agg #[.slice q n k, .int .i64 r, .int .i64 o]), (1, .slice p m j)] = some (.agg #[.slice q n k, .int .i64 r, .int .i64 o, .slice p m j]) := by kernel_rfl
section
variable {x : Ctx} {N : Nat} {E : Env} {h : Heap} {ops : Array Oper} {F : Ex -> Env -> Heap -> Prop} {i : Nat}
variable {d : Nat} {ty : TypeId} {pos : String} {af : Array Edge} {g : Option (Nat × Bool)} {ps : Array (Nat × Operand)}
theorem zdu {q p : Option Addr} {n k1 m j : Nat} {r o : Int} (hN : Nat.blt d N = true) (hg : gval ops E g = some true) (hk : zai Tryz.prog ⟨some d, .build 82 ps, ty, pos, af, g⟩ = true)
  (hps : E.parts ps.toList = some [(0, .agg #[.slice q n k1, .int .i64 r, .int .i64 o]), (1, .slice p m j)]) (k : R1 Tryz.prog K x N ops F (i + 1) ((d, .agg #[.slice q n k1, .int .i64 r, .int .i64 o, .slice p m j]) :: E) h) : R2 Tryz.prog K x N ops F i ⟨some d, .build 82 ps, ty, pos, af, g⟩ E h := zeG hN hg hk hps (fill_st q p n k1 m j r o) k
end
end Go.AX.Sa

namespace Go.AX.Sa
open Go.Proofs
set_option maxRecDepth 100000
variable {K : Known}
theorem short_ok (hK : NoK K) {T : Tb} {h : Heap} : CallW Tryz.prog K 15 #[tbV T] h (IfB (T.s.length <= 16) h) := by
 obtain ⟨q, kq, s, r, o⟩ := T
 dsimp only [tbV]
 refine body (N := 7) Tryz.func15 rfl (hK _ _ _ rfl) rfl rfl ?_
 by_cases hs : s.length <= 16
 ·(repeat' (first|apply zam|apply zad|(apply O_at;rfl)|(apply zak;rfl)|apply zal|apply zaH|apply zax|(apply zac;rfl;rfl;rfl;rfl)|(apply P_fa;rfl;rfl;rfl;rfl;exact za0 rfl;(first|exact Nat.zero_add _|exact Nat.add_zero _|rfl))|(apply za8;rfl;rfl;rfl;rfl;rfl;rfl;exact zav rfl)|(apply zmQ;rfl;rfl;rfl;rfl;rfl;omega)|(apply zat;rfl;rfl;rfl;rfl;exact zaJ rfl;(focus repeat' first|exact zaa|assumption);(first|rfl|assumption))|(apply za3;rfl;rfl;rfl;rfl;exact zao rfl;rfl;rfl)|fail))
  exact ⟨.inr rfl, _, rfl, .inl ⟨rfl, hs, by (focus repeat' first | exact Ext.refl _ | assumption | apply Ext.push)⟩⟩
 ·(repeat' (first|apply zam|apply zad|(apply O_at;rfl)|(apply zak;rfl)|apply zal|apply zaH|apply zax|(apply zac;rfl;rfl;rfl;rfl)|(apply P_fa;rfl;rfl;rfl;rfl;exact za0 rfl;(first|exact Nat.zero_add _|exact Nat.add_zero _|rfl))|(apply za8;rfl;rfl;rfl;rfl;rfl;rfl;exact zav rfl)|(apply zp4;rfl;rfl;rfl;rfl;rfl;omega)|(apply zat;rfl;rfl;rfl;rfl;exact zaJ rfl;(focus repeat' first|exact zaa|assumption);(first|rfl|assumption))|(apply za3;rfl;rfl;rfl;rfl;exact zao rfl;rfl;rfl)|fail))
  exact ⟨.inr rfl, _, rfl, .inr ⟨rfl, hs, by (focus repeat' first | exact Ext.refl _ | assumption | apply Ext.push)⟩⟩
end Go.AX.Sa

namespace Go.AX.Sa
open Go.Proofs
set_option maxRecDepth 100000
variable {K : Known}
structure RowAt (p : Option Addr) (l : List Int) (cap : Nat) (h : Heap) : Prop where
 rd : Rd h p (ints l)
 b : ∀ a, p = some a -> a.block < h.n
 cap : l.length <= 1000000 -> l.length <= cap
theorem RowAt.ext {p : Option Addr} {l : List Int} {cap : Nat} {h h1 : Heap} (x : RowAt p l cap h) (e : Ext h h1) : RowAt p l cap h1 := ⟨x.rd.ext e, fun a q => Nat.lt_of_lt_of_le (x.b a q) e.n, x.cap⟩
end Go.AX.Sa

namespace Go.AX.Sa
open Go.Proofs
set_option maxRecDepth 100000
variable {K : Known}
theorem mixv_lo (a c x y : Int) : mixv a c a x y = x * (c - a) := by
 unfold mixv; rw [Int.sub_self, Int.mul_zero, Int.add_zero]
theorem mixv_hi (a c x y : Int) : mixv a c c x y = y * (c - a) := by
 unfold mixv; rw [Int.sub_self, Int.mul_zero, Int.zero_add]
theorem figv_mix {l t : List Int} {r : Int} {i j : Nat} (hG : zfs l) (hi : i + 1 < l.length) (h1 : l.getD i 0 <= (j : Nat)) (h2 : ((j : Nat) : Int) <= l.getD (i + 1) 0) :
  figv l t r j = rnd r (mixv (l.getD i 0) (l.getD (i + 1) 0) j (t.getD (l.getD i 0).toNat 0) (t.getD (l.getD (i + 1) 0).toNat 0)) (l.getD (i + 1) 0 - l.getD i 0) := by
 have hg := hG i hi
 by_cases e1 : l.getD i 0 = (j : Nat)
 ·rw [zcA hG (by omega) e1, e1, mixv_lo, zkB (by omega), Int.toNat_natCast]
 ·by_cases e2 : l.getD (i + 1) 0 = (j : Nat)
  ·rw [zcA hG hi e2, e2, mixv_hi, zkB (by omega), Int.toNat_natCast]
  ·exact zcJ hG hi (by omega) (by omega)
theorem zk1 (a c j x y : Int) : mixv a c j x y = mix a c j x y := rfl
theorem zlm {l t : List Int} {r lo hi : Int} {i j : Nat} (hG : zfs l) (hi' : i + 1 < l.length) (h1 : l.getD i 0 <= (j : Nat)) (h2 : ((j : Nat) : Int) <= l.getD (i + 1) 0)
  (x1 : lo <= t.getD (l.getD i 0).toNat 0) (x2 : t.getD (l.getD i 0).toNat 0 <= hi) (y1 : lo <= t.getD (l.getD (i + 1) 0).toNat 0) (y2 : t.getD (l.getD (i + 1) 0).toNat 0 <= hi) :
  lo <= figv l t r j /\ figv l t r j <= hi := by
 have hg := hG i hi'
 rw [figv_mix hG hi' h1 h2, zk1]
 exact zk2 h1 h2 hg x1 x2 y1 y2
def RightT (T : Tb) (l : List Int) : Prop := T.s.length <= 16 /\ l.length <= 16 /\ TbP T /\ zbD T.s.length l
end Go.AX.Sa

namespace Go.AX.Sa
open Go.Proofs
set_option maxRecDepth 100000
variable {K : Known}
theorem zff {s : List (Int × Int)} {t : List Int} (hV : Vals s) (hT : zfb s t) {j : Nat} (hj : j < s.length) : -9999 <= t.getD j 0 /\ t.getD j 0 <= 9999 := by
 have h1 := hV j hj
 have h2 := hT.2 j (by rw [hT.1]; exact hj)
 unfold ValP at h1
 omega
theorem zdQ {n : Nat} {l : List Int} (hKp : zbD n l) {i : Nat} (hi : i < l.length) : 0 <= l.getD i 0 /\ l.getD i 0 <= (n : Int) - 1 := by
 have a := zc7 hKp.2.2.2 (Nat.zero_le i) hi
 have c := zc7 hKp.2.2.2 (show i <= l.length - 1 by omega) (by omega)
 have h0 := hKp.2.1
 have h1 := hKp.2.2.1
 omega
theorem zeZ {s : List (Int × Int)} {l t : List Int} {r : Int} (hV : Vals s) (hKp : zbD s.length l) (hT : zfb s t) {j : Nat} (hj : j < s.length) : -9999 <= (figs l t r s.length).getD j 0 /\ (figs l t r s.length).getD j 0 <= 9999 := by
 rw [ze0 hj]
 rcases zhp hKp hj with ⟨i, hi, hij⟩ | ⟨i, hi, h1, h2⟩
 ·rw [zcA hKp.2.2.2 hi hij]
  exact zff hV hT hj
 ·have a1 := zdQ hKp (i := i) (by omega)
  have a2 := zdQ hKp hi
  have b1 := zff hV hT (j := (l.getD i 0).toNat) (by omega)
  have b2 := zff hV hT (j := (l.getD (i + 1) 0).toNat) (by omega)
  exact zlm hKp.2.2.2 hi (by omega) (by omega) b1.1 b1.2 b2.1 b2.2
end Go.AX.Sa

namespace Go.AX.Sa
open Go.Proofs
set_option maxRecDepth 100000
variable {K : Known}
end Go.AX.Sa

namespace Go.AX.Sa
open Go.Proofs
set_option maxRecDepth 100000
variable {K : Known}
theorem least_ok (hK : NoK K) {a b : Int} {h : Heap} : CallW Tryz.prog K 145 #[.agg #[.int .i64 a, .int .i64 b]] h (IsV (.int .i64 a) h) := by
 refine body (N := 5) Tryz.func145 rfl (hK _ _ _ rfl) rfl rfl ?_
 (repeat' (first|apply zam|apply zad|(apply O_at;rfl)|(apply zak;rfl)|apply zal|apply zaH|apply zax|(apply zac;rfl;rfl;rfl;rfl)|(apply P_fa;rfl;rfl;rfl;rfl;exact za0 rfl;(first|exact Nat.zero_add _|exact Nat.add_zero _|rfl))|(apply zat;rfl;rfl;rfl;rfl;exact zaJ rfl;(focus repeat' first|exact zaa|assumption);(first|rfl|assumption))|(apply za3;rfl;rfl;rfl;rfl;exact zao rfl;rfl;rfl)|fail))
 exact ⟨.inr rfl, _, rfl, rfl, by (focus repeat' first | exact Ext.refl _ | assumption | apply Ext.push)⟩
theorem zlh (hK : NoK K) {a b : Int} {h : Heap} : CallW Tryz.prog K 146 #[.agg #[.int .i64 a, .int .i64 b]] h (IsV (.int .i64 b) h) := by
 refine body (N := 5) Tryz.func146 rfl (hK _ _ _ rfl) rfl rfl ?_
 (repeat' (first|apply zam|apply zad|(apply O_at;rfl)|(apply zak;rfl)|apply zal|apply zaH|apply zax|(apply zac;rfl;rfl;rfl;rfl)|(apply P_fa;rfl;rfl;rfl;rfl;exact za0 rfl;(first|exact Nat.zero_add _|exact Nat.add_zero _|rfl))|(apply zat;rfl;rfl;rfl;rfl;exact zaJ rfl;(focus repeat' first|exact zaa|assumption);(first|rfl|assumption))|(apply za3;rfl;rfl;rfl;rfl;exact zao rfl;rfl;rfl)|fail))
 exact ⟨.inr rfl, _, rfl, rfl, by (focus repeat' first | exact Ext.refl _ | assumption | apply Ext.push)⟩
def twoF : Array Value := #[.func (.func 145) #[] #[], .func (.func 146) #[] #[]]
theorem fill146 : zdW Tryz.prog 171 [(0, .func (.func 145) #[] #[]), (1, .func (.func 146) #[] #[])] = some (.agg twoF) := by kernel_rfl
def RdV (h : Heap) (v : Value) (l : List Int) : Prop := ∃ p cap, v = .slice p l.length cap /\ Rd h p (ints l)
theorem RdV.ext {h h1 : Heap} {v : Value} {l : List Int} (r : RdV h v l) (x : Ext h h1) : RdV h1 v l := by
 obtain ⟨p, cap, e, r⟩ := r
 exact ⟨p, cap, e, r.ext x⟩
theorem OutI.rdV {e : TypeId} {h0 h : Heap} {v : Value} {l : List Int} (o : OutI e h0 h v l) : RdV h v l := by
 rcases o with ⟨rfl, rfl⟩ | ⟨_, b, h1, h2, _⟩
 ·exact ⟨none, 0, rfl, .inl rfl⟩
 ·exact ⟨_, _, h1, .inr ⟨b, e, true, rfl, h2⟩⟩
def lows (s : List (Int × Int)) : List Int := s.map (·.1)
def highs (s : List (Int × Int)) : List Int := s.map (·.2)
theorem zjC {s : List (Int × Int)} {k : Nat} (h : k < s.length) : (lows s).take (k + 1) = (lows s).take k ++ [(s.getD k (0, 0)).1] := by
 rw [List.take_succ_eq_append_getElem (by simpa [lows] using h)]
 simp [lows, List.getD_eq_getElem?_getD, h]
theorem zhy {s : List (Int × Int)} {k : Nat} (h : k < s.length) : (highs s).take (k + 1) = (highs s).take k ++ [(s.getD k (0, 0)).2] := by
 rw [List.take_succ_eq_append_getElem (by simpa [highs] using h)]
 simp [highs, List.getD_eq_getElem?_getD, h]
theorem OutI.one {e : TypeId} {h0 h : Heap} {v : Value} {l : List Int} (o : OutI e h0 h v l) : oneB v = true /\ v.cells = #[v] := by
 rcases o with ⟨_, rfl⟩ | ⟨_, b, rfl, _⟩ <;> exact ⟨rfl, rfl⟩
theorem OutI.sameV {e : TypeId} {h0 h : Heap} {v : Value} {l : List Int} (o : OutI e h0 h v l) : same 20 v v = true := by
 rcases o with ⟨_, rfl⟩ | ⟨_, b, rfl, _⟩ <;> simp [same]
theorem OutI.withinV {e : TypeId} {h0 h : Heap} {v : Value} {l : List Int} (o : OutI e h0 h v l) {m : Nat} (hm : h.n <= m) : within 20 m v = true := by
 rcases o with ⟨_, rfl⟩ | ⟨_, b, rfl, g, _⟩
 ·rfl
 ·have := Heap.get_lt g
  simp [within]; omega
theorem ends_ok (hK : NoK K) {s : List (Int × Int)} {p : Option Addr} {cap : Nat} {h : Heap} (hp : Rd h p (zah s)) (hsl : s.length <= 1000) :
  CallW Tryz.prog K 122 #[.slice p s.length cap] h (fun u h1 => ∃ u0 u1, u = .agg #[u0, u1] /\ RdV h1 u0 (lows s) /\ RdV h1 u1 (highs s) /\ Ext h h1) := by
 refine body (N := 34) Tryz.func122 rfl (hK _ _ _ rfl) rfl rfl ?_
 (repeat' (first|apply zam|apply zad|(apply O_at;rfl)|(apply zak;rfl)|apply zal|(apply zbK;rfl;rfl;rfl;rfl;exact zao rfl;rfl;rfl)|fail))
 apply zeG; rfl; rfl; rfl; rfl; exact fill146
 (repeat' (first|apply zam|apply zad|(apply O_at;rfl)|(apply zak;rfl)|apply zal|apply zaq|((first|apply zag|apply zac|apply zaL);rfl;rfl;rfl;rfl)|(apply zaK;rfl;rfl;rfl;rfl;exact za2 rfl;(focus repeat' first|exact zaa|assumption|apply zab|(apply Ext.get;assumption)|(apply ExtBut.get;assumption;(first|assumption|omega|(simp only [Heap.push];omega))));(first|exact Nat.le_of_ble_eq_true rfl|(simp;done)|(simp;omega)|(rw [zaj];omega));(first|exact zaP (by omega)|rfl))|(apply zbk;rfl;rfl;rfl;rfl;exact zao rfl;rfl;rfl;rfl)|(apply zbK;rfl;rfl;rfl;rfl;exact zao rfl;rfl;rfl)|fail))
 refine zbh (fun a : Nat × Value × Value => [(11, .int .i64 (a.1 : Nat)), (10, .agg twoF), (4, .pointer (some ⟨h.n + 2, 0, none⟩)), (2, .pointer (some ⟨h.n, 0, none⟩)), (0, .slice p s.length cap)])
  (fun a h' => a.1 <= 2 /\ h.n + 3 <= h'.n /\ ExtBut (h.n + 2) (h.push (.cells [nilV, nilV] 141 true)) h' /\ h'.get? (h.n + 2) = some (.cells [a.2.1, a.2.2] 141 true) /\ (a.1 = 0 -> a.2.1 = nilV) /\ (a.1 <= 1 -> a.2.2 = nilV) /\ (0 < a.1 -> RdV h' a.2.1 (lows s)) /\ (1 < a.1 -> RdV h' a.2.2 (highs s))) (fun a => 2 - a.1) ?_ (0, nilV, nilV) ?_ ?_
 ·rintro ⟨i, v0, v1⟩ h' ⟨hi, hn, hx, hb, z0, z1, r0, r1⟩ ih
  dsimp only at hi hn hx hb z0 z1 r0 r1 ih ⊢
  by_cases hlt : i < 2
  ·have hlt' : (i : Int) < 2 := by omega
   rcases (show i = 0 \/ i = 1 by omega) with rfl | rfl
   ·obtain rfl := z0 rfl
    obtain rfl := z1 (by decide)
    (repeat' (first|apply zam|apply zad|(apply O_at;rfl)|(apply zak;rfl)|apply zal|(apply zaX;rfl)|apply zaq|apply zaG|((first|apply zag|apply zac|apply zaL);rfl;rfl;rfl;rfl)|(apply za8;rfl;rfl;rfl;rfl;rfl;rfl;exact zav rfl)|(apply za1;rfl;rfl;rfl;rfl;rfl;omega)|(apply zf5;rfl;rfl;rfl;rfl;rfl;(first|assumption|exact zq0|exact zq1|rfl|exact (Int.toNat_of_nonneg (by omega)).symm);exact zfK rfl;exact zaJ rfl;(first|decide|omega);rfl)|fail))
    refine zbh (fun a : Nat × Value => [(17, .int .i64 (a.1 : Nat)), (16, .int .i64 (s.length : Nat)), (15, .slice p s.length cap), (5, .int .i64 ((0 : Nat) : Int)), (6, .func (.func 145) #[] #[]), (11, .int .i64 ((0 : Nat) : Int)), (10, .agg twoF), (4, .pointer (some ⟨h.n + 2, 0, none⟩)), (2, .pointer (some ⟨h.n, 0, none⟩)), (0, .slice p s.length cap)])
     (fun a h2 => a.1 <= s.length /\ ExtBut (h.n + 2) h' h2 /\ OutI 3 h' h2 a.2 ((lows s).take a.1) /\ h2.get? (h.n + 2) = some (.cells [a.2, nilV] 141 true)) (fun a => s.length - a.1) ?_ (0, nilV) ?_ ?_
    ·rintro ⟨k, v⟩ h2 ⟨hk, hx2, ho, hb2⟩ ih2
     dsimp only at hk hx2 hb2 ih2 ⊢
     replace ho : OutI 3 h' h2 v ((lows s).take k) := ho
     by_cases hks : k < s.length
     ·obtain ⟨bs, es, owns, rfl, hg⟩ := hp.at (by rw [zaj]; omega)
      have hbs : bs < h.n := Heap.get_lt hg
      have hg1 : h2.get? bs = some (.cells (zah s) es owns) := hx2.get (by omega) (hx.get (by omega) (zab hg))
      have hle : ((lows s).take k).length <= 10000 := by rw [List.length_take]; omega
      obtain ⟨one1, one2⟩ := OutI.one (e := 3) (h0 := h') ho
      have hn2 := hx2.n
      have hsv := OutI.sameV (e := 3) (h0 := h') ho
      have hwv : ∀ blk, within 20 (h2.push blk).n v = true := fun blk => OutI.withinV (e := 3) (h0 := h') ho (Nat.le_succ _)
      (repeat' (first|apply zam|apply zad|(apply O_at;rfl)|(apply N_at;rfl)|(apply zak;rfl)|apply zal|(apply zaX;rfl)|(apply zb0;exact zaN (by decide +kernel))|apply zaq|apply zaG|((first|apply zag|apply zac|apply zaL);rfl;rfl;rfl;rfl)|(apply za1;rfl;rfl;rfl;rfl;rfl;omega)|(apply zdt;rfl;rfl;rfl;rfl;rfl;exact zav rfl;exact zao rfl;(first|assumption|exact zq0|exact zq1|rfl|exact (Int.toNat_of_nonneg (by omega)).symm);omega)|(apply zaK;rfl;rfl;rfl;rfl;exact za2 rfl;(focus repeat' first|exact zaa|assumption|apply zab|(apply Ext.get;assumption)|(apply ExtBut.get;assumption;(first|assumption|omega|(simp only [Heap.push];omega))));(first|exact Nat.le_of_ble_eq_true rfl|(simp;done)|(simp;omega)|(rw [zaj];omega));(first|exact zaP (by omega)|rfl))|(apply zbk;rfl;rfl;rfl;rfl;exact zao rfl;rfl;rfl;rfl)|(apply zbK;rfl;rfl;rfl;rfl;exact zao rfl;rfl;rfl)|(apply zmY;rfl;rfl;rfl;rfl;rfl;rfl;rfl;exact zeD rfl)|((first|((apply zmW;rfl;rfl;rfl;rfl;exact zaJ rfl;exact zhH (by decide +kernel));(focus repeat' first|exact zaa|assumption|apply zab|(apply Ext.get;assumption)|(apply ExtBut.get;assumption;(first|assumption|omega|(simp only [Heap.push];omega))));(first|rfl|assumption))|((apply zmV;rfl;rfl;rfl;rfl;exact za2 rfl;exact zbY (by decide +kernel));(focus repeat' first|exact zaa|assumption|apply zab|(apply Ext.get;assumption)|(apply ExtBut.get;assumption;(first|assumption|omega|(simp only [Heap.push];omega))));(first|exact Nat.le_of_ble_eq_true rfl|(simp;done)|(simp;omega)|(rw [zaj];omega));(first|exact zaP (by omega)|rfl)));(first|assumption|exact zge _ _|rfl|(focus simp [same,same.all2];done));(first|rfl|assumption|exact hwv _|(simp [within];omega)))|(apply zkc;rfl;rfl;rfl;rfl;rfl;exact zfK rfl;exact zao rfl;(first|assumption|exact zq0|exact zq1|rfl|exact (Int.toNat_of_nonneg (by omega)).symm);omega)|(apply zbE;rfl;rfl;rfl;rfl;rfl;rfl;rfl;exact least_ok hK;(rintro _ _ ⟨rfl,_⟩))|fail))
      rename_i h3 hx3
      have hb3 : h3.get? (h.n + 2) = some (.cells [v, nilV] 141 true) := hx3.get (zab hb2)
      apply zqg (h0 := h'); rfl; rfl; rfl; rfl; rfl; rfl; rfl; rfl; exact zeD rfl; exact zav rfl; exact zaa; exact OutI.ext (e := 3) (h0 := h') ho (by (focus repeat' first | exact Ext.refl _ | assumption | apply Ext.push | (refine Ext.trans ?_ (by assumption)) | (refine Ext.ofBut ?_ (by assumption) (by first | exact Nat.le_refl _ | omega)))); exact (by have := hx3.n; simp only [Heap.push] at this ⊢; omega); exact hle; rfl
      intro v3 h4 ho4 k4
      replace ho4 : OutI 3 h' h4 v3 ((lows s).take (k + 1)) := by rw [zjC hks]; exact ho4
      have hb4 : h4.get? (h.n + 2) = some (.cells [v, nilV] 141 true) := k4.lo (by omega) (zab hb3)
      obtain ⟨on1, on2⟩ := OutI.one (e := 3) (h0 := h') ho4
      (repeat' (first|(apply N_at;rfl)|(apply zkc;rfl;rfl;rfl;rfl;rfl;exact zfK rfl;exact zao rfl;(first|assumption|exact zq0|exact zq1|rfl|exact (Int.toNat_of_nonneg (by omega)).symm);omega)|fail))
      apply zmU (c' := [v3, nilV]); rfl; rfl; rfl; rfl; exact hb4; exact zao rfl; exact (by rw [on2]; rfl); exact (by simp); exact (by rw [on2]; simp [on1]); exact (by rw [on2]; rfl); rfl
      intro h5 hb5 hx5
      have hx25 : ExtBut (h.n + 2) h' h5 := ⟨by have q1 := k4.n; have q2 := hx5.n; have q3 := hx3.n; simp only [Heap.push] at q1 q2 q3; omega, fun c x hne g => hx5.get hne (k4.lo (Heap.get_lt g) (zab (hx3.get (zab (hx2.get hne g)))))⟩
      have ho5 : OutI 3 h' h5 v3 ((lows s).take (k + 1)) := OutI.but (h0 := h') ho4 hx5 (by omega)
      (repeat' (first|apply zad|(apply O_at;rfl)|(apply zak;rfl)|apply zal|(apply zcL;rfl;refine .inr ?_;(focus repeat' first|exact trivial|exact Keeps.nil _ _|apply And.intro|rfl|(apply Keeps.cons;iterate 2 (focus repeat' first|exact zaa|assumption|apply zab|(apply Ext.get;assumption)|(apply ExtBut.get;assumption;(first|assumption|omega|(simp only [Heap.push];omega)))))))|apply zaE|((first|apply zag|apply zac|apply zaL);rfl;rfl;rfl;rfl)|(apply zbL;rfl;rfl;rfl;rfl;rfl;(unfold fit;omega))|fail))
      exact zaR (ih2 (k + 1, v3) _ (by dsimp only; omega) ⟨hks, hx25, ho5, hb5⟩) (by (focus repeat' first | rfl | exact trivial | apply And.intro))
     ·have hks' : k = s.length := by omega
      subst hks'
      (repeat' (first|apply zam|apply zad|(apply O_at;rfl)|(apply zak;rfl)|apply zal|(apply zaS;rfl)|apply zbx|apply zbF|apply za4|apply za5|apply zaE|((first|apply zag|apply zac|apply zaL);rfl;rfl;rfl;rfl)|(apply zbJ;rfl;rfl;rfl;rfl;rfl;omega)|(apply zbL;rfl;rfl;rfl;rfl;rfl;(unfold fit;omega))|fail))
      have hl : (lows s).take s.length = lows s := List.take_of_length_le (by simp [lows])
      rw [hl] at ho
      exact zaR (ih (1, v, nilV) _ (by dsimp only; omega) ⟨by dsimp only; omega, by have := hx2.n; omega, hx.trans hx2, hb2, fun q => absurd q (by dsimp only; omega), fun _ => rfl, fun _ => OutI.rdV (e := 3) (h0 := h') ho, fun q => absurd q (by dsimp only; omega)⟩) (by (focus repeat' first | rfl | exact trivial | apply And.intro))
    ·exact ⟨Nat.zero_le _, ExtBut.refl _ _, OutI.nil _ _ _, hb⟩
    ·(focus repeat' first | rfl | exact trivial | apply And.intro)
   ·obtain rfl := z1 (by decide)
    obtain ⟨p0, c0, rfl, rd0⟩ := r0 (by decide)
    (repeat' (first|apply zam|apply zad|(apply O_at;rfl)|(apply zak;rfl)|apply zal|(apply zaX;rfl)|apply zaq|apply zaG|((first|apply zag|apply zac|apply zaL);rfl;rfl;rfl;rfl)|(apply za8;rfl;rfl;rfl;rfl;rfl;rfl;exact zav rfl)|(apply za1;rfl;rfl;rfl;rfl;rfl;omega)|(apply zf5;rfl;rfl;rfl;rfl;rfl;(first|assumption|exact zq0|exact zq1|rfl|exact (Int.toNat_of_nonneg (by omega)).symm);exact zfK rfl;exact zaJ rfl;(first|decide|omega);rfl)|fail))
    refine zbh (fun a : Nat × Value => [(17, .int .i64 (a.1 : Nat)), (16, .int .i64 (s.length : Nat)), (15, .slice p s.length cap), (5, .int .i64 ((1 : Nat) : Int)), (6, .func (.func 146) #[] #[]), (11, .int .i64 ((1 : Nat) : Int)), (10, .agg twoF), (4, .pointer (some ⟨h.n + 2, 0, none⟩)), (2, .pointer (some ⟨h.n, 0, none⟩)), (0, .slice p s.length cap)])
     (fun a h2 => a.1 <= s.length /\ ExtBut (h.n + 2) h' h2 /\ OutI 3 h' h2 a.2 ((highs s).take a.1) /\ h2.get? (h.n + 2) = some (.cells [.slice p0 (lows s).length c0, a.2] 141 true)) (fun a => s.length - a.1) ?_ (0, nilV) ?_ ?_
    ·rintro ⟨k, v⟩ h2 ⟨hk, hx2, ho, hb2⟩ ih2
     dsimp only at hk hx2 hb2 ih2 ⊢
     replace ho : OutI 3 h' h2 v ((highs s).take k) := ho
     by_cases hks : k < s.length
     ·obtain ⟨bs, es, owns, rfl, hg⟩ := hp.at (by rw [zaj]; omega)
      have hbs : bs < h.n := Heap.get_lt hg
      have hg1 : h2.get? bs = some (.cells (zah s) es owns) := hx2.get (by omega) (hx.get (by omega) (zab hg))
      have hle : ((highs s).take k).length <= 10000 := by rw [List.length_take]; omega
      obtain ⟨one1, one2⟩ := OutI.one (e := 3) (h0 := h') ho
      have hn2 := hx2.n
      have hsv := OutI.sameV (e := 3) (h0 := h') ho
      have hwv : ∀ blk, within 20 (h2.push blk).n v = true := fun blk => OutI.withinV (e := 3) (h0 := h') ho (Nat.le_succ _)
      (repeat' (first|apply zam|apply zad|(apply O_at;rfl)|(apply N_at;rfl)|(apply zak;rfl)|apply zal|(apply zaX;rfl)|(apply zb0;exact zaN (by decide +kernel))|apply zaq|apply zaG|((first|apply zag|apply zac|apply zaL);rfl;rfl;rfl;rfl)|(apply za1;rfl;rfl;rfl;rfl;rfl;omega)|(apply zdt;rfl;rfl;rfl;rfl;rfl;exact zav rfl;exact zao rfl;(first|assumption|exact zq0|exact zq1|rfl|exact (Int.toNat_of_nonneg (by omega)).symm);omega)|(apply zaK;rfl;rfl;rfl;rfl;exact za2 rfl;(focus repeat' first|exact zaa|assumption|apply zab|(apply Ext.get;assumption)|(apply ExtBut.get;assumption;(first|assumption|omega|(simp only [Heap.push];omega))));(first|exact Nat.le_of_ble_eq_true rfl|(simp;done)|(simp;omega)|(rw [zaj];omega));(first|exact zaP (by omega)|rfl))|(apply zbk;rfl;rfl;rfl;rfl;exact zao rfl;rfl;rfl;rfl)|(apply zbK;rfl;rfl;rfl;rfl;exact zao rfl;rfl;rfl)|(apply zmY;rfl;rfl;rfl;rfl;rfl;rfl;rfl;exact zeD rfl)|((first|((apply zmW;rfl;rfl;rfl;rfl;exact zaJ rfl;exact zhH (by decide +kernel));(focus repeat' first|exact zaa|assumption|apply zab|(apply Ext.get;assumption)|(apply ExtBut.get;assumption;(first|assumption|omega|(simp only [Heap.push];omega))));(first|rfl|assumption))|((apply zmV;rfl;rfl;rfl;rfl;exact za2 rfl;exact zbY (by decide +kernel));(focus repeat' first|exact zaa|assumption|apply zab|(apply Ext.get;assumption)|(apply ExtBut.get;assumption;(first|assumption|omega|(simp only [Heap.push];omega))));(first|exact Nat.le_of_ble_eq_true rfl|(simp;done)|(simp;omega)|(rw [zaj];omega));(first|exact zaP (by omega)|rfl)));(first|assumption|exact zge _ _|rfl|(focus simp [same,same.all2];done));(first|rfl|assumption|exact hwv _|(simp [within];omega)))|(apply zkc;rfl;rfl;rfl;rfl;rfl;exact zfK rfl;exact zao rfl;(first|assumption|exact zq0|exact zq1|rfl|exact (Int.toNat_of_nonneg (by omega)).symm);omega)|(apply zbE;rfl;rfl;rfl;rfl;rfl;rfl;rfl;exact zlh hK;(rintro _ _ ⟨rfl,_⟩))|fail))
      rename_i h3 hx3
      have hb3 : h3.get? (h.n + 2) = some (.cells [.slice p0 (lows s).length c0, v] 141 true) := hx3.get (zab hb2)
      apply zqg (h0 := h'); rfl; rfl; rfl; rfl; rfl; rfl; rfl; rfl; exact zeD rfl; exact zav rfl; exact zaa; exact OutI.ext (e := 3) (h0 := h') ho (by (focus repeat' first | exact Ext.refl _ | assumption | apply Ext.push | (refine Ext.trans ?_ (by assumption)) | (refine Ext.ofBut ?_ (by assumption) (by first | exact Nat.le_refl _ | omega)))); exact (by have := hx3.n; simp only [Heap.push] at this ⊢; omega); exact hle; rfl
      intro v3 h4 ho4 k4
      replace ho4 : OutI 3 h' h4 v3 ((highs s).take (k + 1)) := by rw [zhy hks]; exact ho4
      have hb4 : h4.get? (h.n + 2) = some (.cells [.slice p0 (lows s).length c0, v] 141 true) := k4.lo (by omega) (zab hb3)
      obtain ⟨on1, on2⟩ := OutI.one (e := 3) (h0 := h') ho4
      (repeat' (first|(apply N_at;rfl)|(apply zkc;rfl;rfl;rfl;rfl;rfl;exact zfK rfl;exact zao rfl;(first|assumption|exact zq0|exact zq1|rfl|exact (Int.toNat_of_nonneg (by omega)).symm);omega)|fail))
      apply zmU (c' := [.slice p0 (lows s).length c0, v3]); rfl; rfl; rfl; rfl; exact hb4; exact zao rfl; exact (by rw [on2]; rfl); exact (by simp); exact (by rw [on2]; simp [on1]); exact (by rw [on2]; rfl); rfl
      intro h5 hb5 hx5
      have hx25 : ExtBut (h.n + 2) h' h5 := ⟨by have q1 := k4.n; have q2 := hx5.n; have q3 := hx3.n; simp only [Heap.push] at q1 q2 q3; omega, fun c x hne g => hx5.get hne (k4.lo (Heap.get_lt g) (zab (hx3.get (zab (hx2.get hne g)))))⟩
      have ho5 : OutI 3 h' h5 v3 ((highs s).take (k + 1)) := OutI.but (h0 := h') ho4 hx5 (by omega)
      (repeat' (first|apply zad|(apply O_at;rfl)|(apply zak;rfl)|apply zal|(apply zcL;rfl;refine .inr ?_;(focus repeat' first|exact trivial|exact Keeps.nil _ _|apply And.intro|rfl|(apply Keeps.cons;iterate 2 (focus repeat' first|exact zaa|assumption|apply zab|(apply Ext.get;assumption)|(apply ExtBut.get;assumption;(first|assumption|omega|(simp only [Heap.push];omega)))))))|apply zaE|((first|apply zag|apply zac|apply zaL);rfl;rfl;rfl;rfl)|(apply zbL;rfl;rfl;rfl;rfl;rfl;(unfold fit;omega))|fail))
      exact zaR (ih2 (k + 1, v3) _ (by dsimp only; omega) ⟨hks, hx25, ho5, hb5⟩) (by (focus repeat' first | rfl | exact trivial | apply And.intro))
     ·have hks' : k = s.length := by omega
      subst hks'
      (repeat' (first|apply zam|apply zad|(apply O_at;rfl)|(apply zak;rfl)|apply zal|(apply zaS;rfl)|apply zbx|apply zbF|apply za4|apply za5|apply zaE|((first|apply zag|apply zac|apply zaL);rfl;rfl;rfl;rfl)|(apply zbJ;rfl;rfl;rfl;rfl;rfl;omega)|(apply zbL;rfl;rfl;rfl;rfl;rfl;(unfold fit;omega))|fail))
      have hl : (highs s).take s.length = highs s := List.take_of_length_le (by simp [highs])
      rw [hl] at ho
      have rd2 : Rd h2 p0 (ints (lows s)) := by
       rcases rd0 with r | ⟨b, e, own, rfl, g⟩
       ·exact .inl r
       ·refine .inr ⟨b, e, own, rfl, hx2.get (fun q => ?_) g⟩
        subst q
        rw [hb] at g
        cases hls : lows s with
        | nil => rw [hls] at g; cases g
        | cons z l => rw [hls] at g; cases g
      exact zaR (ih (2, .slice p0 (lows s).length c0, v) _ (by dsimp only; omega) ⟨by dsimp only; omega, by have := hx2.n; omega, hx.trans hx2, hb2, fun q => absurd q (by dsimp only; omega), fun q => absurd q (by dsimp only; omega), fun _ => ⟨p0, c0, rfl, rd2⟩, fun _ => OutI.rdV (e := 3) (h0 := h') ho⟩) (by (focus repeat' first | rfl | exact trivial | apply And.intro))
    ·exact ⟨Nat.zero_le _, ExtBut.refl _ _, OutI.nil _ _ _, hb⟩
    ·(focus repeat' first | rfl | exact trivial | apply And.intro)
  ·have : i = 2 := by omega
   subst this
   obtain ⟨p0, c0, rfl, rd0⟩ := r0 (by decide)
   obtain ⟨p1, c1, rfl, rd1⟩ := r1 (by decide)
   have hg0 : h'.get? h.n = some (.cells [nilV, nilV] 141 true) := hx.get (by omega) zaa
   have hx0 : Ext h h' := Ext.ofBut ((Ext.refl _).push _) hx (by omega)
   (repeat' (first|apply zam|apply zad|(apply O_at;rfl)|(apply zak;rfl)|apply zal|(apply zaS;rfl)|apply zbx|apply zaH|apply zbF|apply za4|apply za5|apply zax|(apply zbJ;rfl;rfl;rfl;rfl;rfl;omega)|(apply zaK;rfl;rfl;rfl;rfl;exact za2 rfl;(focus repeat' first|exact zaa|assumption|apply zab|(apply Ext.get;assumption)|(apply ExtBut.get;assumption;(first|assumption|omega|(simp only [Heap.push];omega))));(first|exact Nat.le_of_ble_eq_true rfl|(simp;done)|(simp;omega)|(rw [zaj];omega));(first|exact zaP (by omega)|rfl))|(apply zej;rfl;rfl;rfl;rfl;(focus repeat' first|exact zaa|assumption|apply zab|(apply Ext.get;assumption)|(apply ExtBut.get;assumption;(first|assumption|omega|(simp only [Heap.push];omega))));exact zao rfl;rfl;(first|rfl|exact zar _);rfl;(intro _ _ _))|fail))
   rename_i h4 hb4 hx4
   have e4 : Ext h h4 := Ext.ofBut hx0 hx4 (Nat.le_refl _)
   have hlo : ∀ {q : Option Addr} {l : List Int}, Rd h' q (ints l) -> Rd h4 q (ints l) := by
    intro q l r
    rcases r with r | ⟨b, e, own, rfl, g⟩
    ·exact .inl r
    ·refine .inr ⟨b, e, own, rfl, hx4.get (fun q => ?_) g⟩
     subst q
     rw [hg0] at g
     cases l with
     | nil => cases g
     | cons z l => cases g
   exact ⟨.inr rfl, _, zl7 rfl (readA (za2 rfl) hb4 (Nat.le_of_ble_eq_true rfl) rfl) rfl, _, _, rfl, ⟨p0, c0, rfl, hlo rd0⟩, ⟨p1, c1, rfl, hlo rd1⟩, e4⟩
 ·refine ⟨by decide, Nat.le_refl _, ((Ext.refl _).push _ |>.push _).but _, zaa, fun _ => rfl, fun _ => rfl, fun q => absurd q (by dsimp only; omega), fun q => absurd q (by dsimp only; omega)⟩
 ·(focus repeat' first | rfl | exact trivial | apply And.intro)
end Go.AX.Sa

namespace Go.AX.Sa
open Go.Proofs
set_option maxRecDepth 100000
variable {K : Known}
theorem mem_at {l : List Int} {x : Int} : x ∈ l ↔ ∃ k, k < l.length /\ l.getD k 0 = x := by
 rw [List.mem_iff_getElem]
 constructor
 ·rintro ⟨k, hk, e⟩
  exact ⟨k, hk, by simpa [List.getD_eq_getElem?_getD, hk] using e⟩
 ·rintro ⟨k, hk, e⟩
  exact ⟨k, hk, by simpa [List.getD_eq_getElem?_getD, hk] using e⟩
theorem index_ok (hK : NoK K) {l : List Int} {x : Int} {p : Option Addr} {cap : Nat} {h : Heap} (hl : l.length <= 1000) (hr : Rd h p (ints l)) :
  CallW Tryz.prog K 123 #[.slice p l.length cap, .int .i64 x] h fun v h1 => ∃ n : Int, v = .int .i64 n /\ (0 <= n ↔ x ∈ l) /\ Ext h h1 := by
 refine body (N := 19) Tryz.func123 rfl (hK _ _ _ rfl) rfl rfl ?_
 (repeat' (first|apply zam|apply zad|(apply O_at;rfl)|(apply zak;rfl)|apply zal|apply zaq|((first|apply zag|apply zac);rfl;rfl;rfl;rfl)|(apply za8;rfl;rfl;rfl;rfl;rfl;rfl;exact zav rfl)|fail))
 refine zbh (fun k : Nat => [(8, .int .i64 (k : Nat)), (7, .int .i64 (l.length : Nat)), (1, .int .i64 x), (0, .slice p l.length cap)])
  (fun k h' => k <= l.length /\ Ext h h' /\ ∀ j, j < k -> l.getD j 0 ≠ x) (fun k => l.length - k) ?_ 0 ⟨Nat.zero_le _, Ext.refl _, fun j hj => by omega⟩ ?_
 ·intro k h' ⟨hk, hx, hj⟩ ih
  by_cases hlt : k < l.length
  ·obtain ⟨b, e, own, rfl, hg⟩ := hr.at (by rw [zar]; omega)
   by_cases hc : x = l.getD k 0
   ·(repeat' (first|apply zam|apply zad|(apply O_at;rfl)|(apply zak;rfl)|apply zal|(apply zaX;rfl)|apply zaq|apply zaG|apply zaH|apply zb2|apply zhK|apply zfH|apply zax|((first|apply zag|apply zac);rfl;rfl;rfl;rfl)|(apply za1;rfl;rfl;rfl;rfl;rfl;omega)|(apply zc9;rfl;rfl;rfl;rfl;rfl;omega)|(apply zcB;rfl;rfl;rfl;rfl;rfl;exact zav rfl;exact zao rfl;(first|assumption|rfl|exact (Int.toNat_of_nonneg (by omega)).symm);omega)|(apply zat;rfl;rfl;rfl;rfl;exact zaJ rfl;(focus repeat' first|assumption|(apply Ext.get;assumption));(first|exact zaD (by omega)|rfl|assumption))|fail))
    exact ⟨.inr rfl, _, rfl, (k : Int), rfl, ⟨fun _ => mem_at.2 ⟨k, hlt, hc.symm⟩, fun _ => by omega⟩, by (focus repeat' first | exact Ext.refl _ | assumption)⟩
   ·(repeat' (first|apply zam|apply zad|(apply O_at;rfl)|(apply zak;rfl)|apply zal|(apply zaX;rfl)|(apply zaS;rfl)|apply zaq|apply zaG|apply zaE|((first|apply zag|apply zac);rfl;rfl;rfl;rfl)|(apply za1;rfl;rfl;rfl;rfl;rfl;omega)|(apply zfd;rfl;rfl;rfl;rfl;rfl;omega)|(apply zbL;rfl;rfl;rfl;rfl;rfl;(unfold fit;omega))|(apply zcB;rfl;rfl;rfl;rfl;rfl;exact zav rfl;exact zao rfl;(first|assumption|rfl|exact (Int.toNat_of_nonneg (by omega)).symm);omega)|(apply zat;rfl;rfl;rfl;rfl;exact zaJ rfl;(focus repeat' first|assumption|(apply Ext.get;assumption));(first|exact zaD (by omega)|rfl|assumption))|fail))
    refine zaR (ih (k + 1) _ (by omega) ⟨hlt, by (focus repeat' first | exact Ext.refl _ | assumption), fun j hj' => ?_⟩) (by (focus repeat' first | rfl | exact trivial | apply And.intro))
    by_cases hjk : j = k
    ·subst hjk; exact fun w => hc w.symm
    ·exact hj j (by omega)
  ·(repeat' (first|apply zam|apply zad|(apply O_at;rfl)|(apply zak;rfl)|apply zal|(apply zaS;rfl)|apply zbx|apply zaH|apply zbF|apply za4|apply za5|apply zax|((first|apply zag|apply zac);rfl;rfl;rfl;rfl)|(apply zbJ;rfl;rfl;rfl;rfl;rfl;omega)|fail))
   refine ⟨.inr rfl, _, rfl, -1, rfl, ⟨fun q => by omega, fun q => ?_⟩, by (focus repeat' first | exact Ext.refl _ | assumption)⟩
   obtain ⟨j, hj1, hj2⟩ := mem_at.1 q
   exact absurd hj2 (hj j (by omega))
 ·(focus repeat' first | rfl | exact trivial | apply And.intro)
theorem zgM (hK : NoK K) {l : List Int} {x : Int} {p : Option Addr} {cap : Nat} {h : Heap} (hl : l.length <= 1000) (hr : Rd h p (ints l)) :
  CallW Tryz.prog K 86 #[.slice p l.length cap, .int .i64 x] h (IfB (x ∈ l) h) := by
 refine body (N := 9) Tryz.func86 rfl (hK _ _ _ rfl) rfl rfl ?_
 (repeat' (first|apply zam|apply zad|(apply O_at;rfl)|(apply zak;rfl)|apply zal|((first|apply zag|apply zac);rfl;rfl;rfl;rfl)|fail))
 apply zan; rfl; rfl; rfl; rfl; rfl; rfl; exact index_ok hK hl hr
 rintro _ _ ⟨n, rfl, hn, hx⟩
 by_cases hc : 0 <= n
 ·(repeat' (first|(apply O_at;rfl)|(apply zak;rfl)|apply zal|apply zaH|apply zax|((first|apply zag|apply zac);rfl;rfl;rfl;rfl)|(apply zmR;rfl;rfl;rfl;rfl;rfl;omega)|fail))
  exact ⟨.inr rfl, _, rfl, .inl ⟨rfl, hn.1 hc, by (focus repeat' first | assumption)⟩⟩
 ·(repeat' (first|(apply O_at;rfl)|(apply zak;rfl)|apply zal|apply zaH|apply zax|((first|apply zag|apply zac);rfl;rfl;rfl;rfl)|(apply zp6;rfl;rfl;rfl;rfl;rfl;omega)|fail))
  exact ⟨.inr rfl, _, rfl, .inr ⟨rfl, fun q => hc (hn.2 q), by (focus repeat' first | assumption)⟩⟩
theorem zeb (s : List (Int × Int)) : (lows s).length = s.length := by simp [lows]
theorem zdU (s : List (Int × Int)) : (highs s).length = s.length := by simp [highs]
theorem zec {s : List (Int × Int)} {j : Nat} (h : j < s.length) : (lows s).getD j 0 = (s.getD j (0, 0)).1 := by simp [lows, List.getD_eq_getElem?_getD, h]
theorem zdV {s : List (Int × Int)} {j : Nat} (h : j < s.length) : (highs s).getD j 0 = (s.getD j (0, 0)).2 := by simp [highs, List.getD_eq_getElem?_getD, h]
theorem zea {s : List (Int × Int)} (hV : Vals s) : zfb s (lows s) := by
 refine ⟨zeb s, fun k hk => ?_⟩
 rw [zeb] at hk
 have := hV k hk
 unfold ValP at this
 rw [zec hk]; omega
theorem zdz {s : List (Int × Int)} (hV : Vals s) : zfb s (highs s) := by
 refine ⟨zdU s, fun k hk => ?_⟩
 rw [zdU] at hk
 have := hV k hk
 unfold ValP at this
 rw [zdV hk]; omega
def offv (s : List (Int × Int)) (l : List Int) (r : Int) (j : Nat) : Int :=
 if ((j : Nat) : Int) ∈ l then 0 else max ((s.getD j (0, 0)).2 - figv l (lows s) r j) (figv l (highs s) r j - (s.getD j (0, 0)).1)
def offs (s : List (Int × Int)) (l : List Int) (r : Int) (k : Nat) : List Int := (List.range k).map (offv s l r)
theorem zd9 (s : List (Int × Int)) (l : List Int) (r : Int) (k : Nat) : (offs s l r k).length = k := by simp [offs]
theorem zjy (s : List (Int × Int)) (l : List Int) (r : Int) (k : Nat) : offs s l r (k + 1) = offs s l r k ++ [offv s l r k] := by simp [offs, List.range_succ]
theorem zfW {s : List (Int × Int)} {l : List Int} {r : Int} {k j : Nat} (h : j < k) : (offs s l r k).getD j 0 = offv s l r j := by
 simp [offs, List.getD_eq_getElem?_getD, h]
theorem row_keep {l : List Int} {n : Nat} (h : l.length < n) : l ++ List.replicate (n - l.length) 0 = (l ++ [0]) ++ List.replicate (n - (l.length + 1)) 0 := by
 rw [show n - l.length = (n - (l.length + 1)) + 1 by omega, List.replicate_succ, List.append_assoc]
 rfl
theorem Rd.butV {h h1 : Heap} {b0 : Nat} {q p : Option Addr} {l : List Int} {n c : Nat} {u : Value} {t : TypeId} {own : Bool} (r : Rd h q (ints l)) (x : ExtBut b0 h h1) (g0 : h.get? b0 = some (.cells [.slice p n c, u] t own)) : Rd h1 q (ints l) := by
 rcases r with r | ⟨b, e, own', rfl, g⟩
 ·exact .inl r
 ·refine .inr ⟨b, e, own', rfl, x.get (fun w => ?_) g⟩
  subst w
  rw [g0] at g
  cases l with
  | nil => cases g
  | cons z l => cases g
set_option maxHeartbeats 4000000 in
theorem zkX (hK : NoK K) {T : Tb} {l : List Int} {b cap : Nat} {e : TypeId} {own : Bool} {h : Heap} (hP : TbP T) (hKp : zbD T.s.length l) (hcap : l.length <= cap) (hll : l.length <= 1000) (hTb : TbAt T h) (hg : h.get? b = some (.cells (ints l) e own)) :
  CallW Tryz.prog K 82 #[ktV T (some ⟨b, 0, none⟩) l.length cap] h (IsL (offs T.s l T.r T.s.length) h) := by
 have iF : ∀ {t : List Int} {bt ct : Nat} {et : TypeId} {ownt : Bool} {h' : Heap}, zfb T.s t -> h'.get? bt = some (.cells (ints t) et ownt) -> Ext h h' -> CallW Tryz.prog K 65 #[ktV T (some ⟨b, 0, none⟩) l.length cap, .slice (some ⟨bt, 0, none⟩) t.length ct] h' (IsL (figs l t T.r T.s.length) h') := fun a g x => znF hK hP hKp a hcap hll (x.get hg) g
 obtain ⟨q, kq, s, r, o⟩ := T
 dsimp only [ktV] at iF ⊢
 have hn := hP.1
 have hV := hP.2.1
 dsimp only at hn hV hKp
 have hs0 := hTb.rd
 dsimp only at hs0
 obtain ⟨bs, es, owns, rfl, hgs⟩ := hs0.at (by rw [zaj]; omega)
 have hb0 := Heap.get_lt hg
 have hbs0 := Heap.get_lt hgs
 refine body (N := 64) Tryz.func82 rfl (hK _ _ _ rfl) rfl rfl ?_
 (repeat' (first|apply zam|apply zad|(apply O_at;rfl)|(apply zak;rfl)|apply zal|((first|apply zag|apply zac|apply zbM|apply zaL);rfl;rfl;rfl;rfl)|((first|apply P_fa|apply M_fa);rfl;rfl;rfl;rfl;exact za0 rfl;(first|exact Nat.zero_add _|exact Nat.add_zero _|rfl))|(apply zat;rfl;rfl;rfl;rfl;exact zaJ rfl;(focus repeat' first|exact zaa|assumption|apply zab|(apply Ext.get;assumption)|(apply ExtBut.get;assumption;(first|assumption|omega|(simp only [Heap.push];omega))));(first|exact zaD (by omega)|rfl|assumption))|(apply za3;rfl;rfl;rfl;rfl;exact zao rfl;rfl;rfl)|(apply zbK;rfl;rfl;rfl;rfl;exact zao rfl;rfl;rfl)|fail))
 apply zan; rfl; rfl; rfl; rfl; rfl; rfl; exact ends_ok hK (hs0.ext (by (focus repeat' first | exact Ext.refl _ | assumption | apply Ext.push | (refine Ext.trans ?_ (by assumption)) | (refine Ext.ofBut ?_ (by assumption) (by first | exact Nat.le_refl _ | omega))))) (by omega)
 rintro _ h3 ⟨u0, u1, rfl, r0, r1, x3⟩
 obtain ⟨p0, c0, rfl, rd0⟩ := r0
 obtain ⟨p1, c1, rfl, rd1⟩ := r1
 have ll := zeb s
 have hl := zdU s
 obtain ⟨b0, e0, own0, rfl, g0⟩ := rd0.at (by rw [zar]; omega)
 obtain ⟨b1, e1, own1, rfl, g1⟩ := rd1.at (by rw [zar]; omega)
 have hk3 : h3.get? h.n = some (.cells [.slice (some ⟨bs, 0, none⟩) s.length kq, .int .i64 r, .int .i64 o, .slice (some ⟨b, 0, none⟩) l.length cap] 82 true) := x3.get (zab zaa)
 have he3 : h3.get? (h.n + 1) = some (.cells [nilV, nilV] 141 true) := x3.get zaa
 have hgs3 := x3.get (zab (zab hgs))
 have hg3 := x3.get (zab (zab hg))
 have hbx0 : b0 ≠ h.n + 1 := fun w => by
  subst w
  rw [he3] at g0
  cases hls : lows s with
  | nil => rw [hls] at ll; simp at ll; omega
  | cons z m => rw [hls] at g0; cases g0
 have hbx1 : b1 ≠ h.n + 1 := fun w => by
  subst w
  rw [he3] at g1
  cases hls : highs s with
  | nil => rw [hls] at hl; simp at hl; omega
  | cons z m => rw [hls] at g1; cases g1
 (repeat' (first|(apply O_at;rfl)|(apply zak;rfl)|apply zal|apply zaq|((first|apply zag|apply zac|apply zbM|apply zaL);rfl;rfl;rfl;rfl)|fail))
 refine zbh (fun a : Nat × Value × Value => [(13, .int .i64 (a.1 : Nat)), (12, .agg #[.slice (some ⟨b0, 0, none⟩) (lows s).length c0, .slice (some ⟨b1, 0, none⟩) (highs s).length c1]), (3, .pointer (some ⟨h.n + 1, 0, none⟩)), (1, .pointer (some ⟨h.n, 0, none⟩))])
  (fun a h' => a.1 <= 2 /\ ExtBut (h.n + 1) h3 h' /\ h'.get? (h.n + 1) = some (.cells [a.2.1, a.2.2] 141 true) /\ (a.1 = 0 -> a.2.1 = nilV) /\ (a.1 <= 1 -> a.2.2 = nilV) /\ (0 < a.1 -> RdV h' a.2.1 (figs l (lows s) r s.length)) /\ (1 < a.1 -> RdV h' a.2.2 (figs l (highs s) r s.length))) (fun a => 2 - a.1) ?_ (0, nilV, nilV) ?_ ?_
 ·rintro ⟨i, v0, v1⟩ h' ⟨hi, hx, hb, z0, z1, q0, q1⟩ ih
  dsimp only at hi hx hb z0 z1 q0 q1 ih ⊢
  have hn3 := x3.n
  have hn' := hx.n
  simp only [Heap.push] at hn3
  have hk' := hx.get (by omega) hk3
  have hgs' := hx.get (by omega) hgs3
  have hg' := hx.get (by omega) hg3
  have g0' := hx.get hbx0 g0
  have g1' := hx.get hbx1 g1
  by_cases hlt : i < 2
  ·have hlt' : (i : Int) < 2 := by omega
   have eh : Ext h h' := Ext.ofBut (by (focus repeat' first | exact Ext.refl _ | assumption | apply Ext.push | (refine Ext.trans ?_ (by assumption)) | (refine Ext.ofBut ?_ (by assumption) (by first | exact Nat.le_refl _ | omega)))) hx (by omega)
   rcases (show i = 0 \/ i = 1 by omega) with rfl | rfl
   ·obtain rfl := z0 rfl
    obtain rfl := z1 (by decide)
    (repeat' (first|apply zam|apply zad|(apply O_at;rfl)|(apply zak;rfl)|apply zal|(apply zaX;rfl)|apply zaq|apply zaG|apply zaE|((first|apply zag|apply zac|apply zbM|apply zaL);rfl;rfl;rfl;rfl)|(apply za1;rfl;rfl;rfl;rfl;rfl;omega)|(apply zbL;rfl;rfl;rfl;rfl;rfl;(unfold fit;omega))|(apply zaK;rfl;rfl;rfl;rfl;exact za2 rfl;(focus repeat' first|exact zaa|assumption|apply zab|(apply Ext.get;assumption)|(apply ExtBut.get;assumption;(first|assumption|omega|(simp only [Heap.push];omega))));(first|exact Nat.le_of_ble_eq_true rfl|(simp;done)|(simp;omega)|(rw [zaj];omega)|(rw [zar];omega));(first|exact zaP (by omega)|rfl))|(apply zmP;rfl;rfl;rfl;rfl;(focus repeat' first|exact zaa|assumption|apply zab|(apply Ext.get;assumption)|(apply ExtBut.get;assumption;(first|assumption|omega|(simp only [Heap.push];omega))));exact zao rfl;omega;(intro _ _ _))|(apply zp5;rfl;rfl;rfl;rfl;rfl;exact zfK rfl;exact zao rfl;(first|assumption|exact zq0|exact zq1|rfl|exact (Int.toNat_of_nonneg (by omega)).symm);omega)|(apply zf5;rfl;rfl;rfl;rfl;rfl;(first|assumption|exact zq0|exact zq1|rfl|exact (Int.toNat_of_nonneg (by omega)).symm);exact zfK rfl;exact zaJ rfl;(first|decide|omega);rfl)|(apply zan;rfl;rfl;rfl;rfl;rfl;rfl;exact iF (zea hV) g0' eh;(rintro _ _ ⟨_,_,rfl,_,_⟩))|fail))
    rename_i h4 pf cf rdf xf h5 gb5 x5
    exact zaR (ih (1, .slice pf (figs l (lows s) r s.length).length cf, nilV) _ (by dsimp only; omega) ⟨by dsimp only; omega, (hx.trans (Ext.but xf _)).trans x5, gb5, fun w => absurd w (by dsimp only; omega), fun _ => rfl, fun _ => ⟨pf, cf, rfl, Rd.butV rdf x5 (xf.get hb)⟩, fun w => absurd w (by dsimp only; omega)⟩) (by (focus repeat' first | rfl | exact trivial | apply And.intro))
   ·obtain rfl := z1 (by decide)
    obtain ⟨pv, cv, rfl, rdv⟩ := q0 (by decide)
    (repeat' (first|apply zam|apply zad|(apply O_at;rfl)|(apply zak;rfl)|apply zal|(apply zaX;rfl)|apply zaq|apply zaG|apply zaE|((first|apply zag|apply zac|apply zbM|apply zaL);rfl;rfl;rfl;rfl)|(apply za1;rfl;rfl;rfl;rfl;rfl;omega)|(apply zbL;rfl;rfl;rfl;rfl;rfl;(unfold fit;omega))|(apply zaK;rfl;rfl;rfl;rfl;exact za2 rfl;(focus repeat' first|exact zaa|assumption|apply zab|(apply Ext.get;assumption)|(apply ExtBut.get;assumption;(first|assumption|omega|(simp only [Heap.push];omega))));(first|exact Nat.le_of_ble_eq_true rfl|(simp;done)|(simp;omega)|(rw [zaj];omega)|(rw [zar];omega));(first|exact zaP (by omega)|rfl))|(apply zmP;rfl;rfl;rfl;rfl;(focus repeat' first|exact zaa|assumption|apply zab|(apply Ext.get;assumption)|(apply ExtBut.get;assumption;(first|assumption|omega|(simp only [Heap.push];omega))));exact zao rfl;omega;(intro _ _ _))|(apply zp5;rfl;rfl;rfl;rfl;rfl;exact zfK rfl;exact zao rfl;(first|assumption|exact zq0|exact zq1|rfl|exact (Int.toNat_of_nonneg (by omega)).symm);omega)|(apply zf5;rfl;rfl;rfl;rfl;rfl;(first|assumption|exact zq0|exact zq1|rfl|exact (Int.toNat_of_nonneg (by omega)).symm);exact zfK rfl;exact zaJ rfl;(first|decide|omega);rfl)|(apply zan;rfl;rfl;rfl;rfl;rfl;rfl;exact iF (zdz hV) g1' eh;(rintro _ _ ⟨_,_,rfl,_,_⟩))|fail))
    rename_i h4 pf cf rdf xf h5 gb5 x5
    exact zaR (ih (2, .slice pv (figs l (lows s) r s.length).length cv, .slice pf (figs l (highs s) r s.length).length cf) _ (by dsimp only; omega) ⟨by dsimp only; omega, (hx.trans (Ext.but xf _)).trans x5, gb5, fun w => absurd w (by dsimp only; omega), fun w => absurd w (by dsimp only; omega), fun _ => ⟨pv, cv, rfl, Rd.butV (rdv.ext xf) x5 (xf.get hb)⟩, fun _ => ⟨pf, cf, rfl, Rd.butV rdf x5 (xf.get hb)⟩⟩) (by (focus repeat' first | rfl | exact trivial | apply And.intro))
  ·obtain rfl : i = 2 := by omega
   obtain ⟨p2, c2, rfl, rd2⟩ := q0 (by decide)
   obtain ⟨p3, c3, rfl, rd3⟩ := q1 (by decide)
   have l2 := zfX l (lows s) r s.length
   have l3 := zfX l (highs s) r s.length
   obtain ⟨b2, e2, own2, rfl, g2⟩ := rd2.at (by rw [zar]; omega)
   obtain ⟨b3, e3, own3, rfl, g3⟩ := rd3.at (by rw [zar]; omega)
   have n2 := Heap.get_lt g2
   have n3 := Heap.get_lt g3
   have hbk := Heap.get_lt hk'
   have hbe := Heap.get_lt hb
   have hbb := Heap.get_lt hg'
   have hbs' := Heap.get_lt hgs'
   (repeat' (first|apply zam|apply zad|(apply O_at;rfl)|(apply zak;rfl)|apply zal|(apply zaS;rfl)|apply zaq|apply zbx|apply zbF|apply za4|apply za5|((first|apply zag|apply zac|apply zbM|apply zaL);rfl;rfl;rfl;rfl)|((first|apply P_fa|apply M_fa);rfl;rfl;rfl;rfl;exact za0 rfl;(first|exact Nat.zero_add _|exact Nat.add_zero _|rfl))|(apply za8;rfl;rfl;rfl;rfl;rfl;rfl;exact zav rfl)|(apply zbJ;rfl;rfl;rfl;rfl;rfl;omega)|(apply zat;rfl;rfl;rfl;rfl;exact zaJ rfl;(focus repeat' first|exact zaa|assumption|apply zab|(apply Ext.get;assumption)|(apply ExtBut.get;assumption;(first|assumption|omega|(simp only [Heap.push];omega))));(first|exact zaD (by omega)|rfl|assumption))|(apply P_makeI;rfl;rfl;rfl;rfl;rfl;exact zeD rfl;exact zero3;omega;omega)|fail))
   rw [Int.toNat_natCast]
   refine zbh (fun k : Nat => [(32, .int .i64 (k : Nat)), (31, .int .i64 (s.length : Nat)), (30, .slice (some ⟨bs, 0, none⟩) s.length kq), (6, .slice (some ⟨h'.n, 0, none⟩) s.length s.length), (3, .pointer (some ⟨h.n + 1, 0, none⟩)), (1, .pointer (some ⟨h.n, 0, none⟩))])
    (fun k g => k <= s.length /\ ExtBut h'.n (h'.push (.cells (ints (List.replicate s.length 0)) 3 true)) g /\ g.get? h'.n = some (.cells (ints (offs s l r k ++ List.replicate (s.length - (offs s l r k).length) 0)) 3 true)) (fun k => s.length - k) ?_ 0 ?_ ?_
   ·rintro k g ⟨hk, hxg, hbg⟩ ih2
    have ok := zd9 s l r k
    have y1 := hxg.get (by omega) (zab hk')
    have y2 := hxg.get (by omega) (zab hb)
    have y3 := hxg.get (by omega) (zab g2)
    have y4 := hxg.get (by omega) (zab g3)
    have y5 := hxg.get (by omega) (zab hgs')
    have y6 := hxg.get (by omega) (zab hg')
    by_cases hks : k < s.length
    ·have hn2 := hxg.n
     have hv := hV k hks
     unfold ValP at hv
     have f1 := ze0 (l := l) (t := lows s) (r := r) hks
     have f2 := ze0 (l := l) (t := highs s) (r := r) hks
     have m1 := zeZ (r := r) hV hKp (zea hV) hks
     have m2 := zeZ (r := r) hV hKp (zdz hV) hks
     have hlk : k < (offs s l r k ++ List.replicate (s.length - (offs s l r k).length) 0).length := by simp [ok]; omega
     by_cases hc : ((k : Nat) : Int) ∈ l
     ·have e0 : offv s l r k = 0 := if_pos hc
      (repeat' (first|apply zam|apply zad|(apply O_at;rfl)|(apply zak;rfl)|apply zal|(apply zaX;rfl)|(apply zaS;rfl)|apply zaq|apply zaG|apply zaE|((first|apply zag|apply zac|apply zbM|apply zaL);rfl;rfl;rfl;rfl)|((first|apply P_fa|apply M_fa);rfl;rfl;rfl;rfl;exact za0 rfl;(first|exact Nat.zero_add _|exact Nat.add_zero _|rfl))|(apply za1;rfl;rfl;rfl;rfl;rfl;omega)|(apply zbL;rfl;rfl;rfl;rfl;rfl;(unfold fit;omega))|(apply zdt;rfl;rfl;rfl;rfl;rfl;exact zav rfl;exact zao rfl;(first|assumption|exact zq0|exact zq1|rfl|exact (Int.toNat_of_nonneg (by omega)).symm);omega)|(apply zat;rfl;rfl;rfl;rfl;exact zaJ rfl;(focus repeat' first|exact zaa|assumption|apply zab|(apply Ext.get;assumption)|(apply ExtBut.get;assumption;(first|assumption|omega|(simp only [Heap.push];omega))));(first|exact zaD (by omega)|rfl|assumption))|(apply zaK;rfl;rfl;rfl;rfl;exact za2 rfl;(focus repeat' first|exact zaa|assumption|apply zab|(apply Ext.get;assumption)|(apply ExtBut.get;assumption;(first|assumption|omega|(simp only [Heap.push];omega))));(first|exact Nat.le_of_ble_eq_true rfl|(simp;done)|(simp;omega)|(rw [zaj];omega)|(rw [zar];omega));(first|exact zaP (by omega)|rfl))|(apply zbk;rfl;rfl;rfl;rfl;exact zao rfl;rfl;rfl;rfl)|(apply zbK;rfl;rfl;rfl;rfl;exact zao rfl;rfl;rfl)|(apply zan;rfl;rfl;rfl;rfl;rfl;rfl;exact yes (zgM hK hll (.inr ⟨_,_,_,rfl,by (focus repeat' first|exact zaa|assumption|apply zab|(apply Ext.get;assumption)|(apply ExtBut.get;assumption;(first|assumption|omega|(simp only [Heap.push];omega))))⟩)) hc;(rintro _ _ ⟨rfl,_⟩))|fail))
      rename_i g1 xg1
      refine zaR (ih2 (k + 1) _ (by omega) ⟨hks, hxg.trans (Ext.but (by (focus repeat' first | exact Ext.refl _ | assumption | apply Ext.push | (refine Ext.trans ?_ (by assumption)) | (refine Ext.ofBut ?_ (by assumption) (by first | exact Nat.le_refl _ | omega)))) _), ?_⟩) (by (focus repeat' first | rfl | exact trivial | apply And.intro))
      have hr := row_keep (l := offs s l r k) (n := s.length) (by omega)
      have hs1 : offs s l r (k + 1) = offs s l r k ++ [0] := by rw [zjy, e0]
      rw [ok, <- hs1] at hr
      rw [zd9, <- hr]
      rw [ok] at hbg
      exact xg1.get (zab hbg)
     ·have e0 : offv s l r k = max ((s.getD k (0, 0)).2 - (figs l (lows s) r s.length).getD k 0) ((figs l (highs s) r s.length).getD k 0 - (s.getD k (0, 0)).1) := by rw [f1, f2]; exact if_neg hc
      (repeat' (first|apply zam|apply zad|(apply O_at;rfl)|(apply N_at;rfl)|(apply zak;rfl)|apply zal|(apply zaX;rfl)|(apply zb0;exact zaN (by decide +kernel))|apply zaq|apply zaG|(apply zcL;rfl;refine .inr ?_;(focus repeat' first|exact trivial|apply And.intro|rfl))|apply zaE|((first|apply zag|apply zac|apply zbM|apply zaL);rfl;rfl;rfl;rfl)|((first|apply P_fa|apply M_fa);rfl;rfl;rfl;rfl;exact za0 rfl;(first|exact Nat.zero_add _|exact Nat.add_zero _|rfl))|(apply za1;rfl;rfl;rfl;rfl;rfl;omega)|(apply zbL;rfl;rfl;rfl;rfl;rfl;(unfold fit;omega))|(apply zdt;rfl;rfl;rfl;rfl;rfl;exact zav rfl;exact zao rfl;(first|assumption|exact zq0|exact zq1|rfl|exact (Int.toNat_of_nonneg (by omega)).symm);omega)|(apply zat;rfl;rfl;rfl;rfl;exact zaJ rfl;(focus repeat' first|exact zaa|assumption|apply zab|(apply Ext.get;assumption)|(apply ExtBut.get;assumption;(first|assumption|omega|(simp only [Heap.push];omega))));(first|exact zaD (by omega)|rfl|assumption))|(apply zaK;rfl;rfl;rfl;rfl;exact za2 rfl;(focus repeat' first|exact zaa|assumption|apply zab|(apply Ext.get;assumption)|(apply ExtBut.get;assumption;(first|assumption|omega|(simp only [Heap.push];omega))));(first|exact Nat.le_of_ble_eq_true rfl|(simp;done)|(simp;omega)|(rw [zaj];omega)|(rw [zar];omega));(first|exact zaP (by omega)|rfl))|(apply zbk;rfl;rfl;rfl;rfl;exact zao rfl;rfl;rfl;rfl)|(apply zbK;rfl;rfl;rfl;rfl;exact zao rfl;rfl;rfl)|(apply zg0;rfl;rfl;rfl;rfl;rfl;(unfold fit;omega))|(apply zcC;rfl;rfl;rfl;rfl;rfl;exact zav rfl;exact zao rfl;(first|assumption|exact zq0|exact zq1|rfl|exact (Int.toNat_of_nonneg (by omega)).symm);omega)|(((apply zdb;rfl;rfl;rfl;rfl;exact zaJ rfl;exact zbY (by decide +kernel));(focus repeat' first|exact zaa|assumption|apply zab|(apply Ext.get;assumption)|(apply ExtBut.get;assumption;(first|assumption|omega|(simp only [Heap.push];omega))));(first|exact zaD (by omega)|rfl|assumption));(first|assumption|exact za6 _ _|exact za9 _ _ _|rfl|(focus simp [same,same.all2];done));(first|rfl|assumption|exact hwv _|(focus apply zbT;(focus repeat' first|exact zaa|assumption|apply zab|(apply Ext.get;assumption)|(apply ExtBut.get;assumption;(first|assumption|omega|(simp only [Heap.push];omega))));done)|(simp [within];omega)))|(apply zmT;rfl;rfl;rfl;rfl;(focus repeat' first|exact zaa|assumption|apply zab|(apply Ext.get;assumption)|(apply ExtBut.get;assumption;(first|assumption|omega|(simp only [Heap.push];omega))));exact zao rfl;(first|omega|(focus simp;done));rfl;(intro _ _ _))|(apply M_max;rfl;rfl;rfl;rfl;rfl;rfl)|(apply zkc;rfl;rfl;rfl;rfl;rfl;exact zfK rfl;exact zao rfl;(first|assumption|exact zq0|exact zq1|rfl|exact (Int.toNat_of_nonneg (by omega)).symm);omega)|(apply zan;rfl;rfl;rfl;rfl;rfl;rfl;exact no (zgM hK hll (.inr ⟨_,_,_,rfl,by (focus repeat' first|exact zaa|assumption|apply zab|(apply Ext.get;assumption)|(apply ExtBut.get;assumption;(first|assumption|omega|(simp only [Heap.push];omega))))⟩)) hc;(rintro _ _ ⟨rfl,_⟩))|fail))
      rename_i g1 xg1 g5 q5 xg5
      refine zaR (ih2 (k + 1) _ (by omega) ⟨hks, (hxg.trans (Ext.but (by (focus repeat' first | exact Ext.refl _ | assumption | apply Ext.push | (refine Ext.trans ?_ (by assumption)) | (refine Ext.ofBut ?_ (by assumption) (by first | exact Nat.le_refl _ | omega)))) _)).trans xg5, ?_⟩) (by (focus repeat' first | rfl | exact trivial | apply And.intro))
      have hr := row_set (l := offs s l r k) (n := s.length) (x := offv s l r k) (by omega)
      rw [<- zjy, ok] at hr
      rw [<- e0, ok] at q5
      rw [zd9, <- hr]
      exact q5
    ·obtain rfl : k = s.length := by omega
     rw [ok, Nat.sub_self, List.replicate_zero, List.append_nil] at hbg
     (repeat' (first|apply zam|apply zad|(apply O_at;rfl)|(apply zak;rfl)|apply zal|(apply zaS;rfl)|apply zbx|apply zaH|apply zbF|apply za4|apply za5|apply zax|((first|apply zag|apply zac|apply zbM|apply zaL);rfl;rfl;rfl;rfl)|(apply zbJ;rfl;rfl;rfl;rfl;rfl;omega)|fail))
     refine ⟨.inr rfl, _, rfl, some ⟨h'.n, 0, none⟩, s.length, ?_, .inr ⟨_, _, _, rfl, hbg⟩, ?_⟩
     ·rw [ok]; rfl
     ·exact Ext.ofBut (Ext.push (Ext.ofBut (by (focus repeat' first | exact Ext.refl _ | assumption | apply Ext.push | (refine Ext.trans ?_ (by assumption)) | (refine Ext.ofBut ?_ (by assumption) (by first | exact Nat.le_refl _ | omega)))) hx (by omega)) _) hxg (by omega)
   ·exact ⟨Nat.zero_le _, ExtBut.refl _ _, zaa⟩
   ·(focus repeat' first | rfl | exact trivial | apply And.intro)
 ·exact ⟨by decide, ExtBut.refl _ _, he3, fun _ => rfl, fun _ => rfl, fun q => absurd q (by dsimp only; omega), fun q => absurd q (by dsimp only; omega)⟩
 ·(focus repeat' first | rfl | exact trivial | apply And.intro)
end Go.AX.Sa

namespace Go.AX.Sa
open Go.Proofs
set_option maxRecDepth 100000
variable {K : Known}
def dbts (s : List (Int × Int)) (l : List Int) (r o : Int) : Nat -> List Int
 | 0 => []
 | k + 1 => if o < offv s l r k then dbts s l r o k ++ [((k : Nat) : Int)] else dbts s l r o k
theorem ziB {s : List (Int × Int)} {l : List Int} {r o : Int} {k : Nat} (h : o < offv s l r k) : dbts s l r o (k + 1) = dbts s l r o k ++ [((k : Nat) : Int)] := if_pos h
theorem zlt {s : List (Int × Int)} {l : List Int} {r o : Int} {k : Nat} (h : ¬ o < offv s l r k) : dbts s l r o (k + 1) = dbts s l r o k := if_neg h
theorem dbts_len (s : List (Int × Int)) (l : List Int) (r o : Int) : ∀ k, (dbts s l r o k).length <= k := by
 intro k
 induction k with
 | zero => exact Nat.le_refl _
 | succ k ih =>
  by_cases h : o < offv s l r k
  ·rw [ziB h, List.length_append]; simp only [List.length_cons, List.length_nil]; omega
  ·rw [zlt h]; omega
def zb5 (s : List (Int × Int)) (l : List Int) (r o : Int) : Prop := ∀ j, j < s.length -> offv s l r j <= o
theorem zf1 {s : List (Int × Int)} {l : List Int} {r o : Int} : ∀ k, (dbts s l r o k).length = 0 ↔ ∀ j, j < k -> offv s l r j <= o := by
 intro k
 induction k with
 | zero => exact ⟨fun _ j hj => absurd hj (Nat.not_lt_zero _), fun _ => rfl⟩
 | succ k ih =>
  by_cases h : o < offv s l r k
  ·rw [ziB h, List.length_append]
   simp only [List.length_cons, List.length_nil]
   exact ⟨fun q => by omega, fun q => by have := q k (Nat.lt_succ_self k); omega⟩
  ·rw [zlt h, ih]
   refine ⟨fun q j hj => ?_, fun q j hj => q j (by omega)⟩
   by_cases hjk : j = k
   ·subst hjk; omega
   ·exact q j (by omega)
theorem fill_db : zdW Tryz.prog 131 [] = some (.agg #[]) := by kernel_rfl
def dbtV : Value := .iface 131 (.agg #[])
def dbtCh : List PanicEntry := [⟨dbtV, false, false⟩]
theorem zlC : zdB Tryz.prog .nilIface 131 true = some (.tuple #[.agg #[], .bool false]) := by kernel_rfl
theorem assertD : zdB Tryz.prog dbtV 131 true = some (.tuple #[.agg #[], .bool true]) := by kernel_rfl
theorem dbt_fin {b : Nat} {v : Value} {h : Heap} (_hg : h.get? b = some (.cells [v] 4 true)) :
  ∃ h1, zqk Tryz.prog K 112 #[.pointer (some ⟨b, 0, none⟩)] .returning h .returning h1 /\ Ext h h1 := by
 apply bodyD (u := .returning) (N := 9) Tryz.func112; rfl; rfl; rfl; rfl; rfl; rfl; rfl
 show R1 _ _ _ _ _ _ _ ((4, .nilIface) :: _) _
 (repeat' (first|(apply O_at;rfl)|fail))
 apply zmS; rfl; rfl; rfl; rfl; exact zlC
 (repeat' (first|apply zam|apply zad|(apply O_at;rfl)|(apply zak;rfl)|apply zal|(apply zaS;rfl)|apply zaG|apply zax|((first|apply zag|apply zac);rfl;rfl;rfl;rfl)|(apply zbA;rfl;rfl;rfl;rfl;rfl)|(apply zbk;rfl;rfl;rfl;rfl;exact zao rfl;rfl;rfl;rfl)|(apply zbK;rfl;rfl;rfl;rfl;exact zao rfl;rfl;rfl)|fail))
 exact ⟨.inl rfl, by (focus repeat' first | exact Ext.refl _ | assumption | apply Ext.push)⟩
theorem dbt_pan {b : Nat} {v : Value} {h : Heap} (hg : h.get? b = some (.cells [v] 4 true)) {h0 : Heap} (hx : Ext h0 h) (hb : h0.n <= b) :
  ∃ h1, zqk Tryz.prog K 112 #[.pointer (some ⟨b, 0, none⟩)] (.panicking dbtCh) h (.panicking [⟨dbtV, true, false⟩]) h1 /\ (h1.get? b = some (.cells [.bool false] 4 true) /\ Ext h0 h1) := by
 apply bodyD (u := .panicking dbtCh) (N := 9) Tryz.func112; rfl; rfl; rfl; rfl; rfl; rfl; rfl
 show R1 _ _ _ _ _ _ _ ((4, dbtV) :: _) _
 (repeat' (first|(apply O_at;rfl)|fail))
 apply zmS; rfl; rfl; rfl; rfl; exact assertD
 (repeat' (first|apply zam|apply zad|(apply O_at;rfl)|(apply zak;rfl)|apply zal|(apply zaX;rfl)|apply zax|((first|apply zag|apply zac);rfl;rfl;rfl;rfl)|(apply zbA;rfl;rfl;rfl;rfl;rfl)|(apply zbk;rfl;rfl;rfl;rfl;exact zao rfl;rfl;rfl;rfl)|(apply zbK;rfl;rfl;rfl;rfl;exact zao rfl;rfl;rfl)|(apply zej;rfl;rfl;rfl;rfl;(focus repeat' first|assumption|apply zab);exact zao rfl;rfl;(first|rfl|exact zar _);rfl;(intro _ _ _))|fail))
 rename_i h1 g1 x1
 exact ⟨.inl rfl, g1, Ext.ofBut (by (focus repeat' first | assumption | apply Ext.push | (refine Ext.ofBut ?_ (by assumption) (by first | exact Nat.le_refl _ | omega)))) x1 hb⟩
section
variable {T : Tb} {l : List Int} {b cap : Nat} {e : TypeId} {own : Bool} {h : Heap}
theorem zgv (hK : NoK K) (hP : TbP T) (hKp : zbD T.s.length l) (hcap : l.length <= cap) (hll : l.length <= 1000) (hTb : TbAt T h) (hg : h.get? b = some (.cells (ints l) e own)) (hS : zb5 T.s l T.r T.o) :
  CallW Tryz.prog K 113 #[ktV T (some ⟨b, 0, none⟩) l.length cap] h (fun _ h1 => Ext h h1) := by
 have iO : ∀ {h' : Heap}, Ext h h' -> CallW Tryz.prog K 82 #[ktV T (some ⟨b, 0, none⟩) l.length cap] h' (IsL (offs T.s l T.r T.s.length) h') := fun x => zkX hK hP hKp hcap hll (hTb.ext x) (x.get hg)
 obtain ⟨q, kq, s, r, o⟩ := T
 have hn := hP.1
 dsimp only [ktV] at iO hn hS ⊢
 have hfl := zd9 s l r s.length
 refine body (N := 19) Tryz.func113 rfl (hK _ _ _ rfl) rfl rfl ?_
 (repeat' (first|apply zam|apply zad|(apply O_at;rfl)|(apply zak;rfl)|apply zal|apply zaq|((first|apply zag|apply zac);rfl;rfl;rfl;rfl)|(apply za8;rfl;rfl;rfl;rfl;rfl;rfl;exact zav rfl)|(apply zaK;rfl;rfl;rfl;rfl;exact za2 rfl;(focus repeat' first|exact zaa|assumption|(apply Ext.get;assumption));(first|exact Nat.le_of_ble_eq_true rfl|(simp;done)|(simp;omega)|(rw [zar];omega));rfl)|(apply za3;rfl;rfl;rfl;rfl;exact zao rfl;rfl;rfl)|(apply zan;rfl;rfl;rfl;rfl;rfl;rfl;exact iO (by repeat' first|exact Ext.refl _|assumption|apply Ext.push|refine Ext.trans ?_ (by assumption));(rintro _ _ ⟨_,_,rfl,_,_⟩))|fail))
 rename_i h1 fq fc frd fx
 rw [hfl]
 obtain ⟨bf, ef, ownf, rfl, gf⟩ := frd.at (by rw [zar]; omega)
 have hk1 : h1.get? h.n = some (.cells [.slice q s.length kq, .int .i64 r, .int .i64 o, .slice (some ⟨b, 0, none⟩) l.length cap] 82 true) := fx.get zaa
 refine zbh (fun k : Nat => [(7, .int .i64 (k : Nat)), (6, .int .i64 (s.length : Nat)), (5, .slice (some ⟨bf, 0, none⟩) s.length fc), (1, .pointer (some ⟨h.n, 0, none⟩))])
  (fun k h' => k <= s.length /\ Ext h1 h') (fun k => s.length - k) ?_ 0 ⟨Nat.zero_le _, Ext.refl _⟩ ?_
 ·rintro k h' ⟨hk, hx⟩ ih
  have hk' := hx.get hk1
  have gf' := hx.get gf
  by_cases hlt : k < s.length
  ·have hg1 := zfW (s := s) (l := l) (r := r) hlt
   have hc := hS k hlt
   rw [<- hg1] at hc
   (repeat' (first|apply zam|apply zad|(apply O_at;rfl)|(apply zak;rfl)|apply zal|(apply zaX;rfl)|(apply zaS;rfl)|apply zaq|apply zaG|apply zaE|((first|apply zag|apply zac);rfl;rfl;rfl;rfl)|(apply P_fa;rfl;rfl;rfl;rfl;exact za0 rfl;(first|exact Nat.zero_add _|exact Nat.add_zero _|rfl))|(apply za1;rfl;rfl;rfl;rfl;rfl;omega)|(apply zfc;rfl;rfl;rfl;rfl;rfl;omega)|(apply zbL;rfl;rfl;rfl;rfl;rfl;(unfold fit;omega))|(apply zcB;rfl;rfl;rfl;rfl;rfl;exact zav rfl;exact zao rfl;(first|assumption|rfl|exact (Int.toNat_of_nonneg (by omega)).symm);omega)|(apply zat;rfl;rfl;rfl;rfl;exact zaJ rfl;(focus repeat' first|exact zaa|assumption|(apply Ext.get;assumption));(first|exact zaD (by omega)|rfl|assumption))|fail))
   exact zaR (ih (k + 1) _ (by omega) ⟨hlt, by repeat' first|exact Ext.refl _|assumption|apply Ext.push|refine Ext.trans ?_ (by assumption)⟩) (by (focus repeat' first | rfl | exact trivial | apply And.intro))
  ·(repeat' (first|apply zam|apply zad|(apply O_at;rfl)|(apply zak;rfl)|apply zal|(apply zaS;rfl)|apply zbx|apply zbF|apply za4|apply za5|apply zax|(apply zbJ;rfl;rfl;rfl;rfl;rfl;omega)|fail))
   exact ⟨.inl rfl, _, rfl, by repeat' first|exact Ext.refl _|assumption|apply Ext.push|refine Ext.trans ?_ (by assumption)⟩
 ·(focus repeat' first | rfl | exact trivial | apply And.intro)
theorem zhf (hK : NoK K) (hP : TbP T) (hKp : zbD T.s.length l) (hcap : l.length <= cap) (hll : l.length <= 1000) (hTb : TbAt T h) (hg : h.get? b = some (.cells (ints l) e own)) (hS : ¬ zb5 T.s l T.r T.o) :
  CallP Tryz.prog K 113 #[ktV T (some ⟨b, 0, none⟩) l.length cap] h dbtCh (Ext h) := by
 have iO : ∀ {h' : Heap}, Ext h h' -> CallW Tryz.prog K 82 #[ktV T (some ⟨b, 0, none⟩) l.length cap] h' (IsL (offs T.s l T.r T.s.length) h') := fun x => zkX hK hP hKp hcap hll (hTb.ext x) (x.get hg)
 obtain ⟨q, kq, s, r, o⟩ := T
 have hn := hP.1
 dsimp only [ktV] at iO hn hS ⊢
 have hfl := zd9 s l r s.length
 refine bodyP (N := 19) Tryz.func113 rfl (hK _ _ _ rfl) rfl rfl ?_
 (repeat' (first|apply zam|apply zad|(apply O_at;rfl)|(apply zak;rfl)|apply zal|apply zaq|((first|apply zag|apply zac);rfl;rfl;rfl;rfl)|(apply za8;rfl;rfl;rfl;rfl;rfl;rfl;exact zav rfl)|(apply zaK;rfl;rfl;rfl;rfl;exact za2 rfl;(focus repeat' first|exact zaa|assumption|(apply Ext.get;assumption));(first|exact Nat.le_of_ble_eq_true rfl|(simp;done)|(simp;omega)|(rw [zar];omega));rfl)|(apply za3;rfl;rfl;rfl;rfl;exact zao rfl;rfl;rfl)|(apply zan;rfl;rfl;rfl;rfl;rfl;rfl;exact iO (by repeat' first|exact Ext.refl _|assumption|apply Ext.push|refine Ext.trans ?_ (by assumption));(rintro _ _ ⟨_,_,rfl,_,_⟩))|fail))
 rename_i h1 fq fc frd fx
 rw [hfl]
 obtain ⟨bf, ef, ownf, rfl, gf⟩ := frd.at (by rw [zar]; omega)
 have hk1 : h1.get? h.n = some (.cells [.slice q s.length kq, .int .i64 r, .int .i64 o, .slice (some ⟨b, 0, none⟩) l.length cap] 82 true) := fx.get zaa
 refine zbh (fun k : Nat => [(7, .int .i64 (k : Nat)), (6, .int .i64 (s.length : Nat)), (5, .slice (some ⟨bf, 0, none⟩) s.length fc), (1, .pointer (some ⟨h.n, 0, none⟩))])
  (fun k h' => k <= s.length /\ Ext h1 h' /\ ∀ j, j < k -> offv s l r j <= o) (fun k => s.length - k) ?_ 0 ⟨Nat.zero_le _, Ext.refl _, fun j q => by omega⟩ ?_
 ·rintro k h' ⟨hk, hx, hj⟩ ih
  have hk' := hx.get hk1
  have gf' := hx.get gf
  by_cases hlt : k < s.length
  ·have hg1 := zfW (s := s) (l := l) (r := r) hlt
   by_cases hc : offv s l r k <= o
   ·have hc' := hc
    rw [<- hg1] at hc
    (repeat' (first|apply zam|apply zad|(apply O_at;rfl)|(apply zak;rfl)|apply zal|(apply zaX;rfl)|(apply zaS;rfl)|apply zaq|apply zaG|apply zaE|((first|apply zag|apply zac);rfl;rfl;rfl;rfl)|(apply P_fa;rfl;rfl;rfl;rfl;exact za0 rfl;(first|exact Nat.zero_add _|exact Nat.add_zero _|rfl))|(apply za1;rfl;rfl;rfl;rfl;rfl;omega)|(apply zfc;rfl;rfl;rfl;rfl;rfl;omega)|(apply zbL;rfl;rfl;rfl;rfl;rfl;(unfold fit;omega))|(apply zcB;rfl;rfl;rfl;rfl;rfl;exact zav rfl;exact zao rfl;(first|assumption|rfl|exact (Int.toNat_of_nonneg (by omega)).symm);omega)|(apply zat;rfl;rfl;rfl;rfl;exact zaJ rfl;(focus repeat' first|exact zaa|assumption|(apply Ext.get;assumption));(first|exact zaD (by omega)|rfl|assumption))|fail))
    refine zaR (ih (k + 1) _ (by omega) ⟨hlt, by repeat' first|exact Ext.refl _|assumption|apply Ext.push|refine Ext.trans ?_ (by assumption), fun j hj' => ?_⟩) (by (focus repeat' first | rfl | exact trivial | apply And.intro))
    by_cases hjk : j = k
    ·subst hjk; exact hc'
    ·exact hj j (by omega)
   ·rw [<- hg1] at hc
    (repeat' (first|apply zam|apply zad|(apply O_at;rfl)|(apply zak;rfl)|apply zal|(apply zaX;rfl)|apply zaq|apply zaG|((first|apply zag|apply zac);rfl;rfl;rfl;rfl)|(apply P_fa;rfl;rfl;rfl;rfl;exact za0 rfl;(first|exact Nat.zero_add _|exact Nat.add_zero _|rfl))|(apply za1;rfl;rfl;rfl;rfl;rfl;omega)|(apply zkb;rfl;rfl;rfl;rfl;rfl;omega)|(apply zcB;rfl;rfl;rfl;rfl;rfl;exact zav rfl;exact zao rfl;(first|assumption|rfl|exact (Int.toNat_of_nonneg (by omega)).symm);omega)|(apply zat;rfl;rfl;rfl;rfl;exact zaJ rfl;(focus repeat' first|exact zaa|assumption|(apply Ext.get;assumption));(first|exact zaD (by omega)|rfl|assumption))|fail))
    apply zeG; rfl; rfl; rfl; rfl; exact fill_db
    (repeat' (first|(apply O_at;rfl)|fail))
    apply P_iface; rfl; rfl; rfl; rfl; kernel_rfl
    (repeat' (first|(apply O_at;rfl)|fail))
    apply P_panic; rfl; rfl; rfl
    repeat' first | apply C_panS | apply C_panL | apply C_panB
    refine zax ⟨rfl, ?_⟩
    (focus repeat' first | exact Ext.refl _ | assumption | apply Ext.push | (refine Ext.trans ?_ (by assumption)))
  ·exact absurd (fun j q => hj j (by omega)) hS
 ·(focus repeat' first | rfl | exact trivial | apply And.intro)
theorem zgA (hK : NoK K) (hP : TbP T) (hKp : zbD T.s.length l) (hcap : l.length <= cap) (hll : l.length <= 1000) (hTb : TbAt T h) (hg : h.get? b = some (.cells (ints l) e own)) :
  CallW Tryz.prog K 75 #[ktV T (some ⟨b, 0, none⟩) l.length cap] h (IfB (zb5 T.s l T.r T.o) h) := by
 have iY : ∀ {h' : Heap}, zb5 T.s l T.r T.o -> Ext h h' -> CallW Tryz.prog K 113 #[ktV T (some ⟨b, 0, none⟩) l.length cap] h' (fun _ h1 => Ext h' h1) := fun a x => zgv hK hP hKp hcap hll (hTb.ext x) (x.get hg) a
 have iN : ∀ {h' : Heap}, ¬ zb5 T.s l T.r T.o -> Ext h h' -> CallP Tryz.prog K 113 #[ktV T (some ⟨b, 0, none⟩) l.length cap] h' dbtCh (Ext h') := fun a x => zhf hK hP hKp hcap hll (hTb.ext x) (x.get hg) a
 obtain ⟨q, kq, s, r, o⟩ := T
 dsimp only [ktV] at iY iN ⊢
 apply znT 1 (N := 6) Tryz.func75; rfl; exact hK _ _ _ rfl; rfl; rfl; rfl; rfl; rfl; rfl; rfl; rfl
 (repeat' (first|apply zam|apply zad|(apply O_at;rfl)|(apply zak;rfl)|apply zal|apply zaG|apply zax|(apply za3;rfl;rfl;rfl;rfl;exact zao rfl;rfl;rfl)|(apply zbK;rfl;rfl;rfl;rfl;exact zao rfl;rfl;rfl)|fail))
 refine .inr ⟨rfl, rfl, ?_⟩
 by_cases hA : zb5 s l r o
 ·(repeat' (first|apply zam|apply zad|(apply O_at;rfl)|(apply zaK;rfl;rfl;rfl;rfl;exact za2 rfl;(focus repeat' first|exact zaa|assumption|apply zab|(apply Ext.get;assumption));(first|exact Nat.le_of_ble_eq_true rfl|(simp;done)|(simp;omega));rfl)|fail))
  apply zan; rfl; rfl; rfl; rfl; rfl; rfl; exact iY hA (by (focus repeat' first | exact Ext.refl _ | assumption | apply Ext.push | (refine Ext.trans ?_ (by assumption)) | (refine Ext.ofBut ?_ (by assumption) (by first | exact Nat.le_refl _ | omega))))
  intro _ h5 x5
  (repeat' (first|apply zam|apply zad|(apply O_at;rfl)|(apply zak;rfl)|apply zal|apply zaH|apply zax|(apply zej;rfl;rfl;rfl;rfl;(focus repeat' first|exact zaa|assumption|apply zab|(apply Ext.get;assumption));exact zao rfl;rfl;(first|rfl|exact zar _);rfl;(intro _ _ _))|fail))
  rename_i h3 g3 x3
  obtain ⟨h6, hD, x6⟩ := dbt_fin (K := K) g3
  exact ⟨.returning, .returning, h6, rfl, hD, rfl, _, zl7 rfl (read1 (zaJ rfl) (x6.get g3) rfl) rfl, .inl ⟨rfl, hA, (Ext.ofBut (by (focus repeat' first | exact Ext.refl _ | assumption | apply Ext.push | (refine Ext.trans ?_ (by assumption)) | (refine Ext.ofBut ?_ (by assumption) (by first | exact Nat.le_refl _ | omega)))) x3 (Nat.le_succ _)).trans x6⟩⟩
 ·(repeat' (first|apply zam|apply zad|(apply O_at;rfl)|(apply zaK;rfl;rfl;rfl;rfl;exact za2 rfl;(focus repeat' first|exact zaa|assumption|apply zab|(apply Ext.get;assumption));(first|exact Nat.le_of_ble_eq_true rfl|(simp;done)|(simp;omega));rfl)|fail))
  apply P_callP; rfl; rfl; rfl; rfl; rfl; exact iN hA (by (focus repeat' first | exact Ext.refl _ | assumption | apply Ext.push | (refine Ext.trans ?_ (by assumption)) | (refine Ext.ofBut ?_ (by assumption) (by first | exact Nat.le_refl _ | omega))))
  intro h7 x7
  repeat' first | apply C_panS | apply C_panL | apply C_panB
  refine zax ?_
  obtain ⟨h5, hD, q2, e5⟩ := dbt_pan (K := K) (x7.get zaa) ((((Ext.refl h).push _).push _).trans x7) (Nat.le_succ _)
  exact ⟨_, _, h5, rfl, hD, rfl, _, zl7 rfl (read1 (zaJ rfl) q2 rfl) rfl, .inr ⟨rfl, hA, e5⟩⟩
end
end Go.AX.Sa
