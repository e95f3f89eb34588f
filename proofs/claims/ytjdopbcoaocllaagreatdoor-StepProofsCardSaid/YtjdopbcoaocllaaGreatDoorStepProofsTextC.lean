/- The law StepProofs at the reading: what the functions that it calls answer (3). -/
import Derived.Test.YtjdopbcoaocllaaGreatDoorStepProofsTextB
namespace Go.AX.Sa
open Go.Proofs
set_option maxRecDepth 100000
variable {K : Known}
theorem zhr (hK : NoK K) {T : Tb} {h : Heap} (hsl : T.s.length <= 1000) (hTb : TbAt T h) :
  CallW Tryz.prog K 84 #[tbV T] h (IsL (lows T.s) h) := by
 obtain ⟨q, kq, s, r, o⟩ := T
 have hs0 := hTb.rd
 dsimp only [tbV] at hsl hs0 ⊢
 refine body (N := 22) Tryz.func84 rfl (hK _ _ _ rfl) rfl rfl ?_
 (repeat' (first|apply zam|apply zad|(apply O_at;rfl)|(apply zak;rfl)|apply zal|apply zaq|((first|apply zag|apply zac);rfl;rfl;rfl;rfl)|(apply za3;rfl;rfl;rfl;rfl;exact zao rfl;rfl;rfl)|fail))
 refine zbh (fun a : Nat × Value => [(4, .int .i64 (a.1 : Nat)), (3, a.2), (1, .pointer (some ⟨h.n, 0, none⟩))])
  (fun a h' => a.1 <= s.length /\ Ext (h.push (.cells [.slice q s.length kq, .int .i64 r, .int .i64 o] 25 true)) h' /\ OutI 3 (h.push (.cells [.slice q s.length kq, .int .i64 r, .int .i64 o] 25 true)) h' a.2 ((lows s).take a.1)) (fun a => s.length - a.1) ?_ (0, nilV) ?_ ?_
 ·rintro ⟨k, v⟩ h' ⟨hk, hx, ho⟩ ih
  dsimp only at hk hx ho ih ⊢
  have hb : h'.get? h.n = some (.cells [.slice q s.length kq, .int .i64 r, .int .i64 o] 25 true) := hx.get zaa
  have hle : ((lows s).take k).length <= 10000 := by rw [List.length_take]; omega
  by_cases hlt : k < s.length
  ·obtain ⟨bs, es, owns, rfl, hgs⟩ := hs0.at (by rw [zaj]; omega)
   have hgs' := hx.get (zab hgs)
   (repeat' (first|apply zam|apply zad|(apply O_at;rfl)|(apply zak;rfl)|apply zal|(apply zaX;rfl)|apply zaq|apply zaG|apply zaE|((first|apply zag|apply zac);rfl;rfl;rfl;rfl)|(apply P_fa;rfl;rfl;rfl;rfl;exact za0 rfl;(first|exact Nat.zero_add _|exact Nat.add_zero _|rfl))|(apply za8;rfl;rfl;rfl;rfl;rfl;rfl;exact zav rfl)|(apply za1;rfl;rfl;rfl;rfl;rfl;omega)|(apply zbL;rfl;rfl;rfl;rfl;rfl;(unfold fit;omega))|(apply zdt;rfl;rfl;rfl;rfl;rfl;exact zav rfl;exact zao rfl;(first|assumption|rfl|exact (Int.toNat_of_nonneg (by omega)).symm);omega)|(apply zat;rfl;rfl;rfl;rfl;exact zaJ rfl;(focus repeat' first|exact zaa|assumption|apply zab|(apply Ext.get;assumption));(first|exact zd4 (by omega)|rfl|assumption))|(apply zf6;rfl;rfl;rfl;rfl;rfl;rfl;rfl;exact zeD rfl)|(apply zqa;rfl;rfl;rfl;rfl;rfl;rfl;rfl;rfl;exact zeD rfl;exact zav rfl;(focus repeat' first|exact zaa|assumption|apply zab|(apply Ext.get;assumption));(apply OutI.ext;assumption;(focus repeat' first|exact Ext.refl _|assumption|apply Ext.push|(refine Ext.trans ?_ (by assumption))));(focus repeat' first|exact Ext.refl _|assumption|apply Ext.push|(refine Ext.trans ?_ (by assumption)));(first|omega|(simp;omega));(intro _ _ _ _))|fail))
   rename_i v1 h2 ho2 hx2
   exact zaR (ih (k + 1, v1) _ (by dsimp only; omega) ⟨hlt, by repeat' first|exact Ext.refl _|assumption|apply Ext.push|refine Ext.trans ?_ (by assumption), by rw [zjC hlt]; exact ho2⟩) (by (focus repeat' first | rfl | exact trivial | apply And.intro))
  ·obtain rfl : k = s.length := by omega
   rw [List.take_of_length_le (by rw [zeb]; exact Nat.le_refl _)] at ho
   (repeat' (first|apply zam|apply zad|(apply O_at;rfl)|(apply zak;rfl)|apply zal|(apply zaS;rfl)|apply zbx|apply zaH|apply zbF|apply za4|apply za5|apply zax|((first|apply zag|apply zac);rfl;rfl;rfl;rfl)|(apply P_fa;rfl;rfl;rfl;rfl;exact za0 rfl;(first|exact Nat.zero_add _|exact Nat.add_zero _|rfl))|(apply za8;rfl;rfl;rfl;rfl;rfl;rfl;exact zav rfl)|(apply zbJ;rfl;rfl;rfl;rfl;rfl;omega)|(apply zat;rfl;rfl;rfl;rfl;exact zaJ rfl;(focus repeat' first|exact zaa|assumption|apply zab|(apply Ext.get;assumption));(first|exact zd4 (by omega)|rfl|assumption))|fail))
   exact ⟨.inr rfl, _, rfl, (OutI.low (e := 3) ho (Nat.le_succ _)).isL (by repeat' first|exact Ext.refl _|assumption|apply Ext.push|refine Ext.trans ?_ (by assumption))⟩
 ·exact ⟨Nat.zero_le _, Ext.refl _, OutI.nil _ _ _⟩
 ·(focus repeat' first | rfl | exact trivial | apply And.intro)
theorem zkH (hK : NoK K) {T : Tb} {h : Heap} (hsl : T.s.length <= 1000) (hTb : TbAt T h) :
  CallW Tryz.prog K 120 #[tbV T] h (IsL (highs T.s) h) := by
 obtain ⟨q, kq, s, r, o⟩ := T
 have hs0 := hTb.rd
 dsimp only [tbV] at hsl hs0 ⊢
 refine body (N := 22) Tryz.func120 rfl (hK _ _ _ rfl) rfl rfl ?_
 (repeat' (first|apply zam|apply zad|(apply O_at;rfl)|(apply zak;rfl)|apply zal|apply zaq|((first|apply zag|apply zac);rfl;rfl;rfl;rfl)|(apply za3;rfl;rfl;rfl;rfl;exact zao rfl;rfl;rfl)|fail))
 refine zbh (fun a : Nat × Value => [(4, .int .i64 (a.1 : Nat)), (3, a.2), (1, .pointer (some ⟨h.n, 0, none⟩))])
  (fun a h' => a.1 <= s.length /\ Ext (h.push (.cells [.slice q s.length kq, .int .i64 r, .int .i64 o] 25 true)) h' /\ OutI 3 (h.push (.cells [.slice q s.length kq, .int .i64 r, .int .i64 o] 25 true)) h' a.2 ((highs s).take a.1)) (fun a => s.length - a.1) ?_ (0, nilV) ?_ ?_
 ·rintro ⟨k, v⟩ h' ⟨hk, hx, ho⟩ ih
  dsimp only at hk hx ho ih ⊢
  have hb : h'.get? h.n = some (.cells [.slice q s.length kq, .int .i64 r, .int .i64 o] 25 true) := hx.get zaa
  have hle : ((highs s).take k).length <= 10000 := by rw [List.length_take]; omega
  by_cases hlt : k < s.length
  ·obtain ⟨bs, es, owns, rfl, hgs⟩ := hs0.at (by rw [zaj]; omega)
   have hgs' := hx.get (zab hgs)
   (repeat' (first|apply zam|apply zad|(apply O_at;rfl)|(apply zak;rfl)|apply zal|(apply zaX;rfl)|apply zaq|apply zaG|apply zaE|((first|apply zag|apply zac);rfl;rfl;rfl;rfl)|(apply P_fa;rfl;rfl;rfl;rfl;exact za0 rfl;(first|exact Nat.zero_add _|exact Nat.add_zero _|rfl))|(apply za8;rfl;rfl;rfl;rfl;rfl;rfl;exact zav rfl)|(apply za1;rfl;rfl;rfl;rfl;rfl;omega)|(apply zbL;rfl;rfl;rfl;rfl;rfl;(unfold fit;omega))|(apply zdt;rfl;rfl;rfl;rfl;rfl;exact zav rfl;exact zao rfl;(first|assumption|rfl|exact (Int.toNat_of_nonneg (by omega)).symm);omega)|(apply zat;rfl;rfl;rfl;rfl;exact zaJ rfl;(focus repeat' first|exact zaa|assumption|apply zab|(apply Ext.get;assumption));(first|exact zfP (by omega)|rfl|assumption))|(apply zf6;rfl;rfl;rfl;rfl;rfl;rfl;rfl;exact zeD rfl)|(apply zqa;rfl;rfl;rfl;rfl;rfl;rfl;rfl;rfl;exact zeD rfl;exact zav rfl;(focus repeat' first|exact zaa|assumption|apply zab|(apply Ext.get;assumption));(apply OutI.ext;assumption;(focus repeat' first|exact Ext.refl _|assumption|apply Ext.push|(refine Ext.trans ?_ (by assumption))));(focus repeat' first|exact Ext.refl _|assumption|apply Ext.push|(refine Ext.trans ?_ (by assumption)));(first|omega|(simp;omega));(intro _ _ _ _))|fail))
   rename_i v1 h2 ho2 hx2
   exact zaR (ih (k + 1, v1) _ (by dsimp only; omega) ⟨hlt, by repeat' first|exact Ext.refl _|assumption|apply Ext.push|refine Ext.trans ?_ (by assumption), by rw [zhy hlt]; exact ho2⟩) (by (focus repeat' first | rfl | exact trivial | apply And.intro))
  ·obtain rfl : k = s.length := by omega
   rw [List.take_of_length_le (by rw [zdU]; exact Nat.le_refl _)] at ho
   (repeat' (first|apply zam|apply zad|(apply O_at;rfl)|(apply zak;rfl)|apply zal|(apply zaS;rfl)|apply zbx|apply zaH|apply zbF|apply za4|apply za5|apply zax|((first|apply zag|apply zac);rfl;rfl;rfl;rfl)|(apply P_fa;rfl;rfl;rfl;rfl;exact za0 rfl;(first|exact Nat.zero_add _|exact Nat.add_zero _|rfl))|(apply za8;rfl;rfl;rfl;rfl;rfl;rfl;exact zav rfl)|(apply zbJ;rfl;rfl;rfl;rfl;rfl;omega)|(apply zat;rfl;rfl;rfl;rfl;exact zaJ rfl;(focus repeat' first|exact zaa|assumption|apply zab|(apply Ext.get;assumption));(first|exact zfP (by omega)|rfl|assumption))|fail))
   exact ⟨.inr rfl, _, rfl, (OutI.low (e := 3) ho (Nat.le_succ _)).isL (by repeat' first|exact Ext.refl _|assumption|apply Ext.push|refine Ext.trans ?_ (by assumption))⟩
 ·exact ⟨Nat.zero_le _, Ext.refl _, OutI.nil _ _ _⟩
 ·(focus repeat' first | rfl | exact trivial | apply And.intro)
theorem zlD {n : Nat} {l : List Int} (hKp : zbD n l) {j : Nat} (hj : j < n) : bef l (j : Nat) = aft l (j : Nat) ↔ ((j : Nat) : Int) ∈ l := by
 have hG := hKp.2.2.2
 rcases zhp hKp hj with ⟨i, hi, hij⟩ | ⟨i, hi, h1, h2⟩
 ·have e1 := zhE hG (j := (j : Nat)) hi (by omega) (fun w => by have := hG i w; omega)
  have e2 := zhG hG (j := (j : Nat)) hi (by omega) (fun m w => by have := hG m (by omega); rw [w] at this; omega)
  exact ⟨fun _ => mem_at.2 ⟨i, hi, hij⟩, fun _ => by rw [e1, e2]⟩
 ·have e1 := zhE hG (j := (j : Nat)) (i := i) (by omega) (by omega) (fun _ => h2)
  have e2 := zhG hG (j := (j : Nat)) (i := i + 1) hi (by omega) (fun m w => by rw [show m = i by omega]; exact h1)
  refine ⟨fun w => by rw [e1, e2] at w; omega, fun w => ?_⟩
  obtain ⟨k, hk, hkj⟩ := mem_at.1 w
  by_cases hki : k <= i
  ·have := zc7 hG hki (by omega); omega
  ·have := zc7 hG (show i + 1 <= k by omega) hk; omega
set_option maxHeartbeats 2000000 in
theorem zjd (hK : NoK K) {T : Tb} {l : List Int} {p : Option Addr} {cap j : Nat} {h : Heap} (hP : TbP T) (hKp : zbD T.s.length l) (hll : l.length <= 1000) (hj : j < T.s.length) (hTb : TbAt T h) (hr : Rd h p (ints l)) :
  CallW Tryz.prog K 79 #[tbV T, .slice p l.length cap, .int .i64 (j : Nat)] h (IsV (.int .i64 (offv T.s l T.r j)) h) := by
 have iH : ∀ {h' : Heap}, Ext h h' -> CallW Tryz.prog K 120 #[tbV T] h' (IsL (highs T.s) h') := fun x => zkH hK (by have := hP.1; omega) (hTb.ext x)
 have iL : ∀ {h' : Heap}, Ext h h' -> CallW Tryz.prog K 84 #[tbV T] h' (IsL (lows T.s) h') := fun x => zhr hK (by have := hP.1; omega) (hTb.ext x)
 have iF : ∀ {t : List Int} {pt : Option Addr} {ct : Nat} {h' : Heap}, zfb T.s t -> Rd h' pt (ints t) -> Ext h h' -> CallW Tryz.prog K 69 #[tbV T, .slice p l.length cap, .int .i64 (j : Nat), .slice pt t.length ct] h' (IsV (.int .i64 (figv l t T.r j)) h') := fun a g x => zh7 hK hP hKp a hll hj (hTb.ext x) (hr.ext x) g
 have f1 := zeZ (r := T.r) hP.2.1 hKp (zea hP.2.1) hj
 have f2 := zeZ (r := T.r) hP.2.1 hKp (zdz hP.2.1) hj
 rw [ze0 hj] at f1 f2
 have hv := hP.2.1 j hj
 obtain ⟨q, kq, s, r, o⟩ := T
 have hqb : ∀ a, q = some a -> a.block < h.n := hTb.b
 have hs0 := hTb.rd
 have hn := hP.1
 have hV := hP.2.1
 dsimp only [tbV, ValP] at iH iL iF f1 f2 hv hn hV hKp hj hs0 ⊢
 have hl2 := hKp.1
 obtain ⟨bs, es, owns, rfl, hgs⟩ := hs0.at (by rw [zaj]; omega)
 have ll := zeb s
 have hl := zdU s
 refine body (N := 45) Tryz.func79 rfl (hK _ _ _ rfl) rfl rfl ?_
 have hsame := zlD hKp hj
 by_cases hc : ((j : Nat) : Int) ∈ l
 ·have hba := hsame.2 hc
  have e0 : offv s l r j = 0 := if_pos hc
  rw [e0]
  (repeat' (first|apply zam|apply zad|(apply O_at;rfl)|(apply zak;rfl)|apply zal|(apply zaX;rfl)|apply zaH|apply zb2|apply zax|((first|apply zag|apply zac|apply zaL|apply zbv);rfl;rfl;rfl;rfl)|(apply zbA;rfl;rfl;rfl;rfl;rfl)|(apply zc9;rfl;rfl;rfl;rfl;rfl;omega)|(apply za3;rfl;rfl;rfl;rfl;exact zao rfl;rfl;rfl)|((first|(apply zan;rfl;rfl;rfl;rfl;rfl;rfl)|(apply zbE;rfl;rfl;rfl;rfl;rfl;rfl;rfl));exact zdL hK (by omega) (hr.ext (by repeat' first|exact Ext.refl _|assumption|apply Ext.push|refine Ext.trans ?_ (by assumption)));(rintro _ _ ⟨rfl,_⟩))|fail))
  exact ⟨.inr rfl, _, rfl, rfl, by repeat' first|exact Ext.refl _|assumption|apply Ext.push|refine Ext.trans ?_ (by assumption)⟩
 ·have hba : ¬ bef l (j : Nat) = aft l (j : Nat) := fun w => hc (hsame.1 w)
  have e0 : offv s l r j = max ((s.getD j (0, 0)).2 - figv l (lows s) r j) (figv l (highs s) r j - (s.getD j (0, 0)).1) := if_neg hc
  rw [e0]
  (repeat' (first|apply zam|apply zad|(apply O_at;rfl)|(apply N_at;rfl)|(apply zak;rfl)|apply zal|(apply zaS;rfl)|(apply zb0;exact zaN (by decide +kernel))|apply zaG|((first|apply zag|apply zac|apply zaL|apply zbv);rfl;rfl;rfl;rfl)|(apply zbA;rfl;rfl;rfl;rfl;rfl)|(apply zfd;rfl;rfl;rfl;rfl;rfl;omega)|(apply za3;rfl;rfl;rfl;rfl;exact zao rfl;rfl;rfl)|((first|((apply zck;rfl;rfl;rfl;rfl;exact zaJ rfl);(focus repeat' first|exact zaa|assumption|apply zab|(apply Ext.get;assumption));(first|exact zd4 (by omega)|exact zfP (by omega)|rfl|assumption))|((apply zc1;rfl;rfl;rfl;rfl;exact za2 rfl);(focus repeat' first|exact zaa|assumption|apply zab|(apply Ext.get;assumption));(first|exact Nat.le_of_ble_eq_true rfl|(simp;done)|(simp;omega)|(rw [zaj];omega));rfl));(first|assumption|exact za6 _ _|exact za9 _ _ _|exact zde _ _ _ _ _|rfl|(focus simp [same,same.all2];done));(first|rfl|assumption|exact hwv _|(focus apply zbT;(focus repeat' first|exact zaa|assumption|apply zab|(apply Ext.get;assumption));done)|exact zbU (by assumption) (by repeat' first|exact Ext.refl _|assumption|apply Ext.push|refine Ext.trans ?_ (by assumption))|(simp [within];omega)))|((first|(apply zan;rfl;rfl;rfl;rfl;rfl;rfl)|(apply zbE;rfl;rfl;rfl;rfl;rfl;rfl;rfl));exact zdL hK (by omega) (hr.ext (by repeat' first|exact Ext.refl _|assumption|apply Ext.push|refine Ext.trans ?_ (by assumption)));(rintro _ _ ⟨rfl,_⟩))|((first|(apply zan;rfl;rfl;rfl;rfl;rfl;rfl)|(apply zbE;rfl;rfl;rfl;rfl;rfl;rfl;rfl));exact iH (by repeat' first|exact Ext.refl _|assumption|apply Ext.push|refine Ext.trans ?_ (by assumption));(rintro _ _ ⟨_,_,rfl,_,_⟩))|fail))
  rename_i h1 x1 h2 p2 c2 rd2 x2
  (repeat' (first|(apply N_at;rfl)|((first|apply zag|apply zac|apply zaL|apply zbv);rfl;rfl;rfl;rfl)|(apply M_fa;rfl;rfl;rfl;rfl;exact za0 rfl;(first|exact Nat.zero_add _|exact Nat.add_zero _|rfl))|(apply zg0;rfl;rfl;rfl;rfl;rfl;(unfold fit;omega))|(apply M_idxB;rfl;rfl;rfl;rfl;rfl;exact zav rfl;exact zao rfl;(first|assumption|rfl|exact (Int.toNat_of_nonneg (by omega)).symm);omega)|((first|((apply zck;rfl;rfl;rfl;rfl;exact zaJ rfl);(focus repeat' first|exact zaa|assumption|apply zab|(apply Ext.get;assumption));(first|exact zd4 (by omega)|exact zfP (by omega)|rfl|assumption))|((apply zc1;rfl;rfl;rfl;rfl;exact za2 rfl);(focus repeat' first|exact zaa|assumption|apply zab|(apply Ext.get;assumption));(first|exact Nat.le_of_ble_eq_true rfl|(simp;done)|(simp;omega)|(rw [zaj];omega));rfl));(first|assumption|exact za6 _ _|exact za9 _ _ _|exact zde _ _ _ _ _|rfl|(focus simp [same,same.all2];done));(first|rfl|assumption|exact hwv _|(focus apply zbT;(focus repeat' first|exact zaa|assumption|apply zab|(apply Ext.get;assumption));done)|exact zbU (by assumption) (by repeat' first|exact Ext.refl _|assumption|apply Ext.push|refine Ext.trans ?_ (by assumption))|(simp [within];omega)))|((first|(apply zan;rfl;rfl;rfl;rfl;rfl;rfl)|(apply zbE;rfl;rfl;rfl;rfl;rfl;rfl;rfl));exact iF (zdz hV) rd2 (by repeat' first|exact Ext.refl _|assumption|apply Ext.push|refine Ext.trans ?_ (by assumption));(rintro _ _ ⟨rfl,_⟩))|((first|(apply zan;rfl;rfl;rfl;rfl;rfl;rfl)|(apply zbE;rfl;rfl;rfl;rfl;rfl;rfl;rfl));exact iL (by repeat' first|exact Ext.refl _|assumption|apply Ext.push|refine Ext.trans ?_ (by assumption));(rintro _ _ ⟨_,_,rfl,_,_⟩))|fail))
  rename_i h3 x3 h4 p4 c4 rd4 x4
  (repeat' (first|(apply N_at;rfl)|apply zal|apply zaH|(apply zcL;rfl;refine .inr ?_;(focus repeat' first|exact trivial|exact Keeps.nil _ _|apply And.intro|rfl|(apply Keeps.cons;iterate 2 (focus repeat' first|exact zaa|assumption|apply zab|(apply Ext.get;assumption)))))|apply zax|((first|apply zag|apply zac|apply zaL|apply zbv);rfl;rfl;rfl;rfl)|(apply zg0;rfl;rfl;rfl;rfl;rfl;(unfold fit;omega))|(apply M_max;rfl;rfl;rfl;rfl;rfl;rfl)|((first|(apply zan;rfl;rfl;rfl;rfl;rfl;rfl)|(apply zbE;rfl;rfl;rfl;rfl;rfl;rfl;rfl));exact iF (zea hV) rd4 (by repeat' first|exact Ext.refl _|assumption|apply Ext.push|refine Ext.trans ?_ (by assumption));(rintro _ _ ⟨rfl,_⟩))|fail))
  refine ⟨.inr rfl, _, rfl, ?_, by repeat' first|exact Ext.refl _|assumption|apply Ext.push|refine Ext.trans ?_ (by assumption)⟩
  exact congrArg (Value.int .i64) (by omega)
set_option maxHeartbeats 1000000 in
theorem zdK (hK : NoK K) {T : Tb} {l : List Int} {p : Option Addr} {cap : Nat} {h : Heap} (hP : TbP T) (hKp : zbD T.s.length l) (hll : l.length <= 1000) (hTb : TbAt T h) (hr : Rd h p (ints l)) :
  CallW Tryz.prog K 36 #[tbV T, .slice p l.length cap] h (IsL (dbts T.s l T.r T.o T.s.length) h) := by
 have hF : ∀ {j : Nat} {h' : Heap}, j < T.s.length -> Ext h h' -> CallW Tryz.prog K 79 #[tbV T, .slice p l.length cap, .int .i64 (j : Nat)] h' (IsV (.int .i64 (offv T.s l T.r j)) h') := fun hj x => zjd hK hP hKp hll hj (hTb.ext x) (hr.ext x)
 obtain ⟨q, kq, s, r, o⟩ := T
 have hqb : ∀ a, q = some a -> a.block < h.n := hTb.b
 have hn := hP.1
 dsimp only [tbV] at hF hn ⊢
 refine body (N := 26) Tryz.func36 rfl (hK _ _ _ rfl) rfl rfl ?_
 (repeat' (first|apply zam|apply zad|(apply O_at;rfl)|(apply zak;rfl)|apply zal|apply zaq|((first|apply zag|apply zac|apply zaL);rfl;rfl;rfl;rfl)|(apply za3;rfl;rfl;rfl;rfl;exact zao rfl;rfl;rfl)|fail))
 refine zbh (fun a : Nat × Value => [(6, .int .i64 (a.1 : Nat)), (5, a.2), (2, .pointer (some ⟨h.n, 0, none⟩)), (1, .slice p l.length cap)])
  (fun a h' => a.1 <= s.length /\ Ext (h.push (.cells [.slice q s.length kq, .int .i64 r, .int .i64 o] 25 true)) h' /\ OutI 3 (h.push (.cells [.slice q s.length kq, .int .i64 r, .int .i64 o] 25 true)) h' a.2 (dbts s l r o a.1)) (fun a => s.length - a.1) ?_ (0, nilV) ?_ ?_
 ·rintro ⟨k, v⟩ h' ⟨hk, hx, ho⟩ ih
  dsimp only at hk hx ho ih ⊢
  have hb : h'.get? h.n = some (.cells [.slice q s.length kq, .int .i64 r, .int .i64 o] 25 true) := hx.get zaa
  have hle := dbts_len s l r o k
  by_cases hlt : k < s.length
  ·by_cases hc : o < offv s l r k
   ·(repeat' (first|apply zam|apply zad|(apply O_at;rfl)|(apply N_at;rfl)|(apply zak;rfl)|apply zal|(apply zaX;rfl)|(apply zb0;exact zaN (by decide +kernel))|apply zaq|apply zaG|(apply zcL;rfl;refine .inr ?_;(focus repeat' first|exact trivial|exact Keeps.nil _ _|apply And.intro|rfl|(apply Keeps.cons;iterate 2 (focus repeat' first|exact zaa|assumption|(apply Ext.get;assumption)))))|apply zaE|((first|apply zag|apply zac|apply zaL);rfl;rfl;rfl;rfl)|((first|apply P_fa|apply M_fa);rfl;rfl;rfl;rfl;exact za0 rfl;(first|exact Nat.zero_add _|exact Nat.add_zero _|rfl))|(apply za8;rfl;rfl;rfl;rfl;rfl;rfl;exact zav rfl)|(apply za1;rfl;rfl;rfl;rfl;rfl;omega)|(apply zbL;rfl;rfl;rfl;rfl;rfl;(unfold fit;omega))|(apply zat;rfl;rfl;rfl;rfl;exact zaJ rfl;(focus repeat' first|exact zaa|assumption|(apply Ext.get;assumption));(first|rfl|assumption))|(apply zf6;rfl;rfl;rfl;rfl;rfl;rfl;rfl;exact zeD rfl)|(apply zqa;rfl;rfl;rfl;rfl;rfl;rfl;rfl;rfl;exact zeD rfl;exact zav rfl;(focus repeat' first|exact zaa|assumption|(apply Ext.get;assumption));(apply OutI.ext;assumption;(focus repeat' first|exact Ext.refl _|assumption|apply Ext.push|(refine Ext.trans ?_ (by assumption))));(focus repeat' first|exact Ext.refl _|assumption|apply Ext.push|(refine Ext.trans ?_ (by assumption)));(first|omega|(simp;omega));(intro _ _ _ _))|(apply zmX;rfl;rfl;rfl;rfl;rfl;omega)|((first|((apply zck;rfl;rfl;rfl;rfl;exact zaJ rfl);(focus repeat' first|exact zaa|assumption|(apply Ext.get;assumption));(first|rfl|assumption))|((apply zc1;rfl;rfl;rfl;rfl;exact za2 rfl);(focus repeat' first|exact zaa|assumption|(apply Ext.get;assumption));(first|exact Nat.le_of_ble_eq_true rfl|(simp;done)|(simp;omega));rfl));(first|assumption|exact za6 _ _|exact zde _ _ _ _ _|rfl|(focus simp [same,same.all2];done));(first|rfl|assumption|exact hwv _|exact zbU (by assumption) (by repeat' first|exact Ext.refl _|assumption|apply Ext.push|refine Ext.trans ?_ (by assumption))|(simp [within];omega)))|(apply zbE;rfl;rfl;rfl;rfl;rfl;rfl;rfl;exact hF hlt (by repeat' first|exact Ext.refl _|assumption|apply Ext.push|refine Ext.trans ?_ (by assumption));(rintro _ _ ⟨rfl,_⟩))|fail))
    rename_i v1 h2 ho2 hx2
    exact zaR (ih (k + 1, v1) _ (by dsimp only; omega) ⟨hlt, by repeat' first|exact Ext.refl _|assumption|apply Ext.push|refine Ext.trans ?_ (by assumption), by rw [ziB hc]; exact ho2⟩) (by (focus repeat' first | rfl | exact trivial | apply And.intro))
   ·(repeat' (first|apply zam|apply zad|(apply O_at;rfl)|(apply N_at;rfl)|(apply zak;rfl)|apply zal|(apply zaX;rfl)|(apply zaS;rfl)|(apply zb0;exact zaN (by decide +kernel))|apply zaq|apply zaG|(apply zcL;rfl;refine .inr ?_;(focus repeat' first|exact trivial|exact Keeps.nil _ _|apply And.intro|rfl|(apply Keeps.cons;iterate 2 (focus repeat' first|exact zaa|assumption|(apply Ext.get;assumption)))))|apply zaE|((first|apply zag|apply zac|apply zaL);rfl;rfl;rfl;rfl)|((first|apply P_fa|apply M_fa);rfl;rfl;rfl;rfl;exact za0 rfl;(first|exact Nat.zero_add _|exact Nat.add_zero _|rfl))|(apply za8;rfl;rfl;rfl;rfl;rfl;rfl;exact zav rfl)|(apply za1;rfl;rfl;rfl;rfl;rfl;omega)|(apply zbL;rfl;rfl;rfl;rfl;rfl;(unfold fit;omega))|(apply zat;rfl;rfl;rfl;rfl;exact zaJ rfl;(focus repeat' first|exact zaa|assumption|(apply Ext.get;assumption));(first|rfl|assumption))|(apply M_gtrF;rfl;rfl;rfl;rfl;rfl;omega)|((first|((apply zck;rfl;rfl;rfl;rfl;exact zaJ rfl);(focus repeat' first|exact zaa|assumption|(apply Ext.get;assumption));(first|rfl|assumption))|((apply zc1;rfl;rfl;rfl;rfl;exact za2 rfl);(focus repeat' first|exact zaa|assumption|(apply Ext.get;assumption));(first|exact Nat.le_of_ble_eq_true rfl|(simp;done)|(simp;omega));rfl));(first|assumption|exact za6 _ _|exact zde _ _ _ _ _|rfl|(focus simp [same,same.all2];done));(first|rfl|assumption|exact hwv _|exact zbU (by assumption) (by repeat' first|exact Ext.refl _|assumption|apply Ext.push|refine Ext.trans ?_ (by assumption))|(simp [within];omega)))|(apply zbE;rfl;rfl;rfl;rfl;rfl;rfl;rfl;exact hF hlt (by repeat' first|exact Ext.refl _|assumption|apply Ext.push|refine Ext.trans ?_ (by assumption));(rintro _ _ ⟨rfl,_⟩))|fail))
    exact zaR (ih (k + 1, v) _ (by dsimp only; omega) ⟨hlt, by repeat' first|exact Ext.refl _|assumption|apply Ext.push|refine Ext.trans ?_ (by assumption), by rw [zlt hc]; exact OutI.ext (e := 3) ho (by repeat' first|exact Ext.refl _|assumption|apply Ext.push|refine Ext.trans ?_ (by assumption))⟩) (by (focus repeat' first | rfl | exact trivial | apply And.intro))
  ·obtain rfl : k = s.length := by omega
   (repeat' (first|apply zam|apply zad|(apply O_at;rfl)|(apply zak;rfl)|apply zal|(apply zaS;rfl)|apply zbx|apply zaH|apply zbF|apply za4|apply za5|apply zax|((first|apply zag|apply zac|apply zaL);rfl;rfl;rfl;rfl)|((first|apply P_fa|apply M_fa);rfl;rfl;rfl;rfl;exact za0 rfl;(first|exact Nat.zero_add _|exact Nat.add_zero _|rfl))|(apply za8;rfl;rfl;rfl;rfl;rfl;rfl;exact zav rfl)|(apply zbJ;rfl;rfl;rfl;rfl;rfl;omega)|(apply zat;rfl;rfl;rfl;rfl;exact zaJ rfl;(focus repeat' first|exact zaa|assumption|(apply Ext.get;assumption));(first|rfl|assumption))|fail))
   exact ⟨.inr rfl, _, rfl, (OutI.low (e := 3) ho (Nat.le_succ _)).isL (by repeat' first|exact Ext.refl _|assumption|apply Ext.push|refine Ext.trans ?_ (by assumption))⟩
 ·exact ⟨Nat.zero_le _, Ext.refl _, OutI.nil _ _ _⟩
 ·(focus repeat' first | rfl | exact trivial | apply And.intro)
end Go.AX.Sa

namespace Go.AX.Sa
open Go.Proofs
set_option maxRecDepth 100000
variable {K : Known}
def kps (st c : Nat) : List Int := (List.range c).map fun i => ((i * st : Nat) : Int)
def cnt (last st : Nat) : Nat := (last + st - 1) / st
theorem cnt_ex {last st : Nat} (hst : 1 <= st) : last <= cnt last st * st /\ ∀ d, cnt last st = d + 1 -> d * st < last := by
 have h := Nat.div_add_mod (last + st - 1) st
 have hm := Nat.mod_lt (last + st - 1) hst
 have hc : st * ((last + st - 1) / st) = cnt last st * st := Nat.mul_comm _ _
 refine ⟨by omega, fun d hd => ?_⟩
 rw [hd, Nat.succ_mul] at hc
 omega
def kls (n st : Nat) : List Int := kps st (cnt (n - 1) st) ++ [(n : Int) - 1]
theorem cnt_le {last st : Nat} (hst : 1 <= st) : cnt last st <= last := by
 have h := (cnt_ex (last := last) hst).2
 cases hc : cnt last st with
 | zero => exact Nat.zero_le _
 | succ d =>
  have := h d hc
  have := Nat.le_mul_of_pos_right d hst
  omega
def WidP (s : List (Int × Int)) (r o : Int) (w : Int) : Prop := (1 <= w /\ w <= (s.length : Int) - 1) /\ zb5 s (kls s.length w.toNat) r o /\ ∀ m : Int, w < m -> m <= (s.length : Int) - 1 -> ¬ zb5 s (kls s.length m.toNat) r o
end Go.AX.Sa

namespace Go.AX.Sa
open Go.Proofs
set_option maxRecDepth 100000
variable {K : Known}
section
variable {x : Ctx} {N : Nat} {E : Env} {h : Heap} {ops : Array Oper} {F : Ex -> Env -> Heap -> Prop} {i : Nat} {Hs : List Heap} {L : List Heap -> Prop} {nw : List (Nat × Nat × Blk)}
variable {d : Nat} {ty : TypeId} {pos : String} {af : Array Edge} {g : Option (Nat × Bool)} {ps : Array (Nat × Operand)}
end
def IsK (T : Tb) (l : List Int) (h : Heap) (v : Value) (h1 : Heap) : Prop := ∃ b, v = ktV T (some ⟨b, 0, none⟩) l.length unk /\ h1.get? b = some (.cells (ints l) 3 true) /\ h.n <= b /\ Ext h h1
end Go.AX.Sa

namespace Go.AX.Sa
open Go.Proofs
set_option maxRecDepth 100000
variable {K : Known}
section
variable {T : Tb} {h : Heap}
end
end Go.AX.Sa

namespace Go.AX.Sa
open Go.Proofs
set_option maxRecDepth 100000
variable {K : Known}
def rng (a : Int) (k : Nat) : List Int := (List.range k).map fun i => a + (i : Nat)
def spanL (p : Int × Int) : List Int := rng p.1 (p.2 - p.1 + 1).toNat
theorem zkY (hK : NoK K) {bs l : Nat} {p : Int × Int} {e : TypeId} {own : Bool} {h : Heap} (hp : -1000000 <= p.1 /\ p.2 <= 1000000 /\ p.1 <= p.2 + 1) (I : Nat -> Heap -> Prop) (R : Heap -> Prop)
  (hb : ∀ k h', I k h' -> h'.get? bs = some (.cells [.int .i64 p.1, .int .i64 p.2] e own)) (h0 : I 0 h)
  (round : ∀ (k : Nat) h', p.1 + (k : Nat) <= p.2 -> I k h' -> RoundW Tryz.prog K l #[.int .i64 (p.1 + (k : Nat))] h' (fun r h1 => (r = .bool true /\ I (k + 1) h1) \/ (r = .bool false /\ R h1))) :
  CallW Tryz.prog K 144 #[.func (.yield l) #[] #[], .pointer (some ⟨bs, 0, none⟩)] h (fun _ h1 => I (p.2 - p.1 + 1).toNat h1 \/ R h1) := by
 have hb0 := hb 0 h h0
 refine body (N := 17) Tryz.func144 rfl (hK _ _ _ rfl) rfl rfl ?_
 (repeat' (first|apply zam|apply zad|(apply O_at;rfl)|(apply zak;rfl)|apply zal|apply zaq|((first|apply zag|apply zac);rfl;rfl;rfl;rfl)|(apply P_fa;rfl;rfl;rfl;rfl;exact za0 rfl;(first|exact Nat.zero_add _|exact Nat.add_zero _|rfl))|(apply zat;rfl;rfl;rfl;rfl;exact zaJ rfl;(focus repeat' first|assumption);(first|rfl|assumption))|fail))
 refine zbh (fun k : Nat => [(3, .int .i64 (p.1 + (k : Nat))), (0, .func (.yield l) #[] #[]), (1, .pointer (some ⟨bs, 0, none⟩))])
  (fun k h' => k <= (p.2 - p.1 + 1).toNat /\ I k h') (fun k => (p.2 - p.1 + 1).toNat - k) ?_ 0 ?_ ?_
 ·intro k h' ⟨hk1, hi⟩ ih
  have hb' := hb k h' hi
  by_cases hlt : p.1 + (k : Nat) <= p.2
  ·(repeat' (first|apply zam|apply zad|(apply O_at;rfl)|(apply zak;rfl)|apply zal|(apply zaS;rfl)|apply zbx|apply zbF|apply za4|apply za5|apply zax|(apply zcH;rfl;rfl;rfl)|((first|apply zag|apply zac);rfl;rfl;rfl;rfl)|(apply P_fa;rfl;rfl;rfl;rfl;exact za0 rfl;(first|exact Nat.zero_add _|exact Nat.add_zero _|rfl))|(apply zbn;rfl;rfl;rfl;rfl;rfl;rfl)|(apply zka;rfl;rfl;rfl;rfl;rfl;all_goals intro _)|(apply zat;rfl;rfl;rfl;rfl;exact zaJ rfl;(focus repeat' first|assumption);(first|rfl|assumption))|fail))
   ·apply P_yield; rfl; rfl; rfl; rfl; rfl
    ·exact round k h' hlt hi
    rintro _ h2 (⟨rfl, ha⟩ | ⟨rfl, ha⟩)
    ·(repeat' (first|apply zam|apply zad|(apply O_at;rfl)|(apply zak;rfl)|apply zal|(apply zaX;rfl)|apply zaq|apply zaG|apply zaE|((first|apply zag|apply zac);rfl;rfl;rfl;rfl)|(apply zbn;rfl;rfl;rfl;rfl;rfl;rfl)|(apply zbL;rfl;rfl;rfl;rfl;rfl;(unfold fit;omega))|fail))
     refine zaR (ih (k + 1) _ ?_ ⟨by omega, ha⟩) ?_
     ·omega
     ·refine ⟨?_, rfl, rfl, trivial⟩
      show some (Value.int .i64 (p.1 + (k : Nat) + 1)) = _
      congr 2
      omega
    ·(repeat' (first|(apply O_at;rfl)|(apply zak;rfl)|apply zal|(apply zaS;rfl)|apply zbx|apply zbF|apply za4|apply za5|apply zax|(apply zbn;rfl;rfl;rfl;rfl;rfl;rfl)|fail))
     exact ⟨.inl rfl, _, rfl, .inr ha⟩
   ·omega
  ·(repeat' (first|apply zam|apply zad|(apply O_at;rfl)|(apply zak;rfl)|apply zal|(apply zaS;rfl)|apply zbx|apply zbF|apply za4|apply za5|apply zax|(apply zcH;rfl;rfl;rfl)|((first|apply zag|apply zac);rfl;rfl;rfl;rfl)|(apply P_fa;rfl;rfl;rfl;rfl;exact za0 rfl;(first|exact Nat.zero_add _|exact Nat.add_zero _|rfl))|(apply zbn;rfl;rfl;rfl;rfl;rfl;rfl)|(apply zka;rfl;rfl;rfl;rfl;rfl;all_goals intro _)|(apply zat;rfl;rfl;rfl;rfl;exact zaJ rfl;(focus repeat' first|assumption);(first|rfl|assumption))|fail))
   ·omega
   ·refine ⟨.inl rfl, _, rfl, .inl ?_⟩
    have e : k = (p.2 - p.1 + 1).toNat := by omega
    subst e
    exact hi
 ·exact ⟨Nat.zero_le _, h0⟩
 ·refine ⟨?_, rfl, rfl, trivial⟩
  show some (Value.int .i64 p.1) = _
  congr 2
  omega
theorem zkZ (hK : NoK K) {a c : Int} {h : Heap} :
  CallW Tryz.prog K 115 #[.agg #[.int .i64 a, .int .i64 c]] h fun v h1 => Ext h h1 /\ ∃ bs, v = .func (.func 144) #[] #[.pointer (some ⟨bs, 0, none⟩)] /\ h.n <= bs /\ h1.get? bs = some (.cells [.int .i64 a, .int .i64 c] 72 true) := by
 refine body (N := 4) Tryz.func115 rfl (hK _ _ _ rfl) rfl rfl ?_
 (repeat' (first|apply zam|apply zad|(apply O_at;rfl)|(apply zak;rfl)|apply zal|apply zaH|apply zax|(apply zac;rfl;rfl;rfl;rfl)|(apply znZ;rfl;rfl;rfl;rfl;rfl)|(apply za3;rfl;rfl;rfl;rfl;exact zao rfl;rfl;rfl)|fail))
 exact ⟨.inr rfl, _, rfl, by (focus repeat' first | exact Ext.refl _ | assumption | apply Ext.push), h.n, rfl, Nat.le_refl _, zaa⟩
end Go.AX.Sa

namespace Go.AX.Sa
open Go.Proofs
set_option maxRecDepth 100000
variable {K : Known}
def GoesP (s : List (Int × Int)) (r o a c x y : Int) : Prop := ∀ j : Nat, a < (j : Nat) -> ((j : Nat) : Int) < c -> (s.getD j (0, 0)).1 - o <= rnd r (mixv a c j x y) (c - a) /\ rnd r (mixv a c j x y) (c - a) <= (s.getD j (0, 0)).2 + o
section
variable {T : Tb} {h : Heap} {A C : Nat} {x y : Int}
def SomeP (s : List (Int × Int)) (r o : Int) (l : List Int) (a c y : Int) : Prop := ∃ x, x ∈ l /\ GoesP s r o a c x y
end
end Go.AX.Sa

namespace Go.AX.Sa
open Go.Proofs
set_option maxRecDepth 100000
variable {K : Known}
def filN (P : Int -> Prop) [DecidablePred P] (a : Int) : Nat -> List Int
 | 0 => []
 | k + 1 => if P (a + (k : Nat)) then filN P a k ++ [a + (k : Nat)] else filN P a k
section
variable {P : Int -> Prop} [DecidablePred P] {a : Int}
end
noncomputable instance someDec (s : List (Int × Int)) (r o : Int) (l : List Int) (a c : Int) : DecidablePred (SomeP s r o l a c) := fun _ => Classical.propDecidable _
noncomputable def canL (s : List (Int × Int)) (l : List Int) (r o : Int) : Nat -> List Int
 | 0 => spanL (s.getD 0 (0, 0))
 | k + 1 => filN (SomeP s r o (canL s l r o k) (l.getD k 0) (l.getD (k + 1) 0)) (s.getD (l.getD (k + 1) 0).toNat (0, 0)).1 ((s.getD (l.getD (k + 1) 0).toNat (0, 0)).2 - (s.getD (l.getD (k + 1) 0).toNat (0, 0)).1 + 1).toNat
def CanP (s : List (Int × Int)) (l : List Int) (r o : Int) : Prop := 0 < (canL s l r o (l.length - 1)).length
end Go.AX.Sa

namespace Go.AX.Sa
open Go.Proofs
set_option maxRecDepth 100000
variable {K : Known}
def WordP (s : List (Int × Int)) (l : List Int) (r o w : Int) : Prop := (zb5 s l r o /\ w = 3) \/ (¬ zb5 s l r o /\ CanP s l r o /\ w = 2) \/ (¬ zb5 s l r o /\ ¬ CanP s l r o /\ w = 1)
section
variable {T : Tb} {l : List Int} {h : Heap}
end
end Go.AX.Sa

namespace Go.AX.Sa
open Go.Proofs
set_option maxRecDepth 100000
variable {K : Known}
def mxK (l : List Int) : Nat -> Int
 | 0 => l.getD 0 0
 | k + 1 => max (mxK l k) (l.getD (k + 1) 0)
theorem zkm (hK : NoK K) {t : List Int} {q : Option Addr} {cap : Nat} {h : Heap} (hp : 0 < t.length) (hl : t.length <= 100000) (hr : Rd h q (ints t)) :
  CallW Tryz.prog K 81 #[.slice q t.length cap] h (IsV (.int .i64 (mxK t (t.length - 1))) h) := by
 obtain ⟨b, e, own, rfl, hg⟩ := hr.at (by rw [zar]; omega)
 refine body (N := 25) Tryz.func81 rfl (hK _ _ _ rfl) rfl rfl ?_
 (repeat' (first|apply zam|apply zad|(apply O_at;rfl)|(apply zak;rfl)|apply zal|(apply zaS;rfl)|apply zaq|apply zaG|((first|apply zag|apply zac);rfl;rfl;rfl;rfl)|(apply za8;rfl;rfl;rfl;rfl;rfl;rfl;exact zav rfl)|(apply zbJ;rfl;rfl;rfl;rfl;rfl;omega)|(apply zcB;rfl;rfl;rfl;rfl;rfl;exact zav rfl;exact zao rfl;(first|assumption|exact zq0|exact zqs _|rfl|exact (Int.toNat_of_nonneg (by omega)).symm);omega)|(apply zat;rfl;rfl;rfl;rfl;exact zaJ rfl;(focus repeat' first|assumption|(apply Ext.get;assumption));(first|exact zaD (by omega)|rfl|assumption))|fail))
 refine zbh (fun k : Nat => [(4, .int .i64 ((k : Nat) + 1)), (3, .int .i64 (mxK t k)), (0, .slice (some ⟨b, 0, none⟩) t.length cap)])
  (fun k h' => k <= t.length - 1 /\ Ext h h') (fun k => t.length - k) ?_ 0 ?_ ?_
 ·intro k h' ⟨hk, hx⟩ ih
  have hg' := hx.get hg
  by_cases hlt : k + 1 < t.length
  ·have hlt' : (k : Int) + 1 < t.length := by omega
   (repeat' (first|apply zam|apply zad|(apply O_at;rfl)|(apply zak;rfl)|apply zal|(apply zaX;rfl)|apply zaq|apply zaG|apply zaE|((first|apply zag|apply zac);rfl;rfl;rfl;rfl)|(apply za8;rfl;rfl;rfl;rfl;rfl;rfl;exact zav rfl)|(apply za1;rfl;rfl;rfl;rfl;rfl;omega)|(apply zbL;rfl;rfl;rfl;rfl;rfl;(unfold fit;omega))|(apply zcB;rfl;rfl;rfl;rfl;rfl;exact zav rfl;exact zao rfl;(first|assumption|exact zq0|exact zqs _|rfl|exact (Int.toNat_of_nonneg (by omega)).symm);omega)|(apply zat;rfl;rfl;rfl;rfl;exact zaJ rfl;(focus repeat' first|assumption|(apply Ext.get;assumption));(first|exact zaD (by omega)|rfl|assumption))|(apply P_max;rfl;rfl;rfl;rfl;rfl;rfl)|fail))
   exact zaR (ih (k + 1) _ (by omega) ⟨by omega, by (focus repeat' first | exact Ext.refl _ | assumption)⟩) ⟨rfl, (by
    show _ = some (Value.int .i64 (max (mxK t k) (t.getD (k + 1) 0)))
    rfl), rfl, trivial⟩
  ·have hlt' : ¬ ((k : Int) + 1 < t.length) := by omega
   have : k = t.length - 1 := by omega
   subst this
   (repeat' (first|apply zam|apply zad|(apply O_at;rfl)|(apply zak;rfl)|apply zal|(apply zaS;rfl)|apply zbx|apply zaH|apply zbF|apply za4|apply za5|apply zax|((first|apply zag|apply zac);rfl;rfl;rfl;rfl)|(apply za8;rfl;rfl;rfl;rfl;rfl;rfl;exact zav rfl)|(apply zbJ;rfl;rfl;rfl;rfl;rfl;omega)|fail))
   exact ⟨.inr rfl, _, rfl, rfl, by (focus repeat' first | exact Ext.refl _ | assumption)⟩
 ·exact ⟨Nat.zero_le _, by (focus repeat' first | exact Ext.refl _ | assumption)⟩
 ·(focus repeat' first | rfl | exact trivial | apply And.intro)
def lst (s : List (Int × Int)) (l : List Int) (r : Int) : Nat -> Int
 | 0 => 0
 | k + 1 => max (lst s l r k) (offv s l r k)
theorem mx_lst {s : List (Int × Int)} {l : List Int} {r : Int} {n : Nat} (h0 : offv s l r 0 = 0) : ∀ k, k < n -> mxK (offs s l r n) k = lst s l r (k + 1) := by
 intro k
 induction k with
 | zero =>
  intro hk
  show (offs s l r n).getD 0 0 = max 0 (offv s l r 0)
  rw [zfW hk, h0]; rfl
 | succ k ih =>
  intro hk
  show max (mxK (offs s l r n) k) ((offs s l r n).getD (k + 1) 0) = max (lst s l r (k + 1)) (offv s l r (k + 1))
  rw [ih (by omega), zfW hk]
section
variable {T : Tb} {l : List Int} {h : Heap}
theorem ziV (hK : NoK K) {p : Option Addr} {cap : Nat} (hP : TbP T) (hKp : zbD T.s.length l) (hcap : l.length <= cap) (hll : l.length <= 1000) (hTb : TbAt T h) (hr : Rd h p (ints l)) (hpb : ∀ a, p = some a -> a.block < h.n) :
  CallW Tryz.prog K 39 #[tbV T, .slice p l.length cap] h (IsV (.tuple #[.int .i64 (lst T.s l T.r T.s.length), .int .i64 0]) h) := by
 have hn := hP.1
 have hl2 := hKp.1
 obtain ⟨b, e, own, rfl, hg⟩ := hr.at (by rw [zar]; omega)
 have iK : ∀ {h' : Heap}, Ext h h' -> CallW Tryz.prog K 63 #[ktV T (some ⟨b, 0, none⟩) l.length cap] h' (IsV (.bool true) h') := fun x => yes (zdR hK (by omega) hll (hTb.ext x) (hr.ext x) (fun a w => Nat.lt_of_lt_of_le (hpb a w) x.n)) ⟨hP, hKp⟩
 have iO : ∀ {h' : Heap}, Ext h h' -> CallW Tryz.prog K 82 #[ktV T (some ⟨b, 0, none⟩) l.length cap] h' (IsL (offs T.s l T.r T.s.length) h') := fun x => zkX hK hP hKp hcap hll (hTb.ext x) (x.get hg)
 have h0 : offv T.s l T.r 0 = 0 := if_pos (mem_at.2 ⟨0, by omega, hKp.2.1⟩)
 have hmx := mx_lst (n := T.s.length) h0 (T.s.length - 1) (by omega)
 rw [show T.s.length - 1 + 1 = T.s.length by omega] at hmx
 have iM : ∀ {pm : Option Addr} {cm : Nat} {h' : Heap}, Rd h' pm (ints (offs T.s l T.r T.s.length)) -> CallW Tryz.prog K 81 #[.slice pm (offs T.s l T.r T.s.length).length cm] h' (IsV (.int .i64 (lst T.s l T.r T.s.length)) h') := by
  intro pm cm h' g
  have hol := zd9 T.s l T.r T.s.length
  have := zkm (cap := cm) hK (by omega) (by omega) g
  rw [hol, hmx] at this
  rw [hol]
  exact this
 obtain ⟨q, kq, s, r, o⟩ := T
 dsimp only [tbV, ktV] at iK iO iM ⊢
 refine body (N := 16) Tryz.func39 rfl (hK _ _ _ rfl) rfl rfl ?_
 (repeat' (first|apply zam|apply zad|(apply O_at;rfl)|(apply zak;rfl)|apply zal|(apply zaS;rfl)|apply zaG|((first|apply zag|apply zac|apply zbM);rfl;rfl;rfl;rfl)|(apply zaK;rfl;rfl;rfl;rfl;exact za2 rfl;(focus repeat' first|exact zaa|assumption|(apply Ext.get;assumption));(first|exact Nat.le_of_ble_eq_true rfl|(simp;done)|(simp;omega)|(rw [zar];omega));rfl)|(apply zbk;rfl;rfl;rfl;rfl;exact zao rfl;rfl;rfl;rfl)|(apply zdu;rfl;rfl;rfl;rfl)|(apply za3;rfl;rfl;rfl;rfl;exact zao rfl;rfl;rfl)|(apply zbK;rfl;rfl;rfl;rfl;exact zao rfl;rfl;rfl)|(apply zan;rfl;rfl;rfl;rfl;rfl;rfl;exact iK (by repeat' first|exact Ext.refl _|assumption|apply Ext.push|refine Ext.trans ?_ (by assumption));(rintro _ _ ⟨rfl,_⟩))|(apply zan;rfl;rfl;rfl;rfl;rfl;rfl;exact iO (by repeat' first|exact Ext.refl _|assumption|apply Ext.push|refine Ext.trans ?_ (by assumption));(rintro _ _ ⟨_,_,rfl,_,_⟩))|fail))
 rename_i h1 x1 h2 fq fc frd fx
 (repeat' (first|(apply O_at;rfl)|(apply zak;rfl)|apply zal|apply zaH|apply zax|((first|apply zag|apply zac|apply zbM);rfl;rfl;rfl;rfl)|(apply zan;rfl;rfl;rfl;rfl;rfl;rfl;exact iM frd;(rintro _ _ ⟨rfl,_⟩))|fail))
 exact ⟨.inr rfl, _, rfl, rfl, by repeat' first|exact Ext.refl _|assumption|apply Ext.push|refine Ext.trans ?_ (by assumption)⟩
theorem zhQ (hK : NoK K) {p : Option Addr} {cap : Nat} (hsl : T.s.length <= 1000) (hn : ¬ (TbP T /\ zbD T.s.length l)) (hll : l.length <= 1000) (hTb : TbAt T h) (hr : Rd h p (ints l)) (hpb : ∀ a, p = some a -> a.block < h.n) :
  CallW Tryz.prog K 39 #[tbV T, .slice p l.length cap] h (IsV (.tuple #[.int .i64 0, .int .i64 2]) h) := by
 have iK : ∀ {h' : Heap}, Ext h h' -> CallW Tryz.prog K 63 #[ktV T p l.length cap] h' (IfB (TbP T /\ zbD T.s.length l) h') := fun x => zdR hK hsl hll (hTb.ext x) (hr.ext x) (fun a w => Nat.lt_of_lt_of_le (hpb a w) x.n)
 obtain ⟨q, kq, s, r, o⟩ := T
 dsimp only [tbV, ktV] at iK hn ⊢
 refine body (N := 16) Tryz.func39 rfl (hK _ _ _ rfl) rfl rfl ?_
 (repeat' (first|apply zam|apply zad|(apply O_at;rfl)|(apply zak;rfl)|apply zal|(apply zaX;rfl)|apply zaH|apply zb2|apply zax|((first|apply zag|apply zac|apply zbM);rfl;rfl;rfl;rfl)|(apply zaK;rfl;rfl;rfl;rfl;exact za2 rfl;(focus repeat' first|exact zaa|assumption);(first|exact Nat.le_of_ble_eq_true rfl|(simp;done)|(simp;omega));rfl)|(apply zbk;rfl;rfl;rfl;rfl;exact zao rfl;rfl;rfl;rfl)|(apply zdu;rfl;rfl;rfl;rfl)|(apply za3;rfl;rfl;rfl;rfl;exact zao rfl;rfl;rfl)|(apply zbK;rfl;rfl;rfl;rfl;exact zao rfl;rfl;rfl)|(apply zan;rfl;rfl;rfl;rfl;rfl;rfl;exact no (iK (by repeat' first|exact Ext.refl _|assumption|apply Ext.push|refine Ext.trans ?_ (by assumption))) hn;(rintro _ _ ⟨rfl,_⟩))|fail))
 exact ⟨.inr rfl, _, rfl, rfl, by repeat' first|exact Ext.refl _|assumption|apply Ext.push|refine Ext.trans ?_ (by assumption)⟩
theorem zkG (hK : NoK K) {p : Option Addr} {cap : Nat} (hP : TbP T) (hKp : zbD T.s.length l) (hll : l.length <= 1000) (hTb : TbAt T h) (hr : Rd h p (ints l)) :
  CallW Tryz.prog K 41 #[tbV T, .slice p l.length cap] h (IsV (.int .i64 (lst T.s l T.r T.s.length)) h) := by
 have hF : ∀ {j : Nat} {h' : Heap}, j < T.s.length -> Ext h h' -> CallW Tryz.prog K 79 #[tbV T, .slice p l.length cap, .int .i64 (j : Nat)] h' (IsV (.int .i64 (offv T.s l T.r j)) h') := fun hj x => zjd hK hP hKp hll hj (hTb.ext x) (hr.ext x)
 obtain ⟨q, kq, s, r, o⟩ := T
 have hqb : ∀ a, q = some a -> a.block < h.n := hTb.b
 have hn := hP.1
 dsimp only [tbV] at hF hn ⊢
 refine body (N := 21) Tryz.func41 rfl (hK _ _ _ rfl) rfl rfl ?_
 (repeat' (first|apply zam|apply zad|(apply O_at;rfl)|(apply zak;rfl)|apply zal|apply zaq|((first|apply zag|apply zac);rfl;rfl;rfl;rfl)|(apply za3;rfl;rfl;rfl;rfl;exact zao rfl;rfl;rfl)|fail))
 refine zbh (fun k : Nat => [(6, .int .i64 (k : Nat)), (5, .int .i64 (lst s l r k)), (2, .pointer (some ⟨h.n, 0, none⟩)), (1, .slice p l.length cap)])
  (fun k h' => k <= s.length /\ Ext (h.push (.cells [.slice q s.length kq, .int .i64 r, .int .i64 o] 25 true)) h') (fun k => s.length - k) ?_ 0 ⟨Nat.zero_le _, Ext.refl _⟩ ?_
 ·rintro k h' ⟨hk, hx⟩ ih
  have hb : h'.get? h.n = some (.cells [.slice q s.length kq, .int .i64 r, .int .i64 o] 25 true) := hx.get zaa
  by_cases hlt : k < s.length
  ·have e : lst s l r (k + 1) = max (lst s l r k) (offv s l r k) := rfl
   (repeat' (first|apply zam|apply zad|(apply O_at;rfl)|(apply zak;rfl)|apply zal|(apply zaX;rfl)|apply zaq|apply zaG|apply zaE|((first|apply zag|apply zac);rfl;rfl;rfl;rfl)|(apply P_fa;rfl;rfl;rfl;rfl;exact za0 rfl;(first|exact Nat.zero_add _|exact Nat.add_zero _|rfl))|(apply za8;rfl;rfl;rfl;rfl;rfl;rfl;exact zav rfl)|(apply za1;rfl;rfl;rfl;rfl;rfl;omega)|(apply zbL;rfl;rfl;rfl;rfl;rfl;(unfold fit;omega))|(apply zat;rfl;rfl;rfl;rfl;exact zaJ rfl;(focus repeat' first|exact zaa|assumption|(apply Ext.get;assumption));(first|rfl|assumption))|(apply zaK;rfl;rfl;rfl;rfl;exact za2 rfl;(focus repeat' first|exact zaa|assumption|(apply Ext.get;assumption));(first|exact Nat.le_of_ble_eq_true rfl|(simp;done)|(simp;omega));rfl)|(apply P_max;rfl;rfl;rfl;rfl;rfl;rfl)|(apply zan;rfl;rfl;rfl;rfl;rfl;rfl;exact hF hlt (by repeat' first|exact Ext.refl _|assumption|apply Ext.push|refine Ext.trans ?_ (by assumption));(rintro _ _ ⟨rfl,_⟩))|fail))
   exact zaR (ih (k + 1) _ (by omega) ⟨hlt, by repeat' first|exact Ext.refl _|assumption|apply Ext.push|refine Ext.trans ?_ (by assumption)⟩) (by rw [e]; (focus repeat' first | rfl | exact trivial | apply And.intro))
  ·obtain rfl : k = s.length := by omega
   (repeat' (first|apply zam|apply zad|(apply O_at;rfl)|(apply zak;rfl)|apply zal|(apply zaS;rfl)|apply zbx|apply zaH|apply zbF|apply za4|apply za5|apply zax|((first|apply zag|apply zac);rfl;rfl;rfl;rfl)|(apply P_fa;rfl;rfl;rfl;rfl;exact za0 rfl;(first|exact Nat.zero_add _|exact Nat.add_zero _|rfl))|(apply za8;rfl;rfl;rfl;rfl;rfl;rfl;exact zav rfl)|(apply zbJ;rfl;rfl;rfl;rfl;rfl;omega)|(apply zat;rfl;rfl;rfl;rfl;exact zaJ rfl;(focus repeat' first|exact zaa|assumption|(apply Ext.get;assumption));(first|rfl|assumption))|fail))
   exact ⟨.inr rfl, _, rfl, rfl, by repeat' first|exact Ext.refl _|assumption|apply Ext.push|refine Ext.trans ?_ (by assumption)⟩
 ·(focus repeat' first | rfl | exact trivial | apply And.intro)
end
end Go.AX.Sa

namespace Go.AX.Sa
open Go.Proofs
set_option maxRecDepth 100000
variable {K : Known}
def nar (s : List (Int × Int)) (j : Nat) (n : Int) : List (Int × Int) := s.set j (n, n)
theorem zcp (s : List (Int × Int)) (j : Nat) (n : Int) : (nar s j n).length = s.length := by simp [nar]
theorem zdy {s : List (Int × Int)} {j k : Nat} {n : Int} (hj : j < s.length) : (nar s j n).getD k (0, 0) = if k = j then (n, n) else s.getD k (0, 0) := by
 simp only [nar, List.getD_eq_getElem?_getD, List.getElem?_set]
 by_cases h : j = k
 ·subst h; simp [hj]
 ·rw [if_neg h, if_neg (fun q => h q.symm)]
theorem zim {s : List (Int × Int)} {j k : Nat} {n : Int} (hj : j < s.length) (hk : k < s.length) : (lows (nar s j n)).getD k 0 = if k = j then n else (lows s).getD k 0 := by
 rw [zec (by rw [zcp]; exact hk), zdy hj, zec hk]
 split <;> rfl
theorem zgu {s : List (Int × Int)} {j k : Nat} {n : Int} (hj : j < s.length) (hk : k < s.length) : (highs (nar s j n)).getD k 0 = if k = j then n else (highs s).getD k 0 := by
 rw [zdV (by rw [zcp]; exact hk), zdy hj, zdV hk]
 split <;> rfl
theorem zil {s : List (Int × Int)} {j : Nat} {n : Int} (hV : Vals s) (hj : j < s.length) (hn : (s.getD j (0, 0)).1 <= n /\ n <= (s.getD j (0, 0)).2) : Vals (nar s j n) := by
 intro k hk
 rw [zcp] at hk
 rw [zdy hj]
 have a := hV k hk
 have b := hV j hj
 unfold ValP at *
 split <;> (try dsimp only) <;> omega
section
variable {s : List (Int × Int)} {l : List Int} {r o : Int}
theorem zpy {t u : List Int} (hKp : zbD s.length l) {j : Nat} (hj : j < s.length) (h : ∀ k : Nat, k < s.length -> ((k : Nat) : Int) ∈ l -> t.getD k 0 <= u.getD k 0) (hjj : t.getD j 0 <= u.getD j 0) : figv l t r j <= figv l u r j := by
 rcases zhp hKp hj with ⟨i, hi, hij⟩ | ⟨i, hi, h1, h2⟩
 ·rw [zcA hKp.2.2.2 hi hij, zcA hKp.2.2.2 hi hij]; exact hjj
 ·have a1 := zdQ hKp (i := i) (by omega)
  have a2 := zdQ hKp hi
  have b1 := h (l.getD i 0).toNat (by omega) (mem_at.2 ⟨i, by omega, by omega⟩)
  have b2 := h (l.getD (i + 1) 0).toNat (by omega) (mem_at.2 ⟨i + 1, hi, by omega⟩)
  rw [zcJ hKp.2.2.2 hi h1 h2, zcJ hKp.2.2.2 hi h1 h2, zk1, zk1]
  exact zh2 (by omega) (zin (by omega) (by omega) b1 b2)
theorem fail_ex (hV : Vals s) (hKp : zbD s.length l) (ho : 0 <= o) (hS : ¬ zb5 s l r o) {m : Nat} (hm : m < s.length) : ∃ n, ((s.getD m (0, 0)).1 <= n /\ n <= (s.getD m (0, 0)).2) /\ ¬ zb5 (nar s m n) l r o := by
 have hv := hV m hm
 unfold ValP at hv
 obtain ⟨j, hj, hjo⟩ : ∃ j, j < s.length /\ o < offv s l r j := by
  apply Classical.byContradiction
  intro h
  exact hS fun j hj => by
   have : ¬ o < offv s l r j := fun w => h ⟨j, hj, w⟩
   omega
 have hno : ¬ ((j : Nat) : Int) ∈ l := fun w => by unfold offv at hjo; rw [if_pos w] at hjo; omega
 have e : ∀ s' : List (Int × Int), offv s' l r j = max ((s'.getD j (0, 0)).2 - figv l (lows s') r j) (figv l (highs s') r j - (s'.getD j (0, 0)).1) := fun s' => if_neg hno
 have lo := zec (s := s) hm
 have hi := zdV (s := s) hm
 have ljj := zec (s := s) hj
 have hjj := zdV (s := s) hj
 have vj := hV j hj
 unfold ValP at vj
 rw [e] at hjo
 by_cases hc : o < (s.getD j (0, 0)).2 - figv l (lows s) r j
 ·-- high alone, the rows around it low
  by_cases hmj : m = j
  ·subst hmj
   refine ⟨(s.getD m (0, 0)).2, by omega, fun w => ?_⟩
   have := w m (by rw [zcp]; exact hm)
   rw [e, zdy hm, if_pos rfl] at this
   have f : figv l (lows (nar s m (s.getD m (0, 0)).2)) r m = figv l (lows s) r m := by
    have g : ∀ k : Nat, k < s.length -> ((k : Nat) : Int) ∈ l -> (lows (nar s m (s.getD m (0, 0)).2)).getD k 0 = (lows s).getD k 0 := fun k hk hkl => by
     rw [zim hm hk, if_neg (show ¬ k = m from fun q => hno (q ▸ hkl))]
    rcases zhp hKp hm with ⟨i, hi', hij⟩ | ⟨i, hi', h1, h2⟩
    ·exact absurd (mem_at.2 ⟨i, hi', hij⟩) hno
    ·have a1 := zdQ hKp (i := i) (by omega)
     have a2 := zdQ hKp hi'
     rw [zcJ hKp.2.2.2 hi' h1 h2, zcJ hKp.2.2.2 hi' h1 h2, g _ (by omega) (mem_at.2 ⟨i, by omega, by omega⟩), g _ (by omega) (mem_at.2 ⟨i + 1, hi', by omega⟩)]
   dsimp only at this
   omega
  ·refine ⟨(s.getD m (0, 0)).1, by omega, fun w => ?_⟩
   have := w j (by rw [zcp]; exact hj)
   rw [e, zdy hm, if_neg (fun q => hmj q.symm)] at this
   have f := zpy (t := lows (nar s m (s.getD m (0, 0)).1)) (u := lows s) (r := r) hKp hj (fun k hk _ => by
    rw [zim hm hk]
    split
    ·rename_i q; subst q; omega
    ·exact Int.le_refl _) (by rw [zim hm hj, if_neg (fun q => hmj q.symm)]; exact Int.le_refl _)
   omega
 ·have hc' : o < figv l (highs s) r j - (s.getD j (0, 0)).1 := by omega
  by_cases hmj : m = j
  ·subst hmj
   refine ⟨(s.getD m (0, 0)).1, by omega, fun w => ?_⟩
   have := w m (by rw [zcp]; exact hm)
   rw [e, zdy hm, if_pos rfl] at this
   have f : figv l (highs (nar s m (s.getD m (0, 0)).1)) r m = figv l (highs s) r m := by
    have g : ∀ k : Nat, k < s.length -> ((k : Nat) : Int) ∈ l -> (highs (nar s m (s.getD m (0, 0)).1)).getD k 0 = (highs s).getD k 0 := fun k hk hkl => by
     rw [zgu hm hk, if_neg (show ¬ k = m from fun q => hno (q ▸ hkl))]
    rcases zhp hKp hm with ⟨i, hi', hij⟩ | ⟨i, hi', h1, h2⟩
    ·exact absurd (mem_at.2 ⟨i, hi', hij⟩) hno
    ·have a1 := zdQ hKp (i := i) (by omega)
     have a2 := zdQ hKp hi'
     rw [zcJ hKp.2.2.2 hi' h1 h2, zcJ hKp.2.2.2 hi' h1 h2, g _ (by omega) (mem_at.2 ⟨i, by omega, by omega⟩), g _ (by omega) (mem_at.2 ⟨i + 1, hi', by omega⟩)]
   dsimp only at this
   omega
  ·refine ⟨(s.getD m (0, 0)).2, by omega, fun w => ?_⟩
   have := w j (by rw [zcp]; exact hj)
   rw [e, zdy hm, if_neg (fun q => hmj q.symm)] at this
   have f := zpy (t := highs s) (u := highs (nar s m (s.getD m (0, 0)).2)) (r := r) hKp hj (fun k hk _ => by
    rw [zgu hm hk]
    split
    ·rename_i q; subst q; omega
    ·exact Int.le_refl _) (by rw [zgu hm hj, if_neg (fun q => hmj q.symm)]; exact Int.le_refl _)
   omega
def FstP (s : List (Int × Int)) (l : List Int) (r o : Int) (m : Nat) (n : Int) : Prop := ((s.getD m (0, 0)).1 <= n /\ n <= (s.getD m (0, 0)).2) /\ ¬ zb5 (nar s m n) l r o /\ ∀ k, (s.getD m (0, 0)).1 <= k -> k < n -> zb5 (nar s m k) l r o
theorem fst_ex (hV : Vals s) (hKp : zbD s.length l) (ho : 0 <= o) (hS : ¬ zb5 s l r o) {m : Nat} (hm : m < s.length) : ∃ n, FstP s l r o m n := by
 obtain ⟨n, hn, hN⟩ := fail_ex hV hKp ho hS hm
 have key : ∀ d : Nat, ∀ a : Int, a + (d : Nat) = n -> (s.getD m (0, 0)).1 <= a -> (∀ k, (s.getD m (0, 0)).1 <= k -> k < a -> zb5 (nar s m k) l r o) -> ∃ n, FstP s l r o m n := by
  intro d
  induction d with
  | zero => intro a ha h1 h2; exact ⟨a, by omega, by rw [show a = n by omega]; exact hN, h2⟩
  | succ d ih =>
   intro a ha h1 h2
   by_cases hs : zb5 (nar s m a) l r o
   ·refine ih (a + 1) (by omega) (by omega) fun k hk1 hk2 => ?_
    by_cases q : k = a
    ·subst q; exact hs
    ·exact h2 k hk1 (by omega)
   ·exact ⟨a, by omega, hs, h2⟩
 exact key (n - (s.getD m (0, 0)).1).toNat _ (by omega) (Int.le_refl _) fun k h1 h2 => by omega
end
noncomputable instance fstDec (s : List (Int × Int)) (l : List Int) (r o : Int) (m : Nat) : Decidable (∃ n, FstP s l r o m n) := Classical.propDecidable _
noncomputable def pfn (s : List (Int × Int)) (l : List Int) (r o : Int) (m : Nat) : Int :=
 if h : ∃ n, FstP s l r o m n then Classical.choose h else 0
theorem pfn_is {s : List (Int × Int)} {l : List Int} {r o : Int} {m : Nat} (h : ∃ n, FstP s l r o m n) : FstP s l r o m (pfn s l r o m) := by
 unfold pfn
 rw [dif_pos h]
 exact Classical.choose_spec h
noncomputable def pfs (s : List (Int × Int)) (l : List Int) (r o : Int) : Nat -> List (Int × Int)
 | 0 => s
 | m + 1 => nar (pfs s l r o m) m (pfn (pfs s l r o m) l r o m)
section
variable {s : List (Int × Int)} {l : List Int} {r o : Int}
theorem zdM : ∀ m, (pfs s l r o m).length = s.length := by
 intro m
 induction m with
 | zero => rfl
 | succ m ih => show (nar _ _ _).length = _; rw [zcp, ih]
theorem zoS (hV : Vals s) (hKp : zbD s.length l) (ho : 0 <= o) (hS : ¬ zb5 s l r o) : ∀ m, m <= s.length -> Vals (pfs s l r o m) /\ ¬ zb5 (pfs s l r o m) l r o := by
 intro m
 induction m with
 | zero => intro _; exact ⟨hV, hS⟩
 | succ m ih =>
  intro hm
  obtain ⟨a, b⟩ := ih (by omega)
  have hl := zdM (s := s) (l := l) (r := r) (o := o) m
  have f := pfn_is (fst_ex a (by rw [hl]; exact hKp) ho b (m := m) (by rw [hl]; omega))
  exact ⟨zil a (by rw [hl]; omega) f.1, f.2.1⟩
theorem zoU (hV : Vals s) (hKp : zbD s.length l) (ho : 0 <= o) (hS : ¬ zb5 s l r o) {m : Nat} (hm : m < s.length) : FstP (pfs s l r o m) l r o m (pfn (pfs s l r o m) l r o m) := by
 obtain ⟨a, b⟩ := zoS hV hKp ho hS m (by omega)
 have hl := zdM (s := s) (l := l) (r := r) (o := o) m
 exact pfn_is (fst_ex a (by rw [hl]; exact hKp) ho b (by rw [hl]; omega))
theorem zoT {j : Nat} : ∀ m, m <= j -> j < s.length -> (pfs s l r o m).getD j (0, 0) = s.getD j (0, 0) := by
 intro m
 induction m with
 | zero => intro _ _; rfl
 | succ m ih =>
  intro hm hj
  show (nar _ _ _).getD j (0, 0) = _
  rw [zdy (by rw [zdM]; omega), if_neg (by omega), ih (by omega) hj]
theorem pfs_at {j : Nat} : ∀ m, j < m -> m <= s.length -> (pfs s l r o m).getD j (0, 0) = (pfn (pfs s l r o j) l r o j, pfn (pfs s l r o j) l r o j) := by
 intro m
 induction m with
 | zero => intro h _; omega
 | succ m ih =>
  intro hm hj
  show (nar _ _ _).getD j (0, 0) = _
  rw [zdy (by rw [zdM]; omega)]
  by_cases q : j = m
  ·subst q; rw [if_pos rfl]
  ·rw [if_neg q, ih (by omega) (by omega)]
noncomputable def prf (s : List (Int × Int)) (l : List Int) (r o : Int) : List Int := lows (pfs s l r o s.length)
theorem zkK : (prf s l r o).length = s.length := by unfold prf; rw [zeb, zdM]
theorem prf_get {j : Nat} (hj : j < s.length) : (prf s l r o).getD j 0 = pfn (pfs s l r o j) l r o j := by
 unfold prf
 rw [zec (by rw [zdM]; exact hj), pfs_at _ hj (Nat.le_refl _)]
end
end Go.AX.Sa

namespace Go.AX.Sa
open Go.Proofs
set_option maxRecDepth 100000
variable {K : Known}
theorem OutI.keepc {e : TypeId} {h0 h h1 : Heap} {v : Value} {l : List Int} (o : OutI e h0 h v l) (k : ∀ b c t w, h0.n <= b -> h.get? b = some (.cells c t w) -> h1.get? b = some (.cells c t w)) : OutI e h0 h1 v l := by
 rcases o with o | ⟨hl, b, h1', h2, h3⟩
 ·exact .inl o
 ·exact .inr ⟨hl, b, h1', k b _ _ _ h3 h2, h3⟩
theorem OutI.own {e : TypeId} {h0 h : Heap} {v : Value} {l : List Int} (o : OutI e h0 h v l) {b n c : Nat} (hv : v = .slice (some ⟨b, 0, none⟩) n c) : h.get? b = some (.cells (ints l) e true) /\ h0.n <= b := by
 rcases o with ⟨_, rfl⟩ | ⟨_, b', rfl, h2, h3⟩
 ·cases hv
 ·cases hv; exact ⟨h2, h3⟩
section
variable {P : Program} {x : Ctx} {N : Nat} {E : Env} {h : Heap} {ops : Array Oper} {F : Ex -> Env -> Heap -> Prop} {i : Nat}
variable {d : Nat} {ty : TypeId} {pos : String} {af : Array Edge} {g : Option (Nat × Bool)}
theorem P_appIV {args : Array Operand} {ts : Array TypeId} {t t' e e' : TypeId} {a b : Operand} {by_ cap : Nat} {e0 : TypeId} {own : Bool} {n : Int} {v : Value} {l : List Int} {h0 : Heap} (hN : Nat.blt d N = true) (hg : gval ops E g = some true) (hk : zai P ⟨some d, .call ⟨.builtin .append, args, ts⟩, ty, pos, af, g⟩ = true) (hargs : args.toList = [a, b])
  (ha : E.ev a = some v) (hb : E.ev b = some (.slice (some ⟨by_, 0, none⟩) 1 cap)) (h0' : ts[0]? = some t) (h1' : ts[1]? = some t') (hc : cell1 P t = some e) (hc' : P.underlying t' = some (.slice e'))
  (hy : h.get? by_ = some (.cells [.int .i64 n] e0 own)) (ho : OutI e h0 h v l) (hle : l.length <= 10000)
  (k : ∀ v' h1, OutI e h h1 v' (l ++ [n]) -> h.n <= h1.n -> (∀ c y, h.get? c = some y -> (∀ b' m q, v = .slice (some ⟨b', 0, none⟩) m q -> c ≠ b') -> h1.get? c = some y) -> R1 P K x N ops F (i + 1) ((d, v') :: E) h1) : R2 P K x N ops F i ⟨some d, .call ⟨.builtin .append, args, ts⟩, ty, pos, af, g⟩ E h := by
 rcases ho with ⟨rfl, rfl⟩ | ⟨hl, b', rfl, h2, h3⟩
 ·exact zcK hN hg hk hargs ha hb (zlF h0' h1' hc hc' hy rfl (by omega) (by omega) rfl) (k _ _ (.inr ⟨by simp, h.n, rfl, zaa, Nat.le_refl _⟩) (Nat.le_succ _) fun _ _ g _ => zab g)
 ·refine zcK hN hg hk hargs ha hb (zlE h0' h1' hc hc' hy rfl (by omega) (by omega) rfl h2 (zar _)) (k _ _ (.inr ⟨by simp, h.n, ?_, ?_, Nat.le_refl _⟩) (Nat.le_succ _) fun c y q r => zab (zbf h2 (r _ _ _ rfl) q))
  ·simp
  ·have : (h.set b' .dead).n = h.n := rfl
   rw [<- this, show ints (l ++ [n]) = ints l ++ [Value.int .i64 n] from (ints_app l [n]).symm]
   exact zaa
end
theorem zpK (hK : NoK K) {s : List (Int × Int)} {b cap : Nat} {e : TypeId} {own : Bool} {h : Heap} (hp : 0 < s.length) (hl : s.length <= 1000) (hg : h.get? b = some (.cells (zah s) e own)) :
  CallW Tryz.prog K 121 #[.slice (some ⟨b, 0, none⟩) s.length cap] h fun v h1 => Ext h h1 /\ ∃ b, v = .slice (some ⟨b, 0, none⟩) s.length unk /\ h1.get? b = some (.cells (zah s) 72 true) /\ h.n <= b := by
 refine body (N := 8) Tryz.func121 rfl (hK _ _ _ rfl) rfl rfl ?_
 (repeat' (first|apply zam|apply zad|(apply O_at;rfl)|(apply zak;rfl)|apply zal|(apply zaS;rfl)|apply zaG|((first|apply zag|apply zac);rfl;rfl;rfl;rfl)|(apply P_nilF;rfl;rfl;rfl;rfl;rfl;exact zav rfl)|fail))
 apply zp9; rfl; rfl; rfl; rfl; exact zpT rfl
 (repeat' (first|(apply O_at;rfl)|((first|apply zag|apply zac);rfl;rfl;rfl;rfl)|fail))
 apply zcK; rfl; rfl; rfl; rfl; rfl; rfl; exact zpZ rfl rfl (zpT rfl) (zav rfl) (zab hg) hp (by omega)
 (repeat' (first|(apply O_at;rfl)|(apply zak;rfl)|apply zal|apply zaH|apply zax|((first|apply zag|apply zac);rfl;rfl;rfl;rfl)|fail))
 refine ⟨.inr rfl, _, rfl, ?_, (h.push (.cells [] 72 true)).n, rfl, zaa, Nat.le_succ _⟩
 (focus repeat' first | exact Ext.refl _ | assumption | apply Ext.push)
set_option maxHeartbeats 4000000 in
theorem zgF (hK : NoK K) {T : Tb} {l : List Int} {b cap : Nat} {e : TypeId} {own : Bool} {h : Heap} (hP : TbP T) (hKp : zbD T.s.length l) (hcap : l.length <= cap) (hll : l.length <= 1000) (hTb : TbAt T h) (hg : h.get? b = some (.cells (ints l) e own)) (hS : ¬ zb5 T.s l T.r T.o) :
  CallW Tryz.prog K 80 #[ktV T (some ⟨b, 0, none⟩) l.length cap] h (IsL (prf T.s l T.r T.o) h) := by
 obtain ⟨q, kq, s, r, o⟩ := T
 have hn := hP.1
 have hV := hP.2.1
 have hru := hP.2.2.1
 have hOff := hP.2.2.2
 have hs0 := hTb.rd
 dsimp only [ktV] at hn hV hru hOff hKp hs0 hS ⊢
 obtain ⟨bs, es, owns, rfl, hgs⟩ := hs0.at (by rw [zaj]; omega)
 have lb := Heap.get_lt hg
 have lbs := Heap.get_lt hgs
 -- a table that is narrowed
 have iS : ∀ {u : List (Int × Int)} {bu : Nat} {h' : Heap}, u.length = s.length -> Vals u -> h'.get? bu = some (.cells (zah u) 72 true) -> h'.get? b = some (.cells (ints l) e own) -> CallW Tryz.prog K 75 #[.agg #[.slice (some ⟨bu, 0, none⟩) s.length unk, .int .i64 r, .int .i64 o, .slice (some ⟨b, 0, none⟩) l.length cap]] h' (IfB (zb5 u l r o) h') := by
  intro u bu h' hu hVu gu gb
  have a := zgA (T := ⟨some ⟨bu, 0, none⟩, unk, u, r, o⟩) (cap := cap) hK ⟨by dsimp only; omega, hVu, hru, hOff⟩ (by dsimp only; rw [hu]; exact hKp) hcap hll ⟨.inr ⟨_, _, _, rfl, gu⟩, fun a w => by cases w; exact Heap.get_lt gu⟩ gb
  dsimp only [ktV] at a
  rw [hu] at a
  exact a
 refine bodyM (N := 42) Tryz.func80 rfl (hK _ _ _ rfl) rfl rfl ?_
 refine zc2 (zfe ?_)
 (repeat' (first|apply zad|(apply O_at;rfl)|(apply zak;rfl)|apply zax|((first|apply zag|apply zac|apply zbM);rfl;rfl;rfl;rfl)|(apply za3;rfl;rfl;rfl;rfl;exact zao rfl;rfl;rfl)|fail))
 refine Or.inl ⟨rfl, ?_⟩
 refine zc2 (KM_scope ?_)
 refine zc2 (zfe ?_)
 (repeat' (first|apply zad|(apply O_at;rfl)|(apply zak;rfl)|apply zax|((first|apply zag|apply zac|apply zbM);rfl;rfl;rfl;rfl)|(apply P_fa;rfl;rfl;rfl;rfl;exact za0 rfl;(first|exact Nat.zero_add _|exact Nat.add_zero _|rfl))|(apply zat;rfl;rfl;rfl;rfl;exact zaJ rfl;(focus repeat' first|exact zaa|assumption|apply zab|(apply Ext.get;assumption)|(apply ExtBut.get;assumption;(first|assumption|omega|(simp only [Heap.push];omega))));(first|rfl|assumption))|fail))
 refine Or.inl ⟨rfl, ?_⟩
 refine zc2 (zfe ?_)
 (repeat' (first|apply zad|(apply O_at;rfl)|((first|apply zag|apply zac|apply zbM);rfl;rfl;rfl;rfl)|fail))
 apply zan; rfl; rfl; rfl; rfl; rfl; rfl; exact zpK hK (by omega) (by omega) (zab hgs)
 rintro _ h2 ⟨x2, bc, rfl, gc, hbc⟩
 have gk2 : h2.get? h.n = some (.cells [.slice (some ⟨bs, 0, none⟩) s.length kq, .int .i64 r, .int .i64 o, .slice (some ⟨b, 0, none⟩) l.length cap] 82 true) := x2.get zaa
 (repeat' (first|(apply O_at;rfl)|(apply P_fa;rfl;rfl;rfl;rfl;exact za0 rfl;(first|exact Nat.zero_add _|exact Nat.add_zero _|rfl))|fail))
 refine ziK (c' := [.slice (some ⟨bc, 0, none⟩) s.length unk, .int .i64 r, .int .i64 o, .slice (some ⟨b, 0, none⟩) l.length cap]) rfl rfl rfl rfl gk2 (zao rfl) rfl (Nat.le_of_ble_eq_true rfl) rfl rfl ?_
 intro h3 gk3 x3
 (repeat' (first|(apply zak;rfl)|apply zax|fail))
 refine Or.inl ⟨rfl, ?_⟩
 refine zc2 (zfe ?_)
 (repeat' (first|apply zad|(apply O_at;rfl)|(apply zak;rfl)|apply zax|(apply zbK;rfl;rfl;rfl;rfl;exact zao rfl;rfl;rfl)|fail))
 refine Or.inl ⟨rfl, ?_⟩
 refine zc2 (zfe ?_)
 (repeat' (first|apply K_label|apply zax|fail))
 refine Or.inl ⟨rfl, ?_⟩
 refine zc2 (zc2 (zfe ?_))
 (repeat' (first|apply zad|(apply O_at;rfl)|(apply zak;rfl)|apply zax|((first|apply zag|apply zac|apply zbM);rfl;rfl;rfl;rfl)|(apply za8;rfl;rfl;rfl;rfl;rfl;rfl;exact zav rfl)|fail))
 refine Or.inl ⟨rfl, ?_⟩
 have n2 := x2.n
 have n3 := x3.n
 simp only [Heap.push] at n2 hbc
 have lbc := Heap.get_lt gc
 have gcL : (h3.push (.cells (Value.slice none 0 0).cells.toList 26 true)).get? bc = some (.cells (zah s) 72 true) := zab (x3.get (by omega) gc)
 have gkL : (h3.push (.cells (Value.slice none 0 0).cells.toList 26 true)).get? h.n = some (.cells [.slice (some ⟨bc, 0, none⟩) s.length unk, .int .i64 r, .int .i64 o, .slice (some ⟨b, 0, none⟩) l.length cap] 82 true) := zab gk3
 have gbL : (h3.push (.cells (Value.slice none 0 0).cells.toList 26 true)).get? b = some (.cells (ints l) e own) := zab (x3.get (by omega) (x2.get (zab hg)))
 have gsL : (h3.push (.cells (Value.slice none 0 0).cells.toList 26 true)).get? bs = some (.cells (zah s) es owns) := zab (x3.get (by omega) (x2.get (zab hgs)))
 have gvL : (h3.push (.cells (Value.slice none 0 0).cells.toList 26 true)).get? h3.n = some (.cells [nilV] 26 true) := zaa
 have nL : (h3.push (.cells (Value.slice none 0 0).cells.toList 26 true)).n = h3.n + 1 := rfl
 have xL : ∀ {g : Heap}, (∀ b x, b ≠ bc -> b ≠ h3.n -> (h3.push (.cells (Value.slice none 0 0).cells.toList 26 true)).get? b = some x -> g.get? b = some x) -> (h3.push (.cells (Value.slice none 0 0).cells.toList 26 true)).n <= g.n -> Ext h g := fun k n => ⟨by omega, fun b x gg => by
  have := Heap.get_lt gg
  exact k b x (by omega) (by omega) (zab (x3.get (by omega) (x2.get (zab gg))))⟩
 generalize h3.push (.cells (Value.slice none 0 0).cells.toList 26 true) = hL at *
 refine ziN (KM_loop (fun k : Nat => [(17, .int .i64 (k : Nat)), (16, .int .i64 (s.length : Nat)), (15, .slice (some ⟨bs, 0, none⟩) s.length kq), (4, .pointer (some ⟨h3.n, 0, none⟩)), (1, .pointer (some ⟨h.n, 0, none⟩))])
  (fun k h' M => k <= s.length /\ h'.get? bc = some (.cells (zah (pfs s l r o k)) 72 true) /\ (∃ v, h'.get? h3.n = some (.cells [v] 26 true) /\ OutI 3 hL h' v ((prf s l r o).take k)) /\ (∀ b x, b ≠ bc -> b ≠ h3.n -> hL.get? b = some x -> h'.get? b = some x) /\ hL.n <= h'.n /\ M.Nodup /\ (∀ r ∈ M, h'.get? r = some (.obj (.deferred (some [])))) /\ (∀ r ∈ M, hL.n <= r)) (fun k => s.length - k) ?_ 0 ?_ ?_)
 ·rintro k h' M ⟨hk, hc', ⟨v, hv, ho⟩, kk', hn', hM1, hM2, hM3⟩ ih
  have gk' := kk' _ _ (by omega) (by omega) gkL
  have gb' := kk' _ _ (by omega) (by omega) gbL
  have gs' := kk' _ _ (by omega) (by omega) gsL
  by_cases hlt : k < s.length
  ·have hvk := hV k hlt
   unfold ValP at hvk
   refine zc2 (zfe ?_)
   (repeat' (first|apply zad|(apply O_at;rfl)|(apply zak;rfl)|apply zax|(apply za1;rfl;rfl;rfl;rfl;rfl;omega)|fail))
   refine Or.inl ⟨rfl, ?_⟩
   refine zc2 (zfe ?_)
   (repeat' (first|(apply zaX;rfl)|apply zaG|apply zax|fail))
   refine Or.inl ⟨rfl, ?_⟩
   refine zc2 (zqh (Q := fun e E1 h2 M1 => e = .normal /\ E1.get 17 = some (.int .i64 (k : Nat)) /\ E1.get 16 = some (.int .i64 (s.length : Nat)) /\ E1.get 15 = some (.slice (some ⟨bs, 0, none⟩) s.length kq) /\ E1.get 4 = some (.pointer (some ⟨h3.n, 0, none⟩)) /\ E1.get 1 = some (.pointer (some ⟨h.n, 0, none⟩)) /\
    (k + 1 <= s.length /\ h2.get? bc = some (.cells (zah (pfs s l r o (k + 1))) 72 true) /\ (∃ v, h2.get? h3.n = some (.cells [v] 26 true) /\ OutI 3 hL h2 v ((prf s l r o).take (k + 1))) /\ (∀ b x, b ≠ bc -> b ≠ h3.n -> hL.get? b = some x -> h2.get? b = some x) /\ hL.n <= h2.n /\ M1.Nodup /\ (∀ r ∈ M1, h2.get? r = some (.obj (.deferred (some [])))) /\ (∀ r ∈ M1, hL.n <= r))) (ziN ?_) ?_)
   ·refine zc2 (zfe ?_)
    (repeat' (first|apply zad|(apply O_at;rfl)|(apply zak;rfl)|apply zax|((first|apply zag|apply zac|apply zbM);rfl;rfl;rfl;rfl)|(apply zdt;rfl;rfl;rfl;rfl;rfl;exact zav rfl;exact zao rfl;(first|assumption|rfl|exact (Int.toNat_of_nonneg (by omega)).symm);omega)|(apply zaK;rfl;rfl;rfl;rfl;exact za2 rfl;(focus repeat' first|exact zaa|assumption|apply zab|(apply Ext.get;assumption)|(apply ExtBut.get;assumption;(first|assumption|omega|(simp only [Heap.push];omega))));(first|exact Nat.le_of_ble_eq_true rfl|(simp;done)|(simp;omega)|(rw [zaj];omega));(first|exact zaP (by omega)|rfl))|(apply zbK;rfl;rfl;rfl;rfl;exact zao rfl;rfl;rfl)|(apply zej;rfl;rfl;rfl;rfl;(focus repeat' first|exact zaa|assumption|apply zab|(apply Ext.get;assumption)|(apply ExtBut.get;assumption;(first|assumption|omega|(simp only [Heap.push];omega))));exact zao rfl;rfl;(first|rfl|exact zar _);rfl;(intro _ _ _))|fail))
    rename_i h4 ga y4 h5 ge y5
    replace ge : h5.get? (h'.n + 1) = some (.cells [.int .i64 (s.getD k (0, 0)).1, .int .i64 (s.getD k (0, 0)).2] 72 true) := ge
    replace y5 : ExtBut (h'.n + 1) h4 h5 := y5
    have z5 : Ext h' h5 := Ext.ofBut (Ext.ofBut (((Ext.refl h').push _).push _) y4 (Nat.le_refl _)) y5 (Nat.le_succ _)
    have ga5 : h5.get? h'.n = some (.cells [.int .i64 (k : Nat)] 3 true) := y5.get (by omega) ga
    have n4 := y4.n
    have n5 := y5.n
    simp only [Heap.push] at n4
    refine Or.inl ⟨rfl, ?_⟩
    refine zc2 (zfe ?_)
    (repeat' (first|apply zad|(apply O_at;rfl)|(apply zaK;rfl;rfl;rfl;rfl;exact za2 rfl;(focus repeat' first|exact zaa|assumption|apply zab|(apply Ext.get;assumption)|(apply ExtBut.get;assumption;(first|assumption|omega|(simp only [Heap.push];omega))));(first|exact Nat.le_of_ble_eq_true rfl|(simp;done)|(simp;omega)|(rw [zaj];omega));(first|exact zaP (by omega)|rfl))|fail))
    apply zan; rfl; rfl; rfl; rfl; rfl; rfl; exact zkZ hK (a := (s.getD k (0, 0)).1) (c := (s.getD k (0, 0)).2)
    rintro _ h6 ⟨x6, by_, rfl, hby, gy⟩
    (repeat' (first|(apply zak;rfl)|apply zax|fail))
    refine Or.inl ⟨rfl, ?_⟩
    have n6 := x6.n
    have w6 : Ext h' h6 := z5.trans x6
    have ga6 := x6.get ga5
    have lby := Heap.get_lt gy
    have hpf := zoU (r := r) hV hKp hOff.1 hS hlt
    obtain ⟨vP, _⟩ := zoS (r := r) hV hKp hOff.1 hS k (by omega)
    have lP := zdM (s := s) (l := l) (r := r) (o := o) k
    have eP := zoT (s := s) (l := l) (r := r) (o := o) (j := k) k (Nat.le_refl _) hlt
    obtain ⟨f1, f2, f3⟩ := hpf
    rw [eP] at f1 f3
    have hpk := prf_get (s := s) (l := l) (r := r) (o := o) hlt
    have hpl := zkK (s := s) (l := l) (r := r) (o := o)
    have htk : (prf s l r o).take (k + 1) = (prf s l r o).take k ++ [pfn (pfs s l r o k) l r o k] := by
     rw [List.take_succ_eq_append_getElem (by omega), <- hpk]
     congr 2
     simp [List.getD_eq_getElem?_getD, hpl, hlt]
    have htl : ((prf s l r o).take k).length <= 1000 := by rw [List.length_take]; omega
    refine zqh (Q := fun e E1 h7 M1 => e = .exit 1 /\ E1.get 17 = some (.int .i64 (k : Nat)) /\ E1.get 16 = some (.int .i64 (s.length : Nat)) /\ E1.get 15 = some (.slice (some ⟨bs, 0, none⟩) s.length kq) /\ E1.get 4 = some (.pointer (some ⟨h3.n, 0, none⟩)) /\ E1.get 1 = some (.pointer (some ⟨h.n, 0, none⟩)) /\
     h7.get? bc = some (.cells (zah (pfs s l r o (k + 1))) 72 true) /\ (∃ v, h7.get? h3.n = some (.cells [v] 26 true) /\ OutI 3 hL h7 v ((prf s l r o).take (k + 1))) /\ (∀ b x, b ≠ bc -> b ≠ h3.n -> (b < hL.n \/ ∃ ob, x = .obj ob) -> h6.get? b = some x -> h7.get? b = some x) /\ h6.n <= h7.n /\ M1 = h6.n :: M /\ h7.get? h6.n = some (.obj (.deferred (some []))))
     (ziN (KM_range (g0 := 144) (fi := #[]) (ca := #[.pointer (some ⟨by_, 0, none⟩)]) rfl rfl rfl ?_)) ?_
    ·intro tm lq hb rr hEO hr hlq hxb hbn hlb hdb
     refine (zkY hK (e := 72) (own := true) (bs := by_) (l := lq) (p := s.getD k (0, 0)) (by omega)
      (fun i h8 => h8.get? lq = some (.obj (.loop rr)) /\ (∃ u : List (Int × Int), h8.get? bc = some (.cells (zah u) 72 true) /\ u.length = s.length /\ ∀ x, nar u k x = nar (pfs s l r o k) k x) /\ (∀ b x, b ≠ lq -> b ≠ bc -> hb.get? b = some x -> h8.get? b = some x) /\ hb.n <= h8.n /\ ∀ m : Int, (s.getD k (0, 0)).1 <= m -> m < (s.getD k (0, 0)).1 + (i : Nat) -> zb5 (nar (pfs s l r o k) k m) l r o)
      (fun h8 => h8.get? lq = some (.obj (.loop (left rr (some (.exit 1))))) /\ h8.get? bc = some (.cells (zah (pfs s l r o (k + 1))) 72 true) /\ (∃ v, h8.get? h3.n = some (.cells [v] 26 true) /\ OutI 3 hL h8 v ((prf s l r o).take (k + 1))) /\ (∀ b x, b ≠ lq -> b ≠ bc -> b ≠ h3.n -> (b < hL.n \/ ∃ ob, x = .obj ob) -> hb.get? b = some x -> h8.get? b = some x) /\ hb.n <= h8.n) ?_ ?_ ?_).mono ?_
     ·rintro i h8 ⟨_, _, kk, _⟩
      exact kk by_ _ (by omega) (by omega) (hxb.get gy)
     ·exact ⟨hlb, ⟨_, hxb.get (w6.get hc'), lP, fun x => rfl⟩, fun b x _ _ g => g, Nat.le_refl _, fun m h1 h2 => by omega⟩
     ·rintro i h8 hle ⟨gl, ⟨u, gu, hul, hux⟩, kk, nn, hall⟩
      refine zoz (N := 42) gl hr rfl (EnvOK.param hEO rfl) ?_
      (repeat' (first|apply zad|(apply O_at;rfl)|(apply zak;rfl)|apply zax|((first|apply zag|apply zac|apply zbM);rfl;rfl;rfl;rfl)|fail))
      refine ⟨rfl, gl, fun Bz hs hsl hsk hsn => ?_⟩
      have old : ∀ {b : Nat} {x : Blk}, b ≠ bc -> h6.get? b = some x -> hs.get? b = some x := fun {b} {x} q g => hsk b x (by have := Heap.get_lt g; omega) (kk b x (by have := Heap.get_lt g; omega) q (hxb.get g))
      have gas := old (by omega) ga6
      have gks := old (by omega) (w6.get gk')
      have gbs := old (by omega) (w6.get gb')
      have gus := hsk _ _ (by omega) gu
      have gvs := old (by omega) (w6.get hv)
      have ho8 : OutI 3 hL h8 v ((prf s l r o).take k) := OutI.keepc ((ho.ext w6).ext hxb) fun b c t w q g => kk b _ (fun z => by subst z; rw [hlb] at g; cases g) (by omega) g
      have hos : OutI 3 hL hs v ((prf s l r o).take k) := OutI.keepc ho8 fun b c t w q g => hsk b _ (fun z => by subst z; rw [gl] at g; cases g) g
      have hku : k < u.length := by omega
      (repeat' (first|apply zam|apply zad|(apply O_at;rfl)|(apply zak;rfl)|apply zal|apply zaq|((first|apply zag|apply zac|apply zbM);rfl;rfl;rfl;rfl)|(apply P_fa;rfl;rfl;rfl;rfl;exact za0 rfl;(first|exact Nat.zero_add _|exact Nat.add_zero _|rfl))|(apply zdt;rfl;rfl;rfl;rfl;rfl;exact zav rfl;exact zao rfl;(first|assumption|rfl|exact (Int.toNat_of_nonneg (by omega)).symm);omega)|(apply zat;rfl;rfl;rfl;rfl;exact zaJ rfl;(focus repeat' first|exact zaa|assumption|apply zab|(apply Ext.get;assumption)|(apply ExtBut.get;assumption;(first|assumption|omega|(simp only [Heap.push];omega))));(first|rfl|assumption))|(apply zaK;rfl;rfl;rfl;rfl;exact za2 rfl;(focus repeat' first|exact zaa|assumption|apply zab|(apply Ext.get;assumption)|(apply ExtBut.get;assumption;(first|assumption|omega|(simp only [Heap.push];omega))));(first|exact Nat.le_of_ble_eq_true rfl|(simp;done)|(simp;omega)|(rw [zaj];omega));(first|exact zaP (by omega)|rfl))|(apply zhI;rfl;rfl;rfl;rfl)|(apply zmO;rfl;rfl;rfl;rfl;rfl;(focus repeat' first|exact zaa|assumption|apply zab|(apply Ext.get;assumption)|(apply ExtBut.get;assumption;(first|assumption|omega|(simp only [Heap.push];omega))));exact zao rfl;omega;(intro _ _ _))|fail))
      rename_i h9 g9 x9
      replace g9 : h9.get? bc = some (.cells (zah (nar u k ((s.getD k (0, 0)).1 + (i : Nat)))) 72 true) := g9
      rw [hux] at g9
      have n9 := x9.n
      have gb9 := x9.get (by omega) gbs
      have gk9 := x9.get (by omega) gks
      have iS9 := iS (u := nar (pfs s l r o k) k ((s.getD k (0, 0)).1 + (i : Nat))) (by rw [zcp, lP]) (zil vP (by rw [lP]; exact hlt) (by rw [eP]; omega)) g9 gb9
      by_cases hc : zb5 (nar (pfs s l r o k) k ((s.getD k (0, 0)).1 + (i : Nat))) l r o
      ·(repeat' (first|(apply O_at;rfl)|(apply zak;rfl)|apply zal|(apply zaS;rfl)|apply zaG|apply zaE|apply zax|((first|apply zag|apply zac|apply zbM);rfl;rfl;rfl;rfl)|(apply zan;rfl;rfl;rfl;rfl;rfl;rfl;exact yes iS9 hc;(rintro _ _ ⟨rfl,_⟩))|fail))
       rename_i h10 x10
       have n10 := x10.n
       refine ⟨x10.get (x9.get (by omega) hsl), none, rfl, fun hf hfl hfk hfn => Or.inl ⟨rfl, by rw [zpe hr] at hfl; exact hfl, ⟨_, hfk _ _ (by omega) (x10.get g9), by rw [zcp, lP], fun x => by simp [nar]⟩, fun b x q q2 g => hfk b x q (x10.get (x9.get q2 (hsk b x q (kk b x q q2 g)))), by omega, fun m h1 h2 => ?_⟩⟩
       by_cases hm : m = (s.getD k (0, 0)).1 + (i : Nat)
       ·subst hm; exact hc
       ·exact hall m h1 (by omega)
      ·have hmeq : (s.getD k (0, 0)).1 + (i : Nat) = pfn (pfs s l r o k) l r o k := by
        rcases Int.lt_trichotomy ((s.getD k (0, 0)).1 + (i : Nat)) (pfn (pfs s l r o k) l r o k) with q | q | q
        ·exact absurd (f3 _ (by omega) q) hc
        ·exact q
        ·exact absurd (hall _ f1.1 q) f2
       (repeat' (first|apply zam|apply zad|(apply O_at;rfl)|(apply zak;rfl)|apply zal|(apply zaX;rfl)|((first|apply zag|apply zac|apply zbM);rfl;rfl;rfl;rfl)|(apply zat;rfl;rfl;rfl;rfl;exact zaJ rfl;(focus repeat' first|exact zaa|assumption|apply zab|(apply Ext.get;assumption)|(apply ExtBut.get;assumption;(first|assumption|omega|(simp only [Heap.push];omega))));(first|rfl|assumption))|(apply zf6;rfl;rfl;rfl;rfl;rfl;rfl;rfl;exact zeD rfl)|(apply zan;rfl;rfl;rfl;rfl;rfl;rfl;exact no iS9 hc;(rintro _ _ ⟨rfl,_⟩))|fail))
       rename_i h10 x10
       have n10 := x10.n
       have gv10 := x10.get (x9.get (by omega) gvs)
       have ho10 : OutI 3 hL h10 v ((prf s l r o).take k) := (OutI.but (e := 3) (h0 := hL) hos x9 (by omega)).ext x10
       apply P_appIV (h0 := hL); rfl; rfl; rfl; rfl; rfl; rfl; rfl; rfl; exact zeD rfl; exact zav rfl; exact zaa; exact ho10.ext (Ext.push (Ext.refl _) _); omega
       intro v' h11 o11 n11 k11
       simp only [Heap.push] at n11
       have kp : ∀ c y, h10.get? c = some y -> (∀ b' m q, v = .slice (some ⟨b', 0, none⟩) m q -> c ≠ b') -> h11.get? c = some y := fun c y g rr => k11 c y (zab g) rr
       have low : ∀ {c : Nat}, c < hL.n -> ∀ b' m q, v = .slice (some ⟨b', 0, none⟩) m q -> c ≠ b' := fun hcl b' m q hv' => by have := (OutI.own (e := 3) (h0 := hL) ho8 hv').2; omega
       have objs : ∀ {c : Nat} {ob : Obj}, h8.get? c = some (.obj ob) -> ∀ b' m q, v = .slice (some ⟨b', 0, none⟩) m q -> c ≠ b' := fun gob b' m q hv' z => by
        subst z
        have := (OutI.own (e := 3) (h0 := hL) ho8 hv').1
        rw [gob] at this
        cases this
       obtain ⟨cv', ov⟩ := o11.cells
       (repeat' (first|(apply O_at;rfl)|fail))
       refine ziK (c' := [v']) rfl rfl rfl rfl (kp _ _ gv10 (low (by omega))) (zao rfl) (by rw [cv']; rfl) (Nat.le_of_ble_eq_true rfl) (by rw [cv']; simp [ov]) (by rw [cv']; rfl) ?_
       intro h12 g12 x12
       have n12 := x12.n
       (repeat' (first|(apply zak;rfl)|apply zal|apply zbx|(apply C_exitO;rfl)|apply zax|fail))
       refine ⟨x12.get (by omega) (kp _ _ (x10.get (x9.get (by omega) hsl)) (objs gl)), some (.exit 1), rfl, fun hf hfl hfk hfn => Or.inr ⟨rfl, hfl, ?_, ⟨v', hfk _ _ (by omega) g12, ?_⟩, fun b x q1 q2 q3 qq g => hfk b x q1 (x12.get q3 (kp b x (x10.get (x9.get q2 (hsk b x q1 (kk b x q1 q2 g)))) ?_)), by omega⟩⟩
       ·have := hfk _ _ (by omega) (x12.get (by omega) (kp _ _ (x10.get g9) (low (by omega))))
        rw [hmeq] at this
        exact this
       ·rw [htk, <- hmeq]
        exact ((OutI.but (e := 3) o11 x12 (by simp only [Heap.push]; omega)).keepl hfk (by simp only [Heap.push]; omega)).low (h0' := hL) (by simp only [Heap.push]; omega)
       ·rcases qq with qq | ⟨ob, rfl⟩
        ·exact low qq
        ·exact objs (kk b _ q1 q2 g)
     ·rintro _ h9 (⟨gl, _, kk, nn, hall⟩ | ⟨gl, gc9, hv9, kk, nn⟩)
      ·exact absurd (hall _ f1.1 (by omega)) f2
      ·refine ⟨some (.exit 1), gl, fun h7 k7 n7 => KM_exit (Or.inr ⟨(by intro q; cases q), rfl, rfl, rfl, rfl, rfl, rfl, k7 _ _ (by omega) gc9, ?_, fun b x q1 q2 q3 g => k7 b x (by have := Heap.get_lt g; omega) (kk b x (by have := Heap.get_lt g; omega) q1 q2 q3 (hxb.get g)), by omega, rfl, k7 _ _ (by omega) (kk _ _ (by omega) (by omega) (by omega) (.inr ⟨_, rfl⟩) hdb)⟩)⟩
       obtain ⟨v9, gv9, o9⟩ := hv9
       exact ⟨v9, k7 _ _ (by omega) gv9, OutI.keepc o9 fun b c t w q g => k7 b _ (fun u => by subst u; rw [gl] at g; cases g) g⟩
    ·rintro _ E1 h7 M1 ⟨rfl, g17, g16, g15, g4, g1, gc7, hv7, k7, n7, rfl, gm⟩
     have hmr : ∀ r ∈ M, r < h'.n := fun r q => Heap.get_lt (hM2 r q)
     refine Or.inl ⟨rfl, rfl, g17, g16, g15, g4, g1, hlt, gc7, hv7, fun b x q1 q2 g => k7 b x q1 q2 (.inl (Heap.get_lt g)) (w6.get (kk' b x q1 q2 g)), by have := w6.n; omega, List.nodup_cons.2 ⟨fun q => by have := hmr _ q; have := w6.n; omega, hM1⟩, fun r q => ?_, fun r q => ?_⟩
     ·rcases List.mem_cons.1 q with rfl | q
      ·exact gm
      ·have a := hM3 r q
       exact k7 r _ (by omega) (by omega) (.inr ⟨_, rfl⟩) (w6.get (hM2 r q))
     ·rcases List.mem_cons.1 q with rfl | q
      ·have := w6.n; omega
      ·exact hM3 r q
   ·rintro _ E1 h2 M1 ⟨rfl, g17, g16, g15, g4, g1, hJ⟩
    refine Or.inl ⟨rfl, zlN (E' := [(17, .int .i64 (k : Nat)), (16, .int .i64 (s.length : Nat)), (15, .slice (some ⟨bs, 0, none⟩) s.length kq), (4, .pointer (some ⟨h3.n, 0, none⟩)), (1, .pointer (some ⟨h.n, 0, none⟩))]) (zfe ?_) ⟨g17, g16, g15, g4, g1, trivial⟩⟩
    (repeat' (first|apply zad|(apply O_at;rfl)|(apply zak;rfl)|apply zax|((first|apply zag|apply zac|apply zbM);rfl;rfl;rfl;rfl)|(apply zbL;rfl;rfl;rfl;rfl;rfl;(unfold fit;omega))|fail))
    exact Or.inl ⟨rfl, zlN (ih (k + 1) _ _ (by omega) hJ) (by (focus repeat' first | rfl | exact trivial | apply And.intro))⟩
  ·obtain rfl : k = s.length := by omega
   rw [List.take_of_length_le (by rw [zkK]; exact Nat.le_refl _)] at ho
   refine zc2 (zfe ?_)
   (repeat' (first|apply zad|(apply O_at;rfl)|(apply zak;rfl)|apply zax|(apply zbJ;rfl;rfl;rfl;rfl;rfl;omega)|fail))
   refine Or.inl ⟨rfl, ?_⟩
   refine zc2 (zfe ?_)
   (repeat' (first|(apply zaS;rfl)|apply zbx|apply zax|fail))
   refine Or.inr ⟨(by intro q; cases q), Or.inr ⟨(by intro q; cases q), Or.inl ⟨rfl, Or.inl ⟨rfl, zfe ?_⟩⟩⟩⟩
   (repeat' (first|apply zam|apply zad|(apply O_at;rfl)|(apply zak;rfl)|apply zal|apply zaH|apply zax|((first|apply zag|apply zac|apply zbM);rfl;rfl;rfl;rfl)|(apply zat;rfl;rfl;rfl;rfl;exact zaJ rfl;(focus repeat' first|exact zaa|assumption|apply zab|(apply Ext.get;assumption)|(apply ExtBut.get;assumption;(first|assumption|omega|(simp only [Heap.push];omega))));(first|rfl|assumption))|fail))
   refine Or.inr ⟨(by intro q; cases q), .inr rfl, hM1, hM2, fun h2 k2 n2 => ⟨_, rfl, ?_⟩⟩
   have eh := xL kk' hn'
   have wh : Ext h h2 := ⟨by rw [n2]; exact eh.n, fun q y g => k2 q y (fun w => by have := hM3 _ w; have := Heap.get_lt g; omega) (eh.get g)⟩
   rcases ho with ⟨e1, rfl⟩ | ⟨_, b', rfl, g, _⟩
   ·refine ⟨none, 0, ?_, .inl (by rw [e1]; rfl), wh⟩
    rw [e1]
    rfl
   ·exact ⟨some ⟨b', 0, none⟩, unk, rfl, .inr ⟨b', _, _, rfl, k2 b' _ (fun q => by rw [hM2 b' q] at g; cases g) g⟩, wh⟩
 ·exact ⟨Nat.zero_le _, gcL, ⟨nilV, gvL, OutI.nil _ _ _⟩, fun b x _ _ g => g, Nat.le_refl _, List.nodup_nil, fun r q => (by cases q), fun r q => (by cases q)⟩
 ·(focus repeat' first | rfl | exact trivial | apply And.intro)
end Go.AX.Sa

namespace Go.AX.Sa
open Go.Proofs
set_option maxRecDepth 100000
variable {K : Known}
section
variable {T : Tb} {l : List Int} {h : Heap}
theorem ziU (hK : NoK K) {p : Option Addr} {cap : Nat} (hP : TbP T) (hKp : zbD T.s.length l) (hcap : l.length <= cap) (hll : l.length <= 1000) (hTb : TbAt T h) (hr : Rd h p (ints l)) (hpb : ∀ a, p = some a -> a.block < h.n) (hS : ¬ zb5 T.s l T.r T.o) :
  CallW Tryz.prog K 38 #[tbV T, .slice p l.length cap] h (OkL (prf T.s l T.r T.o) h) := by
 have hn := hP.1
 have hl2 := hKp.1
 obtain ⟨b, e, own, rfl, hg⟩ := hr.at (by rw [zar]; omega)
 have iK : ∀ {h' : Heap}, Ext h h' -> CallW Tryz.prog K 63 #[ktV T (some ⟨b, 0, none⟩) l.length cap] h' (IsV (.bool true) h') := fun x => yes (zdR hK (by omega) hll (hTb.ext x) (hr.ext x) (fun a w => Nat.lt_of_lt_of_le (hpb a w) x.n)) ⟨hP, hKp⟩
 have iS : ∀ {h' : Heap}, Ext h h' -> CallW Tryz.prog K 75 #[ktV T (some ⟨b, 0, none⟩) l.length cap] h' (IsV (.bool false) h') := fun x => no (zgA hK hP hKp hcap hll (hTb.ext x) (x.get hg)) hS
 have iF : ∀ {h' : Heap}, Ext h h' -> CallW Tryz.prog K 80 #[ktV T (some ⟨b, 0, none⟩) l.length cap] h' (IsL (prf T.s l T.r T.o) h') := fun x => zgF hK hP hKp hcap hll (hTb.ext x) (x.get hg) hS
 obtain ⟨q, kq, s, r, o⟩ := T
 dsimp only [tbV, ktV] at iK iS iF ⊢
 refine body (N := 19) Tryz.func38 rfl (hK _ _ _ rfl) rfl rfl ?_
 (repeat' (first|apply zam|apply zad|(apply O_at;rfl)|(apply zak;rfl)|apply zal|(apply zaS;rfl)|apply zaq|apply zaG|apply zaH|apply zaE|apply zax|((first|apply zag|apply zac|apply zbM);rfl;rfl;rfl;rfl)|(apply zaK;rfl;rfl;rfl;rfl;exact za2 rfl;(focus repeat' first|exact zaa|assumption|(apply Ext.get;assumption));(first|exact Nat.le_of_ble_eq_true rfl|(simp;done)|(simp;omega)|(rw [zar];omega));rfl)|(apply zbk;rfl;rfl;rfl;rfl;exact zao rfl;rfl;rfl;rfl)|(apply zdu;rfl;rfl;rfl;rfl)|(apply za3;rfl;rfl;rfl;rfl;exact zao rfl;rfl;rfl)|(apply zbK;rfl;rfl;rfl;rfl;exact zao rfl;rfl;rfl)|(apply zan;rfl;rfl;rfl;rfl;rfl;rfl;exact iK (by repeat' first|exact Ext.refl _|assumption|apply Ext.push|refine Ext.trans ?_ (by assumption));(rintro _ _ ⟨rfl,_⟩))|(apply zan;rfl;rfl;rfl;rfl;rfl;rfl;exact iS (by repeat' first|exact Ext.refl _|assumption|apply Ext.push|refine Ext.trans ?_ (by assumption));(rintro _ _ ⟨rfl,_⟩))|(apply zan;rfl;rfl;rfl;rfl;rfl;rfl;exact iF (by repeat' first|exact Ext.refl _|assumption|apply Ext.push|refine Ext.trans ?_ (by assumption));(rintro _ _ ⟨_,_,rfl,_,_⟩))|fail))
 rename_i rd1 y1
 exact ⟨.inr rfl, _, rfl, _, _, rfl, rd1, by repeat' first|exact Ext.refl _|assumption|apply Ext.push|refine Ext.trans ?_ (by assumption)⟩
theorem zg2 (hK : NoK K) {p : Option Addr} {cap : Nat} (hP : TbP T) (hKp : zbD T.s.length l) (hcap : l.length <= cap) (hll : l.length <= 1000) (hTb : TbAt T h) (hr : Rd h p (ints l)) (hpb : ∀ a, p = some a -> a.block < h.n) (hS : zb5 T.s l T.r T.o) :
  CallW Tryz.prog K 38 #[tbV T, .slice p l.length cap] h (IsV (.tuple #[.slice none 0 0, .int .i64 5]) h) := by
 have hn := hP.1
 have hl2 := hKp.1
 obtain ⟨b, e, own, rfl, hg⟩ := hr.at (by rw [zar]; omega)
 have iK : ∀ {h' : Heap}, Ext h h' -> CallW Tryz.prog K 63 #[ktV T (some ⟨b, 0, none⟩) l.length cap] h' (IsV (.bool true) h') := fun x => yes (zdR hK (by omega) hll (hTb.ext x) (hr.ext x) (fun a w => Nat.lt_of_lt_of_le (hpb a w) x.n)) ⟨hP, hKp⟩
 have iS : ∀ {h' : Heap}, Ext h h' -> CallW Tryz.prog K 75 #[ktV T (some ⟨b, 0, none⟩) l.length cap] h' (IsV (.bool true) h') := fun x => yes (zgA hK hP hKp hcap hll (hTb.ext x) (x.get hg)) hS
 obtain ⟨q, kq, s, r, o⟩ := T
 dsimp only [tbV, ktV] at iK iS ⊢
 refine body (N := 19) Tryz.func38 rfl (hK _ _ _ rfl) rfl rfl ?_
 (repeat' (first|apply zam|apply zad|(apply O_at;rfl)|(apply zak;rfl)|apply zal|(apply zaX;rfl)|(apply zaS;rfl)|apply zaq|apply zaH|apply zb2|apply zfH|apply zax|((first|apply zag|apply zac|apply zbM);rfl;rfl;rfl;rfl)|(apply zaK;rfl;rfl;rfl;rfl;exact za2 rfl;(focus repeat' first|exact zaa|assumption|(apply Ext.get;assumption));(first|exact Nat.le_of_ble_eq_true rfl|(simp;done)|(simp;omega)|(rw [zar];omega));rfl)|(apply zbk;rfl;rfl;rfl;rfl;exact zao rfl;rfl;rfl;rfl)|(apply zdu;rfl;rfl;rfl;rfl)|(apply za3;rfl;rfl;rfl;rfl;exact zao rfl;rfl;rfl)|(apply zbK;rfl;rfl;rfl;rfl;exact zao rfl;rfl;rfl)|(apply zan;rfl;rfl;rfl;rfl;rfl;rfl;exact iK (by repeat' first|exact Ext.refl _|assumption|apply Ext.push|refine Ext.trans ?_ (by assumption));(rintro _ _ ⟨rfl,_⟩))|(apply zan;rfl;rfl;rfl;rfl;rfl;rfl;exact iS (by repeat' first|exact Ext.refl _|assumption|apply Ext.push|refine Ext.trans ?_ (by assumption));(rintro _ _ ⟨rfl,_⟩))|fail))
 exact ⟨.inr rfl, _, rfl, rfl, by repeat' first|exact Ext.refl _|assumption|apply Ext.push|refine Ext.trans ?_ (by assumption)⟩
theorem zhP (hK : NoK K) {p : Option Addr} {cap : Nat} (hsl : T.s.length <= 1000) (hn : ¬ (TbP T /\ zbD T.s.length l)) (hll : l.length <= 1000) (hTb : TbAt T h) (hr : Rd h p (ints l)) (hpb : ∀ a, p = some a -> a.block < h.n) :
  CallW Tryz.prog K 38 #[tbV T, .slice p l.length cap] h (IsV (.tuple #[.slice none 0 0, .int .i64 2]) h) := by
 have iK : ∀ {h' : Heap}, Ext h h' -> CallW Tryz.prog K 63 #[ktV T p l.length cap] h' (IfB (TbP T /\ zbD T.s.length l) h') := fun x => zdR hK hsl hll (hTb.ext x) (hr.ext x) (fun a w => Nat.lt_of_lt_of_le (hpb a w) x.n)
 obtain ⟨q, kq, s, r, o⟩ := T
 dsimp only [tbV, ktV] at iK hn ⊢
 refine body (N := 19) Tryz.func38 rfl (hK _ _ _ rfl) rfl rfl ?_
 (repeat' (first|apply zam|apply zad|(apply O_at;rfl)|(apply zak;rfl)|apply zal|(apply zaX;rfl)|apply zaq|apply zaH|apply zb2|apply zfH|apply zax|((first|apply zag|apply zac|apply zbM);rfl;rfl;rfl;rfl)|(apply zaK;rfl;rfl;rfl;rfl;exact za2 rfl;(focus repeat' first|exact zaa|assumption);(first|exact Nat.le_of_ble_eq_true rfl|(simp;done)|(simp;omega));rfl)|(apply zbk;rfl;rfl;rfl;rfl;exact zao rfl;rfl;rfl;rfl)|(apply zdu;rfl;rfl;rfl;rfl)|(apply za3;rfl;rfl;rfl;rfl;exact zao rfl;rfl;rfl)|(apply zbK;rfl;rfl;rfl;rfl;exact zao rfl;rfl;rfl)|(apply zan;rfl;rfl;rfl;rfl;rfl;rfl;exact no (iK (by repeat' first|exact Ext.refl _|assumption|apply Ext.push|refine Ext.trans ?_ (by assumption))) hn;(rintro _ _ ⟨rfl,_⟩))|fail))
 exact ⟨.inr rfl, _, rfl, rfl, by repeat' first|exact Ext.refl _|assumption|apply Ext.push|refine Ext.trans ?_ (by assumption)⟩
theorem zjb (hK : NoK K) {s : List (Int × Int)} {r o n : Int} {bs kq j : Nat} {es : TypeId} {owns : Bool} (hj : j < s.length) (hsl : s.length <= 1000) (hgs : h.get? bs = some (.cells (zah s) es owns)) :
  CallW Tryz.prog K 83 #[.agg #[.slice (some ⟨bs, 0, none⟩) s.length kq, .int .i64 r, .int .i64 o], .int .i64 (j : Nat), .int .i64 n] h
   (fun v h1 => ∃ b, v = .agg #[.slice (some ⟨b, 0, none⟩) s.length unk, .int .i64 r, .int .i64 o] /\ h1.get? b = some (.cells (zah (nar s j n)) 72 true) /\ h.n < b /\ Ext h h1) := by
 refine body (N := 19) Tryz.func83 rfl (hK _ _ _ rfl) rfl rfl ?_
 (repeat' (first|apply zam|apply zad|(apply O_at;rfl)|(apply zak;rfl)|apply zal|(apply P_fa;rfl;rfl;rfl;rfl;exact za0 rfl;(first|exact Nat.zero_add _|exact Nat.add_zero _|rfl))|(apply zat;rfl;rfl;rfl;rfl;exact zaJ rfl;(focus repeat' first|exact zaa|assumption|apply zab|(apply ExtBut.get;assumption;(first|assumption|omega|(simp only [Heap.push];omega))));(first|rfl|assumption))|(apply za3;rfl;rfl;rfl;rfl;exact zao rfl;rfl;rfl)|(apply zbK;rfl;rfl;rfl;rfl;exact zao rfl;rfl;rfl)|fail))
 apply zn3; rfl; rfl; rfl; rfl; rfl; rfl; rfl; rfl; exact zpT rfl; exact zav rfl; exact zab (zab hgs); omega; omega
 (repeat' (first|(apply O_at;rfl)|(apply P_fa;rfl;rfl;rfl;rfl;exact za0 rfl;(first|exact Nat.zero_add _|exact Nat.add_zero _|rfl))|fail))
 refine ziK (c' := [.slice (some ⟨h.n + 2, 0, none⟩) s.length unk, .int .i64 r, .int .i64 o]) rfl rfl rfl rfl (zab (zab zaa)) (zao rfl) rfl (Nat.le_of_ble_eq_true rfl) rfl rfl ?_
 intro h3 g3 x3
 have gc3 : h3.get? (h.n + 2) = some (.cells (zah s) 72 true) := x3.get (by omega) zaa
 have gr3 : h3.get? (h.n + 1) = some (.cells [.slice none 0 0, .int .i64 0, .int .i64 0] 25 true) := x3.get (by omega) (zab zaa)
 (repeat' (first|apply zam|apply zad|(apply O_at;rfl)|(apply zak;rfl)|apply zal|apply zaH|apply zax|(apply zag;rfl;rfl;rfl;rfl)|(apply P_fa;rfl;rfl;rfl;rfl;exact za0 rfl;(first|exact Nat.zero_add _|exact Nat.add_zero _|rfl))|(apply zdt;rfl;rfl;rfl;rfl;rfl;exact zav rfl;exact zao rfl;(first|assumption|rfl|exact (Int.toNat_of_nonneg (by omega)).symm);omega)|(apply zat;rfl;rfl;rfl;rfl;exact zaJ rfl;(focus repeat' first|exact zaa|assumption|apply zab|(apply ExtBut.get;assumption;(first|assumption|omega|(simp only [Heap.push];omega))));(first|rfl|assumption))|(apply zaK;rfl;rfl;rfl;rfl;exact za2 rfl;(focus repeat' first|exact zaa|assumption|apply zab|(apply ExtBut.get;assumption;(first|assumption|omega|(simp only [Heap.push];omega))));(first|exact Nat.le_of_ble_eq_true rfl|(simp;done)|(simp;omega));rfl)|(apply zhI;rfl;rfl;rfl;rfl)|(apply zmO;rfl;rfl;rfl;rfl;rfl;(focus repeat' first|exact zaa|assumption|apply zab|(apply ExtBut.get;assumption;(first|assumption|omega|(simp only [Heap.push];omega))));exact zao rfl;omega;(intro _ _ _))|(apply zej;rfl;rfl;rfl;rfl;(focus repeat' first|exact zaa|assumption|apply zab|(apply ExtBut.get;assumption;(first|assumption|omega|(simp only [Heap.push];omega))));exact zao rfl;rfl;(first|rfl|exact zar _);rfl;(intro _ _ _))|fail))
 rename_i h4 g4 x4 h5 g5 x5
 replace x5 : ExtBut (h.n + 1) h4 h5 := x5
 replace g4 : h4.get? (h.n + 2) = some (.cells (zah (nar s j n)) 72 true) := g4
 replace x4 : ExtBut (h.n + 2) h3 h4 := x4
 exact ⟨.inr rfl, _, zl7 rfl (readA (za2 rfl) g5 (Nat.le_of_ble_eq_true rfl) rfl) rfl, h.n + 2, rfl, x5.get (by omega) g4, by omega, Ext.ofBut (Ext.ofBut (Ext.ofBut ((((Ext.refl h).push _).push _).push _) x3 (Nat.le_refl _)) x4 (by omega)) x5 (by omega)⟩
set_option maxHeartbeats 4000000 in
theorem zkF (hK : NoK K) {p : Option Addr} {cap : Nat} (hP : TbP T) (hKp : zbD T.s.length l) (hll : l.length <= 1000) (hTb : TbAt T h) (hr : Rd h p (ints l)) (hS : ¬ zb5 T.s l T.r T.o) :
  CallW Tryz.prog K 40 #[tbV T, .slice p l.length cap] h (fun v h1 => ∃ q c, v = .tuple #[.slice q (prf T.s l T.r T.o).length c, .bool true] /\ Rd h1 q (ints (prf T.s l T.r T.o)) /\ Ext h h1) := by
 have iD0 : ∀ {h' : Heap}, Ext h h' -> CallW Tryz.prog K 36 #[tbV T, .slice p l.length cap] h' (IsL (dbts T.s l T.r T.o T.s.length) h') := fun x => zdK hK hP hKp hll (hTb.ext x) (hr.ext x)
 obtain ⟨q, kq, s, r, o⟩ := T
 have hqb : ∀ a, q = some a -> a.block < h.n := hTb.b
 have hn := hP.1
 have hV := hP.2.1
 have hru := hP.2.2.1
 have hOff := hP.2.2.2
 have hs0 := hTb.rd
 dsimp only [tbV] at iD0 hn hV hru hOff hKp hs0 hS ⊢
 obtain ⟨bs, es, owns, rfl, hgs⟩ := hs0.at (by rw [zaj]; omega)
 have lbs := Heap.get_lt hgs
 have hl2 := hKp.1
 obtain ⟨b, e, own, rfl, hg⟩ := hr.at (by rw [zar]; omega)
 have lb := Heap.get_lt hg
 have iD : ∀ {u : List (Int × Int)} {bu : Nat} {eu : TypeId} {ou : Bool} {h' : Heap}, u.length = s.length -> Vals u -> h'.get? bu = some (.cells (zah u) eu ou) -> h'.get? b = some (.cells (ints l) e own) -> CallW Tryz.prog K 36 #[.agg #[.slice (some ⟨bu, 0, none⟩) s.length unk, .int .i64 r, .int .i64 o], .slice (some ⟨b, 0, none⟩) l.length cap] h' (IsL (dbts u l r o s.length) h') := by
  intro u bu eu ou h' hu hVu gu gb
  have a := zdK (T := ⟨some ⟨bu, 0, none⟩, unk, u, r, o⟩) (cap := cap) hK ⟨by dsimp only; omega, hVu, hru, hOff⟩ (by dsimp only; rw [hu]; exact hKp) hll ⟨.inr ⟨_, _, _, rfl, gu⟩, fun a w => by cases w; exact Heap.get_lt gu⟩ (.inr ⟨_, _, _, rfl, gb⟩)
  dsimp only [tbV] at a
  rw [hu] at a
  exact a
 have hz : ¬ (dbts s l r o s.length).length = 0 := fun z => hS ((zf1 s.length).1 z)
 refine body (N := 42) Tryz.func40 rfl (hK _ _ _ rfl) rfl rfl ?_
 (repeat' (first|apply zam|apply zad|(apply O_at;rfl)|(apply zak;rfl)|apply zal|(apply zaS;rfl)|apply zaq|apply zaG|((first|apply zag|apply zac);rfl;rfl;rfl;rfl)|(apply za8;rfl;rfl;rfl;rfl;rfl;rfl;exact zav rfl)|(apply zfd;rfl;rfl;rfl;rfl;rfl;omega)|(apply zaK;rfl;rfl;rfl;rfl;exact za2 rfl;(focus repeat' first|exact zaa|assumption|apply zab|(apply Ext.get;assumption)|(apply ExtBut.get;assumption;(first|assumption|omega|(simp only [Heap.push];omega))));(first|exact Nat.le_of_ble_eq_true rfl|(simp;done)|(simp;omega)|(rw [zaj];omega)|(rw [zar];omega));rfl)|(apply za3;rfl;rfl;rfl;rfl;exact zao rfl;rfl;rfl)|(apply zan;rfl;rfl;rfl;rfl;rfl;rfl;exact iD0 (by (focus repeat' first|exact Ext.refl _|assumption|apply Ext.push|(refine Ext.trans ?_ (by assumption))|(refine Ext.ofBut ?_ (by assumption) (by first|exact Nat.le_refl _|omega))));(rintro _ _ ⟨_,_,rfl,_,_⟩))|fail))
 rename_i h1 pd cd rdd xd
 have hb1 : h1.get? h.n = some (.cells [.slice (some ⟨bs, 0, none⟩) s.length kq, .int .i64 r, .int .i64 o] 25 true) := xd.get zaa
 have hg1 := xd.get (zab hg)
 have hgs1 := xd.get (zab hgs)
 have x1 : Ext h h1 := by (focus repeat' first | exact Ext.refl _ | assumption | apply Ext.push | (refine Ext.trans ?_ (by assumption)) | (refine Ext.ofBut ?_ (by assumption) (by first | exact Nat.le_refl _ | omega)))
 have n1 := xd.n
 simp only [Heap.push] at n1
 refine zbh (fun k : Nat => [(6, .int .i64 (k : Nat)), (2, .pointer (some ⟨h.n, 0, none⟩)), (1, .slice (some ⟨b, 0, none⟩) l.length cap)])
  (fun k h' => k <= s.length /\ (∃ bq cq eq oq, h'.get? h.n = some (.cells [.slice (some ⟨bq, 0, none⟩) s.length cq, .int .i64 r, .int .i64 o] 25 true) /\ h'.get? bq = some (.cells (zah (pfs s l r o k)) eq oq) /\ bq ≠ h.n) /\ ExtBut h.n h1 h') (fun k => s.length - k) ?_ 0 ⟨Nat.zero_le _, ⟨bs, kq, es, owns, hb1, hgs1, by omega⟩, ExtBut.refl _ _⟩ ?_
 ·rintro k h' ⟨hk, ⟨bq, cq, eq, oq, gb', gq', hne⟩, hx⟩ ih
  have hg' := hx.get (by omega) hg1
  have n' := hx.n
  have lbq := Heap.get_lt gq'
  have lP := zdM (s := s) (l := l) (r := r) (o := o) k
  by_cases hlt : k < s.length
  ·obtain ⟨vP, _⟩ := zoS (r := r) hV hKp hOff.1 hS k (by omega)
   have eP := zoT (s := s) (l := l) (r := r) (o := o) (j := k) k (Nat.le_refl _) hlt
   obtain ⟨f1, f2, f3⟩ := zoU (r := r) hV hKp hOff.1 hS hlt
   have hvk := hV k hlt
   unfold ValP at hvk
   rw [<- eP] at hvk
   have hkP : k < (pfs s l r o k).length := by omega
   have iN : ∀ {n : Int} {g : Heap}, g.get? bq = some (.cells (zah (pfs s l r o k)) eq oq) -> CallW Tryz.prog K 83 #[.agg #[.slice (some ⟨bq, 0, none⟩) s.length cq, .int .i64 r, .int .i64 o], .int .i64 (k : Nat), .int .i64 n] g (fun v h1 => ∃ b, v = .agg #[.slice (some ⟨b, 0, none⟩) s.length unk, .int .i64 r, .int .i64 o] /\ h1.get? b = some (.cells (zah (nar (pfs s l r o k) k n)) 72 true) /\ g.n < b /\ Ext g h1) := fun {n} _ gg => by
    have a := zjb (n := n) (kq := cq) (r := r) (o := o) hK hkP (by omega) gg
    rw [lP] at a
    exact a
   (repeat' (first|apply zam|apply zad|(apply O_at;rfl)|(apply zak;rfl)|apply zal|(apply zaX;rfl)|apply zaq|apply zaG|((first|apply zag|apply zac);rfl;rfl;rfl;rfl)|(apply P_fa;rfl;rfl;rfl;rfl;exact za0 rfl;(first|exact Nat.zero_add _|exact Nat.add_zero _|rfl))|(apply za8;rfl;rfl;rfl;rfl;rfl;rfl;exact zav rfl)|(apply za1;rfl;rfl;rfl;rfl;rfl;omega)|(apply zdt;rfl;rfl;rfl;rfl;rfl;exact zav rfl;exact zao rfl;(first|assumption|rfl|exact (Int.toNat_of_nonneg (by omega)).symm);omega)|(apply zat;rfl;rfl;rfl;rfl;exact zaJ rfl;(focus repeat' first|exact zaa|assumption|apply zab|(apply Ext.get;assumption)|(apply ExtBut.get;assumption;(first|assumption|omega|(simp only [Heap.push];omega))));(first|exact zd4 (by omega)|rfl|assumption))|fail))
   generalize hlo : ((pfs s l r o k).getD k (0, 0)).1 = lo at *
   refine zbh (fun i : Nat => [(7, .int .i64 (lo + (i : Nat))), (6, .int .i64 (k : Nat)), (2, .pointer (some ⟨h.n, 0, none⟩)), (1, .slice (some ⟨b, 0, none⟩) l.length cap)])
    (fun i g => lo + (i : Nat) <= pfn (pfs s l r o k) l r o k /\ Ext h' g) (fun i => (pfn (pfs s l r o k) l r o k - lo).toNat - i) ?_ 0 ⟨by omega, Ext.refl _⟩ ?_
   ·rintro i g ⟨hi, hx2⟩ ih2
    have gb2 := hx2.get gb'
    have gq2 := hx2.get gq'
    have gl2 := hx2.get hg'
    have hnext : lo + ((i + 1 : Nat) : Int) = lo + (i : Nat) + 1 := by omega
    (repeat' (first|apply zam|apply zad|(apply O_at;rfl)|((first|apply zag|apply zac);rfl;rfl;rfl;rfl)|(apply zaK;rfl;rfl;rfl;rfl;exact za2 rfl;(focus repeat' first|exact zaa|assumption|apply zab|(apply Ext.get;assumption)|(apply ExtBut.get;assumption;(first|assumption|omega|(simp only [Heap.push];omega))));(first|exact Nat.le_of_ble_eq_true rfl|(simp;done)|(simp;omega)|(rw [zaj];omega)|(rw [zar];omega));rfl)|fail))
    apply zan; rfl; rfl; rfl; rfl; rfl; rfl; exact iN gq2
    rintro _ g1 ⟨bn, rfl, gn, hbn, y1⟩
    have hnl : (nar (pfs s l r o k) k (lo + (i : Nat))).length = s.length := by rw [zcp, lP]
    have hv1 : Vals (nar (pfs s l r o k) k (lo + (i : Nat))) := zil vP hkP (by omega)
    by_cases hlt2 : lo + (i : Nat) < pfn (pfs s l r o k) l r o k
    ·have hsu := f3 _ (by omega) hlt2
     have hz0 : (dbts (nar (pfs s l r o k) k (lo + (i : Nat))) l r o s.length).length = 0 := (zf1 s.length).2 fun j hj => hsu j (by rw [zcp, lP]; exact hj)
     (repeat' (first|apply zad|(apply O_at;rfl)|(apply zak;rfl)|apply zal|(apply zaX;rfl)|apply zaq|apply zaG|apply zaE|((first|apply zag|apply zac);rfl;rfl;rfl;rfl)|(apply za8;rfl;rfl;rfl;rfl;rfl;rfl;exact zav rfl)|(apply zc9;rfl;rfl;rfl;rfl;rfl;omega)|(apply zbL;rfl;rfl;rfl;rfl;rfl;(unfold fit;omega))|(apply zan;rfl;rfl;rfl;rfl;rfl;rfl;exact iD hnl hv1 gn (y1.get gl2);(rintro _ _ ⟨_,_,rfl,_,_⟩))|fail))
     exact zaR (ih2 (i + 1) _ (by omega) ⟨by omega, by (focus repeat' first | exact Ext.refl _ | assumption | apply Ext.push | (refine Ext.trans ?_ (by assumption)) | (refine Ext.ofBut ?_ (by assumption) (by first | exact Nat.le_refl _ | omega)))⟩) (by rw [hnext]; (focus repeat' first | rfl | exact trivial | apply And.intro))
    ·have heq : lo + (i : Nat) = pfn (pfs s l r o k) l r o k := by omega
     have hz1 : ¬ (dbts (nar (pfs s l r o k) k (lo + (i : Nat))) l r o s.length).length = 0 := fun z => f2 fun j hj => by
      rw [<- heq]
      rw [zcp, lP] at hj
      exact (zf1 s.length).1 z j hj
     (repeat' (first|apply zad|(apply O_at;rfl)|(apply zak;rfl)|apply zal|(apply zaS;rfl)|apply zbx|apply zbF|apply za4|apply za5|((first|apply zag|apply zac);rfl;rfl;rfl;rfl)|(apply za8;rfl;rfl;rfl;rfl;rfl;rfl;exact zav rfl)|(apply zfd;rfl;rfl;rfl;rfl;rfl;omega)|(apply zaK;rfl;rfl;rfl;rfl;exact za2 rfl;(focus repeat' first|exact zaa|assumption|apply zab|(apply Ext.get;assumption)|(apply ExtBut.get;assumption;(first|assumption|omega|(simp only [Heap.push];omega))));(first|exact Nat.le_of_ble_eq_true rfl|(simp;done)|(simp;omega)|(rw [zaj];omega)|(rw [zar];omega));rfl)|(apply zan;rfl;rfl;rfl;rfl;rfl;rfl;exact iD hnl hv1 gn (y1.get gl2);(rintro _ _ ⟨_,_,rfl,_,_⟩))|fail))
     rename_i g2 p2 c2 rd2 y2
     apply zan; rfl; rfl; rfl; rfl; rfl; rfl; exact iN (y2.get (y1.get gq2))
     rintro _ g3 ⟨bm, rfl, gm, hbm, y3⟩
     have gb3 := y3.get (y2.get (y1.get gb2))
     rw [heq] at gm
     (repeat' (first|apply zad|(apply O_at;rfl)|(apply zak;rfl)|apply zal|apply zaE|((first|apply zag|apply zac);rfl;rfl;rfl;rfl)|(apply zbL;rfl;rfl;rfl;rfl;rfl;(unfold fit;omega))|(apply zej;rfl;rfl;rfl;rfl;(focus repeat' first|exact zaa|assumption|apply zab|(apply Ext.get;assumption)|(apply ExtBut.get;assumption;(first|assumption|omega|(simp only [Heap.push];omega))));exact zao rfl;rfl;(first|rfl|exact zar _);rfl;(intro _ _ _))|fail))
     rename_i g4 gb4 x4
     have m1 := hx2.n
     have m2 := y1.n
     have m3 := y2.n
     exact zaR (ih (k + 1) _ (by omega) ⟨hlt, ⟨bm, unk, _, _, gb4, x4.get (by omega) gm, by omega⟩, (hx.trans (Ext.but ((hx2.trans y1).trans (y2.trans y3)) _)).trans x4⟩) (by (focus repeat' first | rfl | exact trivial | apply And.intro))
   ·exact (by rw [show lo + ((0 : Nat) : Int) = lo by omega]; (focus repeat' first | rfl | exact trivial | apply And.intro))
  ·obtain rfl : k = s.length := by omega
   have iL : ∀ {g : Heap}, g.get? bq = some (.cells (zah (pfs s l r o s.length)) eq oq) -> CallW Tryz.prog K 84 #[.agg #[.slice (some ⟨bq, 0, none⟩) s.length cq, .int .i64 r, .int .i64 o]] g (IsL (prf s l r o) g) := fun gg => by
    have a := zhr (T := ⟨some ⟨bq, 0, none⟩, cq, pfs s l r o s.length, r, o⟩) hK (by dsimp only; omega) ⟨.inr ⟨_, _, _, rfl, gg⟩, fun a w => by cases w; exact Heap.get_lt gg⟩
    dsimp only [tbV] at a
    rw [lP] at a
    exact a
   (repeat' (first|apply zam|apply zad|(apply O_at;rfl)|(apply zak;rfl)|apply zal|(apply zaS;rfl)|apply zbx|apply zaH|apply zbF|apply za4|apply za5|apply zax|((first|apply zag|apply zac);rfl;rfl;rfl;rfl)|(apply P_fa;rfl;rfl;rfl;rfl;exact za0 rfl;(first|exact Nat.zero_add _|exact Nat.add_zero _|rfl))|(apply za8;rfl;rfl;rfl;rfl;rfl;rfl;exact zav rfl)|(apply zbJ;rfl;rfl;rfl;rfl;rfl;omega)|(apply zat;rfl;rfl;rfl;rfl;exact zaJ rfl;(focus repeat' first|exact zaa|assumption|apply zab|(apply Ext.get;assumption)|(apply ExtBut.get;assumption;(first|assumption|omega|(simp only [Heap.push];omega))));(first|exact zd4 (by omega)|rfl|assumption))|(apply zaK;rfl;rfl;rfl;rfl;exact za2 rfl;(focus repeat' first|exact zaa|assumption|apply zab|(apply Ext.get;assumption)|(apply ExtBut.get;assumption;(first|assumption|omega|(simp only [Heap.push];omega))));(first|exact Nat.le_of_ble_eq_true rfl|(simp;done)|(simp;omega)|(rw [zaj];omega)|(rw [zar];omega));rfl)|(apply zan;rfl;rfl;rfl;rfl;rfl;rfl;exact iL gq';(rintro _ _ ⟨_,_,rfl,_,_⟩))|fail))
   rename_i g4 p4 c4 rd4 x4
   exact ⟨.inr rfl, _, rfl, p4, c4, rfl, rd4, (Ext.ofBut x1 hx (Nat.le_refl _)).trans x4⟩
 ·(focus repeat' first | rfl | exact trivial | apply And.intro)
theorem zh5 (hK : NoK K) {p : Option Addr} {cap : Nat} (hP : TbP T) (hKp : zbD T.s.length l) (hll : l.length <= 1000) (hTb : TbAt T h) (hr : Rd h p (ints l)) (hS : zb5 T.s l T.r T.o) :
  CallW Tryz.prog K 40 #[tbV T, .slice p l.length cap] h (IsV (.tuple #[.slice none 0 0, .bool false]) h) := by
 have iD0 : ∀ {h' : Heap}, Ext h h' -> CallW Tryz.prog K 36 #[tbV T, .slice p l.length cap] h' (IsL (dbts T.s l T.r T.o T.s.length) h') := fun x => zdK hK hP hKp hll (hTb.ext x) (hr.ext x)
 obtain ⟨q, kq, s, r, o⟩ := T
 dsimp only [tbV] at iD0 hS ⊢
 have hz := (zf1 (s := s) (l := l) (r := r) (o := o) s.length).2 hS
 refine body (N := 42) Tryz.func40 rfl (hK _ _ _ rfl) rfl rfl ?_
 (repeat' (first|apply zam|apply zad|(apply O_at;rfl)|(apply zak;rfl)|apply zal|(apply zaX;rfl)|apply zaH|apply zb2|apply zax|((first|apply zag|apply zac);rfl;rfl;rfl;rfl)|(apply za8;rfl;rfl;rfl;rfl;rfl;rfl;exact zav rfl)|(apply zc9;rfl;rfl;rfl;rfl;rfl;omega)|(apply zaK;rfl;rfl;rfl;rfl;exact za2 rfl;(focus repeat' first|exact zaa|assumption);(first|exact Nat.le_of_ble_eq_true rfl|(simp;done)|(simp;omega));rfl)|(apply za3;rfl;rfl;rfl;rfl;exact zao rfl;rfl;rfl)|(apply zan;rfl;rfl;rfl;rfl;rfl;rfl;exact iD0 (by repeat' first|exact Ext.refl _|assumption|apply Ext.push|refine Ext.trans ?_ (by assumption));(rintro _ _ ⟨_,_,rfl,_,_⟩))|fail))
 exact ⟨.inr rfl, _, rfl, rfl, by repeat' first|exact Ext.refl _|assumption|apply Ext.push|refine Ext.trans ?_ (by assumption)⟩
end
end Go.AX.Sa
