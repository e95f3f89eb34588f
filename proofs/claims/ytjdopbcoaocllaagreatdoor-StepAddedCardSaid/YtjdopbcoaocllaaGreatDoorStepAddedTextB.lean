/- The law StepAdded at the reading: what the functions that it calls answer (2). -/
import Derived.Test.YtjdopbcoaocllaaGreatDoorStepAddedTextA
namespace Go.AX.Sa
open Go.Proofs
set_option maxRecDepth 100000
variable {K : Known}
/-! The theorem of figures: numbers. -/
theorem mixv_lo (a c x y : Int) : mixv a c a x y = x * (c - a) := by
  unfold mixv; rw [Int.sub_self, Int.mul_zero, Int.add_zero]
theorem mixv_hi (a c x y : Int) : mixv a c c x y = y * (c - a) := by
  unfold mixv; rw [Int.sub_self, Int.mul_zero, Int.zero_add]
/-- Between two kept rows, both included. -/
theorem figv_mix {l t : List Int} {r : Int} {i j : Nat} (hG : GrowP l) (hi : i + 1 < l.length) (h1 : l.getD i 0 ≤ (j : Nat)) (h2 : ((j : Nat) : Int) ≤ l.getD (i + 1) 0) :
    figv l t r j = rnd r (mixv (l.getD i 0) (l.getD (i + 1) 0) j (t.getD (l.getD i 0).toNat 0) (t.getD (l.getD (i + 1) 0).toNat 0)) (l.getD (i + 1) 0 - l.getD i 0) := by
  have hg := hG i hi
  by_cases e1 : l.getD i 0 = (j : Nat)
  · rw [zb5 hG (by omega) e1, e1, mixv_lo, zg5 (by omega), Int.toNat_natCast]
  · by_cases e2 : l.getD (i + 1) 0 = (j : Nat)
    · rw [zb5 hG hi e2, e2, mixv_hi, zg5 (by omega), Int.toNat_natCast]
    · exact zfq hG hi (by omega) (by omega)
theorem mixv_is (a c j x y : Int) : mixv a c j x y = mix a c j x y := rfl
/-- The figure lies between the numbers of the kept rows around it. -/
theorem zhx {l t : List Int} {r lo hi : Int} {i j : Nat} (hG : GrowP l) (hi' : i + 1 < l.length) (h1 : l.getD i 0 ≤ (j : Nat)) (h2 : ((j : Nat) : Int) ≤ l.getD (i + 1) 0)
    (x1 : lo ≤ t.getD (l.getD i 0).toNat 0) (x2 : t.getD (l.getD i 0).toNat 0 ≤ hi) (y1 : lo ≤ t.getD (l.getD (i + 1) 0).toNat 0) (y2 : t.getD (l.getD (i + 1) 0).toNat 0 ≤ hi) :
    lo ≤ figv l t r j ∧ figv l t r j ≤ hi := by
  have hg := hG i hi'
  rw [figv_mix hG hi' h1 h2, mixv_is]
  exact zhm h1 h2 hg x1 x2 y1 y2
/-- A table that is short and as defined, and a kept list of it. -/
def RightT (T : Tb) (l : List Int) : Prop := T.s.length ≤ 16 ∧ l.length ≤ 16 ∧ TbP T ∧ KeptP T.s.length l
theorem zlG (hK : NoK K) {T : Tb} {l : List Int} {p : Option Addr} {cap : Nat} {h : Heap} (hTb : TbAt T h) (hl : RowAt p l cap h) :
    CallW Tryz.prog K 26 #[tbV T, .slice p l.length cap] h (IfB (RightT T l) h) := by
  have iS : ∀ {h' : Heap}, CallW Tryz.prog K 15 #[tbV T] h' (IfB (T.s.length ≤ 16) h') := short_ok hK
  have iT : ∀ {h' : Heap}, T.s.length ≤ 16 → Ext h h' → CallW Tryz.prog K 20 #[tbV T] h' (IfB (TbP T) h') := fun a x => zg8 hK (by omega) (hTb.ext x)
  have iK : ∀ {h' : Heap}, T.s.length ≤ 16 → l.length ≤ 16 → Ext h h' → CallW Tryz.prog K 21 #[tbV T, .slice p l.length cap] h' (IfB (KeptP T.s.length l) h') := fun a b x => zjj hK (by omega) (by omega) (hTb.ext x) (hl.ext x).rd (hl.ext x).b
  obtain ⟨q, kq, s, r, o⟩ := T
  dsimp only [tbV, RightT] at *
  refine body (N := 21) Tryz.func26 rfl (hK _ _ _ rfl) rfl rfl ?_
  by_cases hs : s.length ≤ 16
  · by_cases hl16 : l.length ≤ 16
    · by_cases hP : TbP ⟨q, kq, s, r, o⟩
      · by_cases hKp : KeptP s.length l
        · (repeat' (first | apply zah | apply zad | (apply O_at; rfl) | (apply zag; rfl) | apply zaf | apply zav | apply zaw | ((first | apply zae | apply zac); rfl; rfl; rfl; rfl) | (apply zaN; rfl; rfl; rfl; rfl; rfl; rfl; exact zao rfl) | (apply zaJ; rfl; rfl; rfl; rfl; rfl; rfl) | (apply ziG; rfl; rfl; rfl; rfl; rfl; omega) | (apply zaF; rfl; rfl; rfl; rfl; exact za6 rfl; (focus repeat' first | exact zaa | assumption | (apply Ext.get; assumption)); (first | exact Nat.le_of_ble_eq_true rfl | (simp; done) | (simp; omega)); rfl) | (apply za4; rfl; rfl; rfl; rfl; exact zak rfl; rfl; rfl) | (apply zaj; rfl; rfl; rfl; rfl; rfl; rfl; exact yes iS hs; (rintro _ _ ⟨rfl, _⟩)) | (apply zaj; rfl; rfl; rfl; rfl; rfl; rfl; exact yes (iT hs (by (focus repeat' first | exact Ext.refl _ | assumption | apply Ext.push | (refine Ext.trans ?_ (by assumption))))) hP; (rintro _ _ ⟨rfl, _⟩)) | (apply zaj; rfl; rfl; rfl; rfl; rfl; rfl; exact yes (iK hs hl16 (by (focus repeat' first | exact Ext.refl _ | assumption | apply Ext.push | (refine Ext.trans ?_ (by assumption))))) hKp; (rintro _ _ ⟨rfl, _⟩)) | fail))
          exact ⟨.inr rfl, _, rfl, .inl ⟨rfl, ⟨hs, hl16, hP, hKp⟩, by (focus repeat' first | exact Ext.refl _ | assumption | apply Ext.push | (refine Ext.trans ?_ (by assumption)))⟩⟩
        · (repeat' (first | apply zah | apply zad | (apply O_at; rfl) | (apply zag; rfl) | apply zaf | apply zav | apply zaw | ((first | apply zae | apply zac); rfl; rfl; rfl; rfl) | (apply zaN; rfl; rfl; rfl; rfl; rfl; rfl; exact zao rfl) | (apply zaJ; rfl; rfl; rfl; rfl; rfl; rfl) | (apply ziG; rfl; rfl; rfl; rfl; rfl; omega) | (apply zaF; rfl; rfl; rfl; rfl; exact za6 rfl; (focus repeat' first | exact zaa | assumption | (apply Ext.get; assumption)); (first | exact Nat.le_of_ble_eq_true rfl | (simp; done) | (simp; omega)); rfl) | (apply za4; rfl; rfl; rfl; rfl; exact zak rfl; rfl; rfl) | (apply zaj; rfl; rfl; rfl; rfl; rfl; rfl; exact yes iS hs; (rintro _ _ ⟨rfl, _⟩)) | (apply zaj; rfl; rfl; rfl; rfl; rfl; rfl; exact yes (iT hs (by (focus repeat' first | exact Ext.refl _ | assumption | apply Ext.push | (refine Ext.trans ?_ (by assumption))))) hP; (rintro _ _ ⟨rfl, _⟩)) | (apply zaj; rfl; rfl; rfl; rfl; rfl; rfl; exact no (iK hs hl16 (by (focus repeat' first | exact Ext.refl _ | assumption | apply Ext.push | (refine Ext.trans ?_ (by assumption))))) hKp; (rintro _ _ ⟨rfl, _⟩)) | fail))
          exact ⟨.inr rfl, _, rfl, .inr ⟨rfl, fun z => hKp z.2.2.2, by (focus repeat' first | exact Ext.refl _ | assumption | apply Ext.push | (refine Ext.trans ?_ (by assumption)))⟩⟩
      · (repeat' (first | apply zah | apply zad | (apply O_at; rfl) | (apply zag; rfl) | apply zaf | apply zav | apply zaw | (apply zbj; rfl; rfl; rfl) | ((first | apply zae | apply zac); rfl; rfl; rfl; rfl) | (apply zaN; rfl; rfl; rfl; rfl; rfl; rfl; exact zao rfl) | (apply zaJ; rfl; rfl; rfl; rfl; rfl; rfl) | (apply ziG; rfl; rfl; rfl; rfl; rfl; omega) | (apply zaF; rfl; rfl; rfl; rfl; exact za6 rfl; (focus repeat' first | exact zaa | assumption | (apply Ext.get; assumption)); (first | exact Nat.le_of_ble_eq_true rfl | (simp; done) | (simp; omega)); rfl) | (apply za4; rfl; rfl; rfl; rfl; exact zak rfl; rfl; rfl) | (apply zaj; rfl; rfl; rfl; rfl; rfl; rfl; exact yes iS hs; (rintro _ _ ⟨rfl, _⟩)) | (apply zaj; rfl; rfl; rfl; rfl; rfl; rfl; exact no (iT hs (by (focus repeat' first | exact Ext.refl _ | assumption | apply Ext.push | (refine Ext.trans ?_ (by assumption))))) hP; (rintro _ _ ⟨rfl, _⟩)) | fail))
        exact ⟨.inr rfl, _, rfl, .inr ⟨rfl, fun z => hP z.2.2.1, by (focus repeat' first | exact Ext.refl _ | assumption | apply Ext.push | (refine Ext.trans ?_ (by assumption)))⟩⟩
    · (repeat' (first | apply zah | apply zad | (apply O_at; rfl) | (apply zag; rfl) | apply zaf | apply zav | apply zaw | (apply zbj; rfl; rfl; rfl) | ((first | apply zae | apply zac); rfl; rfl; rfl; rfl) | (apply zaN; rfl; rfl; rfl; rfl; rfl; rfl; exact zao rfl) | (apply zaJ; rfl; rfl; rfl; rfl; rfl; rfl) | (apply zlp; rfl; rfl; rfl; rfl; rfl; omega) | (apply zaF; rfl; rfl; rfl; rfl; exact za6 rfl; (focus repeat' first | exact zaa | assumption | (apply Ext.get; assumption)); (first | exact Nat.le_of_ble_eq_true rfl | (simp; done) | (simp; omega)); rfl) | (apply za4; rfl; rfl; rfl; rfl; exact zak rfl; rfl; rfl) | (apply zaj; rfl; rfl; rfl; rfl; rfl; rfl; exact yes iS hs; (rintro _ _ ⟨rfl, _⟩)) | fail))
      exact ⟨.inr rfl, _, rfl, .inr ⟨rfl, fun z => hl16 z.2.1, by (focus repeat' first | exact Ext.refl _ | assumption | apply Ext.push | (refine Ext.trans ?_ (by assumption)))⟩⟩
  · (repeat' (first | apply zah | apply zad | (apply O_at; rfl) | (apply zag; rfl) | apply zaf | apply zav | apply zaw | (apply zbj; rfl; rfl; rfl) | ((first | apply zae | apply zac); rfl; rfl; rfl; rfl) | (apply zaJ; rfl; rfl; rfl; rfl; rfl; rfl) | (apply zaF; rfl; rfl; rfl; rfl; exact za6 rfl; (focus repeat' first | exact zaa | assumption | (apply Ext.get; assumption)); (first | exact Nat.le_of_ble_eq_true rfl | (simp; done) | (simp; omega)); rfl) | (apply za4; rfl; rfl; rfl; rfl; exact zak rfl; rfl; rfl) | (apply zaj; rfl; rfl; rfl; rfl; rfl; rfl; exact no iS hs; (rintro _ _ ⟨rfl, _⟩)) | fail))
    exact ⟨.inr rfl, _, rfl, .inr ⟨rfl, fun z => hs z.1, by (focus repeat' first | exact Ext.refl _ | assumption | apply Ext.push | (refine Ext.trans ?_ (by assumption)))⟩⟩
end Go.AX.Sa

namespace Go.AX.Sa
open Go.Proofs
set_option maxRecDepth 100000
variable {K : Known}
/-! The theorem of figures. -/
theorem zdc {s : List (Int × Int)} {t : List Int} (hV : Vals s) (hT : TruthP s t) {j : Nat} (hj : j < s.length) : -9999 ≤ t.getD j 0 ∧ t.getD j 0 ≤ 9999 := by
  have h1 := hV j hj
  have h2 := hT.2 j (by rw [hT.1]; exact hj)
  unfold ValP at h1
  omega
theorem zkO {n : Nat} {l : List Int} (hKp : KeptP n l) {i : Nat} (hi : i < l.length) : 0 ≤ l.getD i 0 ∧ l.getD i 0 ≤ (n : Int) - 1 := by
  have a := keptLe hKp.2.2.2 (Nat.zero_le i) hi
  have c := keptLe hKp.2.2.2 (show i ≤ l.length - 1 by omega) (by omega)
  have h0 := hKp.2.1
  have h1 := hKp.2.2.1
  omega
/-- All figures are numbers as rows have them. -/
theorem zc0 {s : List (Int × Int)} {l t : List Int} {r : Int} (hV : Vals s) (hKp : KeptP s.length l) (hT : TruthP s t) {j : Nat} (hj : j < s.length) : -9999 ≤ (figs l t r s.length).getD j 0 ∧ (figs l t r s.length).getD j 0 ≤ 9999 := by
  rw [zc1 hj]
  rcases zkg hKp hj with ⟨i, hi, hij⟩ | ⟨i, hi, h1, h2⟩
  · rw [zb5 hKp.2.2.2 hi hij]
    exact zdc hV hT hj
  · have a1 := zkO hKp (i := i) (by omega)
    have a2 := zkO hKp hi
    have b1 := zdc hV hT (j := (l.getD i 0).toNat) (by omega)
    have b2 := zdc hV hT (j := (l.getD (i + 1) 0).toNat) (by omega)
    exact zhx hKp.2.2.2 hi (by omega) (by omega) b1.1 b1.2 b2.1 b2.2
end Go.AX.Sa

namespace Go.AX.Sa
open Go.Proofs
set_option maxRecDepth 100000
variable {K : Known}
/-! The theorem of proportional parts. -/
theorem zlH (hK : NoK K) {T : Tb} {n : Int} {h : Heap} (hsl : T.s.length ≤ 1000) : CallW Tryz.prog K 32 #[tbV T, .int .i64 n] h (IfB (0 ≤ n ∧ n ≤ (T.s.length : Int) - 1) h) := by
  obtain ⟨q, kq, s, r, o⟩ := T
  dsimp only [tbV] at hsl ⊢
  refine body (N := 11) Tryz.func32 rfl (hK _ _ _ rfl) rfl rfl ?_
  by_cases hc : 0 ≤ n ∧ n ≤ (s.length : Int) - 1
  · (repeat' (first | apply zah | apply zad | (apply O_at; rfl) | (apply zag; rfl) | apply zaf | apply zav | apply zaw | ((first | apply zae | apply zac); rfl; rfl; rfl; rfl) | (apply P_fa; rfl; rfl; rfl; rfl; exact zaU rfl; (first | exact Nat.zero_add _ | exact Nat.add_zero _ | rfl)) | (apply zaN; rfl; rfl; rfl; rfl; rfl; rfl; exact zao rfl) | (apply zc8; rfl; rfl; rfl; rfl; rfl; (unfold fit; omega)) | (apply zan; rfl; rfl; rfl; rfl; exact zay rfl; (focus repeat' first | exact zaa | assumption); (first | rfl | assumption)) | (apply za4; rfl; rfl; rfl; rfl; exact zak rfl; rfl; rfl) | (apply zaj; rfl; rfl; rfl; rfl; rfl; rfl; exact yes (zfc hK) hc; (rintro _ _ ⟨rfl, _⟩)) | fail))
    exact ⟨.inr rfl, _, rfl, .inl ⟨rfl, hc, by (focus repeat' first | exact Ext.refl _ | assumption | apply Ext.push | (refine Ext.trans ?_ (by assumption)))⟩⟩
  · (repeat' (first | apply zah | apply zad | (apply O_at; rfl) | (apply zag; rfl) | apply zaf | apply zav | apply zaw | ((first | apply zae | apply zac); rfl; rfl; rfl; rfl) | (apply P_fa; rfl; rfl; rfl; rfl; exact zaU rfl; (first | exact Nat.zero_add _ | exact Nat.add_zero _ | rfl)) | (apply zaN; rfl; rfl; rfl; rfl; rfl; rfl; exact zao rfl) | (apply zc8; rfl; rfl; rfl; rfl; rfl; (unfold fit; omega)) | (apply zan; rfl; rfl; rfl; rfl; exact zay rfl; (focus repeat' first | exact zaa | assumption); (first | rfl | assumption)) | (apply za4; rfl; rfl; rfl; rfl; exact zak rfl; rfl; rfl) | (apply zaj; rfl; rfl; rfl; rfl; rfl; rfl; exact no (zfc hK) hc; (rintro _ _ ⟨rfl, _⟩)) | fail))
    exact ⟨.inr rfl, _, rfl, .inr ⟨rfl, hc, by (focus repeat' first | exact Ext.refl _ | assumption | apply Ext.push | (refine Ext.trans ?_ (by assumption)))⟩⟩
end Go.AX.Sa

namespace Go.AX.Sa
open Go.Proofs
set_option maxRecDepth 100000
variable {K : Known}
/-! The least ends of spans, and the greatest ones. -/
theorem least_ok (hK : NoK K) {a b : Int} {h : Heap} : CallW Tryz.prog K 145 #[.agg #[.int .i64 a, .int .i64 b]] h (IsV (.int .i64 a) h) := by
  refine body (N := 5) Tryz.func145 rfl (hK _ _ _ rfl) rfl rfl ?_
  (repeat' (first | apply zah | apply zad | (apply O_at; rfl) | (apply zag; rfl) | apply zaf | apply zav | apply zaw | (apply zac; rfl; rfl; rfl; rfl) | (apply P_fa; rfl; rfl; rfl; rfl; exact zaU rfl; (first | exact Nat.zero_add _ | exact Nat.add_zero _ | rfl)) | (apply zan; rfl; rfl; rfl; rfl; exact zay rfl; (focus repeat' first | exact zaa | assumption); (first | rfl | assumption)) | (apply za4; rfl; rfl; rfl; rfl; exact zak rfl; rfl; rfl) | fail))
  exact ⟨.inr rfl, _, rfl, rfl, by (focus repeat' first | exact Ext.refl _ | assumption | apply Ext.push)⟩
theorem zhu (hK : NoK K) {a b : Int} {h : Heap} : CallW Tryz.prog K 146 #[.agg #[.int .i64 a, .int .i64 b]] h (IsV (.int .i64 b) h) := by
  refine body (N := 5) Tryz.func146 rfl (hK _ _ _ rfl) rfl rfl ?_
  (repeat' (first | apply zah | apply zad | (apply O_at; rfl) | (apply zag; rfl) | apply zaf | apply zav | apply zaw | (apply zac; rfl; rfl; rfl; rfl) | (apply P_fa; rfl; rfl; rfl; rfl; exact zaU rfl; (first | exact Nat.zero_add _ | exact Nat.add_zero _ | rfl)) | (apply zan; rfl; rfl; rfl; rfl; exact zay rfl; (focus repeat' first | exact zaa | assumption); (first | rfl | assumption)) | (apply za4; rfl; rfl; rfl; rfl; exact zak rfl; rfl; rfl) | fail))
  exact ⟨.inr rfl, _, rfl, rfl, by (focus repeat' first | exact Ext.refl _ | assumption | apply Ext.push)⟩
def twoF : Array Value := #[.func (.func 145) #[] #[], .func (.func 146) #[] #[]]
theorem fill146 : fillB Tryz.prog 171 [(0, .func (.func 145) #[] #[]), (1, .func (.func 146) #[] #[])] = some (.agg twoF) := by kernel_rfl
def RdV (h : Heap) (v : Value) (l : List Int) : Prop := ∃ p cap, v = .slice p l.length cap ∧ Rd h p (ints l)
theorem RdV.ext {h h1 : Heap} {v : Value} {l : List Int} (r : RdV h v l) (x : Ext h h1) : RdV h1 v l := by
  obtain ⟨p, cap, e, r⟩ := r
  exact ⟨p, cap, e, r.ext x⟩
theorem OutI.rdV {e : TypeId} {h0 h : Heap} {v : Value} {l : List Int} (o : OutI e h0 h v l) : RdV h v l := by
  rcases o with ⟨rfl, rfl⟩ | ⟨_, b, h1, h2, _⟩
  · exact ⟨none, 0, rfl, .inl rfl⟩
  · exact ⟨_, _, h1, .inr ⟨b, e, true, rfl, h2⟩⟩
def lows (s : List (Int × Int)) : List Int := s.map (·.1)
def highs (s : List (Int × Int)) : List Int := s.map (·.2)
theorem zgg {s : List (Int × Int)} {k : Nat} (h : k < s.length) : (lows s).take (k + 1) = (lows s).take k ++ [(s.getD k (0, 0)).1] := by
  rw [List.take_succ_eq_append_getElem (by simpa [lows] using h)]
  simp [lows, List.getD_eq_getElem?_getD, h]
theorem zeQ {s : List (Int × Int)} {k : Nat} (h : k < s.length) : (highs s).take (k + 1) = (highs s).take k ++ [(s.getD k (0, 0)).2] := by
  rw [List.take_succ_eq_append_getElem (by simpa [highs] using h)]
  simp [highs, List.getD_eq_getElem?_getD, h]
theorem OutI.one {e : TypeId} {h0 h : Heap} {v : Value} {l : List Int} (o : OutI e h0 h v l) : oneB v = true ∧ v.cells = #[v] := by
  rcases o with ⟨_, rfl⟩ | ⟨_, b, rfl, _⟩ <;> exact ⟨rfl, rfl⟩
theorem OutI.sameV {e : TypeId} {h0 h : Heap} {v : Value} {l : List Int} (o : OutI e h0 h v l) : same 20 v v = true := by
  rcases o with ⟨_, rfl⟩ | ⟨_, b, rfl, _⟩ <;> simp [same]
theorem OutI.withinV {e : TypeId} {h0 h : Heap} {v : Value} {l : List Int} (o : OutI e h0 h v l) {m : Nat} (hm : h.n ≤ m) : within 20 m v = true := by
  rcases o with ⟨_, rfl⟩ | ⟨_, b, rfl, g, _⟩
  · rfl
  · have := Heap.get_lt g
    simp [within]; omega
theorem ends_ok (hK : NoK K) {s : List (Int × Int)} {p : Option Addr} {cap : Nat} {h : Heap} (hp : Rd h p (spanCells s)) (hsl : s.length ≤ 1000) :
    CallW Tryz.prog K 122 #[.slice p s.length cap] h (fun u h1 => ∃ u0 u1, u = .agg #[u0, u1] ∧ RdV h1 u0 (lows s) ∧ RdV h1 u1 (highs s) ∧ Ext h h1) := by
  refine body (N := 34) Tryz.func122 rfl (hK _ _ _ rfl) rfl rfl ?_
  (repeat' (first | apply zah | apply zad | (apply O_at; rfl) | (apply zag; rfl) | apply zaf | (apply zbi; rfl; rfl; rfl; rfl; exact zak rfl; rfl; rfl) | fail))
  apply zdl; rfl; rfl; rfl; rfl; exact fill146
  (repeat' (first | apply zah | apply zad | (apply O_at; rfl) | (apply zag; rfl) | apply zaf | apply zal | ((first | apply zae | apply zac | apply zaz); rfl; rfl; rfl; rfl) | (apply zaF; rfl; rfl; rfl; rfl; exact za6 rfl; (focus repeat' first | exact zaa | assumption | apply zab | (apply Ext.get; assumption) | (apply ExtBut.get; assumption; (first | assumption | omega | (simp only [Heap.push]; omega)))); (first | exact Nat.le_of_ble_eq_true rfl | (simp; done) | (simp; omega) | (rw [zai]; omega)); (first | exact zaB (by omega) | rfl)) | (apply zaX; rfl; rfl; rfl; rfl; exact zak rfl; rfl; rfl; rfl) | (apply zbi; rfl; rfl; rfl; rfl; exact zak rfl; rfl; rfl) | fail))
  refine zaT (fun a : Nat × Value × Value => [(11, .int .i64 (a.1 : Nat)), (10, .agg twoF), (4, .pointer (some ⟨h.n + 2, 0, none⟩)), (2, .pointer (some ⟨h.n, 0, none⟩)), (0, .slice p s.length cap)])
    (fun a h' => a.1 ≤ 2 ∧ h.n + 3 ≤ h'.n ∧ ExtBut (h.n + 2) (h.push (.cells [nilV, nilV] 141 true)) h' ∧ h'.get? (h.n + 2) = some (.cells [a.2.1, a.2.2] 141 true) ∧ (a.1 = 0 → a.2.1 = nilV) ∧ (a.1 ≤ 1 → a.2.2 = nilV) ∧ (0 < a.1 → RdV h' a.2.1 (lows s)) ∧ (1 < a.1 → RdV h' a.2.2 (highs s))) (fun a => 2 - a.1) ?_ (0, nilV, nilV) ?_ ?_
  · rintro ⟨i, v0, v1⟩ h' ⟨hi, hn, hx, hb, z0, z1, r0, r1⟩ ih
    dsimp only at hi hn hx hb z0 z1 r0 r1 ih ⊢
    by_cases hlt : i < 2
    · have hlt' : (i : Int) < 2 := by omega
      rcases (show i = 0 ∨ i = 1 by omega) with rfl | rfl
      · obtain rfl := z0 rfl
        obtain rfl := z1 (by decide)
        (repeat' (first | apply zah | apply zad | (apply O_at; rfl) | (apply zag; rfl) | apply zaf | (apply zaE; rfl) | apply zal | apply zat | ((first | apply zae | apply zac | apply zaz); rfl; rfl; rfl; rfl) | (apply zaN; rfl; rfl; rfl; rfl; rfl; rfl; exact zao rfl) | (apply zaA; rfl; rfl; rfl; rfl; rfl; omega) | (apply zdM; rfl; rfl; rfl; rfl; rfl; (first | assumption | exact zq0 | exact zq1 | rfl | exact (Int.toNat_of_nonneg (by omega)).symm); exact zdy rfl; exact zay rfl; (first | decide | omega); rfl) | fail))
        refine zaT (fun a : Nat × Value => [(17, .int .i64 (a.1 : Nat)), (16, .int .i64 (s.length : Nat)), (15, .slice p s.length cap), (5, .int .i64 ((0 : Nat) : Int)), (6, .func (.func 145) #[] #[]), (11, .int .i64 ((0 : Nat) : Int)), (10, .agg twoF), (4, .pointer (some ⟨h.n + 2, 0, none⟩)), (2, .pointer (some ⟨h.n, 0, none⟩)), (0, .slice p s.length cap)])
          (fun a h2 => a.1 ≤ s.length ∧ ExtBut (h.n + 2) h' h2 ∧ OutI 3 h' h2 a.2 ((lows s).take a.1) ∧ h2.get? (h.n + 2) = some (.cells [a.2, nilV] 141 true)) (fun a => s.length - a.1) ?_ (0, nilV) ?_ ?_
        · rintro ⟨k, v⟩ h2 ⟨hk, hx2, ho, hb2⟩ ih2
          dsimp only at hk hx2 hb2 ih2 ⊢
          replace ho : OutI 3 h' h2 v ((lows s).take k) := ho
          by_cases hks : k < s.length
          · obtain ⟨bs, es, owns, rfl, hg⟩ := hp.at (by rw [zai]; omega)
            have hbs : bs < h.n := Heap.get_lt hg
            have hg1 : h2.get? bs = some (.cells (spanCells s) es owns) := hx2.get (by omega) (hx.get (by omega) (zab hg))
            have hle : ((lows s).take k).length ≤ 10000 := by rw [List.length_take]; omega
            obtain ⟨one1, one2⟩ := OutI.one (e := 3) (h0 := h') ho
            have hn2 := hx2.n
            have hsv := OutI.sameV (e := 3) (h0 := h') ho
            have hwv : ∀ blk, within 20 (h2.push blk).n v = true := fun blk => OutI.withinV (e := 3) (h0 := h') ho (Nat.le_succ _)
            (repeat' (first | apply zah | apply zad | (apply O_at; rfl) | (apply N_at; rfl) | (apply zag; rfl) | apply zaf | (apply zaE; rfl) | (apply zbp; exact zaH (by decide +kernel)) | apply zal | apply zat | ((first | apply zae | apply zac | apply zaz); rfl; rfl; rfl; rfl) | (apply zaA; rfl; rfl; rfl; rfl; rfl; omega) | (apply zch; rfl; rfl; rfl; rfl; rfl; exact zao rfl; exact zak rfl; (first | assumption | exact zq0 | exact zq1 | rfl | exact (Int.toNat_of_nonneg (by omega)).symm); omega) | (apply zaF; rfl; rfl; rfl; rfl; exact za6 rfl; (focus repeat' first | exact zaa | assumption | apply zab | (apply Ext.get; assumption) | (apply ExtBut.get; assumption; (first | assumption | omega | (simp only [Heap.push]; omega)))); (first | exact Nat.le_of_ble_eq_true rfl | (simp; done) | (simp; omega) | (rw [zai]; omega)); (first | exact zaB (by omega) | rfl)) | (apply zaX; rfl; rfl; rfl; rfl; exact zak rfl; rfl; rfl; rfl) | (apply zbi; rfl; rfl; rfl; rfl; exact zak rfl; rfl; rfl) | (apply ziN; rfl; rfl; rfl; rfl; rfl; rfl; rfl; exact zbM rfl) | ((first | ((apply ziM; rfl; rfl; rfl; rfl; exact zay rfl; exact zeX (by decide +kernel)); (focus repeat' first | exact zaa | assumption | apply zab | (apply Ext.get; assumption) | (apply ExtBut.get; assumption; (first | assumption | omega | (simp only [Heap.push]; omega)))); (first | rfl | assumption)) | ((apply ziL; rfl; rfl; rfl; rfl; exact za6 rfl; exact zbe (by decide +kernel)); (focus repeat' first | exact zaa | assumption | apply zab | (apply Ext.get; assumption) | (apply ExtBut.get; assumption; (first | assumption | omega | (simp only [Heap.push]; omega)))); (first | exact Nat.le_of_ble_eq_true rfl | (simp; done) | (simp; omega) | (rw [zai]; omega)); (first | exact zaB (by omega) | rfl))); (first | assumption | exact zdS _ _ | rfl | (focus simp [same, same.all2]; done)); (first | rfl | assumption | exact hwv _ | (simp [within]; omega))) | (apply zgK; rfl; rfl; rfl; rfl; rfl; exact zdy rfl; exact zak rfl; (first | assumption | exact zq0 | exact zq1 | rfl | exact (Int.toNat_of_nonneg (by omega)).symm); omega) | (apply za8; rfl; rfl; rfl; rfl; rfl; rfl; rfl; exact least_ok hK; (rintro _ _ ⟨rfl, _⟩)) | fail))
            rename_i h3 hx3
            have hb3 : h3.get? (h.n + 2) = some (.cells [v, nilV] 141 true) := hx3.get (zab hb2)
            apply zlz (h0 := h'); rfl; rfl; rfl; rfl; rfl; rfl; rfl; rfl; exact zbM rfl; exact zao rfl; exact zaa; exact OutI.ext (e := 3) (h0 := h') ho (by (focus repeat' first | exact Ext.refl _ | assumption | apply Ext.push | (refine Ext.trans ?_ (by assumption)) | (refine Ext.ofBut ?_ (by assumption) (by first | exact Nat.le_refl _ | omega)))); exact (by have := hx3.n; simp only [Heap.push] at this ⊢; omega); exact hle; rfl
            intro v3 h4 ho4 k4
            replace ho4 : OutI 3 h' h4 v3 ((lows s).take (k + 1)) := by rw [zgg hks]; exact ho4
            have hb4 : h4.get? (h.n + 2) = some (.cells [v, nilV] 141 true) := k4.lo (by omega) (zab hb3)
            obtain ⟨on1, on2⟩ := OutI.one (e := 3) (h0 := h') ho4
            (repeat' (first | (apply N_at; rfl) | (apply zgK; rfl; rfl; rfl; rfl; rfl; exact zdy rfl; exact zak rfl; (first | assumption | exact zq0 | exact zq1 | rfl | exact (Int.toNat_of_nonneg (by omega)).symm); omega) | fail))
            apply ziK (c' := [v3, nilV]); rfl; rfl; rfl; rfl; exact hb4; exact zak rfl; exact (by rw [on2]; rfl); exact (by simp); exact (by rw [on2]; simp [on1]); exact (by rw [on2]; rfl); rfl
            intro h5 hb5 hx5
            have hx25 : ExtBut (h.n + 2) h' h5 := ⟨by have q1 := k4.n; have q2 := hx5.n; have q3 := hx3.n; simp only [Heap.push] at q1 q2 q3; omega, fun c x hne g => hx5.get hne (k4.lo (Heap.get_lt g) (zab (hx3.get (zab (hx2.get hne g)))))⟩
            have ho5 : OutI 3 h' h5 v3 ((lows s).take (k + 1)) := OutI.but (h0 := h') ho4 hx5 (by omega)
            (repeat' (first | apply zad | (apply O_at; rfl) | (apply zag; rfl) | apply zaf | (apply zbN; rfl; refine .inr ?_; (focus repeat' first | exact trivial | exact Keeps.nil _ _ | apply And.intro | rfl | (apply Keeps.cons; iterate 2 (focus repeat' first | exact zaa | assumption | apply zab | (apply Ext.get; assumption) | (apply ExtBut.get; assumption; (first | assumption | omega | (simp only [Heap.push]; omega))))))) | apply zap | ((first | apply zae | apply zac | apply zaz); rfl; rfl; rfl; rfl) | (apply zaV; rfl; rfl; rfl; rfl; rfl; (unfold fit; omega)) | fail))
            exact zax (ih2 (k + 1, v3) _ (by dsimp only; omega) ⟨hks, hx25, ho5, hb5⟩) (by (focus repeat' first | rfl | exact trivial | apply And.intro))
          · have hks' : k = s.length := by omega
            subst hks'
            (repeat' (first | apply zah | apply zad | (apply O_at; rfl) | (apply zag; rfl) | apply zaf | (apply zaG; rfl) | apply za2 | apply za3 | apply zaI | apply zaM | apply zap | ((first | apply zae | apply zac | apply zaz); rfl; rfl; rfl; rfl) | (apply zaR; rfl; rfl; rfl; rfl; rfl; omega) | (apply zaV; rfl; rfl; rfl; rfl; rfl; (unfold fit; omega)) | fail))
            have hl : (lows s).take s.length = lows s := List.take_of_length_le (by simp [lows])
            rw [hl] at ho
            exact zax (ih (1, v, nilV) _ (by dsimp only; omega) ⟨by dsimp only; omega, by have := hx2.n; omega, hx.trans hx2, hb2, fun q => absurd q (by dsimp only; omega), fun _ => rfl, fun _ => OutI.rdV (e := 3) (h0 := h') ho, fun q => absurd q (by dsimp only; omega)⟩) (by (focus repeat' first | rfl | exact trivial | apply And.intro))
        · exact ⟨Nat.zero_le _, ExtBut.refl _ _, OutI.nil _ _ _, hb⟩
        · (focus repeat' first | rfl | exact trivial | apply And.intro)
      · obtain rfl := z1 (by decide)
        obtain ⟨p0, c0, rfl, rd0⟩ := r0 (by decide)
        (repeat' (first | apply zah | apply zad | (apply O_at; rfl) | (apply zag; rfl) | apply zaf | (apply zaE; rfl) | apply zal | apply zat | ((first | apply zae | apply zac | apply zaz); rfl; rfl; rfl; rfl) | (apply zaN; rfl; rfl; rfl; rfl; rfl; rfl; exact zao rfl) | (apply zaA; rfl; rfl; rfl; rfl; rfl; omega) | (apply zdM; rfl; rfl; rfl; rfl; rfl; (first | assumption | exact zq0 | exact zq1 | rfl | exact (Int.toNat_of_nonneg (by omega)).symm); exact zdy rfl; exact zay rfl; (first | decide | omega); rfl) | fail))
        refine zaT (fun a : Nat × Value => [(17, .int .i64 (a.1 : Nat)), (16, .int .i64 (s.length : Nat)), (15, .slice p s.length cap), (5, .int .i64 ((1 : Nat) : Int)), (6, .func (.func 146) #[] #[]), (11, .int .i64 ((1 : Nat) : Int)), (10, .agg twoF), (4, .pointer (some ⟨h.n + 2, 0, none⟩)), (2, .pointer (some ⟨h.n, 0, none⟩)), (0, .slice p s.length cap)])
          (fun a h2 => a.1 ≤ s.length ∧ ExtBut (h.n + 2) h' h2 ∧ OutI 3 h' h2 a.2 ((highs s).take a.1) ∧ h2.get? (h.n + 2) = some (.cells [.slice p0 (lows s).length c0, a.2] 141 true)) (fun a => s.length - a.1) ?_ (0, nilV) ?_ ?_
        · rintro ⟨k, v⟩ h2 ⟨hk, hx2, ho, hb2⟩ ih2
          dsimp only at hk hx2 hb2 ih2 ⊢
          replace ho : OutI 3 h' h2 v ((highs s).take k) := ho
          by_cases hks : k < s.length
          · obtain ⟨bs, es, owns, rfl, hg⟩ := hp.at (by rw [zai]; omega)
            have hbs : bs < h.n := Heap.get_lt hg
            have hg1 : h2.get? bs = some (.cells (spanCells s) es owns) := hx2.get (by omega) (hx.get (by omega) (zab hg))
            have hle : ((highs s).take k).length ≤ 10000 := by rw [List.length_take]; omega
            obtain ⟨one1, one2⟩ := OutI.one (e := 3) (h0 := h') ho
            have hn2 := hx2.n
            have hsv := OutI.sameV (e := 3) (h0 := h') ho
            have hwv : ∀ blk, within 20 (h2.push blk).n v = true := fun blk => OutI.withinV (e := 3) (h0 := h') ho (Nat.le_succ _)
            (repeat' (first | apply zah | apply zad | (apply O_at; rfl) | (apply N_at; rfl) | (apply zag; rfl) | apply zaf | (apply zaE; rfl) | (apply zbp; exact zaH (by decide +kernel)) | apply zal | apply zat | ((first | apply zae | apply zac | apply zaz); rfl; rfl; rfl; rfl) | (apply zaA; rfl; rfl; rfl; rfl; rfl; omega) | (apply zch; rfl; rfl; rfl; rfl; rfl; exact zao rfl; exact zak rfl; (first | assumption | exact zq0 | exact zq1 | rfl | exact (Int.toNat_of_nonneg (by omega)).symm); omega) | (apply zaF; rfl; rfl; rfl; rfl; exact za6 rfl; (focus repeat' first | exact zaa | assumption | apply zab | (apply Ext.get; assumption) | (apply ExtBut.get; assumption; (first | assumption | omega | (simp only [Heap.push]; omega)))); (first | exact Nat.le_of_ble_eq_true rfl | (simp; done) | (simp; omega) | (rw [zai]; omega)); (first | exact zaB (by omega) | rfl)) | (apply zaX; rfl; rfl; rfl; rfl; exact zak rfl; rfl; rfl; rfl) | (apply zbi; rfl; rfl; rfl; rfl; exact zak rfl; rfl; rfl) | (apply ziN; rfl; rfl; rfl; rfl; rfl; rfl; rfl; exact zbM rfl) | ((first | ((apply ziM; rfl; rfl; rfl; rfl; exact zay rfl; exact zeX (by decide +kernel)); (focus repeat' first | exact zaa | assumption | apply zab | (apply Ext.get; assumption) | (apply ExtBut.get; assumption; (first | assumption | omega | (simp only [Heap.push]; omega)))); (first | rfl | assumption)) | ((apply ziL; rfl; rfl; rfl; rfl; exact za6 rfl; exact zbe (by decide +kernel)); (focus repeat' first | exact zaa | assumption | apply zab | (apply Ext.get; assumption) | (apply ExtBut.get; assumption; (first | assumption | omega | (simp only [Heap.push]; omega)))); (first | exact Nat.le_of_ble_eq_true rfl | (simp; done) | (simp; omega) | (rw [zai]; omega)); (first | exact zaB (by omega) | rfl))); (first | assumption | exact zdS _ _ | rfl | (focus simp [same, same.all2]; done)); (first | rfl | assumption | exact hwv _ | (simp [within]; omega))) | (apply zgK; rfl; rfl; rfl; rfl; rfl; exact zdy rfl; exact zak rfl; (first | assumption | exact zq0 | exact zq1 | rfl | exact (Int.toNat_of_nonneg (by omega)).symm); omega) | (apply za8; rfl; rfl; rfl; rfl; rfl; rfl; rfl; exact zhu hK; (rintro _ _ ⟨rfl, _⟩)) | fail))
            rename_i h3 hx3
            have hb3 : h3.get? (h.n + 2) = some (.cells [.slice p0 (lows s).length c0, v] 141 true) := hx3.get (zab hb2)
            apply zlz (h0 := h'); rfl; rfl; rfl; rfl; rfl; rfl; rfl; rfl; exact zbM rfl; exact zao rfl; exact zaa; exact OutI.ext (e := 3) (h0 := h') ho (by (focus repeat' first | exact Ext.refl _ | assumption | apply Ext.push | (refine Ext.trans ?_ (by assumption)) | (refine Ext.ofBut ?_ (by assumption) (by first | exact Nat.le_refl _ | omega)))); exact (by have := hx3.n; simp only [Heap.push] at this ⊢; omega); exact hle; rfl
            intro v3 h4 ho4 k4
            replace ho4 : OutI 3 h' h4 v3 ((highs s).take (k + 1)) := by rw [zeQ hks]; exact ho4
            have hb4 : h4.get? (h.n + 2) = some (.cells [.slice p0 (lows s).length c0, v] 141 true) := k4.lo (by omega) (zab hb3)
            obtain ⟨on1, on2⟩ := OutI.one (e := 3) (h0 := h') ho4
            (repeat' (first | (apply N_at; rfl) | (apply zgK; rfl; rfl; rfl; rfl; rfl; exact zdy rfl; exact zak rfl; (first | assumption | exact zq0 | exact zq1 | rfl | exact (Int.toNat_of_nonneg (by omega)).symm); omega) | fail))
            apply ziK (c' := [.slice p0 (lows s).length c0, v3]); rfl; rfl; rfl; rfl; exact hb4; exact zak rfl; exact (by rw [on2]; rfl); exact (by simp); exact (by rw [on2]; simp [on1]); exact (by rw [on2]; rfl); rfl
            intro h5 hb5 hx5
            have hx25 : ExtBut (h.n + 2) h' h5 := ⟨by have q1 := k4.n; have q2 := hx5.n; have q3 := hx3.n; simp only [Heap.push] at q1 q2 q3; omega, fun c x hne g => hx5.get hne (k4.lo (Heap.get_lt g) (zab (hx3.get (zab (hx2.get hne g)))))⟩
            have ho5 : OutI 3 h' h5 v3 ((highs s).take (k + 1)) := OutI.but (h0 := h') ho4 hx5 (by omega)
            (repeat' (first | apply zad | (apply O_at; rfl) | (apply zag; rfl) | apply zaf | (apply zbN; rfl; refine .inr ?_; (focus repeat' first | exact trivial | exact Keeps.nil _ _ | apply And.intro | rfl | (apply Keeps.cons; iterate 2 (focus repeat' first | exact zaa | assumption | apply zab | (apply Ext.get; assumption) | (apply ExtBut.get; assumption; (first | assumption | omega | (simp only [Heap.push]; omega))))))) | apply zap | ((first | apply zae | apply zac | apply zaz); rfl; rfl; rfl; rfl) | (apply zaV; rfl; rfl; rfl; rfl; rfl; (unfold fit; omega)) | fail))
            exact zax (ih2 (k + 1, v3) _ (by dsimp only; omega) ⟨hks, hx25, ho5, hb5⟩) (by (focus repeat' first | rfl | exact trivial | apply And.intro))
          · have hks' : k = s.length := by omega
            subst hks'
            (repeat' (first | apply zah | apply zad | (apply O_at; rfl) | (apply zag; rfl) | apply zaf | (apply zaG; rfl) | apply za2 | apply za3 | apply zaI | apply zaM | apply zap | ((first | apply zae | apply zac | apply zaz); rfl; rfl; rfl; rfl) | (apply zaR; rfl; rfl; rfl; rfl; rfl; omega) | (apply zaV; rfl; rfl; rfl; rfl; rfl; (unfold fit; omega)) | fail))
            have hl : (highs s).take s.length = highs s := List.take_of_length_le (by simp [highs])
            rw [hl] at ho
            have rd2 : Rd h2 p0 (ints (lows s)) := by
              rcases rd0 with r | ⟨b, e, own, rfl, g⟩
              · exact .inl r
              · refine .inr ⟨b, e, own, rfl, hx2.get (fun q => ?_) g⟩
                subst q
                rw [hb] at g
                cases hls : lows s with
                | nil => rw [hls] at g; cases g
                | cons z l => rw [hls] at g; cases g
            exact zax (ih (2, .slice p0 (lows s).length c0, v) _ (by dsimp only; omega) ⟨by dsimp only; omega, by have := hx2.n; omega, hx.trans hx2, hb2, fun q => absurd q (by dsimp only; omega), fun q => absurd q (by dsimp only; omega), fun _ => ⟨p0, c0, rfl, rd2⟩, fun _ => OutI.rdV (e := 3) (h0 := h') ho⟩) (by (focus repeat' first | rfl | exact trivial | apply And.intro))
        · exact ⟨Nat.zero_le _, ExtBut.refl _ _, OutI.nil _ _ _, hb⟩
        · (focus repeat' first | rfl | exact trivial | apply And.intro)
    · have : i = 2 := by omega
      subst this
      obtain ⟨p0, c0, rfl, rd0⟩ := r0 (by decide)
      obtain ⟨p1, c1, rfl, rd1⟩ := r1 (by decide)
      have hg0 : h'.get? h.n = some (.cells [nilV, nilV] 141 true) := hx.get (by omega) zaa
      have hx0 : Ext h h' := Ext.ofBut ((Ext.refl _).push _) hx (by omega)
      (repeat' (first | apply zah | apply zad | (apply O_at; rfl) | (apply zag; rfl) | apply zaf | (apply zaG; rfl) | apply za2 | apply zav | apply za3 | apply zaI | apply zaM | apply zaw | (apply zaR; rfl; rfl; rfl; rfl; rfl; omega) | (apply zaF; rfl; rfl; rfl; rfl; exact za6 rfl; (focus repeat' first | exact zaa | assumption | apply zab | (apply Ext.get; assumption) | (apply ExtBut.get; assumption; (first | assumption | omega | (simp only [Heap.push]; omega)))); (first | exact Nat.le_of_ble_eq_true rfl | (simp; done) | (simp; omega) | (rw [zai]; omega)); (first | exact zaB (by omega) | rfl)) | (apply zc9; rfl; rfl; rfl; rfl; (focus repeat' first | exact zaa | assumption | apply zab | (apply Ext.get; assumption) | (apply ExtBut.get; assumption; (first | assumption | omega | (simp only [Heap.push]; omega)))); exact zak rfl; rfl; (first | rfl | exact zau _); rfl; (intro _ _ _)) | fail))
      rename_i h4 hb4 hx4
      have e4 : Ext h h4 := Ext.ofBut hx0 hx4 (Nat.le_refl _)
      have hlo : ∀ {q : Option Addr} {l : List Int}, Rd h' q (ints l) → Rd h4 q (ints l) := by
        intro q l r
        rcases r with r | ⟨b, e, own, rfl, g⟩
        · exact .inl r
        · refine .inr ⟨b, e, own, rfl, hx4.get (fun q => ?_) g⟩
          subst q
          rw [hg0] at g
          cases l with
          | nil => cases g
          | cons z l => cases g
      exact ⟨.inr rfl, _, zkn rfl (readA (za6 rfl) hb4 (Nat.le_of_ble_eq_true rfl) rfl) rfl, _, _, rfl, ⟨p0, c0, rfl, hlo rd0⟩, ⟨p1, c1, rfl, hlo rd1⟩, e4⟩
  · refine ⟨by decide, Nat.le_refl _, ((Ext.refl _).push _ |>.push _).but _, zaa, fun _ => rfl, fun _ => rfl, fun q => absurd q (by dsimp only; omega), fun q => absurd q (by dsimp only; omega)⟩
  · (focus repeat' first | rfl | exact trivial | apply And.intro)
end Go.AX.Sa

namespace Go.AX.Sa
open Go.Proofs
set_option maxRecDepth 100000
variable {K : Known}
/-! By how much figures can differ from their numbers. -/
theorem mem_at {l : List Int} {x : Int} : x ∈ l ↔ ∃ k, k < l.length ∧ l.getD k 0 = x := by
  rw [List.mem_iff_getElem]
  constructor
  · rintro ⟨k, hk, e⟩
    exact ⟨k, hk, by simpa [List.getD_eq_getElem?_getD, hk] using e⟩
  · rintro ⟨k, hk, e⟩
    exact ⟨k, hk, by simpa [List.getD_eq_getElem?_getD, hk] using e⟩
theorem index_ok (hK : NoK K) {l : List Int} {x : Int} {p : Option Addr} {cap : Nat} {h : Heap} (hl : l.length ≤ 1000) (hr : Rd h p (ints l)) :
    CallW Tryz.prog K 123 #[.slice p l.length cap, .int .i64 x] h fun v h1 => ∃ n : Int, v = .int .i64 n ∧ (0 ≤ n ↔ x ∈ l) ∧ Ext h h1 := by
  refine body (N := 19) Tryz.func123 rfl (hK _ _ _ rfl) rfl rfl ?_
  (repeat' (first | apply zah | apply zad | (apply O_at; rfl) | (apply zag; rfl) | apply zaf | apply zal | ((first | apply zae | apply zac); rfl; rfl; rfl; rfl) | (apply zaN; rfl; rfl; rfl; rfl; rfl; rfl; exact zao rfl) | fail))
  refine zaT (fun k : Nat => [(8, .int .i64 (k : Nat)), (7, .int .i64 (l.length : Nat)), (1, .int .i64 x), (0, .slice p l.length cap)])
    (fun k h' => k ≤ l.length ∧ Ext h h' ∧ ∀ j, j < k → l.getD j 0 ≠ x) (fun k => l.length - k) ?_ 0 ⟨Nat.zero_le _, Ext.refl _, fun j hj => by omega⟩ ?_
  · intro k h' ⟨hk, hx, hj⟩ ih
    by_cases hlt : k < l.length
    · obtain ⟨b, e, own, rfl, hg⟩ := hr.at (by rw [zau]; omega)
      by_cases hc : x = l.getD k 0
      · (repeat' (first | apply zah | apply zad | (apply O_at; rfl) | (apply zag; rfl) | apply zaf | (apply zaE; rfl) | apply zal | apply zat | apply zav | apply zbq | apply zeZ | apply ze0 | apply zaw | ((first | apply zae | apply zac); rfl; rfl; rfl; rfl) | (apply zaA; rfl; rfl; rfl; rfl; rfl; omega) | (apply zbC; rfl; rfl; rfl; rfl; rfl; omega) | (apply zbh; rfl; rfl; rfl; rfl; rfl; exact zao rfl; exact zak rfl; (first | assumption | rfl | exact (Int.toNat_of_nonneg (by omega)).symm); omega) | (apply zan; rfl; rfl; rfl; rfl; exact zay rfl; (focus repeat' first | assumption | (apply Ext.get; assumption)); (first | exact zar (by omega) | rfl | assumption)) | fail))
        exact ⟨.inr rfl, _, rfl, (k : Int), rfl, ⟨fun _ => mem_at.2 ⟨k, hlt, hc.symm⟩, fun _ => by omega⟩, by (focus repeat' first | exact Ext.refl _ | assumption)⟩
      · (repeat' (first | apply zah | apply zad | (apply O_at; rfl) | (apply zag; rfl) | apply zaf | (apply zaE; rfl) | (apply zaG; rfl) | apply zal | apply zat | apply zap | ((first | apply zae | apply zac); rfl; rfl; rfl; rfl) | (apply zaA; rfl; rfl; rfl; rfl; rfl; omega) | (apply zbR; rfl; rfl; rfl; rfl; rfl; omega) | (apply zaV; rfl; rfl; rfl; rfl; rfl; (unfold fit; omega)) | (apply zbh; rfl; rfl; rfl; rfl; rfl; exact zao rfl; exact zak rfl; (first | assumption | rfl | exact (Int.toNat_of_nonneg (by omega)).symm); omega) | (apply zan; rfl; rfl; rfl; rfl; exact zay rfl; (focus repeat' first | assumption | (apply Ext.get; assumption)); (first | exact zar (by omega) | rfl | assumption)) | fail))
        refine zax (ih (k + 1) _ (by omega) ⟨hlt, by (focus repeat' first | exact Ext.refl _ | assumption), fun j hj' => ?_⟩) (by (focus repeat' first | rfl | exact trivial | apply And.intro))
        by_cases hjk : j = k
        · subst hjk; exact fun w => hc w.symm
        · exact hj j (by omega)
    · (repeat' (first | apply zah | apply zad | (apply O_at; rfl) | (apply zag; rfl) | apply zaf | (apply zaG; rfl) | apply za2 | apply zav | apply za3 | apply zaI | apply zaM | apply zaw | ((first | apply zae | apply zac); rfl; rfl; rfl; rfl) | (apply zaR; rfl; rfl; rfl; rfl; rfl; omega) | fail))
      refine ⟨.inr rfl, _, rfl, -1, rfl, ⟨fun q => by omega, fun q => ?_⟩, by (focus repeat' first | exact Ext.refl _ | assumption)⟩
      obtain ⟨j, hj1, hj2⟩ := mem_at.1 q
      exact absurd hj2 (hj j (by omega))
  · (focus repeat' first | rfl | exact trivial | apply And.intro)
theorem zcd (hK : NoK K) {l : List Int} {x : Int} {p : Option Addr} {cap : Nat} {h : Heap} (hl : l.length ≤ 1000) (hr : Rd h p (ints l)) :
    CallW Tryz.prog K 86 #[.slice p l.length cap, .int .i64 x] h (IfB (x ∈ l) h) := by
  refine body (N := 9) Tryz.func86 rfl (hK _ _ _ rfl) rfl rfl ?_
  (repeat' (first | apply zah | apply zad | (apply O_at; rfl) | (apply zag; rfl) | apply zaf | ((first | apply zae | apply zac); rfl; rfl; rfl; rfl) | fail))
  apply zaj; rfl; rfl; rfl; rfl; rfl; rfl; exact index_ok hK hl hr
  rintro _ _ ⟨n, rfl, hn, hx⟩
  by_cases hc : 0 ≤ n
  · (repeat' (first | (apply O_at; rfl) | (apply zag; rfl) | apply zaf | apply zav | apply zaw | ((first | apply zae | apply zac); rfl; rfl; rfl; rfl) | (apply ziH; rfl; rfl; rfl; rfl; rfl; omega) | fail))
    exact ⟨.inr rfl, _, rfl, .inl ⟨rfl, hn.1 hc, by (focus repeat' first | assumption)⟩⟩
  · (repeat' (first | (apply O_at; rfl) | (apply zag; rfl) | apply zaf | apply zav | apply zaw | ((first | apply zae | apply zac); rfl; rfl; rfl; rfl) | (apply zlr; rfl; rfl; rfl; rfl; rfl; omega) | fail))
    exact ⟨.inr rfl, _, rfl, .inr ⟨rfl, fun q => hc (hn.2 q), by (focus repeat' first | assumption)⟩⟩
theorem zcY (s : List (Int × Int)) : (lows s).length = s.length := by simp [lows]
theorem zcq (s : List (Int × Int)) : (highs s).length = s.length := by simp [highs]
theorem lows_get {s : List (Int × Int)} {j : Nat} (h : j < s.length) : (lows s).getD j 0 = (s.getD j (0, 0)).1 := by simp [lows, List.getD_eq_getElem?_getD, h]
theorem zkW {s : List (Int × Int)} {j : Nat} (h : j < s.length) : (highs s).getD j 0 = (s.getD j (0, 0)).2 := by simp [highs, List.getD_eq_getElem?_getD, h]
theorem zcx {s : List (Int × Int)} (hV : Vals s) : TruthP s (lows s) := by
  refine ⟨zcY s, fun k hk => ?_⟩
  rw [zcY] at hk
  have := hV k hk
  unfold ValP at this
  rw [lows_get hk]; omega
theorem zcb {s : List (Int × Int)} (hV : Vals s) : TruthP s (highs s) := by
  refine ⟨zcq s, fun k hk => ?_⟩
  rw [zcq] at hk
  have := hV k hk
  unfold ValP at this
  rw [zkW hk]; omega
def offv (s : List (Int × Int)) (l : List Int) (r : Int) (j : Nat) : Int :=
  if ((j : Nat) : Int) ∈ l then 0 else max ((s.getD j (0, 0)).2 - figv l (lows s) r j) (figv l (highs s) r j - (s.getD j (0, 0)).1)
def offs (s : List (Int × Int)) (l : List Int) (r : Int) (k : Nat) : List Int := (List.range k).map (offv s l r)
theorem zdI (s : List (Int × Int)) (l : List Int) (r : Int) (k : Nat) : (offs s l r k).length = k := by simp [offs]
theorem zgc (s : List (Int × Int)) (l : List Int) (r : Int) (k : Nat) : offs s l r (k + 1) = offs s l r k ++ [offv s l r k] := by simp [offs, List.range_succ]
theorem offs_get {s : List (Int × Int)} {l : List Int} {r : Int} {k j : Nat} (h : j < k) : (offs s l r k).getD j 0 = offv s l r j := by
  simp [offs, List.getD_eq_getElem?_getD, h]
theorem row_keep {l : List Int} {n : Nat} (h : l.length < n) : l ++ List.replicate (n - l.length) 0 = (l ++ [0]) ++ List.replicate (n - (l.length + 1)) 0 := by
  rw [show n - l.length = (n - (l.length + 1)) + 1 by omega, List.replicate_succ, List.append_assoc]
  rfl
theorem Rd.butV {h h1 : Heap} {b0 : Nat} {q p : Option Addr} {l : List Int} {n c : Nat} {u : Value} {t : TypeId} {own : Bool} (r : Rd h q (ints l)) (x : ExtBut b0 h h1) (g0 : h.get? b0 = some (.cells [.slice p n c, u] t own)) : Rd h1 q (ints l) := by
  rcases r with r | ⟨b, e, own', rfl, g⟩
  · exact .inl r
  · refine .inr ⟨b, e, own', rfl, x.get (fun w => ?_) g⟩
    subst w
    rw [g0] at g
    cases l with
    | nil => cases g
    | cons z l => cases g
set_option maxHeartbeats 4000000 in
theorem offs_ok (hK : NoK K) {T : Tb} {l : List Int} {b cap : Nat} {e : TypeId} {own : Bool} {h : Heap} (hP : TbP T) (hKp : KeptP T.s.length l) (hcap : l.length ≤ cap) (hll : l.length ≤ 1000) (hTb : TbAt T h) (hg : h.get? b = some (.cells (ints l) e own)) :
    CallW Tryz.prog K 82 #[ktV T (some ⟨b, 0, none⟩) l.length cap] h (IsL (offs T.s l T.r T.s.length) h) := by
  have iF : ∀ {t : List Int} {bt ct : Nat} {et : TypeId} {ownt : Bool} {h' : Heap}, TruthP T.s t → h'.get? bt = some (.cells (ints t) et ownt) → Ext h h' → CallW Tryz.prog K 65 #[ktV T (some ⟨b, 0, none⟩) l.length cap, .slice (some ⟨bt, 0, none⟩) t.length ct] h' (IsL (figs l t T.r T.s.length) h') := fun a g x => zju hK hP hKp a hcap hll (x.get hg) g
  obtain ⟨q, kq, s, r, o⟩ := T
  dsimp only [ktV] at iF ⊢
  have hn := hP.1
  have hV := hP.2.1
  dsimp only at hn hV hKp
  have hs0 := hTb.rd
  dsimp only at hs0
  obtain ⟨bs, es, owns, rfl, hgs⟩ := hs0.at (by rw [zai]; omega)
  have hb0 := Heap.get_lt hg
  have hbs0 := Heap.get_lt hgs
  refine body (N := 64) Tryz.func82 rfl (hK _ _ _ rfl) rfl rfl ?_
  (repeat' (first | apply zah | apply zad | (apply O_at; rfl) | (apply zag; rfl) | apply zaf | ((first | apply zae | apply zac | apply zbf | apply zaz); rfl; rfl; rfl; rfl) | ((first | apply P_fa | apply M_fa); rfl; rfl; rfl; rfl; exact zaU rfl; (first | exact Nat.zero_add _ | exact Nat.add_zero _ | rfl)) | (apply zan; rfl; rfl; rfl; rfl; exact zay rfl; (focus repeat' first | exact zaa | assumption | apply zab | (apply Ext.get; assumption) | (apply ExtBut.get; assumption; (first | assumption | omega | (simp only [Heap.push]; omega)))); (first | exact zar (by omega) | rfl | assumption)) | (apply za4; rfl; rfl; rfl; rfl; exact zak rfl; rfl; rfl) | (apply zbi; rfl; rfl; rfl; rfl; exact zak rfl; rfl; rfl) | fail))
  apply zaj; rfl; rfl; rfl; rfl; rfl; rfl; exact ends_ok hK (hs0.ext (by (focus repeat' first | exact Ext.refl _ | assumption | apply Ext.push | (refine Ext.trans ?_ (by assumption)) | (refine Ext.ofBut ?_ (by assumption) (by first | exact Nat.le_refl _ | omega))))) (by omega)
  rintro _ h3 ⟨u0, u1, rfl, r0, r1, x3⟩
  obtain ⟨p0, c0, rfl, rd0⟩ := r0
  obtain ⟨p1, c1, rfl, rd1⟩ := r1
  have ll := zcY s
  have hl := zcq s
  obtain ⟨b0, e0, own0, rfl, g0⟩ := rd0.at (by rw [zau]; omega)
  obtain ⟨b1, e1, own1, rfl, g1⟩ := rd1.at (by rw [zau]; omega)
  have hk3 : h3.get? h.n = some (.cells [.slice (some ⟨bs, 0, none⟩) s.length kq, .int .i64 r, .int .i64 o, .slice (some ⟨b, 0, none⟩) l.length cap] 82 true) := x3.get (zab zaa)
  have he3 : h3.get? (h.n + 1) = some (.cells [nilV, nilV] 141 true) := x3.get zaa
  have hgs3 := x3.get (zab (zab hgs))
  have hg3 := x3.get (zab (zab hg))
  have hbx0 : b0 ≠ h.n + 1 := fun w => by
    subst w
    rw [he3] at g0
    cases hls : lows s with
    | nil => rw [hls] at ll; simp at ll; omega
    | cons z m => rw [hls] at g0; cases g0
  have hbx1 : b1 ≠ h.n + 1 := fun w => by
    subst w
    rw [he3] at g1
    cases hls : highs s with
    | nil => rw [hls] at hl; simp at hl; omega
    | cons z m => rw [hls] at g1; cases g1
  (repeat' (first | (apply O_at; rfl) | (apply zag; rfl) | apply zaf | apply zal | ((first | apply zae | apply zac | apply zbf | apply zaz); rfl; rfl; rfl; rfl) | fail))
  refine zaT (fun a : Nat × Value × Value => [(13, .int .i64 (a.1 : Nat)), (12, .agg #[.slice (some ⟨b0, 0, none⟩) (lows s).length c0, .slice (some ⟨b1, 0, none⟩) (highs s).length c1]), (3, .pointer (some ⟨h.n + 1, 0, none⟩)), (1, .pointer (some ⟨h.n, 0, none⟩))])
    (fun a h' => a.1 ≤ 2 ∧ ExtBut (h.n + 1) h3 h' ∧ h'.get? (h.n + 1) = some (.cells [a.2.1, a.2.2] 141 true) ∧ (a.1 = 0 → a.2.1 = nilV) ∧ (a.1 ≤ 1 → a.2.2 = nilV) ∧ (0 < a.1 → RdV h' a.2.1 (figs l (lows s) r s.length)) ∧ (1 < a.1 → RdV h' a.2.2 (figs l (highs s) r s.length))) (fun a => 2 - a.1) ?_ (0, nilV, nilV) ?_ ?_
  · rintro ⟨i, v0, v1⟩ h' ⟨hi, hx, hb, z0, z1, q0, q1⟩ ih
    dsimp only at hi hx hb z0 z1 q0 q1 ih ⊢
    have hn3 := x3.n
    have hn' := hx.n
    simp only [Heap.push] at hn3
    have hk' := hx.get (by omega) hk3
    have hgs' := hx.get (by omega) hgs3
    have hg' := hx.get (by omega) hg3
    have g0' := hx.get hbx0 g0
    have g1' := hx.get hbx1 g1
    by_cases hlt : i < 2
    · have hlt' : (i : Int) < 2 := by omega
      have eh : Ext h h' := Ext.ofBut (by (focus repeat' first | exact Ext.refl _ | assumption | apply Ext.push | (refine Ext.trans ?_ (by assumption)) | (refine Ext.ofBut ?_ (by assumption) (by first | exact Nat.le_refl _ | omega)))) hx (by omega)
      rcases (show i = 0 ∨ i = 1 by omega) with rfl | rfl
      · obtain rfl := z0 rfl
        obtain rfl := z1 (by decide)
        (repeat' (first | apply zah | apply zad | (apply O_at; rfl) | (apply zag; rfl) | apply zaf | (apply zaE; rfl) | apply zal | apply zat | apply zap | ((first | apply zae | apply zac | apply zbf | apply zaz); rfl; rfl; rfl; rfl) | (apply zaA; rfl; rfl; rfl; rfl; rfl; omega) | (apply zaV; rfl; rfl; rfl; rfl; rfl; (unfold fit; omega)) | (apply zaF; rfl; rfl; rfl; rfl; exact za6 rfl; (focus repeat' first | exact zaa | assumption | apply zab | (apply Ext.get; assumption) | (apply ExtBut.get; assumption; (first | assumption | omega | (simp only [Heap.push]; omega)))); (first | exact Nat.le_of_ble_eq_true rfl | (simp; done) | (simp; omega) | (rw [zai]; omega) | (rw [zau]; omega)); (first | exact zaB (by omega) | rfl)) | (apply ziE; rfl; rfl; rfl; rfl; (focus repeat' first | exact zaa | assumption | apply zab | (apply Ext.get; assumption) | (apply ExtBut.get; assumption; (first | assumption | omega | (simp only [Heap.push]; omega)))); exact zak rfl; omega; (intro _ _ _)) | (apply zlq; rfl; rfl; rfl; rfl; rfl; exact zdy rfl; exact zak rfl; (first | assumption | exact zq0 | exact zq1 | rfl | exact (Int.toNat_of_nonneg (by omega)).symm); omega) | (apply zdM; rfl; rfl; rfl; rfl; rfl; (first | assumption | exact zq0 | exact zq1 | rfl | exact (Int.toNat_of_nonneg (by omega)).symm); exact zdy rfl; exact zay rfl; (first | decide | omega); rfl) | (apply zaj; rfl; rfl; rfl; rfl; rfl; rfl; exact iF (zcx hV) g0' eh; (rintro _ _ ⟨_, _, rfl, _, _⟩)) | fail))
        rename_i h4 pf cf rdf xf h5 gb5 x5
        exact zax (ih (1, .slice pf (figs l (lows s) r s.length).length cf, nilV) _ (by dsimp only; omega) ⟨by dsimp only; omega, (hx.trans (Ext.but xf _)).trans x5, gb5, fun w => absurd w (by dsimp only; omega), fun _ => rfl, fun _ => ⟨pf, cf, rfl, Rd.butV rdf x5 (xf.get hb)⟩, fun w => absurd w (by dsimp only; omega)⟩) (by (focus repeat' first | rfl | exact trivial | apply And.intro))
      · obtain rfl := z1 (by decide)
        obtain ⟨pv, cv, rfl, rdv⟩ := q0 (by decide)
        (repeat' (first | apply zah | apply zad | (apply O_at; rfl) | (apply zag; rfl) | apply zaf | (apply zaE; rfl) | apply zal | apply zat | apply zap | ((first | apply zae | apply zac | apply zbf | apply zaz); rfl; rfl; rfl; rfl) | (apply zaA; rfl; rfl; rfl; rfl; rfl; omega) | (apply zaV; rfl; rfl; rfl; rfl; rfl; (unfold fit; omega)) | (apply zaF; rfl; rfl; rfl; rfl; exact za6 rfl; (focus repeat' first | exact zaa | assumption | apply zab | (apply Ext.get; assumption) | (apply ExtBut.get; assumption; (first | assumption | omega | (simp only [Heap.push]; omega)))); (first | exact Nat.le_of_ble_eq_true rfl | (simp; done) | (simp; omega) | (rw [zai]; omega) | (rw [zau]; omega)); (first | exact zaB (by omega) | rfl)) | (apply ziE; rfl; rfl; rfl; rfl; (focus repeat' first | exact zaa | assumption | apply zab | (apply Ext.get; assumption) | (apply ExtBut.get; assumption; (first | assumption | omega | (simp only [Heap.push]; omega)))); exact zak rfl; omega; (intro _ _ _)) | (apply zlq; rfl; rfl; rfl; rfl; rfl; exact zdy rfl; exact zak rfl; (first | assumption | exact zq0 | exact zq1 | rfl | exact (Int.toNat_of_nonneg (by omega)).symm); omega) | (apply zdM; rfl; rfl; rfl; rfl; rfl; (first | assumption | exact zq0 | exact zq1 | rfl | exact (Int.toNat_of_nonneg (by omega)).symm); exact zdy rfl; exact zay rfl; (first | decide | omega); rfl) | (apply zaj; rfl; rfl; rfl; rfl; rfl; rfl; exact iF (zcb hV) g1' eh; (rintro _ _ ⟨_, _, rfl, _, _⟩)) | fail))
        rename_i h4 pf cf rdf xf h5 gb5 x5
        exact zax (ih (2, .slice pv (figs l (lows s) r s.length).length cv, .slice pf (figs l (highs s) r s.length).length cf) _ (by dsimp only; omega) ⟨by dsimp only; omega, (hx.trans (Ext.but xf _)).trans x5, gb5, fun w => absurd w (by dsimp only; omega), fun w => absurd w (by dsimp only; omega), fun _ => ⟨pv, cv, rfl, Rd.butV (rdv.ext xf) x5 (xf.get hb)⟩, fun _ => ⟨pf, cf, rfl, Rd.butV rdf x5 (xf.get hb)⟩⟩) (by (focus repeat' first | rfl | exact trivial | apply And.intro))
    · obtain rfl : i = 2 := by omega
      obtain ⟨p2, c2, rfl, rd2⟩ := q0 (by decide)
      obtain ⟨p3, c3, rfl, rd3⟩ := q1 (by decide)
      have l2 := zdJ l (lows s) r s.length
      have l3 := zdJ l (highs s) r s.length
      obtain ⟨b2, e2, own2, rfl, g2⟩ := rd2.at (by rw [zau]; omega)
      obtain ⟨b3, e3, own3, rfl, g3⟩ := rd3.at (by rw [zau]; omega)
      have n2 := Heap.get_lt g2
      have n3 := Heap.get_lt g3
      have hbk := Heap.get_lt hk'
      have hbe := Heap.get_lt hb
      have hbb := Heap.get_lt hg'
      have hbs' := Heap.get_lt hgs'
      (repeat' (first | apply zah | apply zad | (apply O_at; rfl) | (apply zag; rfl) | apply zaf | (apply zaG; rfl) | apply zal | apply za2 | apply za3 | apply zaI | apply zaM | ((first | apply zae | apply zac | apply zbf | apply zaz); rfl; rfl; rfl; rfl) | ((first | apply P_fa | apply M_fa); rfl; rfl; rfl; rfl; exact zaU rfl; (first | exact Nat.zero_add _ | exact Nat.add_zero _ | rfl)) | (apply zaN; rfl; rfl; rfl; rfl; rfl; rfl; exact zao rfl) | (apply zaR; rfl; rfl; rfl; rfl; rfl; omega) | (apply zan; rfl; rfl; rfl; rfl; exact zay rfl; (focus repeat' first | exact zaa | assumption | apply zab | (apply Ext.get; assumption) | (apply ExtBut.get; assumption; (first | assumption | omega | (simp only [Heap.push]; omega)))); (first | exact zar (by omega) | rfl | assumption)) | (apply P_makeI; rfl; rfl; rfl; rfl; rfl; exact zbM rfl; exact zero3; omega; omega) | fail))
      rw [Int.toNat_natCast]
      refine zaT (fun k : Nat => [(32, .int .i64 (k : Nat)), (31, .int .i64 (s.length : Nat)), (30, .slice (some ⟨bs, 0, none⟩) s.length kq), (6, .slice (some ⟨h'.n, 0, none⟩) s.length s.length), (3, .pointer (some ⟨h.n + 1, 0, none⟩)), (1, .pointer (some ⟨h.n, 0, none⟩))])
        (fun k g => k ≤ s.length ∧ ExtBut h'.n (h'.push (.cells (ints (List.replicate s.length 0)) 3 true)) g ∧ g.get? h'.n = some (.cells (ints (offs s l r k ++ List.replicate (s.length - (offs s l r k).length) 0)) 3 true)) (fun k => s.length - k) ?_ 0 ?_ ?_
      · rintro k g ⟨hk, hxg, hbg⟩ ih2
        have ok := zdI s l r k
        have y1 := hxg.get (by omega) (zab hk')
        have y2 := hxg.get (by omega) (zab hb)
        have y3 := hxg.get (by omega) (zab g2)
        have y4 := hxg.get (by omega) (zab g3)
        have y5 := hxg.get (by omega) (zab hgs')
        have y6 := hxg.get (by omega) (zab hg')
        by_cases hks : k < s.length
        · have hn2 := hxg.n
          have hv := hV k hks
          unfold ValP at hv
          have f1 := zc1 (l := l) (t := lows s) (r := r) hks
          have f2 := zc1 (l := l) (t := highs s) (r := r) hks
          have m1 := zc0 (r := r) hV hKp (zcx hV) hks
          have m2 := zc0 (r := r) hV hKp (zcb hV) hks
          have hlk : k < (offs s l r k ++ List.replicate (s.length - (offs s l r k).length) 0).length := by simp [ok]; omega
          by_cases hc : ((k : Nat) : Int) ∈ l
          · have e0 : offv s l r k = 0 := if_pos hc
            (repeat' (first | apply zah | apply zad | (apply O_at; rfl) | (apply zag; rfl) | apply zaf | (apply zaE; rfl) | (apply zaG; rfl) | apply zal | apply zat | apply zap | ((first | apply zae | apply zac | apply zbf | apply zaz); rfl; rfl; rfl; rfl) | ((first | apply P_fa | apply M_fa); rfl; rfl; rfl; rfl; exact zaU rfl; (first | exact Nat.zero_add _ | exact Nat.add_zero _ | rfl)) | (apply zaA; rfl; rfl; rfl; rfl; rfl; omega) | (apply zaV; rfl; rfl; rfl; rfl; rfl; (unfold fit; omega)) | (apply zch; rfl; rfl; rfl; rfl; rfl; exact zao rfl; exact zak rfl; (first | assumption | exact zq0 | exact zq1 | rfl | exact (Int.toNat_of_nonneg (by omega)).symm); omega) | (apply zan; rfl; rfl; rfl; rfl; exact zay rfl; (focus repeat' first | exact zaa | assumption | apply zab | (apply Ext.get; assumption) | (apply ExtBut.get; assumption; (first | assumption | omega | (simp only [Heap.push]; omega)))); (first | exact zar (by omega) | rfl | assumption)) | (apply zaF; rfl; rfl; rfl; rfl; exact za6 rfl; (focus repeat' first | exact zaa | assumption | apply zab | (apply Ext.get; assumption) | (apply ExtBut.get; assumption; (first | assumption | omega | (simp only [Heap.push]; omega)))); (first | exact Nat.le_of_ble_eq_true rfl | (simp; done) | (simp; omega) | (rw [zai]; omega) | (rw [zau]; omega)); (first | exact zaB (by omega) | rfl)) | (apply zaX; rfl; rfl; rfl; rfl; exact zak rfl; rfl; rfl; rfl) | (apply zbi; rfl; rfl; rfl; rfl; exact zak rfl; rfl; rfl) | (apply zaj; rfl; rfl; rfl; rfl; rfl; rfl; exact yes (zcd hK hll (.inr ⟨_, _, _, rfl, by (focus repeat' first | exact zaa | assumption | apply zab | (apply Ext.get; assumption) | (apply ExtBut.get; assumption; (first | assumption | omega | (simp only [Heap.push]; omega))))⟩)) hc; (rintro _ _ ⟨rfl, _⟩)) | fail))
            rename_i g1 xg1
            refine zax (ih2 (k + 1) _ (by omega) ⟨hks, hxg.trans (Ext.but (by (focus repeat' first | exact Ext.refl _ | assumption | apply Ext.push | (refine Ext.trans ?_ (by assumption)) | (refine Ext.ofBut ?_ (by assumption) (by first | exact Nat.le_refl _ | omega)))) _), ?_⟩) (by (focus repeat' first | rfl | exact trivial | apply And.intro))
            have hr := row_keep (l := offs s l r k) (n := s.length) (by omega)
            have hs1 : offs s l r (k + 1) = offs s l r k ++ [0] := by rw [zgc, e0]
            rw [ok, ← hs1] at hr
            rw [zdI, ← hr]
            rw [ok] at hbg
            exact xg1.get (zab hbg)
          · have e0 : offv s l r k = max ((s.getD k (0, 0)).2 - (figs l (lows s) r s.length).getD k 0) ((figs l (highs s) r s.length).getD k 0 - (s.getD k (0, 0)).1) := by rw [f1, f2]; exact if_neg hc
            (repeat' (first | apply zah | apply zad | (apply O_at; rfl) | (apply N_at; rfl) | (apply zag; rfl) | apply zaf | (apply zaE; rfl) | (apply zbp; exact zaH (by decide +kernel)) | apply zal | apply zat | (apply zbN; rfl; refine .inr ?_; (focus repeat' first | exact trivial | apply And.intro | rfl)) | apply zap | ((first | apply zae | apply zac | apply zbf | apply zaz); rfl; rfl; rfl; rfl) | ((first | apply P_fa | apply M_fa); rfl; rfl; rfl; rfl; exact zaU rfl; (first | exact Nat.zero_add _ | exact Nat.add_zero _ | rfl)) | (apply zaA; rfl; rfl; rfl; rfl; rfl; omega) | (apply zaV; rfl; rfl; rfl; rfl; rfl; (unfold fit; omega)) | (apply zch; rfl; rfl; rfl; rfl; rfl; exact zao rfl; exact zak rfl; (first | assumption | exact zq0 | exact zq1 | rfl | exact (Int.toNat_of_nonneg (by omega)).symm); omega) | (apply zan; rfl; rfl; rfl; rfl; exact zay rfl; (focus repeat' first | exact zaa | assumption | apply zab | (apply Ext.get; assumption) | (apply ExtBut.get; assumption; (first | assumption | omega | (simp only [Heap.push]; omega)))); (first | exact zar (by omega) | rfl | assumption)) | (apply zaF; rfl; rfl; rfl; rfl; exact za6 rfl; (focus repeat' first | exact zaa | assumption | apply zab | (apply Ext.get; assumption) | (apply ExtBut.get; assumption; (first | assumption | omega | (simp only [Heap.push]; omega)))); (first | exact Nat.le_of_ble_eq_true rfl | (simp; done) | (simp; omega) | (rw [zai]; omega) | (rw [zau]; omega)); (first | exact zaB (by omega) | rfl)) | (apply zaX; rfl; rfl; rfl; rfl; exact zak rfl; rfl; rfl; rfl) | (apply zbi; rfl; rfl; rfl; rfl; exact zak rfl; rfl; rfl) | (apply zeI; rfl; rfl; rfl; rfl; rfl; (unfold fit; omega)) | (apply zbV; rfl; rfl; rfl; rfl; rfl; exact zao rfl; exact zak rfl; (first | assumption | exact zq0 | exact zq1 | rfl | exact (Int.toNat_of_nonneg (by omega)).symm); omega) | (((apply zbU; rfl; rfl; rfl; rfl; exact zay rfl; exact zbe (by decide +kernel)); (focus repeat' first | exact zaa | assumption | apply zab | (apply Ext.get; assumption) | (apply ExtBut.get; assumption; (first | assumption | omega | (simp only [Heap.push]; omega)))); (first | exact zar (by omega) | rfl | assumption)); (first | assumption | exact za5 _ _ | exact zbc _ _ _ | rfl | (focus simp [same, same.all2]; done)); (first | rfl | assumption | exact hwv _ | (focus apply zb1; (focus repeat' first | exact zaa | assumption | apply zab | (apply Ext.get; assumption) | (apply ExtBut.get; assumption; (first | assumption | omega | (simp only [Heap.push]; omega)))); done) | (simp [within]; omega))) | (apply ziJ; rfl; rfl; rfl; rfl; (focus repeat' first | exact zaa | assumption | apply zab | (apply Ext.get; assumption) | (apply ExtBut.get; assumption; (first | assumption | omega | (simp only [Heap.push]; omega)))); exact zak rfl; (first | omega | (focus simp; done)); rfl; (intro _ _ _)) | (apply M_max; rfl; rfl; rfl; rfl; rfl; rfl) | (apply zgK; rfl; rfl; rfl; rfl; rfl; exact zdy rfl; exact zak rfl; (first | assumption | exact zq0 | exact zq1 | rfl | exact (Int.toNat_of_nonneg (by omega)).symm); omega) | (apply zaj; rfl; rfl; rfl; rfl; rfl; rfl; exact no (zcd hK hll (.inr ⟨_, _, _, rfl, by (focus repeat' first | exact zaa | assumption | apply zab | (apply Ext.get; assumption) | (apply ExtBut.get; assumption; (first | assumption | omega | (simp only [Heap.push]; omega))))⟩)) hc; (rintro _ _ ⟨rfl, _⟩)) | fail))
            rename_i g1 xg1 g5 q5 xg5
            refine zax (ih2 (k + 1) _ (by omega) ⟨hks, (hxg.trans (Ext.but (by (focus repeat' first | exact Ext.refl _ | assumption | apply Ext.push | (refine Ext.trans ?_ (by assumption)) | (refine Ext.ofBut ?_ (by assumption) (by first | exact Nat.le_refl _ | omega)))) _)).trans xg5, ?_⟩) (by (focus repeat' first | rfl | exact trivial | apply And.intro))
            have hr := row_set (l := offs s l r k) (n := s.length) (x := offv s l r k) (by omega)
            rw [← zgc, ok] at hr
            rw [← e0, ok] at q5
            rw [zdI, ← hr]
            exact q5
        · obtain rfl : k = s.length := by omega
          rw [ok, Nat.sub_self, List.replicate_zero, List.append_nil] at hbg
          (repeat' (first | apply zah | apply zad | (apply O_at; rfl) | (apply zag; rfl) | apply zaf | (apply zaG; rfl) | apply za2 | apply zav | apply za3 | apply zaI | apply zaM | apply zaw | ((first | apply zae | apply zac | apply zbf | apply zaz); rfl; rfl; rfl; rfl) | (apply zaR; rfl; rfl; rfl; rfl; rfl; omega) | fail))
          refine ⟨.inr rfl, _, rfl, some ⟨h'.n, 0, none⟩, s.length, ?_, .inr ⟨_, _, _, rfl, hbg⟩, ?_⟩
          · rw [ok]; rfl
          · exact Ext.ofBut (Ext.push (Ext.ofBut (by (focus repeat' first | exact Ext.refl _ | assumption | apply Ext.push | (refine Ext.trans ?_ (by assumption)) | (refine Ext.ofBut ?_ (by assumption) (by first | exact Nat.le_refl _ | omega)))) hx (by omega)) _) hxg (by omega)
      · exact ⟨Nat.zero_le _, ExtBut.refl _ _, zaa⟩
      · (focus repeat' first | rfl | exact trivial | apply And.intro)
  · exact ⟨by decide, ExtBut.refl _ _, he3, fun _ => rfl, fun _ => rfl, fun q => absurd q (by dsimp only; omega), fun q => absurd q (by dsimp only; omega)⟩
  · (focus repeat' first | rfl | exact trivial | apply And.intro)
end Go.AX.Sa

namespace Go.AX.Sa
open Go.Proofs
set_option maxRecDepth 100000
variable {K : Known}
/-! The rows that may be wrong; whether a kept list surely is right. -/
def dbts (s : List (Int × Int)) (l : List Int) (r o : Int) : Nat → List Int
  | 0 => []
  | k + 1 => if o < offv s l r k then dbts s l r o k ++ [((k : Nat) : Int)] else dbts s l r o k
theorem zfw {s : List (Int × Int)} {l : List Int} {r o : Int} {k : Nat} (h : o < offv s l r k) : dbts s l r o (k + 1) = dbts s l r o k ++ [((k : Nat) : Int)] := if_pos h
theorem zhD {s : List (Int × Int)} {l : List Int} {r o : Int} {k : Nat} (h : ¬ o < offv s l r k) : dbts s l r o (k + 1) = dbts s l r o k := if_neg h
theorem ziv (s : List (Int × Int)) (l : List Int) (r o : Int) : ∀ k, (dbts s l r o k).length ≤ k := by
  intro k
  induction k with
  | zero => exact Nat.le_refl _
  | succ k ih =>
    by_cases h : o < offv s l r k
    · rw [zfw h, List.length_append]; simp only [List.length_cons, List.length_nil]; omega
    · rw [zhD h]; omega
/-- A kept list surely is right. -/
def SureP (s : List (Int × Int)) (l : List Int) (r o : Int) : Prop := ∀ j, j < s.length → offv s l r j ≤ o
theorem zk6 (hK : NoK K) {T : Tb} {l : List Int} {b cap : Nat} {e : TypeId} {own : Bool} {h : Heap} (hP : TbP T) (hKp : KeptP T.s.length l) (hcap : l.length ≤ cap) (hll : l.length ≤ 1000) (hTb : TbAt T h) (hg : h.get? b = some (.cells (ints l) e own)) :
    CallW Tryz.prog K 77 #[ktV T (some ⟨b, 0, none⟩) l.length cap] h (IsL (dbts T.s l T.r T.o T.s.length) h) := by
  have iO : ∀ {h' : Heap}, Ext h h' → CallW Tryz.prog K 82 #[ktV T (some ⟨b, 0, none⟩) l.length cap] h' (IsL (offs T.s l T.r T.s.length) h') := fun x => offs_ok hK hP hKp hcap hll (hTb.ext x) (x.get hg)
  obtain ⟨q, kq, s, r, o⟩ := T
  have hqb : ∀ a, q = some a → a.block < h.n := hTb.b
  have hb0 := Heap.get_lt hg
  have hn := hP.1
  dsimp only [ktV] at iO hn ⊢
  have hfl := zdI s l r s.length
  refine body (N := 25) Tryz.func77 rfl (hK _ _ _ rfl) rfl rfl ?_
  (repeat' (first | apply zah | apply zad | (apply O_at; rfl) | (apply zag; rfl) | apply zaf | apply zal | ((first | apply zae | apply zac); rfl; rfl; rfl; rfl) | (apply zaN; rfl; rfl; rfl; rfl; rfl; rfl; exact zao rfl) | (apply zaF; rfl; rfl; rfl; rfl; exact za6 rfl; (focus repeat' first | exact zaa | assumption | (apply Ext.get; assumption)); (first | exact Nat.le_of_ble_eq_true rfl | (simp; done) | (simp; omega) | (rw [zau]; omega)); rfl) | (apply za4; rfl; rfl; rfl; rfl; exact zak rfl; rfl; rfl) | (apply zaj; rfl; rfl; rfl; rfl; rfl; rfl; exact iO (by (focus repeat' first | exact Ext.refl _ | assumption | apply Ext.push | (refine Ext.trans ?_ (by assumption)))); (rintro _ _ ⟨_, _, rfl, _, _⟩)) | fail))
  rename_i h1 fq fc frd fx
  rw [hfl]
  obtain ⟨bf, ef, ownf, rfl, gf⟩ := frd.at (by rw [zau]; omega)
  have hk1 : h1.get? h.n = some (.cells [.slice q s.length kq, .int .i64 r, .int .i64 o, .slice (some ⟨b, 0, none⟩) l.length cap] 82 true) := fx.get zaa
  refine zaT (fun a : Nat × Value => [(9, .int .i64 (a.1 : Nat)), (8, .int .i64 (s.length : Nat)), (7, .slice (some ⟨bf, 0, none⟩) s.length fc), (3, a.2), (1, .pointer (some ⟨h.n, 0, none⟩))])
    (fun a h' => a.1 ≤ s.length ∧ Ext h1 h' ∧ OutI 3 h1 h' a.2 (dbts s l r o a.1)) (fun a => s.length - a.1) ?_ (0, nilV) ?_ ?_
  · rintro ⟨k, v⟩ h' ⟨hk, hx, ho⟩ ih
    dsimp only at hk hx ho ih ⊢
    have hk' := hx.get hk1
    have gf' := hx.get gf
    have hle := ziv s l r o k
    by_cases hlt : k < s.length
    · have hg1 := offs_get (s := s) (l := l) (r := r) hlt
      by_cases hc : o < offv s l r k
      · rw [← hg1] at hc
        (repeat' (first | apply zah | apply zad | (apply O_at; rfl) | (apply zag; rfl) | apply zaf | (apply zaE; rfl) | apply zal | apply zat | apply zap | ((first | apply zae | apply zac); rfl; rfl; rfl; rfl) | (apply P_fa; rfl; rfl; rfl; rfl; exact zaU rfl; (first | exact Nat.zero_add _ | exact Nat.add_zero _ | rfl)) | (apply zaA; rfl; rfl; rfl; rfl; rfl; omega) | (apply zes; rfl; rfl; rfl; rfl; rfl; omega) | (apply zaV; rfl; rfl; rfl; rfl; rfl; (unfold fit; omega)) | (apply zbh; rfl; rfl; rfl; rfl; rfl; exact zao rfl; exact zak rfl; (first | assumption | rfl | exact (Int.toNat_of_nonneg (by omega)).symm); omega) | (apply zan; rfl; rfl; rfl; rfl; exact zay rfl; (focus repeat' first | exact zaa | assumption | (apply Ext.get; assumption)); (first | exact zar (by omega) | rfl | assumption)) | (apply zbS; rfl; rfl; rfl; rfl; rfl; rfl; rfl; exact zbM rfl) | (apply zet; rfl; rfl; rfl; rfl; rfl; rfl; rfl; rfl; exact zbM rfl; exact zao rfl; (focus repeat' first | exact zaa | assumption | (apply Ext.get; assumption)); (apply OutI.ext; assumption; (focus repeat' first | exact Ext.refl _ | assumption | apply Ext.push | (refine Ext.trans ?_ (by assumption)))); (focus repeat' first | exact Ext.refl _ | assumption | apply Ext.push | (refine Ext.trans ?_ (by assumption))); (first | omega | (simp; omega)); (intro _ _ _ _)) | fail))
        rename_i v1 h2 ho2 hx2
        exact zax (ih (k + 1, v1) _ (by dsimp only; omega) ⟨hlt, by (focus repeat' first | exact Ext.refl _ | assumption | apply Ext.push | (refine Ext.trans ?_ (by assumption))), by rw [hg1] at hc; rw [zfw hc]; exact ho2⟩) (by (focus repeat' first | rfl | exact trivial | apply And.intro))
      · rw [← hg1] at hc
        (repeat' (first | apply zah | apply zad | (apply O_at; rfl) | (apply zag; rfl) | apply zaf | (apply zaE; rfl) | (apply zaG; rfl) | apply zal | apply zat | apply zap | ((first | apply zae | apply zac); rfl; rfl; rfl; rfl) | (apply P_fa; rfl; rfl; rfl; rfl; exact zaU rfl; (first | exact Nat.zero_add _ | exact Nat.add_zero _ | rfl)) | (apply zaA; rfl; rfl; rfl; rfl; rfl; omega) | (apply zda; rfl; rfl; rfl; rfl; rfl; omega) | (apply zaV; rfl; rfl; rfl; rfl; rfl; (unfold fit; omega)) | (apply zbh; rfl; rfl; rfl; rfl; rfl; exact zao rfl; exact zak rfl; (first | assumption | rfl | exact (Int.toNat_of_nonneg (by omega)).symm); omega) | (apply zan; rfl; rfl; rfl; rfl; exact zay rfl; (focus repeat' first | exact zaa | assumption | (apply Ext.get; assumption)); (first | exact zar (by omega) | rfl | assumption)) | fail))
        exact zax (ih (k + 1, v) _ (by dsimp only; omega) ⟨hlt, by (focus repeat' first | exact Ext.refl _ | assumption | apply Ext.push | (refine Ext.trans ?_ (by assumption))), by rw [hg1] at hc; rw [zhD hc]; exact ho⟩) (by (focus repeat' first | rfl | exact trivial | apply And.intro))
    · obtain rfl : k = s.length := by omega
      (repeat' (first | apply zah | apply zad | (apply O_at; rfl) | (apply zag; rfl) | apply zaf | (apply zaG; rfl) | apply za2 | apply zav | apply za3 | apply zaI | apply zaM | apply zaw | ((first | apply zae | apply zac); rfl; rfl; rfl; rfl) | (apply zaR; rfl; rfl; rfl; rfl; rfl; omega) | fail))
      have hn1 := fx.n
      simp only [Heap.push] at hn1
      exact ⟨.inr rfl, _, rfl, (OutI.low (e := 3) ho (by omega)).isL (by (focus repeat' first | exact Ext.refl _ | assumption | apply Ext.push | (refine Ext.trans ?_ (by assumption))))⟩
  · exact ⟨Nat.zero_le _, Ext.refl _, OutI.nil _ _ _⟩
  · (focus repeat' first | rfl | exact trivial | apply And.intro)
def dbtV : Value := .iface 131 (.agg #[])
def dbtCh : List PanicEntry := [⟨dbtV, false, false⟩]
section
variable {T : Tb} {l : List Int} {b cap : Nat} {e : TypeId} {own : Bool} {h : Heap}
end
end Go.AX.Sa

namespace Go.AX.Sa
open Go.Proofs
set_option maxRecDepth 100000
variable {K : Known}
/-! The specification's: how far figures can be, and the rows that may be wrong. -/
end Go.AX.Sa

namespace Go.AX.Sa
open Go.Proofs
set_option maxRecDepth 100000
variable {K : Known}
/-! The list of a step: numbers. -/
def kps (st c : Nat) : List Int := (List.range c).map fun i => ((i * st : Nat) : Int)
def cnt (last st : Nat) : Nat := (last + st - 1) / st
theorem cnt_ex {last st : Nat} (hst : 1 ≤ st) : last ≤ cnt last st * st ∧ ∀ d, cnt last st = d + 1 → d * st < last := by
  have h := Nat.div_add_mod (last + st - 1) st
  have hm := Nat.mod_lt (last + st - 1) hst
  have hc : st * ((last + st - 1) / st) = cnt last st * st := Nat.mul_comm _ _
  refine ⟨by omega, fun d hd => ?_⟩
  rw [hd, Nat.succ_mul] at hc
  omega
/-- The list of a step, of a table of some rows. -/
def kls (n st : Nat) : List Int := kps st (cnt (n - 1) st) ++ [(n : Int) - 1]
theorem cnt_le {last st : Nat} (hst : 1 ≤ st) : cnt last st ≤ last := by
  have h := (cnt_ex (last := last) hst).2
  cases hc : cnt last st with
  | zero => exact Nat.zero_le _
  | succ d =>
    have := h d hc
    have := Nat.le_mul_of_pos_right d hst
    omega
/-- The greatest step whose list surely is right. -/
def WidP (s : List (Int × Int)) (r o : Int) (w : Int) : Prop := (1 ≤ w ∧ w ≤ (s.length : Int) - 1) ∧ SureP s (kls s.length w.toNat) r o ∧ ∀ m : Int, w < m → m ≤ (s.length : Int) - 1 → ¬ SureP s (kls s.length m.toNat) r o
end Go.AX.Sa

namespace Go.AX.Sa
open Go.Proofs
set_option maxRecDepth 100000
variable {K : Known}
/-! The list of a step, and the widest step. -/
section
variable {x : Ctx} {N : Nat} {E : Env} {h : Heap} {ops : Array Oper} {F : Ex → Env → Heap → Prop} {i : Nat} {Hs : List Heap} {L : List Heap → Prop} {nw : List (Nat × Nat × Blk)}
variable {d : Nat} {ty : TypeId} {pos : String} {af : Array Edge} {g : Option (Nat × Bool)} {ps : Array (Nat × Operand)}
end
/-- A table with a kept list, that the program has made. -/
def IsK (T : Tb) (l : List Int) (h : Heap) (v : Value) (h1 : Heap) : Prop := ∃ b, v = ktV T (some ⟨b, 0, none⟩) l.length unk ∧ h1.get? b = some (.cells (ints l) 3 true) ∧ h.n ≤ b ∧ Ext h h1
end Go.AX.Sa

namespace Go.AX.Sa
open Go.Proofs
set_option maxRecDepth 100000
variable {K : Known}
/-! The widest step; the law of steps. -/
section
variable {T : Tb} {h : Heap}
end
end Go.AX.Sa

namespace Go.AX.Sa
open Go.Proofs
set_option maxRecDepth 100000
variable {K : Known}
/-! The numbers of a span, one by one; as a list. -/
def rng (a : Int) (k : Nat) : List Int := (List.range k).map fun i => a + (i : Nat)
def spanL (p : Int × Int) : List Int := rng p.1 (p.2 - p.1 + 1).toNat
end Go.AX.Sa

namespace Go.AX.Sa
open Go.Proofs
set_option maxRecDepth 100000
variable {K : Known}
/-! Whether all rows between two kept ones can be right. -/
def GoesP (s : List (Int × Int)) (r o a c x y : Int) : Prop := ∀ j : Nat, a < (j : Nat) → ((j : Nat) : Int) < c → (s.getD j (0, 0)).1 - o ≤ rnd r (mixv a c j x y) (c - a) ∧ rnd r (mixv a c j x y) (c - a) ≤ (s.getD j (0, 0)).2 + o
section
variable {T : Tb} {h : Heap} {A C : Nat} {x y : Int}
/-- Some of the numbers goes. -/
def SomeP (s : List (Int × Int)) (r o : Int) (l : List Int) (a c y : Int) : Prop := ∃ x, x ∈ l ∧ GoesP s r o a c x y
end
end Go.AX.Sa

namespace Go.AX.Sa
open Go.Proofs
set_option maxRecDepth 100000
variable {K : Known}
/-! With which numbers kept rows can be right. -/
def filN (P : Int → Prop) [DecidablePred P] (a : Int) : Nat → List Int
  | 0 => []
  | k + 1 => if P (a + (k : Nat)) then filN P a k ++ [a + (k : Nat)] else filN P a k
section
variable {P : Int → Prop} [DecidablePred P] {a : Int}
end
noncomputable instance someDec (s : List (Int × Int)) (r o : Int) (l : List Int) (a c : Int) : DecidablePred (SomeP s r o l a c) := fun _ => Classical.propDecidable _
/-- The numbers with which the first kept rows can be right. -/
noncomputable def canL (s : List (Int × Int)) (l : List Int) (r o : Int) : Nat → List Int
  | 0 => spanL (s.getD 0 (0, 0))
  | k + 1 => filN (SomeP s r o (canL s l r o k) (l.getD k 0) (l.getD (k + 1) 0)) (s.getD (l.getD (k + 1) 0).toNat (0, 0)).1 ((s.getD (l.getD (k + 1) 0).toNat (0, 0)).2 - (s.getD (l.getD (k + 1) 0).toNat (0, 0)).1 + 1).toNat
/-- A kept list can be right. -/
def CanP (s : List (Int × Int)) (l : List Int) (r o : Int) : Prop := 0 < (canL s l r o (l.length - 1)).length
end Go.AX.Sa

namespace Go.AX.Sa
open Go.Proofs
set_option maxRecDepth 100000
variable {K : Known}
/-! Whether a kept list is right, as it is asked for. -/
/-- Never 1, maybe 2, surely 3. -/
def WordP (s : List (Int × Int)) (l : List Int) (r o w : Int) : Prop := (SureP s l r o ∧ w = 3) ∨ (¬ SureP s l r o ∧ CanP s l r o ∧ w = 2) ∨ (¬ SureP s l r o ∧ ¬ CanP s l r o ∧ w = 1)
section
variable {T : Tb} {l : List Int} {h : Heap}
theorem zlE (hK : NoK K) {p : Option Addr} {cap : Nat} (hP : TbP T) (hKp : KeptP T.s.length l) (hcap : l.length ≤ cap) (hll : l.length ≤ 1000) (hTb : TbAt T h) (hr : Rd h p (ints l)) (hpb : ∀ a, p = some a → a.block < h.n) :
    CallW Tryz.prog K 34 #[tbV T, .slice p l.length cap] h (OkL (dbts T.s l T.r T.o T.s.length) h) := by
  have hn := hP.1
  have hl2 := hKp.1
  obtain ⟨b, e, own, rfl, hg⟩ := hr.at (by rw [zau]; omega)
  have iK : ∀ {h' : Heap}, Ext h h' → CallW Tryz.prog K 63 #[ktV T (some ⟨b, 0, none⟩) l.length cap] h' (IsV (.bool true) h') := fun x => yes (zgn hK (by omega) hll (hTb.ext x) (hr.ext x) (fun a w => Nat.lt_of_lt_of_le (hpb a w) x.n)) ⟨hP, hKp⟩
  have iD : ∀ {h' : Heap}, Ext h h' → CallW Tryz.prog K 77 #[ktV T (some ⟨b, 0, none⟩) l.length cap] h' (IsL (dbts T.s l T.r T.o T.s.length) h') := fun x => zk6 hK hP hKp hcap hll (hTb.ext x) (x.get hg)
  obtain ⟨q, kq, s, r, o⟩ := T
  dsimp only [tbV, ktV] at iK iD ⊢
  refine body (N := 15) Tryz.func34 rfl (hK _ _ _ rfl) rfl rfl ?_
  (repeat' (first | apply zah | apply zad | (apply O_at; rfl) | (apply zag; rfl) | apply zaf | (apply zaG; rfl) | apply zat | apply zav | apply zaw | ((first | apply zae | apply zac | apply zbf); rfl; rfl; rfl; rfl) | (apply zaF; rfl; rfl; rfl; rfl; exact za6 rfl; (focus repeat' first | exact zaa | assumption | (apply Ext.get; assumption)); (first | exact Nat.le_of_ble_eq_true rfl | (simp; done) | (simp; omega) | (rw [zau]; omega)); rfl) | (apply zaX; rfl; rfl; rfl; rfl; exact zak rfl; rfl; rfl; rfl) | (apply zeY; rfl; rfl; rfl; rfl) | (apply za4; rfl; rfl; rfl; rfl; exact zak rfl; rfl; rfl) | (apply zbi; rfl; rfl; rfl; rfl; exact zak rfl; rfl; rfl) | (apply zaj; rfl; rfl; rfl; rfl; rfl; rfl; exact iK (by (focus repeat' first | exact Ext.refl _ | assumption | apply Ext.push | (refine Ext.trans ?_ (by assumption)))); (rintro _ _ ⟨rfl, _⟩)) | (apply zaj; rfl; rfl; rfl; rfl; rfl; rfl; exact iD (by (focus repeat' first | exact Ext.refl _ | assumption | apply Ext.push | (refine Ext.trans ?_ (by assumption)))); (rintro _ _ ⟨_, _, rfl, _, _⟩)) | fail))
  rename_i rd1 y1
  exact ⟨.inr rfl, _, rfl, _, _, rfl, rd1, by (focus repeat' first | exact Ext.refl _ | assumption | apply Ext.push | (refine Ext.trans ?_ (by assumption)))⟩
end
end Go.AX.Sa

namespace Go.AX.Sa
open Go.Proofs
set_option maxRecDepth 100000
variable {K : Known}
/-! The specification's word; the law of words. -/
end Go.AX.Sa

namespace Go.AX.Sa
open Go.Proofs
set_option maxRecDepth 100000
variable {K : Known}
/-! The theorem of truths. -/
section
variable {s : List (Int × Int)} {l t : List Int} {r o : Int}
end
theorem zgh (hK : NoK K) {l : List Int} {x : Int} {p : Option Addr} {cap : Nat} {h : Heap} (hl : l.length ≤ 1000) (hr : Rd h p (ints l)) :
    CallW Tryz.prog K 37 #[.slice p l.length cap, .int .i64 x] h (IfB (x ∈ l) h) := by
  refine body (N := 18) Tryz.func37 rfl (hK _ _ _ rfl) rfl rfl ?_
  (repeat' (first | apply zah | apply zad | (apply O_at; rfl) | (apply zag; rfl) | apply zaf | apply zal | ((first | apply zae | apply zac); rfl; rfl; rfl; rfl) | fail))
  refine zaT (fun k : Nat => [(5, .int .i64 (k : Nat)), (1, .int .i64 x), (0, .slice p l.length cap)])
    (fun k h' => k ≤ l.length ∧ Ext h h' ∧ ∀ j, j < k → l.getD j 0 ≠ x) (fun k => l.length - k) ?_ 0 ⟨Nat.zero_le _, Ext.refl _, fun j hj => by omega⟩ ?_
  · intro k h' ⟨hk, hx, hj⟩ ih
    by_cases hlt : k < l.length
    · obtain ⟨b, e, own, rfl, hg⟩ := hr.at (by rw [zau]; omega)
      by_cases hc : l.getD k 0 = x
      · (repeat' (first | apply zah | apply zad | (apply O_at; rfl) | (apply zag; rfl) | apply zaf | (apply zaE; rfl) | apply zal | apply zat | apply zav | apply zbq | apply zeZ | apply ze0 | apply zaw | ((first | apply zae | apply zac); rfl; rfl; rfl; rfl) | (apply zaN; rfl; rfl; rfl; rfl; rfl; rfl; exact zao rfl) | (apply zaA; rfl; rfl; rfl; rfl; rfl; omega) | (apply zbC; rfl; rfl; rfl; rfl; rfl; omega) | (apply zbh; rfl; rfl; rfl; rfl; rfl; exact zao rfl; exact zak rfl; (first | assumption | rfl | exact (Int.toNat_of_nonneg (by omega)).symm); omega) | (apply zan; rfl; rfl; rfl; rfl; exact zay rfl; (focus repeat' first | assumption | (apply Ext.get; assumption)); (first | exact zar (by omega) | rfl | assumption)) | fail))
        exact ⟨.inr rfl, _, rfl, .inl ⟨rfl, mem_at.2 ⟨k, hlt, hc⟩, by (focus repeat' first | exact Ext.refl _ | assumption)⟩⟩
      · (repeat' (first | apply zah | apply zad | (apply O_at; rfl) | (apply zag; rfl) | apply zaf | (apply zaE; rfl) | (apply zaG; rfl) | apply zal | apply zat | apply zap | ((first | apply zae | apply zac); rfl; rfl; rfl; rfl) | (apply zaN; rfl; rfl; rfl; rfl; rfl; rfl; exact zao rfl) | (apply zaA; rfl; rfl; rfl; rfl; rfl; omega) | (apply zbR; rfl; rfl; rfl; rfl; rfl; omega) | (apply zaV; rfl; rfl; rfl; rfl; rfl; (unfold fit; omega)) | (apply zbh; rfl; rfl; rfl; rfl; rfl; exact zao rfl; exact zak rfl; (first | assumption | rfl | exact (Int.toNat_of_nonneg (by omega)).symm); omega) | (apply zan; rfl; rfl; rfl; rfl; exact zay rfl; (focus repeat' first | assumption | (apply Ext.get; assumption)); (first | exact zar (by omega) | rfl | assumption)) | fail))
        refine zax (ih (k + 1) _ (by omega) ⟨hlt, by (focus repeat' first | exact Ext.refl _ | assumption), fun j hj' => ?_⟩) (by (focus repeat' first | rfl | exact trivial | apply And.intro))
        by_cases hjk : j = k
        · subst hjk; exact hc
        · exact hj j (by omega)
    · (repeat' (first | apply zah | apply zad | (apply O_at; rfl) | (apply zag; rfl) | apply zaf | (apply zaG; rfl) | apply za2 | apply zav | apply za3 | apply zaI | apply zaM | apply zaw | ((first | apply zae | apply zac); rfl; rfl; rfl; rfl) | (apply zaN; rfl; rfl; rfl; rfl; rfl; rfl; exact zao rfl) | (apply zaR; rfl; rfl; rfl; rfl; rfl; omega) | fail))
      refine ⟨.inr rfl, _, rfl, .inr ⟨rfl, fun q => ?_, by (focus repeat' first | exact Ext.refl _ | assumption)⟩⟩
      obtain ⟨j, hj1, hj2⟩ := mem_at.1 q
      exact absurd hj2 (hj j (by omega))
  · (focus repeat' first | rfl | exact trivial | apply And.intro)
end Go.AX.Sa

namespace Go.AX.Sa
open Go.Proofs
set_option maxRecDepth 100000
variable {K : Known}
/-! Numbers without a sign; where a number comes in a list. -/
section
variable {P : Program} {x : Ctx} {N : Nat} {E : Env} {h : Heap} {ops : Array Oper} {F : Ex → Env → Heap → Prop} {i : Nat}
variable {d : Nat} {ty : TypeId} {pos : String} {af : Array Edge} {g : Option (Nat × Bool)}
theorem conv_op {P : Program} {tm : Array Value} {o : Oper} {src dst : TypeId} {a : Operand} {ki kj k : IntKind} {n : Int} (ho : o.op = .convert src dst a) (hx : ev tm a = .int ki n) (hs : P.underlying src = some (.int kj)) (hd : P.underlying dst = some (.int k)) : plainOp P tm o = some (.int k (k.wrap n)) := by
  have hp : (plainKind o && o.op.operands.toList.all fun x => plain deep (ev tm x)) = true := by
    simp [plainKind, ho, Op.operands, hx, plain, deep]
  unfold plainOp
  rw [if_pos hp]
  have he : execOp (ev tm) o = Sem.bind (convert src dst (ev tm a)) fun v => .pure (Next.value v) := by
    unfold execOp; rw [ho]; rfl
  have e1 : pe P (convert src dst (.int ki n)) = some (.int k (k.wrap n)) := by
    unfold convert
    refine (zam (zaL hs)).trans ?_
    refine (zam (zaL hd)).trans ?_
    rfl
  rw [he, hx, (zam e1).trans rfl]
  rfl
theorem P_conv {src dst : TypeId} {a : Operand} {ki kj k : IntKind} {n m : Int} (hN : Nat.blt d N = true) (hg : gval ops E g = some true) (hk : opsOK P ⟨some d, .convert src dst a, ty, pos, af, g⟩ = true)
    (ha : E.ev a = some (.int ki n)) (hs : P.underlying src = some (.int kj)) (hd : P.underlying dst = some (.int k)) (hw : k.wrap n = m) (kk : R1 P K x N ops F (i + 1) ((d, .int k m) :: E) h) : R2 P K x N ops F i ⟨some d, .convert src dst a, ty, pos, af, g⟩ E h :=
  ⟨fun ho => zaC ho rfl hN hg hk (fun tm hE => by
    have ea := hE.ev ha
    show convertB P tm h ⟨some d, .convert src dst a, ty, pos, af, g⟩ src dst (AX.ev tm a) = _
    rw [ea]
    unfold convertB
    show (plainOp P tm ⟨some d, .convert src dst a, ty, pos, af, g⟩).map (fun v => (v, h)) = _
    rw [conv_op (o := ⟨some d, .convert src dst a, ty, pos, af, g⟩) rfl ea hs hd, hw]; rfl) kk.out⟩
theorem shr_op {P : Program} {tm : Array Value} {o : Oper} {t yt : TypeId} {a b : Operand} {k kb : IntKind} {n : Int} (ho : o.op = .binOp .shr t a b yt) (hx : ev tm a = .int k n) (hy : ev tm b = .int kb 1) (hbits : 1 ≤ k.bits) : plainOp P tm o = some (.int k (n.fdiv 2)) := by
  have hp : (plainKind o && o.op.operands.toList.all fun x => plain deep (ev tm x)) = true := by
    simp [plainKind, ho, Op.operands, hx, hy, plain, deep]
  unfold plainOp
  rw [if_pos hp]
  have he : execOp (ev tm) o = Sem.bind (do eqGuard .shr t a b (ev tm a) (ev tm b); binOp .shr t (ev tm a) (ev tm b)) fun v => .pure (Next.value v) := by
    unfold execOp; rw [ho]; rfl
  rw [he, hx, hy]
  cases k <;> rfl
theorem P_shr1 {t yt : TypeId} {a b : Operand} {k kb : IntKind} {n : Int} (hN : Nat.blt d N = true) (hg : gval ops E g = some true) (hk : opsOK P ⟨some d, .binOp .shr t a b yt, ty, pos, af, g⟩ = true)
    (ha : E.ev a = some (.int k n)) (hb : E.ev b = some (.int kb 1)) (hbits : 1 ≤ k.bits) (kk : R1 P K x N ops F (i + 1) ((d, .int k (n.fdiv 2)) :: E) h) : R2 P K x N ops F i ⟨some d, .binOp .shr t a b yt, ty, pos, af, g⟩ E h :=
  ⟨fun ho => zaC ho rfl hN hg hk (fun tm hE => by
    have ea := hE.ev ha
    have eb := hE.ev hb
    have e := shr_op (P := P) (tm := tm) (o := ⟨some d, .binOp .shr t a b yt, ty, pos, af, g⟩) rfl ea eb hbits
    show (match plainOp P tm ⟨some d, .binOp .shr t a b yt, ty, pos, af, g⟩ with | some v => some (v, h) | none => _) = _
    rw [e]) kk.out⟩
end
end Go.AX.Sa

namespace Go.AX.Sa
open Go.Proofs
set_option maxRecDepth 100000
variable {K : Known}
/-! Where a row comes in a kept list; the list with a row more. -/
theorem wrapU {n : Int} (h : 0 ≤ n ∧ n ≤ 1000000) : IntKind.wrap .u64 n = n := by
  unfold IntKind.wrap
  simp only [IntKind.bits, IntKind.signed, Bool.false_and]
  show n % 18446744073709551616 = n
  omega
theorem unInt : Tryz.prog.underlying 3 = some (.int .i64) := by kernel_rfl
theorem unUint : Tryz.prog.underlying 172 = some (.int .u64) := by kernel_rfl
theorem isNaN_ok (hK : NoK K) {a : Int} {h : Heap} : CallW Tryz.prog K 148 #[.int .i64 a] h (IsV (.bool false) h) := by
  refine body (N := 6) Tryz.func148 rfl (hK _ _ _ rfl) rfl rfl ?_
  (repeat' (first | apply zah | apply zad | (apply O_at; rfl) | (apply zag; rfl) | apply zaf | apply zav | apply zaw | ((first | apply zae | apply zac); rfl; rfl; rfl; rfl) | (apply ziF; rfl; rfl; rfl; rfl; rfl; omega) | fail))
  exact ⟨.inr rfl, _, rfl, rfl, by (focus repeat' first | exact Ext.refl _ | assumption)⟩
theorem zgm (hK : NoK K) {a : Int} {h : Heap} : CallW Tryz.prog K 159 #[.int .i64 a] h (IsV (.bool false) h) := by
  refine body (N := 6) Tryz.func159 rfl (hK _ _ _ rfl) rfl rfl ?_
  (repeat' (first | apply zah | apply zad | (apply O_at; rfl) | (apply zag; rfl) | apply zaf | apply zav | apply zaw | ((first | apply zae | apply zac); rfl; rfl; rfl; rfl) | (apply ziF; rfl; rfl; rfl; rfl; rfl; omega) | fail))
  exact ⟨.inr rfl, _, rfl, rfl, by (focus repeat' first | exact Ext.refl _ | assumption)⟩
theorem zkK (hK : NoK K) {a c : Int} {h : Heap} : CallW Tryz.prog K 147 #[.int .i64 a, .int .i64 c] h (IfB (a < c) h) := by
  refine body (N := 17) Tryz.func147 rfl (hK _ _ _ rfl) rfl rfl ?_
  by_cases hc : a < c
  · (repeat' (first | apply zah | apply zad | (apply O_at; rfl) | (apply zag; rfl) | apply zaf | apply zav | apply zaw | (apply zbj; rfl; rfl; rfl) | ((first | apply zae | apply zac); rfl; rfl; rfl; rfl) | (apply zaJ; rfl; rfl; rfl; rfl; rfl; rfl) | (apply zaA; rfl; rfl; rfl; rfl; rfl; omega) | (apply zaj; rfl; rfl; rfl; rfl; rfl; rfl; exact zgm hK; (rintro _ _ ⟨rfl, _⟩)) | fail))
    exact ⟨.inr rfl, _, rfl, .inl ⟨rfl, hc, by (focus repeat' first | assumption)⟩⟩
  · (repeat' (first | apply zah | apply zad | (apply O_at; rfl) | (apply zag; rfl) | apply zaf | apply zav | apply zaw | (apply zbj; rfl; rfl; rfl) | ((first | apply zae | apply zac); rfl; rfl; rfl; rfl) | (apply zaJ; rfl; rfl; rfl; rfl; rfl; rfl) | (apply zaR; rfl; rfl; rfl; rfl; rfl; omega) | (apply zaj; rfl; rfl; rfl; rfl; rfl; rfl; exact zgm hK; (rintro _ _ ⟨rfl, _⟩)) | fail))
    exact ⟨.inr rfl, _, rfl, .inr ⟨rfl, hc, by (focus repeat' first | assumption)⟩⟩
/-- Where a number comes in a list that grows. -/
def AtP (l : List Int) (x : Int) (a : Nat) : Prop := a ≤ l.length ∧ (∀ m, m < a → l.getD m 0 < x) ∧ ∀ m, a ≤ m → m < l.length → x ≤ l.getD m 0
set_option maxHeartbeats 1000000 in
theorem zkb (hK : NoK K) {l : List Int} {x : Int} {p : Option Addr} {cap : Nat} {h : Heap} (hG : GrowP l) (hl : l.length ≤ 1000) (hr : Rd h p (ints l)) :
    CallW Tryz.prog K 124 #[.slice p l.length cap, .int .i64 x] h (fun v h1 => ∃ (a : Nat) (f : Bool), v = .tuple #[.int .i64 (a : Nat), .bool f] ∧ AtP l x a ∧ Ext h h1) := by
  refine body (N := 54) Tryz.func124 rfl (hK _ _ _ rfl) rfl rfl ?_
  (repeat' (first | apply zah | apply zad | (apply O_at; rfl) | (apply zag; rfl) | apply zaf | apply zal | ((first | apply zae | apply zac); rfl; rfl; rfl; rfl) | (apply zaN; rfl; rfl; rfl; rfl; rfl; rfl; exact zao rfl) | fail))
  refine zaT (fun a : Nat × Nat => [(7, .int .i64 (a.1 : Nat)), (8, .int .i64 (a.2 : Nat)), (6, .int .i64 (l.length : Nat)), (1, .int .i64 x), (0, .slice p l.length cap)])
    (fun a h' => (a.1 ≤ a.2 ∧ a.2 ≤ l.length) ∧ Ext h h' ∧ (∀ m, m < a.1 → l.getD m 0 < x) ∧ ∀ m, a.2 ≤ m → m < l.length → x ≤ l.getD m 0) (fun a => a.2 - a.1) ?_ (0, l.length) ?_ ?_
  · rintro ⟨i, j⟩ h' ⟨hij, hx, h1, h2⟩ ih
    dsimp only at hij h1 h2 ih ⊢
    by_cases hlt : i < j
    · obtain ⟨b, e, own, rfl, hg⟩ := hr.at (by rw [zau]; omega)
      have hg' := hx.get hg
      (repeat' (first | apply zah | apply zad | (apply O_at; rfl) | (apply zag; rfl) | apply zaf | (apply zaE; rfl) | apply zal | apply zat | ((first | apply zae | apply zac); rfl; rfl; rfl; rfl) | (apply zaA; rfl; rfl; rfl; rfl; rfl; omega) | (apply zaV; rfl; rfl; rfl; rfl; rfl; (unfold fit; omega)) | fail))
      apply P_conv; rfl; rfl; rfl; rfl; exact unInt; exact unUint; exact wrapU (by omega)
      (repeat' (first | (apply O_at; rfl) | fail))
      apply P_shr1; rfl; rfl; rfl; rfl; rfl; exact (by decide)
      (repeat' (first | (apply O_at; rfl) | fail))
      have e2 : ((i : Int) + (j : Nat)).fdiv 2 = (((i + j) / 2 : Nat) : Int) := by
        rw [Int.fdiv_eq_ediv_of_nonneg _ (by decide)]; omega
      apply P_conv (m := (((i + j) / 2 : Nat) : Int)); rfl; rfl; rfl; rfl; exact unUint; exact unInt; exact (by rw [e2]; exact zgw (by omega))
      generalize hm : (i + j) / 2 = m
      have hml : m < l.length := by omega
      by_cases hc : l.getD m 0 < x
      · (repeat' (first | apply zah | apply zad | (apply O_at; rfl) | (apply zag; rfl) | apply zaf | (apply zaE; rfl) | apply zap | ((first | apply zae | apply zac); rfl; rfl; rfl; rfl) | (apply zaV; rfl; rfl; rfl; rfl; rfl; (unfold fit; omega)) | (apply zbh; rfl; rfl; rfl; rfl; rfl; exact zao rfl; exact zak rfl; (first | assumption | rfl | exact (Int.toNat_of_nonneg (by omega)).symm); omega) | (apply zan; rfl; rfl; rfl; rfl; exact zay rfl; (focus repeat' first | assumption | (apply Ext.get; assumption)); (first | exact zar (by omega) | rfl | assumption)) | (apply zaj; rfl; rfl; rfl; rfl; rfl; rfl; exact yes (zkK hK) hc; (rintro _ _ ⟨rfl, _⟩)) | fail))
        refine zax (ih (m + 1, j) _ (by dsimp only; omega) ⟨by dsimp only; omega, by (focus repeat' first | exact Ext.refl _ | assumption | (refine Ext.trans ?_ (by assumption))), fun k hk => ?_, h2⟩) (by (focus repeat' first | rfl | exact trivial | apply And.intro))
        dsimp only at hk
        have := keptLe hG (show k ≤ m by omega) hml
        omega
      · (repeat' (first | apply zah | apply zad | (apply O_at; rfl) | (apply zag; rfl) | apply zaf | (apply zaG; rfl) | apply zap | ((first | apply zae | apply zac); rfl; rfl; rfl; rfl) | (apply zbh; rfl; rfl; rfl; rfl; rfl; exact zao rfl; exact zak rfl; (first | assumption | rfl | exact (Int.toNat_of_nonneg (by omega)).symm); omega) | (apply zan; rfl; rfl; rfl; rfl; exact zay rfl; (focus repeat' first | assumption | (apply Ext.get; assumption)); (first | exact zar (by omega) | rfl | assumption)) | (apply zaj; rfl; rfl; rfl; rfl; rfl; rfl; exact no (zkK hK) hc; (rintro _ _ ⟨rfl, _⟩)) | fail))
        refine zax (ih (i, m) _ (by dsimp only; omega) ⟨by dsimp only; omega, by (focus repeat' first | exact Ext.refl _ | assumption | (refine Ext.trans ?_ (by assumption))), h1, fun k hk1 hk2 => ?_⟩) (by (focus repeat' first | rfl | exact trivial | apply And.intro))
        dsimp only at hk1
        have := keptLe hG hk1 hk2
        omega
    · obtain rfl : i = j := by omega
      by_cases hil : i < l.length
      · obtain ⟨b, e, own, rfl, hg⟩ := hr.at (by rw [zau]; omega)
        have hg' := hx.get hg
        by_cases hc : l.getD i 0 = x
        · (repeat' (first | apply zah | apply zad | (apply O_at; rfl) | (apply zag; rfl) | apply zaf | (apply zaG; rfl) | apply za2 | apply zav | apply za3 | apply zaI | apply zaM | apply zaw | (apply zbj; rfl; rfl; rfl) | ((first | apply zae | apply zac); rfl; rfl; rfl; rfl) | (apply zaJ; rfl; rfl; rfl; rfl; rfl; rfl) | (apply zaR; rfl; rfl; rfl; rfl; rfl; omega) | (apply zaA; rfl; rfl; rfl; rfl; rfl; omega) | (apply zbC; rfl; rfl; rfl; rfl; rfl; omega) | (apply zbh; rfl; rfl; rfl; rfl; rfl; exact zao rfl; exact zak rfl; (first | assumption | rfl | exact (Int.toNat_of_nonneg (by omega)).symm); omega) | (apply zan; rfl; rfl; rfl; rfl; exact zay rfl; (focus repeat' first | assumption | (apply Ext.get; assumption)); (first | exact zar (by omega) | rfl | assumption)) | fail))
          exact ⟨.inr rfl, _, rfl, i, true, rfl, ⟨hij.2, h1, h2⟩, by (focus repeat' first | exact Ext.refl _ | assumption | (refine Ext.trans ?_ (by assumption)))⟩
        · (repeat' (first | apply zah | apply zad | (apply O_at; rfl) | (apply zag; rfl) | apply zaf | (apply zaG; rfl) | apply za2 | apply zav | apply za3 | apply zaI | apply zaM | apply zaw | (apply zbj; rfl; rfl; rfl) | ((first | apply zae | apply zac); rfl; rfl; rfl; rfl) | (apply zaJ; rfl; rfl; rfl; rfl; rfl; rfl) | (apply zaR; rfl; rfl; rfl; rfl; rfl; omega) | (apply zaA; rfl; rfl; rfl; rfl; rfl; omega) | (apply zbR; rfl; rfl; rfl; rfl; rfl; omega) | (apply zbh; rfl; rfl; rfl; rfl; rfl; exact zao rfl; exact zak rfl; (first | assumption | rfl | exact (Int.toNat_of_nonneg (by omega)).symm); omega) | (apply zan; rfl; rfl; rfl; rfl; exact zay rfl; (focus repeat' first | assumption | (apply Ext.get; assumption)); (first | exact zar (by omega) | rfl | assumption)) | (apply zaj; rfl; rfl; rfl; rfl; rfl; rfl; exact isNaN_ok hK; (rintro _ _ ⟨rfl, _⟩)) | fail))
          exact ⟨.inr rfl, _, rfl, i, false, rfl, ⟨hij.2, h1, h2⟩, by (focus repeat' first | exact Ext.refl _ | assumption | (refine Ext.trans ?_ (by assumption)))⟩
      · (repeat' (first | apply zah | apply zad | (apply O_at; rfl) | (apply zag; rfl) | apply zaf | (apply zaG; rfl) | apply za2 | apply zav | apply za3 | apply zaI | apply zaM | apply zaw | (apply zbj; rfl; rfl; rfl) | ((first | apply zae | apply zac); rfl; rfl; rfl; rfl) | (apply zaJ; rfl; rfl; rfl; rfl; rfl; rfl) | (apply zaR; rfl; rfl; rfl; rfl; rfl; omega) | fail))
        exact ⟨.inr rfl, _, rfl, i, false, rfl, ⟨hij.2, h1, h2⟩, by (focus repeat' first | exact Ext.refl _ | assumption | (refine Ext.trans ?_ (by assumption)))⟩
  · exact ⟨⟨Nat.zero_le _, Nat.le_refl _⟩, Ext.refl _, fun m hm => absurd hm (Nat.not_lt_zero _), fun m h1 h2 => absurd h2 (by dsimp only at h1; omega)⟩
  · (focus repeat' first | rfl | exact trivial | apply And.intro)
def insL (l : List Int) (i : Nat) (x : Int) : List Int := l.take i ++ x :: l.drop i
theorem zb9 {l : List Int} {i : Nat} {x : Int} (h : i ≤ l.length) : (insL l i x).length = l.length + 1 := by
  simp only [insL, List.length_append, List.length_take, List.length_cons, List.length_drop]; omega
theorem insL_row (l : List Int) (i : Nat) (x : Int) : insRow (ints l) i (.int .i64 x) = ints (insL l i x) := by
  simp [insRow, insL, ints, List.map_append, List.map_take, List.map_drop]
theorem ints_all (l : List Int) : (ints l).all isInt = true := by
  induction l with
  | nil => rfl
  | cons a l ih => simp only [ints, List.map_cons, List.all_cons, isInt, Bool.true_and]; exact ih
theorem zkR (hI : KIn K) {l : List Int} {b vb i : Nat} {x : Int} {h : Heap} (hg : h.get? b = some (.cells (ints l) 3 true)) (hv : h.get? vb = some (.cells [.int .i64 x] 3 true)) (hne : b ≠ vb) (hi : i ≤ l.length) (h0 : 0 < l.length) (h1 : l.length ≤ 1000) :
    CallW Tryz.prog K 125 #[.slice (some ⟨b, 0, none⟩) l.length unk, .int .i64 (i : Nat), .slice (some ⟨vb, 0, none⟩) 1 1] h (fun v h1 => v = .slice (some ⟨h.n, 0, none⟩) (l.length + 1) unk ∧ h1.get? h.n = some (.cells (ints (insL l i x)) 3 true) ∧ ExtBut b h h1) := by
  have e : insK 3 #[.slice (some ⟨b, 0, none⟩) l.length unk, .int .i64 (i : Nat), .slice (some ⟨vb, 0, none⟩) 1 1] h = some (.slice (some ⟨h.n, 0, none⟩) (l.length + 1) unk, [([.int .i64 b], killT), (insRow (ints l) i (.int .i64 x), 3)]) := by
    unfold insK
    simp only [hg, hv]
    rw [if_pos ⟨⟨trivial, by omega, by omega, h0, h1⟩, zau l, trivial, trivial, hne, ints_all l⟩, Int.toNat_natCast]
  have e2 : pushAll h [([.int .i64 b], killT), (insRow (ints l) i (.int .i64 x), 3)] = (h.set b .dead).push (.cells (ints (insL l i x)) 3 true) := by
    rw [insL_row]
    simp only [pushAll, layB, killed, Nat.beq_refl, cond_true, Int.toNat_natCast]
    rfl
  refine CallW.of_known (K := K) ((hI _ _).trans e) ?_
  rw [e2]
  refine ⟨rfl, zaa, ?_⟩
  exact ⟨Nat.le_succ _, fun c y hc g => zab (zbD hg hc g)⟩
end Go.AX.Sa
