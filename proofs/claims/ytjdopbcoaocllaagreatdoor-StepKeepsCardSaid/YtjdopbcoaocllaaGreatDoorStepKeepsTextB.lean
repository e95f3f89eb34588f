/- The law StepKeeps at the reading: what the functions that it calls answer (2). -/
import Derived.Test.YtjdopbcoaocllaaGreatDoorStepKeepsTextA
namespace Go.AX.Sa
open Go.Proofs
set_option maxRecDepth 100000
variable {K : Known}
/-! The theorem of figures: numbers. -/
theorem mixv_lo (a c x y : Int) : mixv a c a x y = x * (c - a) := by
  unfold mixv; rw [Int.sub_self, Int.mul_zero, Int.add_zero]
theorem mixv_hi (a c x y : Int) : mixv a c c x y = y * (c - a) := by
  unfold mixv; rw [Int.sub_self, Int.mul_zero, Int.zero_add]
/-- Between two kept rows, both included. -/
theorem figv_mix {l t : List Int} {r : Int} {i j : Nat} (hG : GrowP l) (hi : i + 1 < l.length) (h1 : l.getD i 0 ≤ (j : Nat)) (h2 : ((j : Nat) : Int) ≤ l.getD (i + 1) 0) :
    figv l t r j = rnd r (mixv (l.getD i 0) (l.getD (i + 1) 0) j (t.getD (l.getD i 0).toNat 0) (t.getD (l.getD (i + 1) 0).toNat 0)) (l.getD (i + 1) 0 - l.getD i 0) := by
  have hg := hG i hi
  by_cases e1 : l.getD i 0 = (j : Nat)
  · rw [zbS hG (by omega) e1, e1, mixv_lo, zgZ (by omega), Int.toNat_natCast]
  · by_cases e2 : l.getD (i + 1) 0 = (j : Nat)
    · rw [zbS hG hi e2, e2, mixv_hi, zgZ (by omega), Int.toNat_natCast]
    · exact zfl hG hi (by omega) (by omega)
theorem mixv_is (a c j x y : Int) : mixv a c j x y = mix a c j x y := rfl
/-- The figure lies between the numbers of the kept rows around it. -/
theorem zhr {l t : List Int} {r lo hi : Int} {i j : Nat} (hG : GrowP l) (hi' : i + 1 < l.length) (h1 : l.getD i 0 ≤ (j : Nat)) (h2 : ((j : Nat) : Int) ≤ l.getD (i + 1) 0)
    (x1 : lo ≤ t.getD (l.getD i 0).toNat 0) (x2 : t.getD (l.getD i 0).toNat 0 ≤ hi) (y1 : lo ≤ t.getD (l.getD (i + 1) 0).toNat 0) (y2 : t.getD (l.getD (i + 1) 0).toNat 0 ≤ hi) :
    lo ≤ figv l t r j ∧ figv l t r j ≤ hi := by
  have hg := hG i hi'
  rw [figv_mix hG hi' h1 h2, mixv_is]
  exact zhh h1 h2 hg x1 x2 y1 y2
/-- A table that is short and as defined, and a kept list of it. -/
def RightT (T : Tb) (l : List Int) : Prop := T.s.length ≤ 16 ∧ l.length ≤ 16 ∧ TbP T ∧ KeptP T.s.length l
end Go.AX.Sa

namespace Go.AX.Sa
open Go.Proofs
set_option maxRecDepth 100000
variable {K : Known}
/-! The theorem of figures. -/
theorem zdb {s : List (Int × Int)} {t : List Int} (hV : Vals s) (hT : TruthP s t) {j : Nat} (hj : j < s.length) : -9999 ≤ t.getD j 0 ∧ t.getD j 0 ≤ 9999 := by
  have h1 := hV j hj
  have h2 := hT.2 j (by rw [hT.1]; exact hj)
  unfold ValP at h1
  omega
theorem zkO {n : Nat} {l : List Int} (hKp : KeptP n l) {i : Nat} (hi : i < l.length) : 0 ≤ l.getD i 0 ∧ l.getD i 0 ≤ (n : Int) - 1 := by
  have a := keptLe hKp.2.2.2 (Nat.zero_le i) hi
  have c := keptLe hKp.2.2.2 (show i ≤ l.length - 1 by omega) (by omega)
  have h0 := hKp.2.1
  have h1 := hKp.2.2.1
  omega
/-- All figures are numbers as rows have them. -/
theorem zc0 {s : List (Int × Int)} {l t : List Int} {r : Int} (hV : Vals s) (hKp : KeptP s.length l) (hT : TruthP s t) {j : Nat} (hj : j < s.length) : -9999 ≤ (figs l t r s.length).getD j 0 ∧ (figs l t r s.length).getD j 0 ≤ 9999 := by
  rw [zc1 hj]
  rcases zkh hKp hj with ⟨i, hi, hij⟩ | ⟨i, hi, h1, h2⟩
  · rw [zbS hKp.2.2.2 hi hij]
    exact zdb hV hT hj
  · have a1 := zkO hKp (i := i) (by omega)
    have a2 := zkO hKp hi
    have b1 := zdb hV hT (j := (l.getD i 0).toNat) (by omega)
    have b2 := zdb hV hT (j := (l.getD (i + 1) 0).toNat) (by omega)
    exact zhr hKp.2.2.2 hi (by omega) (by omega) b1.1 b1.2 b2.1 b2.2
end Go.AX.Sa

namespace Go.AX.Sa
open Go.Proofs
set_option maxRecDepth 100000
variable {K : Known}
/-! The theorem of proportional parts. -/
end Go.AX.Sa

namespace Go.AX.Sa
open Go.Proofs
set_option maxRecDepth 100000
variable {K : Known}
/-! The least ends of spans, and the greatest ones. -/
theorem least_ok (hK : NoK K) {a b : Int} {h : Heap} : CallW Tryz.prog K 145 #[.agg #[.int .i64 a, .int .i64 b]] h (IsV (.int .i64 a) h) := by
  refine body (N := 5) Tryz.func145 rfl (hK _ _ _ rfl) rfl rfl ?_
  (repeat' (first | apply zah | apply zad | (apply O_at; rfl) | (apply zag; rfl) | apply zaf | apply zav | apply zas | (apply zac; rfl; rfl; rfl; rfl) | (apply P_fa; rfl; rfl; rfl; rfl; exact zaQ rfl; (first | exact Nat.zero_add _ | exact Nat.add_zero _ | rfl)) | (apply zao; rfl; rfl; rfl; rfl; exact zay rfl; (focus repeat' first | exact zaa | assumption); (first | rfl | assumption)) | (apply zaY; rfl; rfl; rfl; rfl; exact zam rfl; rfl; rfl) | fail))
  exact ⟨.inr rfl, _, rfl, rfl, by (focus repeat' first | exact Ext.refl _ | assumption | apply Ext.push)⟩
theorem zho (hK : NoK K) {a b : Int} {h : Heap} : CallW Tryz.prog K 146 #[.agg #[.int .i64 a, .int .i64 b]] h (IsV (.int .i64 b) h) := by
  refine body (N := 5) Tryz.func146 rfl (hK _ _ _ rfl) rfl rfl ?_
  (repeat' (first | apply zah | apply zad | (apply O_at; rfl) | (apply zag; rfl) | apply zaf | apply zav | apply zas | (apply zac; rfl; rfl; rfl; rfl) | (apply P_fa; rfl; rfl; rfl; rfl; exact zaQ rfl; (first | exact Nat.zero_add _ | exact Nat.add_zero _ | rfl)) | (apply zao; rfl; rfl; rfl; rfl; exact zay rfl; (focus repeat' first | exact zaa | assumption); (first | rfl | assumption)) | (apply zaY; rfl; rfl; rfl; rfl; exact zam rfl; rfl; rfl) | fail))
  exact ⟨.inr rfl, _, rfl, rfl, by (focus repeat' first | exact Ext.refl _ | assumption | apply Ext.push)⟩
def twoF : Array Value := #[.func (.func 145) #[] #[], .func (.func 146) #[] #[]]
theorem fill146 : fillB Tryz.prog 171 [(0, .func (.func 145) #[] #[]), (1, .func (.func 146) #[] #[])] = some (.agg twoF) := by kernel_rfl
def RdV (h : Heap) (v : Value) (l : List Int) : Prop := ∃ p cap, v = .slice p l.length cap ∧ Rd h p (ints l)
theorem RdV.ext {h h1 : Heap} {v : Value} {l : List Int} (r : RdV h v l) (x : Ext h h1) : RdV h1 v l := by
  obtain ⟨p, cap, e, r⟩ := r
  exact ⟨p, cap, e, r.ext x⟩
theorem OutI.rdV {e : TypeId} {h0 h : Heap} {v : Value} {l : List Int} (o : OutI e h0 h v l) : RdV h v l := by
  rcases o with ⟨rfl, rfl⟩ | ⟨_, b, h1, h2, _⟩
  · exact ⟨none, 0, rfl, .inl rfl⟩
  · exact ⟨_, _, h1, .inr ⟨b, e, true, rfl, h2⟩⟩
def lows (s : List (Int × Int)) : List Int := s.map (·.1)
def highs (s : List (Int × Int)) : List Int := s.map (·.2)
theorem zge {s : List (Int × Int)} {k : Nat} (h : k < s.length) : (lows s).take (k + 1) = (lows s).take k ++ [(s.getD k (0, 0)).1] := by
  rw [List.take_succ_eq_append_getElem (by simpa [lows] using h)]
  simp [lows, List.getD_eq_getElem?_getD, h]
theorem zeP {s : List (Int × Int)} {k : Nat} (h : k < s.length) : (highs s).take (k + 1) = (highs s).take k ++ [(s.getD k (0, 0)).2] := by
  rw [List.take_succ_eq_append_getElem (by simpa [highs] using h)]
  simp [highs, List.getD_eq_getElem?_getD, h]
theorem OutI.one {e : TypeId} {h0 h : Heap} {v : Value} {l : List Int} (o : OutI e h0 h v l) : oneB v = true ∧ v.cells = #[v] := by
  rcases o with ⟨_, rfl⟩ | ⟨_, b, rfl, _⟩ <;> exact ⟨rfl, rfl⟩
theorem OutI.sameV {e : TypeId} {h0 h : Heap} {v : Value} {l : List Int} (o : OutI e h0 h v l) : same 20 v v = true := by
  rcases o with ⟨_, rfl⟩ | ⟨_, b, rfl, _⟩ <;> simp [same]
theorem OutI.withinV {e : TypeId} {h0 h : Heap} {v : Value} {l : List Int} (o : OutI e h0 h v l) {m : Nat} (hm : h.n ≤ m) : within 20 m v = true := by
  rcases o with ⟨_, rfl⟩ | ⟨_, b, rfl, g, _⟩
  · rfl
  · have := Heap.get_lt g
    simp [within]; omega
theorem ends_ok (hK : NoK K) {s : List (Int × Int)} {p : Option Addr} {cap : Nat} {h : Heap} (hp : Rd h p (spanCells s)) (hsl : s.length ≤ 1000) :
    CallW Tryz.prog K 122 #[.slice p s.length cap] h (fun u h1 => ∃ u0 u1, u = .agg #[u0, u1] ∧ RdV h1 u0 (lows s) ∧ RdV h1 u1 (highs s) ∧ Ext h h1) := by
  refine body (N := 34) Tryz.func122 rfl (hK _ _ _ rfl) rfl rfl ?_
  (repeat' (first | apply zah | apply zad | (apply O_at; rfl) | (apply zag; rfl) | apply zaf | (apply zbp; rfl; rfl; rfl; rfl; exact zam rfl; rfl; rfl) | fail))
  apply zer; rfl; rfl; rfl; rfl; exact fill146
  (repeat' (first | apply zah | apply zad | (apply O_at; rfl) | (apply zag; rfl) | apply zaf | apply zan | ((first | apply zae | apply zac | apply zat); rfl; rfl; rfl; rfl) | (apply zaz; rfl; rfl; rfl; rfl; exact za0 rfl; (focus repeat' first | exact zaa | assumption | apply zab | (apply Ext.get; assumption) | (apply ExtBut.get; assumption; (first | assumption | omega | (simp only [Heap.push]; omega)))); (first | exact Nat.le_of_ble_eq_true rfl | (simp; done) | (simp; omega) | (rw [zai]; omega)); (first | exact zaA (by omega) | rfl)) | (apply za9; rfl; rfl; rfl; rfl; exact zam rfl; rfl; rfl; rfl) | (apply zbp; rfl; rfl; rfl; rfl; exact zam rfl; rfl; rfl) | fail))
  refine zaR (fun a : Nat × Value × Value => [(11, .int .i64 (a.1 : Nat)), (10, .agg twoF), (4, .pointer (some ⟨h.n + 2, 0, none⟩)), (2, .pointer (some ⟨h.n, 0, none⟩)), (0, .slice p s.length cap)])
    (fun a h' => a.1 ≤ 2 ∧ h.n + 3 ≤ h'.n ∧ ExtBut (h.n + 2) (h.push (.cells [nilV, nilV] 141 true)) h' ∧ h'.get? (h.n + 2) = some (.cells [a.2.1, a.2.2] 141 true) ∧ (a.1 = 0 → a.2.1 = nilV) ∧ (a.1 ≤ 1 → a.2.2 = nilV) ∧ (0 < a.1 → RdV h' a.2.1 (lows s)) ∧ (1 < a.1 → RdV h' a.2.2 (highs s))) (fun a => 2 - a.1) ?_ (0, nilV, nilV) ?_ ?_
  · rintro ⟨i, v0, v1⟩ h' ⟨hi, hn, hx, hb, z0, z1, r0, r1⟩ ih
    dsimp only at hi hn hx hb z0 z1 r0 r1 ih ⊢
    by_cases hlt : i < 2
    · have hlt' : (i : Int) < 2 := by omega
      rcases (show i = 0 ∨ i = 1 by omega) with rfl | rfl
      · obtain rfl := z0 rfl
        obtain rfl := z1 (by decide)
        (repeat' (first | apply zah | apply zad | (apply O_at; rfl) | (apply zag; rfl) | apply zaf | (apply zaJ; rfl) | apply zan | apply zau | ((first | apply zae | apply zac | apply zat); rfl; rfl; rfl; rfl) | (apply zaX; rfl; rfl; rfl; rfl; rfl; rfl; exact zar rfl) | (apply zaL; rfl; rfl; rfl; rfl; rfl; omega) | (apply zdH; rfl; rfl; rfl; rfl; rfl; (first | assumption | exact zq0 | exact zq1 | rfl | exact (Int.toNat_of_nonneg (by omega)).symm); exact zdx rfl; exact zay rfl; (first | decide | omega); rfl) | fail))
        refine zaR (fun a : Nat × Value => [(17, .int .i64 (a.1 : Nat)), (16, .int .i64 (s.length : Nat)), (15, .slice p s.length cap), (5, .int .i64 ((0 : Nat) : Int)), (6, .func (.func 145) #[] #[]), (11, .int .i64 ((0 : Nat) : Int)), (10, .agg twoF), (4, .pointer (some ⟨h.n + 2, 0, none⟩)), (2, .pointer (some ⟨h.n, 0, none⟩)), (0, .slice p s.length cap)])
          (fun a h2 => a.1 ≤ s.length ∧ ExtBut (h.n + 2) h' h2 ∧ OutI 3 h' h2 a.2 ((lows s).take a.1) ∧ h2.get? (h.n + 2) = some (.cells [a.2, nilV] 141 true)) (fun a => s.length - a.1) ?_ (0, nilV) ?_ ?_
        · rintro ⟨k, v⟩ h2 ⟨hk, hx2, ho, hb2⟩ ih2
          dsimp only at hk hx2 hb2 ih2 ⊢
          replace ho : OutI 3 h' h2 v ((lows s).take k) := ho
          by_cases hks : k < s.length
          · obtain ⟨bs, es, owns, rfl, hg⟩ := hp.at (by rw [zai]; omega)
            have hbs : bs < h.n := Heap.get_lt hg
            have hg1 : h2.get? bs = some (.cells (spanCells s) es owns) := hx2.get (by omega) (hx.get (by omega) (zab hg))
            have hle : ((lows s).take k).length ≤ 10000 := by rw [List.length_take]; omega
            obtain ⟨one1, one2⟩ := OutI.one (e := 3) (h0 := h') ho
            have hn2 := hx2.n
            have hsv := OutI.sameV (e := 3) (h0 := h') ho
            have hwv : ∀ blk, within 20 (h2.push blk).n v = true := fun blk => OutI.withinV (e := 3) (h0 := h') ho (Nat.le_succ _)
            (repeat' (first | apply zah | apply zad | (apply O_at; rfl) | (apply N_at; rfl) | (apply zag; rfl) | apply zaf | (apply zaJ; rfl) | (apply zbE; exact zaO (by decide +kernel)) | apply zan | apply zau | ((first | apply zae | apply zac | apply zat); rfl; rfl; rfl; rfl) | (apply zaL; rfl; rfl; rfl; rfl; rfl; omega) | (apply zc8; rfl; rfl; rfl; rfl; rfl; exact zar rfl; exact zam rfl; (first | assumption | exact zq0 | exact zq1 | rfl | exact (Int.toNat_of_nonneg (by omega)).symm); omega) | (apply zaz; rfl; rfl; rfl; rfl; exact za0 rfl; (focus repeat' first | exact zaa | assumption | apply zab | (apply Ext.get; assumption) | (apply ExtBut.get; assumption; (first | assumption | omega | (simp only [Heap.push]; omega)))); (first | exact Nat.le_of_ble_eq_true rfl | (simp; done) | (simp; omega) | (rw [zai]; omega)); (first | exact zaA (by omega) | rfl)) | (apply za9; rfl; rfl; rfl; rfl; exact zam rfl; rfl; rfl; rfl) | (apply zbp; rfl; rfl; rfl; rfl; exact zam rfl; rfl; rfl) | (apply zfy; rfl; rfl; rfl; rfl; rfl; rfl; rfl; exact zbO rfl) | ((first | ((apply ziM; rfl; rfl; rfl; rfl; exact zay rfl; exact zdk (by decide +kernel)); (focus repeat' first | exact zaa | assumption | apply zab | (apply Ext.get; assumption) | (apply ExtBut.get; assumption; (first | assumption | omega | (simp only [Heap.push]; omega)))); (first | rfl | assumption)) | ((apply ziL; rfl; rfl; rfl; rfl; exact za0 rfl; exact zbT (by decide +kernel)); (focus repeat' first | exact zaa | assumption | apply zab | (apply Ext.get; assumption) | (apply ExtBut.get; assumption; (first | assumption | omega | (simp only [Heap.push]; omega)))); (first | exact Nat.le_of_ble_eq_true rfl | (simp; done) | (simp; omega) | (rw [zai]; omega)); (first | exact zaA (by omega) | rfl))); (first | assumption | exact zdO _ _ | rfl | (focus simp [same, same.all2]; done)); (first | rfl | assumption | exact hwv _ | (simp [within]; omega))) | (apply zgE; rfl; rfl; rfl; rfl; rfl; exact zdx rfl; exact zam rfl; (first | assumption | exact zq0 | exact zq1 | rfl | exact (Int.toNat_of_nonneg (by omega)).symm); omega) | (apply zbe; rfl; rfl; rfl; rfl; rfl; rfl; rfl; exact least_ok hK; (rintro _ _ ⟨rfl, _⟩)) | fail))
            rename_i h3 hx3
            have hb3 : h3.get? (h.n + 2) = some (.cells [v, nilV] 141 true) := hx3.get (zab hb2)
            apply zlx (h0 := h'); rfl; rfl; rfl; rfl; rfl; rfl; rfl; rfl; exact zbO rfl; exact zar rfl; exact zaa; exact OutI.ext (e := 3) (h0 := h') ho (by (focus repeat' first | exact Ext.refl _ | assumption | apply Ext.push | (refine Ext.trans ?_ (by assumption)) | (refine Ext.ofBut ?_ (by assumption) (by first | exact Nat.le_refl _ | omega)))); exact (by have := hx3.n; simp only [Heap.push] at this ⊢; omega); exact hle; rfl
            intro v3 h4 ho4 k4
            replace ho4 : OutI 3 h' h4 v3 ((lows s).take (k + 1)) := by rw [zge hks]; exact ho4
            have hb4 : h4.get? (h.n + 2) = some (.cells [v, nilV] 141 true) := k4.lo (by omega) (zab hb3)
            obtain ⟨on1, on2⟩ := OutI.one (e := 3) (h0 := h') ho4
            (repeat' (first | (apply N_at; rfl) | (apply zgE; rfl; rfl; rfl; rfl; rfl; exact zdx rfl; exact zam rfl; (first | assumption | exact zq0 | exact zq1 | rfl | exact (Int.toNat_of_nonneg (by omega)).symm); omega) | fail))
            apply ziK (c' := [v3, nilV]); rfl; rfl; rfl; rfl; exact hb4; exact zam rfl; exact (by rw [on2]; rfl); exact (by simp); exact (by rw [on2]; simp [on1]); exact (by rw [on2]; rfl); rfl
            intro h5 hb5 hx5
            have hx25 : ExtBut (h.n + 2) h' h5 := ⟨by have q1 := k4.n; have q2 := hx5.n; have q3 := hx3.n; simp only [Heap.push] at q1 q2 q3; omega, fun c x hne g => hx5.get hne (k4.lo (Heap.get_lt g) (zab (hx3.get (zab (hx2.get hne g)))))⟩
            have ho5 : OutI 3 h' h5 v3 ((lows s).take (k + 1)) := OutI.but (h0 := h') ho4 hx5 (by omega)
            (repeat' (first | apply zad | (apply O_at; rfl) | (apply zag; rfl) | apply zaf | (apply zcJ; rfl; refine .inr ?_; (focus repeat' first | exact trivial | exact Keeps.nil _ _ | apply And.intro | rfl | (apply Keeps.cons; iterate 2 (focus repeat' first | exact zaa | assumption | apply zab | (apply Ext.get; assumption) | (apply ExtBut.get; assumption; (first | assumption | omega | (simp only [Heap.push]; omega))))))) | apply zaq | ((first | apply zae | apply zac | apply zat); rfl; rfl; rfl; rfl) | (apply zba; rfl; rfl; rfl; rfl; rfl; (unfold fit; omega)) | fail))
            exact zaC (ih2 (k + 1, v3) _ (by dsimp only; omega) ⟨hks, hx25, ho5, hb5⟩) (by (focus repeat' first | rfl | exact trivial | apply And.intro))
          · have hks' : k = s.length := by omega
            subst hks'
            (repeat' (first | apply zah | apply zad | (apply O_at; rfl) | (apply zag; rfl) | apply zaf | (apply zaK; rfl) | apply za7 | apply za8 | apply zaS | apply zaT | apply zaq | ((first | apply zae | apply zac | apply zat); rfl; rfl; rfl; rfl) | (apply zbb; rfl; rfl; rfl; rfl; rfl; omega) | (apply zba; rfl; rfl; rfl; rfl; rfl; (unfold fit; omega)) | fail))
            have hl : (lows s).take s.length = lows s := List.take_of_length_le (by simp [lows])
            rw [hl] at ho
            exact zaC (ih (1, v, nilV) _ (by dsimp only; omega) ⟨by dsimp only; omega, by have := hx2.n; omega, hx.trans hx2, hb2, fun q => absurd q (by dsimp only; omega), fun _ => rfl, fun _ => OutI.rdV (e := 3) (h0 := h') ho, fun q => absurd q (by dsimp only; omega)⟩) (by (focus repeat' first | rfl | exact trivial | apply And.intro))
        · exact ⟨Nat.zero_le _, ExtBut.refl _ _, OutI.nil _ _ _, hb⟩
        · (focus repeat' first | rfl | exact trivial | apply And.intro)
      · obtain rfl := z1 (by decide)
        obtain ⟨p0, c0, rfl, rd0⟩ := r0 (by decide)
        (repeat' (first | apply zah | apply zad | (apply O_at; rfl) | (apply zag; rfl) | apply zaf | (apply zaJ; rfl) | apply zan | apply zau | ((first | apply zae | apply zac | apply zat); rfl; rfl; rfl; rfl) | (apply zaX; rfl; rfl; rfl; rfl; rfl; rfl; exact zar rfl) | (apply zaL; rfl; rfl; rfl; rfl; rfl; omega) | (apply zdH; rfl; rfl; rfl; rfl; rfl; (first | assumption | exact zq0 | exact zq1 | rfl | exact (Int.toNat_of_nonneg (by omega)).symm); exact zdx rfl; exact zay rfl; (first | decide | omega); rfl) | fail))
        refine zaR (fun a : Nat × Value => [(17, .int .i64 (a.1 : Nat)), (16, .int .i64 (s.length : Nat)), (15, .slice p s.length cap), (5, .int .i64 ((1 : Nat) : Int)), (6, .func (.func 146) #[] #[]), (11, .int .i64 ((1 : Nat) : Int)), (10, .agg twoF), (4, .pointer (some ⟨h.n + 2, 0, none⟩)), (2, .pointer (some ⟨h.n, 0, none⟩)), (0, .slice p s.length cap)])
          (fun a h2 => a.1 ≤ s.length ∧ ExtBut (h.n + 2) h' h2 ∧ OutI 3 h' h2 a.2 ((highs s).take a.1) ∧ h2.get? (h.n + 2) = some (.cells [.slice p0 (lows s).length c0, a.2] 141 true)) (fun a => s.length - a.1) ?_ (0, nilV) ?_ ?_
        · rintro ⟨k, v⟩ h2 ⟨hk, hx2, ho, hb2⟩ ih2
          dsimp only at hk hx2 hb2 ih2 ⊢
          replace ho : OutI 3 h' h2 v ((highs s).take k) := ho
          by_cases hks : k < s.length
          · obtain ⟨bs, es, owns, rfl, hg⟩ := hp.at (by rw [zai]; omega)
            have hbs : bs < h.n := Heap.get_lt hg
            have hg1 : h2.get? bs = some (.cells (spanCells s) es owns) := hx2.get (by omega) (hx.get (by omega) (zab hg))
            have hle : ((highs s).take k).length ≤ 10000 := by rw [List.length_take]; omega
            obtain ⟨one1, one2⟩ := OutI.one (e := 3) (h0 := h') ho
            have hn2 := hx2.n
            have hsv := OutI.sameV (e := 3) (h0 := h') ho
            have hwv : ∀ blk, within 20 (h2.push blk).n v = true := fun blk => OutI.withinV (e := 3) (h0 := h') ho (Nat.le_succ _)
            (repeat' (first | apply zah | apply zad | (apply O_at; rfl) | (apply N_at; rfl) | (apply zag; rfl) | apply zaf | (apply zaJ; rfl) | (apply zbE; exact zaO (by decide +kernel)) | apply zan | apply zau | ((first | apply zae | apply zac | apply zat); rfl; rfl; rfl; rfl) | (apply zaL; rfl; rfl; rfl; rfl; rfl; omega) | (apply zc8; rfl; rfl; rfl; rfl; rfl; exact zar rfl; exact zam rfl; (first | assumption | exact zq0 | exact zq1 | rfl | exact (Int.toNat_of_nonneg (by omega)).symm); omega) | (apply zaz; rfl; rfl; rfl; rfl; exact za0 rfl; (focus repeat' first | exact zaa | assumption | apply zab | (apply Ext.get; assumption) | (apply ExtBut.get; assumption; (first | assumption | omega | (simp only [Heap.push]; omega)))); (first | exact Nat.le_of_ble_eq_true rfl | (simp; done) | (simp; omega) | (rw [zai]; omega)); (first | exact zaA (by omega) | rfl)) | (apply za9; rfl; rfl; rfl; rfl; exact zam rfl; rfl; rfl; rfl) | (apply zbp; rfl; rfl; rfl; rfl; exact zam rfl; rfl; rfl) | (apply zfy; rfl; rfl; rfl; rfl; rfl; rfl; rfl; exact zbO rfl) | ((first | ((apply ziM; rfl; rfl; rfl; rfl; exact zay rfl; exact zdk (by decide +kernel)); (focus repeat' first | exact zaa | assumption | apply zab | (apply Ext.get; assumption) | (apply ExtBut.get; assumption; (first | assumption | omega | (simp only [Heap.push]; omega)))); (first | rfl | assumption)) | ((apply ziL; rfl; rfl; rfl; rfl; exact za0 rfl; exact zbT (by decide +kernel)); (focus repeat' first | exact zaa | assumption | apply zab | (apply Ext.get; assumption) | (apply ExtBut.get; assumption; (first | assumption | omega | (simp only [Heap.push]; omega)))); (first | exact Nat.le_of_ble_eq_true rfl | (simp; done) | (simp; omega) | (rw [zai]; omega)); (first | exact zaA (by omega) | rfl))); (first | assumption | exact zdO _ _ | rfl | (focus simp [same, same.all2]; done)); (first | rfl | assumption | exact hwv _ | (simp [within]; omega))) | (apply zgE; rfl; rfl; rfl; rfl; rfl; exact zdx rfl; exact zam rfl; (first | assumption | exact zq0 | exact zq1 | rfl | exact (Int.toNat_of_nonneg (by omega)).symm); omega) | (apply zbe; rfl; rfl; rfl; rfl; rfl; rfl; rfl; exact zho hK; (rintro _ _ ⟨rfl, _⟩)) | fail))
            rename_i h3 hx3
            have hb3 : h3.get? (h.n + 2) = some (.cells [.slice p0 (lows s).length c0, v] 141 true) := hx3.get (zab hb2)
            apply zlx (h0 := h'); rfl; rfl; rfl; rfl; rfl; rfl; rfl; rfl; exact zbO rfl; exact zar rfl; exact zaa; exact OutI.ext (e := 3) (h0 := h') ho (by (focus repeat' first | exact Ext.refl _ | assumption | apply Ext.push | (refine Ext.trans ?_ (by assumption)) | (refine Ext.ofBut ?_ (by assumption) (by first | exact Nat.le_refl _ | omega)))); exact (by have := hx3.n; simp only [Heap.push] at this ⊢; omega); exact hle; rfl
            intro v3 h4 ho4 k4
            replace ho4 : OutI 3 h' h4 v3 ((highs s).take (k + 1)) := by rw [zeP hks]; exact ho4
            have hb4 : h4.get? (h.n + 2) = some (.cells [.slice p0 (lows s).length c0, v] 141 true) := k4.lo (by omega) (zab hb3)
            obtain ⟨on1, on2⟩ := OutI.one (e := 3) (h0 := h') ho4
            (repeat' (first | (apply N_at; rfl) | (apply zgE; rfl; rfl; rfl; rfl; rfl; exact zdx rfl; exact zam rfl; (first | assumption | exact zq0 | exact zq1 | rfl | exact (Int.toNat_of_nonneg (by omega)).symm); omega) | fail))
            apply ziK (c' := [.slice p0 (lows s).length c0, v3]); rfl; rfl; rfl; rfl; exact hb4; exact zam rfl; exact (by rw [on2]; rfl); exact (by simp); exact (by rw [on2]; simp [on1]); exact (by rw [on2]; rfl); rfl
            intro h5 hb5 hx5
            have hx25 : ExtBut (h.n + 2) h' h5 := ⟨by have q1 := k4.n; have q2 := hx5.n; have q3 := hx3.n; simp only [Heap.push] at q1 q2 q3; omega, fun c x hne g => hx5.get hne (k4.lo (Heap.get_lt g) (zab (hx3.get (zab (hx2.get hne g)))))⟩
            have ho5 : OutI 3 h' h5 v3 ((highs s).take (k + 1)) := OutI.but (h0 := h') ho4 hx5 (by omega)
            (repeat' (first | apply zad | (apply O_at; rfl) | (apply zag; rfl) | apply zaf | (apply zcJ; rfl; refine .inr ?_; (focus repeat' first | exact trivial | exact Keeps.nil _ _ | apply And.intro | rfl | (apply Keeps.cons; iterate 2 (focus repeat' first | exact zaa | assumption | apply zab | (apply Ext.get; assumption) | (apply ExtBut.get; assumption; (first | assumption | omega | (simp only [Heap.push]; omega))))))) | apply zaq | ((first | apply zae | apply zac | apply zat); rfl; rfl; rfl; rfl) | (apply zba; rfl; rfl; rfl; rfl; rfl; (unfold fit; omega)) | fail))
            exact zaC (ih2 (k + 1, v3) _ (by dsimp only; omega) ⟨hks, hx25, ho5, hb5⟩) (by (focus repeat' first | rfl | exact trivial | apply And.intro))
          · have hks' : k = s.length := by omega
            subst hks'
            (repeat' (first | apply zah | apply zad | (apply O_at; rfl) | (apply zag; rfl) | apply zaf | (apply zaK; rfl) | apply za7 | apply za8 | apply zaS | apply zaT | apply zaq | ((first | apply zae | apply zac | apply zat); rfl; rfl; rfl; rfl) | (apply zbb; rfl; rfl; rfl; rfl; rfl; omega) | (apply zba; rfl; rfl; rfl; rfl; rfl; (unfold fit; omega)) | fail))
            have hl : (highs s).take s.length = highs s := List.take_of_length_le (by simp [highs])
            rw [hl] at ho
            have rd2 : Rd h2 p0 (ints (lows s)) := by
              rcases rd0 with r | ⟨b, e, own, rfl, g⟩
              · exact .inl r
              · refine .inr ⟨b, e, own, rfl, hx2.get (fun q => ?_) g⟩
                subst q
                rw [hb] at g
                cases hls : lows s with
                | nil => rw [hls] at g; cases g
                | cons z l => rw [hls] at g; cases g
            exact zaC (ih (2, .slice p0 (lows s).length c0, v) _ (by dsimp only; omega) ⟨by dsimp only; omega, by have := hx2.n; omega, hx.trans hx2, hb2, fun q => absurd q (by dsimp only; omega), fun q => absurd q (by dsimp only; omega), fun _ => ⟨p0, c0, rfl, rd2⟩, fun _ => OutI.rdV (e := 3) (h0 := h') ho⟩) (by (focus repeat' first | rfl | exact trivial | apply And.intro))
        · exact ⟨Nat.zero_le _, ExtBut.refl _ _, OutI.nil _ _ _, hb⟩
        · (focus repeat' first | rfl | exact trivial | apply And.intro)
    · have : i = 2 := by omega
      subst this
      obtain ⟨p0, c0, rfl, rd0⟩ := r0 (by decide)
      obtain ⟨p1, c1, rfl, rd1⟩ := r1 (by decide)
      have hg0 : h'.get? h.n = some (.cells [nilV, nilV] 141 true) := hx.get (by omega) zaa
      have hx0 : Ext h h' := Ext.ofBut ((Ext.refl _).push _) hx (by omega)
      (repeat' (first | apply zah | apply zad | (apply O_at; rfl) | (apply zag; rfl) | apply zaf | (apply zaK; rfl) | apply za7 | apply zav | apply za8 | apply zaS | apply zaT | apply zas | (apply zbb; rfl; rfl; rfl; rfl; rfl; omega) | (apply zaz; rfl; rfl; rfl; rfl; exact za0 rfl; (focus repeat' first | exact zaa | assumption | apply zab | (apply Ext.get; assumption) | (apply ExtBut.get; assumption; (first | assumption | omega | (simp only [Heap.push]; omega)))); (first | exact Nat.le_of_ble_eq_true rfl | (simp; done) | (simp; omega) | (rw [zai]; omega)); (first | exact zaA (by omega) | rfl)) | (apply zfw; rfl; rfl; rfl; rfl; (focus repeat' first | exact zaa | assumption | apply zab | (apply Ext.get; assumption) | (apply ExtBut.get; assumption; (first | assumption | omega | (simp only [Heap.push]; omega)))); exact zam rfl; rfl; (first | rfl | exact zaw _); rfl; (intro _ _ _)) | fail))
      rename_i h4 hb4 hx4
      have e4 : Ext h h4 := Ext.ofBut hx0 hx4 (Nat.le_refl _)
      have hlo : ∀ {q : Option Addr} {l : List Int}, Rd h' q (ints l) → Rd h4 q (ints l) := by
        intro q l r
        rcases r with r | ⟨b, e, own, rfl, g⟩
        · exact .inl r
        · refine .inr ⟨b, e, own, rfl, hx4.get (fun q => ?_) g⟩
          subst q
          rw [hg0] at g
          cases l with
          | nil => cases g
          | cons z l => cases g
      exact ⟨.inr rfl, _, zh4 rfl (readA (za0 rfl) hb4 (Nat.le_of_ble_eq_true rfl) rfl) rfl, _, _, rfl, ⟨p0, c0, rfl, hlo rd0⟩, ⟨p1, c1, rfl, hlo rd1⟩, e4⟩
  · refine ⟨by decide, Nat.le_refl _, ((Ext.refl _).push _ |>.push _).but _, zaa, fun _ => rfl, fun _ => rfl, fun q => absurd q (by dsimp only; omega), fun q => absurd q (by dsimp only; omega)⟩
  · (focus repeat' first | rfl | exact trivial | apply And.intro)
end Go.AX.Sa

namespace Go.AX.Sa
open Go.Proofs
set_option maxRecDepth 100000
variable {K : Known}
/-! By how much figures can differ from their numbers. -/
theorem mem_at {l : List Int} {x : Int} : x ∈ l ↔ ∃ k, k < l.length ∧ l.getD k 0 = x := by
  rw [List.mem_iff_getElem]
  constructor
  · rintro ⟨k, hk, e⟩
    exact ⟨k, hk, by simpa [List.getD_eq_getElem?_getD, hk] using e⟩
  · rintro ⟨k, hk, e⟩
    exact ⟨k, hk, by simpa [List.getD_eq_getElem?_getD, hk] using e⟩
theorem index_ok (hK : NoK K) {l : List Int} {x : Int} {p : Option Addr} {cap : Nat} {h : Heap} (hl : l.length ≤ 1000) (hr : Rd h p (ints l)) :
    CallW Tryz.prog K 123 #[.slice p l.length cap, .int .i64 x] h fun v h1 => ∃ n : Int, v = .int .i64 n ∧ (0 ≤ n ↔ x ∈ l) ∧ Ext h h1 := by
  refine body (N := 19) Tryz.func123 rfl (hK _ _ _ rfl) rfl rfl ?_
  (repeat' (first | apply zah | apply zad | (apply O_at; rfl) | (apply zag; rfl) | apply zaf | apply zan | ((first | apply zae | apply zac); rfl; rfl; rfl; rfl) | (apply zaX; rfl; rfl; rfl; rfl; rfl; rfl; exact zar rfl) | fail))
  refine zaR (fun k : Nat => [(8, .int .i64 (k : Nat)), (7, .int .i64 (l.length : Nat)), (1, .int .i64 x), (0, .slice p l.length cap)])
    (fun k h' => k ≤ l.length ∧ Ext h h' ∧ ∀ j, j < k → l.getD j 0 ≠ x) (fun k => l.length - k) ?_ 0 ⟨Nat.zero_le _, Ext.refl _, fun j hj => by omega⟩ ?_
  · intro k h' ⟨hk, hx, hj⟩ ih
    by_cases hlt : k < l.length
    · obtain ⟨b, e, own, rfl, hg⟩ := hr.at (by rw [zaw]; omega)
      by_cases hc : x = l.getD k 0
      · (repeat' (first | apply zah | apply zad | (apply O_at; rfl) | (apply zag; rfl) | apply zaf | (apply zaJ; rfl) | apply zan | apply zau | apply zav | apply zbF | apply ziN | apply ziO | apply zas | ((first | apply zae | apply zac); rfl; rfl; rfl; rfl) | (apply zaL; rfl; rfl; rfl; rfl; rfl; omega) | (apply zcj; rfl; rfl; rfl; rfl; rfl; omega) | (apply zb3; rfl; rfl; rfl; rfl; rfl; exact zar rfl; exact zam rfl; (first | assumption | rfl | exact (Int.toNat_of_nonneg (by omega)).symm); omega) | (apply zao; rfl; rfl; rfl; rfl; exact zay rfl; (focus repeat' first | assumption | (apply Ext.get; assumption)); (first | exact zaB (by omega) | rfl | assumption)) | fail))
        exact ⟨.inr rfl, _, rfl, (k : Int), rfl, ⟨fun _ => mem_at.2 ⟨k, hlt, hc.symm⟩, fun _ => by omega⟩, by (focus repeat' first | exact Ext.refl _ | assumption)⟩
      · (repeat' (first | apply zah | apply zad | (apply O_at; rfl) | (apply zag; rfl) | apply zaf | (apply zaJ; rfl) | (apply zaK; rfl) | apply zan | apply zau | apply zaq | ((first | apply zae | apply zac); rfl; rfl; rfl; rfl) | (apply zaL; rfl; rfl; rfl; rfl; rfl; omega) | (apply zeq; rfl; rfl; rfl; rfl; rfl; omega) | (apply zba; rfl; rfl; rfl; rfl; rfl; (unfold fit; omega)) | (apply zb3; rfl; rfl; rfl; rfl; rfl; exact zar rfl; exact zam rfl; (first | assumption | rfl | exact (Int.toNat_of_nonneg (by omega)).symm); omega) | (apply zao; rfl; rfl; rfl; rfl; exact zay rfl; (focus repeat' first | assumption | (apply Ext.get; assumption)); (first | exact zaB (by omega) | rfl | assumption)) | fail))
        refine zaC (ih (k + 1) _ (by omega) ⟨hlt, by (focus repeat' first | exact Ext.refl _ | assumption), fun j hj' => ?_⟩) (by (focus repeat' first | rfl | exact trivial | apply And.intro))
        by_cases hjk : j = k
        · subst hjk; exact fun w => hc w.symm
        · exact hj j (by omega)
    · (repeat' (first | apply zah | apply zad | (apply O_at; rfl) | (apply zag; rfl) | apply zaf | (apply zaK; rfl) | apply za7 | apply zav | apply za8 | apply zaS | apply zaT | apply zas | ((first | apply zae | apply zac); rfl; rfl; rfl; rfl) | (apply zbb; rfl; rfl; rfl; rfl; rfl; omega) | fail))
      refine ⟨.inr rfl, _, rfl, -1, rfl, ⟨fun q => by omega, fun q => ?_⟩, by (focus repeat' first | exact Ext.refl _ | assumption)⟩
      obtain ⟨j, hj1, hj2⟩ := mem_at.1 q
      exact absurd hj2 (hj j (by omega))
  · (focus repeat' first | rfl | exact trivial | apply And.intro)
theorem zeh (hK : NoK K) {l : List Int} {x : Int} {p : Option Addr} {cap : Nat} {h : Heap} (hl : l.length ≤ 1000) (hr : Rd h p (ints l)) :
    CallW Tryz.prog K 86 #[.slice p l.length cap, .int .i64 x] h (IfB (x ∈ l) h) := by
  refine body (N := 9) Tryz.func86 rfl (hK _ _ _ rfl) rfl rfl ?_
  (repeat' (first | apply zah | apply zad | (apply O_at; rfl) | (apply zag; rfl) | apply zaf | ((first | apply zae | apply zac); rfl; rfl; rfl; rfl) | fail))
  apply zaj; rfl; rfl; rfl; rfl; rfl; rfl; exact index_ok hK hl hr
  rintro _ _ ⟨n, rfl, hn, hx⟩
  by_cases hc : 0 ≤ n
  · (repeat' (first | (apply O_at; rfl) | (apply zag; rfl) | apply zaf | apply zav | apply zas | ((first | apply zae | apply zac); rfl; rfl; rfl; rfl) | (apply ziG; rfl; rfl; rfl; rfl; rfl; omega) | fail))
    exact ⟨.inr rfl, _, rfl, .inl ⟨rfl, hn.1 hc, by (focus repeat' first | assumption)⟩⟩
  · (repeat' (first | (apply O_at; rfl) | (apply zag; rfl) | apply zaf | apply zav | apply zas | ((first | apply zae | apply zac); rfl; rfl; rfl; rfl) | (apply zlp; rfl; rfl; rfl; rfl; rfl; omega) | fail))
    exact ⟨.inr rfl, _, rfl, .inr ⟨rfl, fun q => hc (hn.2 q), by (focus repeat' first | assumption)⟩⟩
theorem zcX (s : List (Int × Int)) : (lows s).length = s.length := by simp [lows]
theorem zcd (s : List (Int × Int)) : (highs s).length = s.length := by simp [highs]
theorem lows_get {s : List (Int × Int)} {j : Nat} (h : j < s.length) : (lows s).getD j 0 = (s.getD j (0, 0)).1 := by simp [lows, List.getD_eq_getElem?_getD, h]
theorem zkX {s : List (Int × Int)} {j : Nat} (h : j < s.length) : (highs s).getD j 0 = (s.getD j (0, 0)).2 := by simp [highs, List.getD_eq_getElem?_getD, h]
theorem zcp {s : List (Int × Int)} (hV : Vals s) : TruthP s (lows s) := by
  refine ⟨zcX s, fun k hk => ?_⟩
  rw [zcX] at hk
  have := hV k hk
  unfold ValP at this
  rw [lows_get hk]; omega
theorem zbY {s : List (Int × Int)} (hV : Vals s) : TruthP s (highs s) := by
  refine ⟨zcd s, fun k hk => ?_⟩
  rw [zcd] at hk
  have := hV k hk
  unfold ValP at this
  rw [zkX hk]; omega
def offv (s : List (Int × Int)) (l : List Int) (r : Int) (j : Nat) : Int :=
  if ((j : Nat) : Int) ∈ l then 0 else max ((s.getD j (0, 0)).2 - figv l (lows s) r j) (figv l (highs s) r j - (s.getD j (0, 0)).1)
def offs (s : List (Int × Int)) (l : List Int) (r : Int) (k : Nat) : List Int := (List.range k).map (offv s l r)
theorem zcW (s : List (Int × Int)) (l : List Int) (r : Int) (k : Nat) : (offs s l r k).length = k := by simp [offs]
theorem zga (s : List (Int × Int)) (l : List Int) (r : Int) (k : Nat) : offs s l r (k + 1) = offs s l r k ++ [offv s l r k] := by simp [offs, List.range_succ]
theorem zh8 {s : List (Int × Int)} {l : List Int} {r : Int} {k j : Nat} (h : j < k) : (offs s l r k).getD j 0 = offv s l r j := by
  simp [offs, List.getD_eq_getElem?_getD, h]
theorem row_keep {l : List Int} {n : Nat} (h : l.length < n) : l ++ List.replicate (n - l.length) 0 = (l ++ [0]) ++ List.replicate (n - (l.length + 1)) 0 := by
  rw [show n - l.length = (n - (l.length + 1)) + 1 by omega, List.replicate_succ, List.append_assoc]
  rfl
theorem Rd.butV {h h1 : Heap} {b0 : Nat} {q p : Option Addr} {l : List Int} {n c : Nat} {u : Value} {t : TypeId} {own : Bool} (r : Rd h q (ints l)) (x : ExtBut b0 h h1) (g0 : h.get? b0 = some (.cells [.slice p n c, u] t own)) : Rd h1 q (ints l) := by
  rcases r with r | ⟨b, e, own', rfl, g⟩
  · exact .inl r
  · refine .inr ⟨b, e, own', rfl, x.get (fun w => ?_) g⟩
    subst w
    rw [g0] at g
    cases l with
    | nil => cases g
    | cons z l => cases g
set_option maxHeartbeats 4000000 in
theorem zkF (hK : NoK K) {T : Tb} {l : List Int} {b cap : Nat} {e : TypeId} {own : Bool} {h : Heap} (hP : TbP T) (hKp : KeptP T.s.length l) (hcap : l.length ≤ cap) (hll : l.length ≤ 1000) (hTb : TbAt T h) (hg : h.get? b = some (.cells (ints l) e own)) :
    CallW Tryz.prog K 82 #[ktV T (some ⟨b, 0, none⟩) l.length cap] h (IsL (offs T.s l T.r T.s.length) h) := by
  have iF : ∀ {t : List Int} {bt ct : Nat} {et : TypeId} {ownt : Bool} {h' : Heap}, TruthP T.s t → h'.get? bt = some (.cells (ints t) et ownt) → Ext h h' → CallW Tryz.prog K 65 #[ktV T (some ⟨b, 0, none⟩) l.length cap, .slice (some ⟨bt, 0, none⟩) t.length ct] h' (IsL (figs l t T.r T.s.length) h') := fun a g x => zjr hK hP hKp a hcap hll (x.get hg) g
  obtain ⟨q, kq, s, r, o⟩ := T
  dsimp only [ktV] at iF ⊢
  have hn := hP.1
  have hV := hP.2.1
  dsimp only at hn hV hKp
  have hs0 := hTb.rd
  dsimp only at hs0
  obtain ⟨bs, es, owns, rfl, hgs⟩ := hs0.at (by rw [zai]; omega)
  have hb0 := Heap.get_lt hg
  have hbs0 := Heap.get_lt hgs
  refine body (N := 64) Tryz.func82 rfl (hK _ _ _ rfl) rfl rfl ?_
  (repeat' (first | apply zah | apply zad | (apply O_at; rfl) | (apply zag; rfl) | apply zaf | ((first | apply zae | apply zac | apply zbl | apply zat); rfl; rfl; rfl; rfl) | ((first | apply P_fa | apply M_fa); rfl; rfl; rfl; rfl; exact zaQ rfl; (first | exact Nat.zero_add _ | exact Nat.add_zero _ | rfl)) | (apply zao; rfl; rfl; rfl; rfl; exact zay rfl; (focus repeat' first | exact zaa | assumption | apply zab | (apply Ext.get; assumption) | (apply ExtBut.get; assumption; (first | assumption | omega | (simp only [Heap.push]; omega)))); (first | exact zaB (by omega) | rfl | assumption)) | (apply zaY; rfl; rfl; rfl; rfl; exact zam rfl; rfl; rfl) | (apply zbp; rfl; rfl; rfl; rfl; exact zam rfl; rfl; rfl) | fail))
  apply zaj; rfl; rfl; rfl; rfl; rfl; rfl; exact ends_ok hK (hs0.ext (by (focus repeat' first | exact Ext.refl _ | assumption | apply Ext.push | (refine Ext.trans ?_ (by assumption)) | (refine Ext.ofBut ?_ (by assumption) (by first | exact Nat.le_refl _ | omega))))) (by omega)
  rintro _ h3 ⟨u0, u1, rfl, r0, r1, x3⟩
  obtain ⟨p0, c0, rfl, rd0⟩ := r0
  obtain ⟨p1, c1, rfl, rd1⟩ := r1
  have ll := zcX s
  have hl := zcd s
  obtain ⟨b0, e0, own0, rfl, g0⟩ := rd0.at (by rw [zaw]; omega)
  obtain ⟨b1, e1, own1, rfl, g1⟩ := rd1.at (by rw [zaw]; omega)
  have hk3 : h3.get? h.n = some (.cells [.slice (some ⟨bs, 0, none⟩) s.length kq, .int .i64 r, .int .i64 o, .slice (some ⟨b, 0, none⟩) l.length cap] 82 true) := x3.get (zab zaa)
  have he3 : h3.get? (h.n + 1) = some (.cells [nilV, nilV] 141 true) := x3.get zaa
  have hgs3 := x3.get (zab (zab hgs))
  have hg3 := x3.get (zab (zab hg))
  have hbx0 : b0 ≠ h.n + 1 := fun w => by
    subst w
    rw [he3] at g0
    cases hls : lows s with
    | nil => rw [hls] at ll; simp at ll; omega
    | cons z m => rw [hls] at g0; cases g0
  have hbx1 : b1 ≠ h.n + 1 := fun w => by
    subst w
    rw [he3] at g1
    cases hls : highs s with
    | nil => rw [hls] at hl; simp at hl; omega
    | cons z m => rw [hls] at g1; cases g1
  (repeat' (first | (apply O_at; rfl) | (apply zag; rfl) | apply zaf | apply zan | ((first | apply zae | apply zac | apply zbl | apply zat); rfl; rfl; rfl; rfl) | fail))
  refine zaR (fun a : Nat × Value × Value => [(13, .int .i64 (a.1 : Nat)), (12, .agg #[.slice (some ⟨b0, 0, none⟩) (lows s).length c0, .slice (some ⟨b1, 0, none⟩) (highs s).length c1]), (3, .pointer (some ⟨h.n + 1, 0, none⟩)), (1, .pointer (some ⟨h.n, 0, none⟩))])
    (fun a h' => a.1 ≤ 2 ∧ ExtBut (h.n + 1) h3 h' ∧ h'.get? (h.n + 1) = some (.cells [a.2.1, a.2.2] 141 true) ∧ (a.1 = 0 → a.2.1 = nilV) ∧ (a.1 ≤ 1 → a.2.2 = nilV) ∧ (0 < a.1 → RdV h' a.2.1 (figs l (lows s) r s.length)) ∧ (1 < a.1 → RdV h' a.2.2 (figs l (highs s) r s.length))) (fun a => 2 - a.1) ?_ (0, nilV, nilV) ?_ ?_
  · rintro ⟨i, v0, v1⟩ h' ⟨hi, hx, hb, z0, z1, q0, q1⟩ ih
    dsimp only at hi hx hb z0 z1 q0 q1 ih ⊢
    have hn3 := x3.n
    have hn' := hx.n
    simp only [Heap.push] at hn3
    have hk' := hx.get (by omega) hk3
    have hgs' := hx.get (by omega) hgs3
    have hg' := hx.get (by omega) hg3
    have g0' := hx.get hbx0 g0
    have g1' := hx.get hbx1 g1
    by_cases hlt : i < 2
    · have hlt' : (i : Int) < 2 := by omega
      have eh : Ext h h' := Ext.ofBut (by (focus repeat' first | exact Ext.refl _ | assumption | apply Ext.push | (refine Ext.trans ?_ (by assumption)) | (refine Ext.ofBut ?_ (by assumption) (by first | exact Nat.le_refl _ | omega)))) hx (by omega)
      rcases (show i = 0 ∨ i = 1 by omega) with rfl | rfl
      · obtain rfl := z0 rfl
        obtain rfl := z1 (by decide)
        (repeat' (first | apply zah | apply zad | (apply O_at; rfl) | (apply zag; rfl) | apply zaf | (apply zaJ; rfl) | apply zan | apply zau | apply zaq | ((first | apply zae | apply zac | apply zbl | apply zat); rfl; rfl; rfl; rfl) | (apply zaL; rfl; rfl; rfl; rfl; rfl; omega) | (apply zba; rfl; rfl; rfl; rfl; rfl; (unfold fit; omega)) | (apply zaz; rfl; rfl; rfl; rfl; exact za0 rfl; (focus repeat' first | exact zaa | assumption | apply zab | (apply Ext.get; assumption) | (apply ExtBut.get; assumption; (first | assumption | omega | (simp only [Heap.push]; omega)))); (first | exact Nat.le_of_ble_eq_true rfl | (simp; done) | (simp; omega) | (rw [zai]; omega) | (rw [zaw]; omega)); (first | exact zaA (by omega) | rfl)) | (apply ziE; rfl; rfl; rfl; rfl; (focus repeat' first | exact zaa | assumption | apply zab | (apply Ext.get; assumption) | (apply ExtBut.get; assumption; (first | assumption | omega | (simp only [Heap.push]; omega)))); exact zam rfl; omega; (intro _ _ _)) | (apply zlo; rfl; rfl; rfl; rfl; rfl; exact zdx rfl; exact zam rfl; (first | assumption | exact zq0 | exact zq1 | rfl | exact (Int.toNat_of_nonneg (by omega)).symm); omega) | (apply zdH; rfl; rfl; rfl; rfl; rfl; (first | assumption | exact zq0 | exact zq1 | rfl | exact (Int.toNat_of_nonneg (by omega)).symm); exact zdx rfl; exact zay rfl; (first | decide | omega); rfl) | (apply zaj; rfl; rfl; rfl; rfl; rfl; rfl; exact iF (zcp hV) g0' eh; (rintro _ _ ⟨_, _, rfl, _, _⟩)) | fail))
        rename_i h4 pf cf rdf xf h5 gb5 x5
        exact zaC (ih (1, .slice pf (figs l (lows s) r s.length).length cf, nilV) _ (by dsimp only; omega) ⟨by dsimp only; omega, (hx.trans (Ext.but xf _)).trans x5, gb5, fun w => absurd w (by dsimp only; omega), fun _ => rfl, fun _ => ⟨pf, cf, rfl, Rd.butV rdf x5 (xf.get hb)⟩, fun w => absurd w (by dsimp only; omega)⟩) (by (focus repeat' first | rfl | exact trivial | apply And.intro))
      · obtain rfl := z1 (by decide)
        obtain ⟨pv, cv, rfl, rdv⟩ := q0 (by decide)
        (repeat' (first | apply zah | apply zad | (apply O_at; rfl) | (apply zag; rfl) | apply zaf | (apply zaJ; rfl) | apply zan | apply zau | apply zaq | ((first | apply zae | apply zac | apply zbl | apply zat); rfl; rfl; rfl; rfl) | (apply zaL; rfl; rfl; rfl; rfl; rfl; omega) | (apply zba; rfl; rfl; rfl; rfl; rfl; (unfold fit; omega)) | (apply zaz; rfl; rfl; rfl; rfl; exact za0 rfl; (focus repeat' first | exact zaa | assumption | apply zab | (apply Ext.get; assumption) | (apply ExtBut.get; assumption; (first | assumption | omega | (simp only [Heap.push]; omega)))); (first | exact Nat.le_of_ble_eq_true rfl | (simp; done) | (simp; omega) | (rw [zai]; omega) | (rw [zaw]; omega)); (first | exact zaA (by omega) | rfl)) | (apply ziE; rfl; rfl; rfl; rfl; (focus repeat' first | exact zaa | assumption | apply zab | (apply Ext.get; assumption) | (apply ExtBut.get; assumption; (first | assumption | omega | (simp only [Heap.push]; omega)))); exact zam rfl; omega; (intro _ _ _)) | (apply zlo; rfl; rfl; rfl; rfl; rfl; exact zdx rfl; exact zam rfl; (first | assumption | exact zq0 | exact zq1 | rfl | exact (Int.toNat_of_nonneg (by omega)).symm); omega) | (apply zdH; rfl; rfl; rfl; rfl; rfl; (first | assumption | exact zq0 | exact zq1 | rfl | exact (Int.toNat_of_nonneg (by omega)).symm); exact zdx rfl; exact zay rfl; (first | decide | omega); rfl) | (apply zaj; rfl; rfl; rfl; rfl; rfl; rfl; exact iF (zbY hV) g1' eh; (rintro _ _ ⟨_, _, rfl, _, _⟩)) | fail))
        rename_i h4 pf cf rdf xf h5 gb5 x5
        exact zaC (ih (2, .slice pv (figs l (lows s) r s.length).length cv, .slice pf (figs l (highs s) r s.length).length cf) _ (by dsimp only; omega) ⟨by dsimp only; omega, (hx.trans (Ext.but xf _)).trans x5, gb5, fun w => absurd w (by dsimp only; omega), fun w => absurd w (by dsimp only; omega), fun _ => ⟨pv, cv, rfl, Rd.butV (rdv.ext xf) x5 (xf.get hb)⟩, fun _ => ⟨pf, cf, rfl, Rd.butV rdf x5 (xf.get hb)⟩⟩) (by (focus repeat' first | rfl | exact trivial | apply And.intro))
    · obtain rfl : i = 2 := by omega
      obtain ⟨p2, c2, rfl, rd2⟩ := q0 (by decide)
      obtain ⟨p3, c3, rfl, rd3⟩ := q1 (by decide)
      have l2 := zdF l (lows s) r s.length
      have l3 := zdF l (highs s) r s.length
      obtain ⟨b2, e2, own2, rfl, g2⟩ := rd2.at (by rw [zaw]; omega)
      obtain ⟨b3, e3, own3, rfl, g3⟩ := rd3.at (by rw [zaw]; omega)
      have n2 := Heap.get_lt g2
      have n3 := Heap.get_lt g3
      have hbk := Heap.get_lt hk'
      have hbe := Heap.get_lt hb
      have hbb := Heap.get_lt hg'
      have hbs' := Heap.get_lt hgs'
      (repeat' (first | apply zah | apply zad | (apply O_at; rfl) | (apply zag; rfl) | apply zaf | (apply zaK; rfl) | apply zan | apply za7 | apply za8 | apply zaS | apply zaT | ((first | apply zae | apply zac | apply zbl | apply zat); rfl; rfl; rfl; rfl) | ((first | apply P_fa | apply M_fa); rfl; rfl; rfl; rfl; exact zaQ rfl; (first | exact Nat.zero_add _ | exact Nat.add_zero _ | rfl)) | (apply zaX; rfl; rfl; rfl; rfl; rfl; rfl; exact zar rfl) | (apply zbb; rfl; rfl; rfl; rfl; rfl; omega) | (apply zao; rfl; rfl; rfl; rfl; exact zay rfl; (focus repeat' first | exact zaa | assumption | apply zab | (apply Ext.get; assumption) | (apply ExtBut.get; assumption; (first | assumption | omega | (simp only [Heap.push]; omega)))); (first | exact zaB (by omega) | rfl | assumption)) | (apply P_makeI; rfl; rfl; rfl; rfl; rfl; exact zbO rfl; exact zero3; omega; omega) | fail))
      rw [Int.toNat_natCast]
      refine zaR (fun k : Nat => [(32, .int .i64 (k : Nat)), (31, .int .i64 (s.length : Nat)), (30, .slice (some ⟨bs, 0, none⟩) s.length kq), (6, .slice (some ⟨h'.n, 0, none⟩) s.length s.length), (3, .pointer (some ⟨h.n + 1, 0, none⟩)), (1, .pointer (some ⟨h.n, 0, none⟩))])
        (fun k g => k ≤ s.length ∧ ExtBut h'.n (h'.push (.cells (ints (List.replicate s.length 0)) 3 true)) g ∧ g.get? h'.n = some (.cells (ints (offs s l r k ++ List.replicate (s.length - (offs s l r k).length) 0)) 3 true)) (fun k => s.length - k) ?_ 0 ?_ ?_
      · rintro k g ⟨hk, hxg, hbg⟩ ih2
        have ok := zcW s l r k
        have y1 := hxg.get (by omega) (zab hk')
        have y2 := hxg.get (by omega) (zab hb)
        have y3 := hxg.get (by omega) (zab g2)
        have y4 := hxg.get (by omega) (zab g3)
        have y5 := hxg.get (by omega) (zab hgs')
        have y6 := hxg.get (by omega) (zab hg')
        by_cases hks : k < s.length
        · have hn2 := hxg.n
          have hv := hV k hks
          unfold ValP at hv
          have f1 := zc1 (l := l) (t := lows s) (r := r) hks
          have f2 := zc1 (l := l) (t := highs s) (r := r) hks
          have m1 := zc0 (r := r) hV hKp (zcp hV) hks
          have m2 := zc0 (r := r) hV hKp (zbY hV) hks
          have hlk : k < (offs s l r k ++ List.replicate (s.length - (offs s l r k).length) 0).length := by simp [ok]; omega
          by_cases hc : ((k : Nat) : Int) ∈ l
          · have e0 : offv s l r k = 0 := if_pos hc
            (repeat' (first | apply zah | apply zad | (apply O_at; rfl) | (apply zag; rfl) | apply zaf | (apply zaJ; rfl) | (apply zaK; rfl) | apply zan | apply zau | apply zaq | ((first | apply zae | apply zac | apply zbl | apply zat); rfl; rfl; rfl; rfl) | ((first | apply P_fa | apply M_fa); rfl; rfl; rfl; rfl; exact zaQ rfl; (first | exact Nat.zero_add _ | exact Nat.add_zero _ | rfl)) | (apply zaL; rfl; rfl; rfl; rfl; rfl; omega) | (apply zba; rfl; rfl; rfl; rfl; rfl; (unfold fit; omega)) | (apply zc8; rfl; rfl; rfl; rfl; rfl; exact zar rfl; exact zam rfl; (first | assumption | exact zq0 | exact zq1 | rfl | exact (Int.toNat_of_nonneg (by omega)).symm); omega) | (apply zao; rfl; rfl; rfl; rfl; exact zay rfl; (focus repeat' first | exact zaa | assumption | apply zab | (apply Ext.get; assumption) | (apply ExtBut.get; assumption; (first | assumption | omega | (simp only [Heap.push]; omega)))); (first | exact zaB (by omega) | rfl | assumption)) | (apply zaz; rfl; rfl; rfl; rfl; exact za0 rfl; (focus repeat' first | exact zaa | assumption | apply zab | (apply Ext.get; assumption) | (apply ExtBut.get; assumption; (first | assumption | omega | (simp only [Heap.push]; omega)))); (first | exact Nat.le_of_ble_eq_true rfl | (simp; done) | (simp; omega) | (rw [zai]; omega) | (rw [zaw]; omega)); (first | exact zaA (by omega) | rfl)) | (apply za9; rfl; rfl; rfl; rfl; exact zam rfl; rfl; rfl; rfl) | (apply zbp; rfl; rfl; rfl; rfl; exact zam rfl; rfl; rfl) | (apply zaj; rfl; rfl; rfl; rfl; rfl; rfl; exact yes (zeh hK hll (.inr ⟨_, _, _, rfl, by (focus repeat' first | exact zaa | assumption | apply zab | (apply Ext.get; assumption) | (apply ExtBut.get; assumption; (first | assumption | omega | (simp only [Heap.push]; omega))))⟩)) hc; (rintro _ _ ⟨rfl, _⟩)) | fail))
            rename_i g1 xg1
            refine zaC (ih2 (k + 1) _ (by omega) ⟨hks, hxg.trans (Ext.but (by (focus repeat' first | exact Ext.refl _ | assumption | apply Ext.push | (refine Ext.trans ?_ (by assumption)) | (refine Ext.ofBut ?_ (by assumption) (by first | exact Nat.le_refl _ | omega)))) _), ?_⟩) (by (focus repeat' first | rfl | exact trivial | apply And.intro))
            have hr := row_keep (l := offs s l r k) (n := s.length) (by omega)
            have hs1 : offs s l r (k + 1) = offs s l r k ++ [0] := by rw [zga, e0]
            rw [ok, ← hs1] at hr
            rw [zcW, ← hr]
            rw [ok] at hbg
            exact xg1.get (zab hbg)
          · have e0 : offv s l r k = max ((s.getD k (0, 0)).2 - (figs l (lows s) r s.length).getD k 0) ((figs l (highs s) r s.length).getD k 0 - (s.getD k (0, 0)).1) := by rw [f1, f2]; exact if_neg hc
            (repeat' (first | apply zah | apply zad | (apply O_at; rfl) | (apply N_at; rfl) | (apply zag; rfl) | apply zaf | (apply zaJ; rfl) | (apply zbE; exact zaO (by decide +kernel)) | apply zan | apply zau | (apply zcJ; rfl; refine .inr ?_; (focus repeat' first | exact trivial | apply And.intro | rfl)) | apply zaq | ((first | apply zae | apply zac | apply zbl | apply zat); rfl; rfl; rfl; rfl) | ((first | apply P_fa | apply M_fa); rfl; rfl; rfl; rfl; exact zaQ rfl; (first | exact Nat.zero_add _ | exact Nat.add_zero _ | rfl)) | (apply zaL; rfl; rfl; rfl; rfl; rfl; omega) | (apply zba; rfl; rfl; rfl; rfl; rfl; (unfold fit; omega)) | (apply zc8; rfl; rfl; rfl; rfl; rfl; exact zar rfl; exact zam rfl; (first | assumption | exact zq0 | exact zq1 | rfl | exact (Int.toNat_of_nonneg (by omega)).symm); omega) | (apply zao; rfl; rfl; rfl; rfl; exact zay rfl; (focus repeat' first | exact zaa | assumption | apply zab | (apply Ext.get; assumption) | (apply ExtBut.get; assumption; (first | assumption | omega | (simp only [Heap.push]; omega)))); (first | exact zaB (by omega) | rfl | assumption)) | (apply zaz; rfl; rfl; rfl; rfl; exact za0 rfl; (focus repeat' first | exact zaa | assumption | apply zab | (apply Ext.get; assumption) | (apply ExtBut.get; assumption; (first | assumption | omega | (simp only [Heap.push]; omega)))); (first | exact Nat.le_of_ble_eq_true rfl | (simp; done) | (simp; omega) | (rw [zai]; omega) | (rw [zaw]; omega)); (first | exact zaA (by omega) | rfl)) | (apply za9; rfl; rfl; rfl; rfl; exact zam rfl; rfl; rfl; rfl) | (apply zbp; rfl; rfl; rfl; rfl; exact zam rfl; rfl; rfl) | (apply zlw; rfl; rfl; rfl; rfl; rfl; (unfold fit; omega)) | (apply zda; rfl; rfl; rfl; rfl; rfl; exact zar rfl; exact zam rfl; (first | assumption | exact zq0 | exact zq1 | rfl | exact (Int.toNat_of_nonneg (by omega)).symm); omega) | (((apply zfx; rfl; rfl; rfl; rfl; exact zay rfl; exact zbT (by decide +kernel)); (focus repeat' first | exact zaa | assumption | apply zab | (apply Ext.get; assumption) | (apply ExtBut.get; assumption; (first | assumption | omega | (simp only [Heap.push]; omega)))); (first | exact zaB (by omega) | rfl | assumption)); (first | assumption | exact zbi _ _ | exact zcn _ _ _ | rfl | (focus simp [same, same.all2]; done)); (first | rfl | assumption | exact hwv _ | (focus apply zcm; (focus repeat' first | exact zaa | assumption | apply zab | (apply Ext.get; assumption) | (apply ExtBut.get; assumption; (first | assumption | omega | (simp only [Heap.push]; omega)))); done) | (simp [within]; omega))) | (apply ziJ; rfl; rfl; rfl; rfl; (focus repeat' first | exact zaa | assumption | apply zab | (apply Ext.get; assumption) | (apply ExtBut.get; assumption; (first | assumption | omega | (simp only [Heap.push]; omega)))); exact zam rfl; (first | omega | (focus simp; done)); rfl; (intro _ _ _)) | (apply M_max; rfl; rfl; rfl; rfl; rfl; rfl) | (apply zgE; rfl; rfl; rfl; rfl; rfl; exact zdx rfl; exact zam rfl; (first | assumption | exact zq0 | exact zq1 | rfl | exact (Int.toNat_of_nonneg (by omega)).symm); omega) | (apply zaj; rfl; rfl; rfl; rfl; rfl; rfl; exact no (zeh hK hll (.inr ⟨_, _, _, rfl, by (focus repeat' first | exact zaa | assumption | apply zab | (apply Ext.get; assumption) | (apply ExtBut.get; assumption; (first | assumption | omega | (simp only [Heap.push]; omega))))⟩)) hc; (rintro _ _ ⟨rfl, _⟩)) | fail))
            rename_i g1 xg1 g5 q5 xg5
            refine zaC (ih2 (k + 1) _ (by omega) ⟨hks, (hxg.trans (Ext.but (by (focus repeat' first | exact Ext.refl _ | assumption | apply Ext.push | (refine Ext.trans ?_ (by assumption)) | (refine Ext.ofBut ?_ (by assumption) (by first | exact Nat.le_refl _ | omega)))) _)).trans xg5, ?_⟩) (by (focus repeat' first | rfl | exact trivial | apply And.intro))
            have hr := row_set (l := offs s l r k) (n := s.length) (x := offv s l r k) (by omega)
            rw [← zga, ok] at hr
            rw [← e0, ok] at q5
            rw [zcW, ← hr]
            exact q5
        · obtain rfl : k = s.length := by omega
          rw [ok, Nat.sub_self, List.replicate_zero, List.append_nil] at hbg
          (repeat' (first | apply zah | apply zad | (apply O_at; rfl) | (apply zag; rfl) | apply zaf | (apply zaK; rfl) | apply za7 | apply zav | apply za8 | apply zaS | apply zaT | apply zas | ((first | apply zae | apply zac | apply zbl | apply zat); rfl; rfl; rfl; rfl) | (apply zbb; rfl; rfl; rfl; rfl; rfl; omega) | fail))
          refine ⟨.inr rfl, _, rfl, some ⟨h'.n, 0, none⟩, s.length, ?_, .inr ⟨_, _, _, rfl, hbg⟩, ?_⟩
          · rw [ok]; rfl
          · exact Ext.ofBut (Ext.push (Ext.ofBut (by (focus repeat' first | exact Ext.refl _ | assumption | apply Ext.push | (refine Ext.trans ?_ (by assumption)) | (refine Ext.ofBut ?_ (by assumption) (by first | exact Nat.le_refl _ | omega)))) hx (by omega)) _) hxg (by omega)
      · exact ⟨Nat.zero_le _, ExtBut.refl _ _, zaa⟩
      · (focus repeat' first | rfl | exact trivial | apply And.intro)
  · exact ⟨by decide, ExtBut.refl _ _, he3, fun _ => rfl, fun _ => rfl, fun q => absurd q (by dsimp only; omega), fun q => absurd q (by dsimp only; omega)⟩
  · (focus repeat' first | rfl | exact trivial | apply And.intro)
end Go.AX.Sa

namespace Go.AX.Sa
open Go.Proofs
set_option maxRecDepth 100000
variable {K : Known}
/-! The rows that may be wrong; whether a kept list surely is right. -/
def dbts (s : List (Int × Int)) (l : List Int) (r o : Int) : Nat → List Int
  | 0 => []
  | k + 1 => if o < offv s l r k then dbts s l r o k ++ [((k : Nat) : Int)] else dbts s l r o k
theorem zfs {s : List (Int × Int)} {l : List Int} {r o : Int} {k : Nat} (h : o < offv s l r k) : dbts s l r o (k + 1) = dbts s l r o k ++ [((k : Nat) : Int)] := if_pos h
theorem zhw {s : List (Int × Int)} {l : List Int} {r o : Int} {k : Nat} (h : ¬ o < offv s l r k) : dbts s l r o (k + 1) = dbts s l r o k := if_neg h
theorem dbts_len (s : List (Int × Int)) (l : List Int) (r o : Int) : ∀ k, (dbts s l r o k).length ≤ k := by
  intro k
  induction k with
  | zero => exact Nat.le_refl _
  | succ k ih =>
    by_cases h : o < offv s l r k
    · rw [zfs h, List.length_append]; simp only [List.length_cons, List.length_nil]; omega
    · rw [zhw h]; omega
/-- A kept list surely is right. -/
def SureP (s : List (Int × Int)) (l : List Int) (r o : Int) : Prop := ∀ j, j < s.length → offv s l r j ≤ o
theorem ziw {s : List (Int × Int)} {l : List Int} {r o : Int} : ∀ k, (dbts s l r o k).length = 0 ↔ ∀ j, j < k → offv s l r j ≤ o := by
  intro k
  induction k with
  | zero => exact ⟨fun _ j hj => absurd hj (Nat.not_lt_zero _), fun _ => rfl⟩
  | succ k ih =>
    by_cases h : o < offv s l r k
    · rw [zfs h, List.length_append]
      simp only [List.length_cons, List.length_nil]
      exact ⟨fun q => by omega, fun q => by have := q k (Nat.lt_succ_self k); omega⟩
    · rw [zhw h, ih]
      refine ⟨fun q j hj => ?_, fun q j hj => q j (by omega)⟩
      by_cases hjk : j = k
      · subst hjk; omega
      · exact q j (by omega)
theorem fill_db : fillB Tryz.prog 131 [] = some (.agg #[]) := by kernel_rfl
def dbtV : Value := .iface 131 (.agg #[])
def dbtCh : List PanicEntry := [⟨dbtV, false, false⟩]
theorem zhD : assertB Tryz.prog .nilIface 131 true = some (.tuple #[.agg #[], .bool false]) := by kernel_rfl
theorem assertD : assertB Tryz.prog dbtV 131 true = some (.tuple #[.agg #[], .bool true]) := by kernel_rfl
theorem dbt_fin {b : Nat} {v : Value} {h : Heap} (_hg : h.get? b = some (.cells [v] 4 true)) :
    ∃ h1, CallD Tryz.prog K 112 #[.pointer (some ⟨b, 0, none⟩)] .returning h .returning h1 ∧ Ext h h1 := by
  apply bodyD (u := .returning) (N := 9) Tryz.func112; rfl; rfl; rfl; rfl; rfl; rfl; rfl
  show R1 _ _ _ _ _ _ _ ((4, .nilIface) :: _) _
  (repeat' (first | (apply O_at; rfl) | fail))
  apply ziI; rfl; rfl; rfl; rfl; exact zhD
  (repeat' (first | apply zah | apply zad | (apply O_at; rfl) | (apply zag; rfl) | apply zaf | (apply zaK; rfl) | apply zau | apply zas | ((first | apply zae | apply zac); rfl; rfl; rfl; rfl) | (apply za2; rfl; rfl; rfl; rfl; rfl) | (apply za9; rfl; rfl; rfl; rfl; exact zam rfl; rfl; rfl; rfl) | (apply zbp; rfl; rfl; rfl; rfl; exact zam rfl; rfl; rfl) | fail))
  exact ⟨.inl rfl, by (focus repeat' first | exact Ext.refl _ | assumption | apply Ext.push)⟩
theorem dbt_pan {b : Nat} {v : Value} {h : Heap} (hg : h.get? b = some (.cells [v] 4 true)) {h0 : Heap} (hx : Ext h0 h) (hb : h0.n ≤ b) :
    ∃ h1, CallD Tryz.prog K 112 #[.pointer (some ⟨b, 0, none⟩)] (.panicking dbtCh) h (.panicking [⟨dbtV, true, false⟩]) h1 ∧ (h1.get? b = some (.cells [.bool false] 4 true) ∧ Ext h0 h1) := by
  apply bodyD (u := .panicking dbtCh) (N := 9) Tryz.func112; rfl; rfl; rfl; rfl; rfl; rfl; rfl
  show R1 _ _ _ _ _ _ _ ((4, dbtV) :: _) _
  (repeat' (first | (apply O_at; rfl) | fail))
  apply ziI; rfl; rfl; rfl; rfl; exact assertD
  (repeat' (first | apply zah | apply zad | (apply O_at; rfl) | (apply zag; rfl) | apply zaf | (apply zaJ; rfl) | apply zas | ((first | apply zae | apply zac); rfl; rfl; rfl; rfl) | (apply za2; rfl; rfl; rfl; rfl; rfl) | (apply za9; rfl; rfl; rfl; rfl; exact zam rfl; rfl; rfl; rfl) | (apply zbp; rfl; rfl; rfl; rfl; exact zam rfl; rfl; rfl) | (apply zfw; rfl; rfl; rfl; rfl; (focus repeat' first | assumption | apply zab); exact zam rfl; rfl; (first | rfl | exact zaw _); rfl; (intro _ _ _)) | fail))
  rename_i h1 g1 x1
  exact ⟨.inl rfl, g1, Ext.ofBut (by (focus repeat' first | assumption | apply Ext.push | (refine Ext.ofBut ?_ (by assumption) (by first | exact Nat.le_refl _ | omega)))) x1 hb⟩
section
variable {T : Tb} {l : List Int} {b cap : Nat} {e : TypeId} {own : Bool} {h : Heap}
theorem zd1 (hK : NoK K) (hP : TbP T) (hKp : KeptP T.s.length l) (hcap : l.length ≤ cap) (hll : l.length ≤ 1000) (hTb : TbAt T h) (hg : h.get? b = some (.cells (ints l) e own)) (hS : SureP T.s l T.r T.o) :
    CallW Tryz.prog K 113 #[ktV T (some ⟨b, 0, none⟩) l.length cap] h (fun _ h1 => Ext h h1) := by
  have iO : ∀ {h' : Heap}, Ext h h' → CallW Tryz.prog K 82 #[ktV T (some ⟨b, 0, none⟩) l.length cap] h' (IsL (offs T.s l T.r T.s.length) h') := fun x => zkF hK hP hKp hcap hll (hTb.ext x) (x.get hg)
  obtain ⟨q, kq, s, r, o⟩ := T
  have hn := hP.1
  dsimp only [ktV] at iO hn hS ⊢
  have hfl := zcW s l r s.length
  refine body (N := 19) Tryz.func113 rfl (hK _ _ _ rfl) rfl rfl ?_
  (repeat' (first | apply zah | apply zad | (apply O_at; rfl) | (apply zag; rfl) | apply zaf | apply zan | ((first | apply zae | apply zac); rfl; rfl; rfl; rfl) | (apply zaX; rfl; rfl; rfl; rfl; rfl; rfl; exact zar rfl) | (apply zaz; rfl; rfl; rfl; rfl; exact za0 rfl; (focus repeat' first | exact zaa | assumption | (apply Ext.get; assumption)); (first | exact Nat.le_of_ble_eq_true rfl | (simp; done) | (simp; omega) | (rw [zaw]; omega)); rfl) | (apply zaY; rfl; rfl; rfl; rfl; exact zam rfl; rfl; rfl) | (apply zaj; rfl; rfl; rfl; rfl; rfl; rfl; exact iO (by (focus repeat' first | exact Ext.refl _ | assumption | apply Ext.push | (refine Ext.trans ?_ (by assumption)))); (rintro _ _ ⟨_, _, rfl, _, _⟩)) | fail))
  rename_i h1 fq fc frd fx
  rw [hfl]
  obtain ⟨bf, ef, ownf, rfl, gf⟩ := frd.at (by rw [zaw]; omega)
  have hk1 : h1.get? h.n = some (.cells [.slice q s.length kq, .int .i64 r, .int .i64 o, .slice (some ⟨b, 0, none⟩) l.length cap] 82 true) := fx.get zaa
  refine zaR (fun k : Nat => [(7, .int .i64 (k : Nat)), (6, .int .i64 (s.length : Nat)), (5, .slice (some ⟨bf, 0, none⟩) s.length fc), (1, .pointer (some ⟨h.n, 0, none⟩))])
    (fun k h' => k ≤ s.length ∧ Ext h1 h') (fun k => s.length - k) ?_ 0 ⟨Nat.zero_le _, Ext.refl _⟩ ?_
  · rintro k h' ⟨hk, hx⟩ ih
    have hk' := hx.get hk1
    have gf' := hx.get gf
    by_cases hlt : k < s.length
    · have hg1 := zh8 (s := s) (l := l) (r := r) hlt
      have hc := hS k hlt
      rw [← hg1] at hc
      (repeat' (first | apply zah | apply zad | (apply O_at; rfl) | (apply zag; rfl) | apply zaf | (apply zaJ; rfl) | (apply zaK; rfl) | apply zan | apply zau | apply zaq | ((first | apply zae | apply zac); rfl; rfl; rfl; rfl) | (apply P_fa; rfl; rfl; rfl; rfl; exact zaQ rfl; (first | exact Nat.zero_add _ | exact Nat.add_zero _ | rfl)) | (apply zaL; rfl; rfl; rfl; rfl; rfl; omega) | (apply ziF; rfl; rfl; rfl; rfl; rfl; omega) | (apply zba; rfl; rfl; rfl; rfl; rfl; (unfold fit; omega)) | (apply zb3; rfl; rfl; rfl; rfl; rfl; exact zar rfl; exact zam rfl; (first | assumption | rfl | exact (Int.toNat_of_nonneg (by omega)).symm); omega) | (apply zao; rfl; rfl; rfl; rfl; exact zay rfl; (focus repeat' first | exact zaa | assumption | (apply Ext.get; assumption)); (first | exact zaB (by omega) | rfl | assumption)) | fail))
      exact zaC (ih (k + 1) _ (by omega) ⟨hlt, by (focus repeat' first | exact Ext.refl _ | assumption | apply Ext.push | (refine Ext.trans ?_ (by assumption)))⟩) (by (focus repeat' first | rfl | exact trivial | apply And.intro))
    · (repeat' (first | apply zah | apply zad | (apply O_at; rfl) | (apply zag; rfl) | apply zaf | (apply zaK; rfl) | apply za7 | apply za8 | apply zaS | apply zaT | apply zas | (apply zbb; rfl; rfl; rfl; rfl; rfl; omega) | fail))
      exact ⟨.inl rfl, _, rfl, by (focus repeat' first | exact Ext.refl _ | assumption | apply Ext.push | (refine Ext.trans ?_ (by assumption)))⟩
  · (focus repeat' first | rfl | exact trivial | apply And.intro)
theorem zeD (hK : NoK K) (hP : TbP T) (hKp : KeptP T.s.length l) (hcap : l.length ≤ cap) (hll : l.length ≤ 1000) (hTb : TbAt T h) (hg : h.get? b = some (.cells (ints l) e own)) (hS : ¬ SureP T.s l T.r T.o) :
    CallP Tryz.prog K 113 #[ktV T (some ⟨b, 0, none⟩) l.length cap] h dbtCh (Ext h) := by
  have iO : ∀ {h' : Heap}, Ext h h' → CallW Tryz.prog K 82 #[ktV T (some ⟨b, 0, none⟩) l.length cap] h' (IsL (offs T.s l T.r T.s.length) h') := fun x => zkF hK hP hKp hcap hll (hTb.ext x) (x.get hg)
  obtain ⟨q, kq, s, r, o⟩ := T
  have hn := hP.1
  dsimp only [ktV] at iO hn hS ⊢
  have hfl := zcW s l r s.length
  refine bodyP (N := 19) Tryz.func113 rfl (hK _ _ _ rfl) rfl rfl ?_
  (repeat' (first | apply zah | apply zad | (apply O_at; rfl) | (apply zag; rfl) | apply zaf | apply zan | ((first | apply zae | apply zac); rfl; rfl; rfl; rfl) | (apply zaX; rfl; rfl; rfl; rfl; rfl; rfl; exact zar rfl) | (apply zaz; rfl; rfl; rfl; rfl; exact za0 rfl; (focus repeat' first | exact zaa | assumption | (apply Ext.get; assumption)); (first | exact Nat.le_of_ble_eq_true rfl | (simp; done) | (simp; omega) | (rw [zaw]; omega)); rfl) | (apply zaY; rfl; rfl; rfl; rfl; exact zam rfl; rfl; rfl) | (apply zaj; rfl; rfl; rfl; rfl; rfl; rfl; exact iO (by (focus repeat' first | exact Ext.refl _ | assumption | apply Ext.push | (refine Ext.trans ?_ (by assumption)))); (rintro _ _ ⟨_, _, rfl, _, _⟩)) | fail))
  rename_i h1 fq fc frd fx
  rw [hfl]
  obtain ⟨bf, ef, ownf, rfl, gf⟩ := frd.at (by rw [zaw]; omega)
  have hk1 : h1.get? h.n = some (.cells [.slice q s.length kq, .int .i64 r, .int .i64 o, .slice (some ⟨b, 0, none⟩) l.length cap] 82 true) := fx.get zaa
  refine zaR (fun k : Nat => [(7, .int .i64 (k : Nat)), (6, .int .i64 (s.length : Nat)), (5, .slice (some ⟨bf, 0, none⟩) s.length fc), (1, .pointer (some ⟨h.n, 0, none⟩))])
    (fun k h' => k ≤ s.length ∧ Ext h1 h' ∧ ∀ j, j < k → offv s l r j ≤ o) (fun k => s.length - k) ?_ 0 ⟨Nat.zero_le _, Ext.refl _, fun j q => by omega⟩ ?_
  · rintro k h' ⟨hk, hx, hj⟩ ih
    have hk' := hx.get hk1
    have gf' := hx.get gf
    by_cases hlt : k < s.length
    · have hg1 := zh8 (s := s) (l := l) (r := r) hlt
      by_cases hc : offv s l r k ≤ o
      · have hc' := hc
        rw [← hg1] at hc
        (repeat' (first | apply zah | apply zad | (apply O_at; rfl) | (apply zag; rfl) | apply zaf | (apply zaJ; rfl) | (apply zaK; rfl) | apply zan | apply zau | apply zaq | ((first | apply zae | apply zac); rfl; rfl; rfl; rfl) | (apply P_fa; rfl; rfl; rfl; rfl; exact zaQ rfl; (first | exact Nat.zero_add _ | exact Nat.add_zero _ | rfl)) | (apply zaL; rfl; rfl; rfl; rfl; rfl; omega) | (apply ziF; rfl; rfl; rfl; rfl; rfl; omega) | (apply zba; rfl; rfl; rfl; rfl; rfl; (unfold fit; omega)) | (apply zb3; rfl; rfl; rfl; rfl; rfl; exact zar rfl; exact zam rfl; (first | assumption | rfl | exact (Int.toNat_of_nonneg (by omega)).symm); omega) | (apply zao; rfl; rfl; rfl; rfl; exact zay rfl; (focus repeat' first | exact zaa | assumption | (apply Ext.get; assumption)); (first | exact zaB (by omega) | rfl | assumption)) | fail))
        refine zaC (ih (k + 1) _ (by omega) ⟨hlt, by (focus repeat' first | exact Ext.refl _ | assumption | apply Ext.push | (refine Ext.trans ?_ (by assumption))), fun j hj' => ?_⟩) (by (focus repeat' first | rfl | exact trivial | apply And.intro))
        by_cases hjk : j = k
        · subst hjk; exact hc'
        · exact hj j (by omega)
      · rw [← hg1] at hc
        (repeat' (first | apply zah | apply zad | (apply O_at; rfl) | (apply zag; rfl) | apply zaf | (apply zaJ; rfl) | apply zan | apply zau | ((first | apply zae | apply zac); rfl; rfl; rfl; rfl) | (apply P_fa; rfl; rfl; rfl; rfl; exact zaQ rfl; (first | exact Nat.zero_add _ | exact Nat.add_zero _ | rfl)) | (apply zaL; rfl; rfl; rfl; rfl; rfl; omega) | (apply P_gtrT; rfl; rfl; rfl; rfl; rfl; omega) | (apply zb3; rfl; rfl; rfl; rfl; rfl; exact zar rfl; exact zam rfl; (first | assumption | rfl | exact (Int.toNat_of_nonneg (by omega)).symm); omega) | (apply zao; rfl; rfl; rfl; rfl; exact zay rfl; (focus repeat' first | exact zaa | assumption | (apply Ext.get; assumption)); (first | exact zaB (by omega) | rfl | assumption)) | fail))
        apply zer; rfl; rfl; rfl; rfl; exact fill_db
        (repeat' (first | (apply O_at; rfl) | fail))
        apply P_iface; rfl; rfl; rfl; rfl; kernel_rfl
        (repeat' (first | (apply O_at; rfl) | fail))
        apply P_panic; rfl; rfl; rfl
        repeat' first | apply C_panS | apply C_panL | apply C_panB
        refine zas ⟨rfl, ?_⟩
        (focus repeat' first | exact Ext.refl _ | assumption | apply Ext.push | (refine Ext.trans ?_ (by assumption)))
    · exact absurd (fun j q => hj j (by omega)) hS
  · (focus repeat' first | rfl | exact trivial | apply And.intro)
theorem zkQ (hK : NoK K) (hP : TbP T) (hKp : KeptP T.s.length l) (hcap : l.length ≤ cap) (hll : l.length ≤ 1000) (hTb : TbAt T h) (hg : h.get? b = some (.cells (ints l) e own)) :
    CallW Tryz.prog K 75 #[ktV T (some ⟨b, 0, none⟩) l.length cap] h (IfB (SureP T.s l T.r T.o) h) := by
  have iY : ∀ {h' : Heap}, SureP T.s l T.r T.o → Ext h h' → CallW Tryz.prog K 113 #[ktV T (some ⟨b, 0, none⟩) l.length cap] h' (fun _ h1 => Ext h' h1) := fun a x => zd1 hK hP hKp hcap hll (hTb.ext x) (x.get hg) a
  have iN : ∀ {h' : Heap}, ¬ SureP T.s l T.r T.o → Ext h h' → CallP Tryz.prog K 113 #[ktV T (some ⟨b, 0, none⟩) l.length cap] h' dbtCh (Ext h') := fun a x => zeD hK hP hKp hcap hll (hTb.ext x) (x.get hg) a
  obtain ⟨q, kq, s, r, o⟩ := T
  dsimp only [ktV] at iY iN ⊢
  apply zjB 1 (N := 6) Tryz.func75; rfl; exact hK _ _ _ rfl; rfl; rfl; rfl; rfl; rfl; rfl; rfl; rfl
  (repeat' (first | apply zah | apply zad | (apply O_at; rfl) | (apply zag; rfl) | apply zaf | apply zau | apply zas | (apply zaY; rfl; rfl; rfl; rfl; exact zam rfl; rfl; rfl) | (apply zbp; rfl; rfl; rfl; rfl; exact zam rfl; rfl; rfl) | fail))
  refine .inr ⟨rfl, rfl, ?_⟩
  by_cases hA : SureP s l r o
  · (repeat' (first | apply zah | apply zad | (apply O_at; rfl) | (apply zaz; rfl; rfl; rfl; rfl; exact za0 rfl; (focus repeat' first | exact zaa | assumption | apply zab | (apply Ext.get; assumption)); (first | exact Nat.le_of_ble_eq_true rfl | (simp; done) | (simp; omega)); rfl) | fail))
    apply zaj; rfl; rfl; rfl; rfl; rfl; rfl; exact iY hA (by (focus repeat' first | exact Ext.refl _ | assumption | apply Ext.push | (refine Ext.trans ?_ (by assumption)) | (refine Ext.ofBut ?_ (by assumption) (by first | exact Nat.le_refl _ | omega))))
    intro _ h5 x5
    (repeat' (first | apply zah | apply zad | (apply O_at; rfl) | (apply zag; rfl) | apply zaf | apply zav | apply zas | (apply zfw; rfl; rfl; rfl; rfl; (focus repeat' first | exact zaa | assumption | apply zab | (apply Ext.get; assumption)); exact zam rfl; rfl; (first | rfl | exact zaw _); rfl; (intro _ _ _)) | fail))
    rename_i h3 g3 x3
    obtain ⟨h6, hD, x6⟩ := dbt_fin (K := K) g3
    exact ⟨.returning, .returning, h6, rfl, hD, rfl, _, zh4 rfl (read1 (zay rfl) (x6.get g3) rfl) rfl, .inl ⟨rfl, hA, (Ext.ofBut (by (focus repeat' first | exact Ext.refl _ | assumption | apply Ext.push | (refine Ext.trans ?_ (by assumption)) | (refine Ext.ofBut ?_ (by assumption) (by first | exact Nat.le_refl _ | omega)))) x3 (Nat.le_succ _)).trans x6⟩⟩
  · (repeat' (first | apply zah | apply zad | (apply O_at; rfl) | (apply zaz; rfl; rfl; rfl; rfl; exact za0 rfl; (focus repeat' first | exact zaa | assumption | apply zab | (apply Ext.get; assumption)); (first | exact Nat.le_of_ble_eq_true rfl | (simp; done) | (simp; omega)); rfl) | fail))
    apply P_callP; rfl; rfl; rfl; rfl; rfl; exact iN hA (by (focus repeat' first | exact Ext.refl _ | assumption | apply Ext.push | (refine Ext.trans ?_ (by assumption)) | (refine Ext.ofBut ?_ (by assumption) (by first | exact Nat.le_refl _ | omega))))
    intro h7 x7
    repeat' first | apply C_panS | apply C_panL | apply C_panB
    refine zas ?_
    obtain ⟨h5, hD, q2, e5⟩ := dbt_pan (K := K) (x7.get zaa) ((((Ext.refl h).push _).push _).trans x7) (Nat.le_succ _)
    exact ⟨_, _, h5, rfl, hD, rfl, _, zh4 rfl (read1 (zay rfl) q2 rfl) rfl, .inr ⟨rfl, hA, e5⟩⟩
end
end Go.AX.Sa

namespace Go.AX.Sa
open Go.Proofs
set_option maxRecDepth 100000
variable {K : Known}
/-! The specification's: how far figures can be, and the rows that may be wrong. -/
theorem zjh (hK : NoK K) {T : Tb} {h : Heap} (hsl : T.s.length ≤ 1000) (hTb : TbAt T h) :
    CallW Tryz.prog K 84 #[tbV T] h (IsL (lows T.s) h) := by
  obtain ⟨q, kq, s, r, o⟩ := T
  have hs0 := hTb.rd
  dsimp only [tbV] at hsl hs0 ⊢
  refine body (N := 22) Tryz.func84 rfl (hK _ _ _ rfl) rfl rfl ?_
  (repeat' (first | apply zah | apply zad | (apply O_at; rfl) | (apply zag; rfl) | apply zaf | apply zan | ((first | apply zae | apply zac); rfl; rfl; rfl; rfl) | (apply zaY; rfl; rfl; rfl; rfl; exact zam rfl; rfl; rfl) | fail))
  refine zaR (fun a : Nat × Value => [(4, .int .i64 (a.1 : Nat)), (3, a.2), (1, .pointer (some ⟨h.n, 0, none⟩))])
    (fun a h' => a.1 ≤ s.length ∧ Ext (h.push (.cells [.slice q s.length kq, .int .i64 r, .int .i64 o] 25 true)) h' ∧ OutI 3 (h.push (.cells [.slice q s.length kq, .int .i64 r, .int .i64 o] 25 true)) h' a.2 ((lows s).take a.1)) (fun a => s.length - a.1) ?_ (0, nilV) ?_ ?_
  · rintro ⟨k, v⟩ h' ⟨hk, hx, ho⟩ ih
    dsimp only at hk hx ho ih ⊢
    have hb : h'.get? h.n = some (.cells [.slice q s.length kq, .int .i64 r, .int .i64 o] 25 true) := hx.get zaa
    have hle : ((lows s).take k).length ≤ 10000 := by rw [List.length_take]; omega
    by_cases hlt : k < s.length
    · obtain ⟨bs, es, owns, rfl, hgs⟩ := hs0.at (by rw [zai]; omega)
      have hgs' := hx.get (zab hgs)
      (repeat' (first | apply zah | apply zad | (apply O_at; rfl) | (apply zag; rfl) | apply zaf | (apply zaJ; rfl) | apply zan | apply zau | apply zaq | ((first | apply zae | apply zac); rfl; rfl; rfl; rfl) | (apply P_fa; rfl; rfl; rfl; rfl; exact zaQ rfl; (first | exact Nat.zero_add _ | exact Nat.add_zero _ | rfl)) | (apply zaX; rfl; rfl; rfl; rfl; rfl; rfl; exact zar rfl) | (apply zaL; rfl; rfl; rfl; rfl; rfl; omega) | (apply zba; rfl; rfl; rfl; rfl; rfl; (unfold fit; omega)) | (apply zc8; rfl; rfl; rfl; rfl; rfl; exact zar rfl; exact zam rfl; (first | assumption | rfl | exact (Int.toNat_of_nonneg (by omega)).symm); omega) | (apply zao; rfl; rfl; rfl; rfl; exact zay rfl; (focus repeat' first | exact zaa | assumption | apply zab | (apply Ext.get; assumption)); (first | exact zdA (by omega) | rfl | assumption)) | (apply zcv; rfl; rfl; rfl; rfl; rfl; rfl; rfl; exact zbO rfl) | (apply zeW; rfl; rfl; rfl; rfl; rfl; rfl; rfl; rfl; exact zbO rfl; exact zar rfl; (focus repeat' first | exact zaa | assumption | apply zab | (apply Ext.get; assumption)); (apply OutI.ext; assumption; (focus repeat' first | exact Ext.refl _ | assumption | apply Ext.push | (refine Ext.trans ?_ (by assumption)))); (focus repeat' first | exact Ext.refl _ | assumption | apply Ext.push | (refine Ext.trans ?_ (by assumption))); (first | omega | (simp; omega)); (intro _ _ _ _)) | fail))
      rename_i v1 h2 ho2 hx2
      exact zaC (ih (k + 1, v1) _ (by dsimp only; omega) ⟨hlt, by (focus repeat' first | exact Ext.refl _ | assumption | apply Ext.push | (refine Ext.trans ?_ (by assumption))), by rw [zge hlt]; exact ho2⟩) (by (focus repeat' first | rfl | exact trivial | apply And.intro))
    · obtain rfl : k = s.length := by omega
      rw [List.take_of_length_le (by rw [zcX]; exact Nat.le_refl _)] at ho
      (repeat' (first | apply zah | apply zad | (apply O_at; rfl) | (apply zag; rfl) | apply zaf | (apply zaK; rfl) | apply za7 | apply zav | apply za8 | apply zaS | apply zaT | apply zas | ((first | apply zae | apply zac); rfl; rfl; rfl; rfl) | (apply P_fa; rfl; rfl; rfl; rfl; exact zaQ rfl; (first | exact Nat.zero_add _ | exact Nat.add_zero _ | rfl)) | (apply zaX; rfl; rfl; rfl; rfl; rfl; rfl; exact zar rfl) | (apply zbb; rfl; rfl; rfl; rfl; rfl; omega) | (apply zao; rfl; rfl; rfl; rfl; exact zay rfl; (focus repeat' first | exact zaa | assumption | apply zab | (apply Ext.get; assumption)); (first | exact zdA (by omega) | rfl | assumption)) | fail))
      exact ⟨.inr rfl, _, rfl, (OutI.low (e := 3) ho (Nat.le_succ _)).isL (by (focus repeat' first | exact Ext.refl _ | assumption | apply Ext.push | (refine Ext.trans ?_ (by assumption))))⟩
  · exact ⟨Nat.zero_le _, Ext.refl _, OutI.nil _ _ _⟩
  · (focus repeat' first | rfl | exact trivial | apply And.intro)
theorem zg4 (hK : NoK K) {T : Tb} {h : Heap} (hsl : T.s.length ≤ 1000) (hTb : TbAt T h) :
    CallW Tryz.prog K 120 #[tbV T] h (IsL (highs T.s) h) := by
  obtain ⟨q, kq, s, r, o⟩ := T
  have hs0 := hTb.rd
  dsimp only [tbV] at hsl hs0 ⊢
  refine body (N := 22) Tryz.func120 rfl (hK _ _ _ rfl) rfl rfl ?_
  (repeat' (first | apply zah | apply zad | (apply O_at; rfl) | (apply zag; rfl) | apply zaf | apply zan | ((first | apply zae | apply zac); rfl; rfl; rfl; rfl) | (apply zaY; rfl; rfl; rfl; rfl; exact zam rfl; rfl; rfl) | fail))
  refine zaR (fun a : Nat × Value => [(4, .int .i64 (a.1 : Nat)), (3, a.2), (1, .pointer (some ⟨h.n, 0, none⟩))])
    (fun a h' => a.1 ≤ s.length ∧ Ext (h.push (.cells [.slice q s.length kq, .int .i64 r, .int .i64 o] 25 true)) h' ∧ OutI 3 (h.push (.cells [.slice q s.length kq, .int .i64 r, .int .i64 o] 25 true)) h' a.2 ((highs s).take a.1)) (fun a => s.length - a.1) ?_ (0, nilV) ?_ ?_
  · rintro ⟨k, v⟩ h' ⟨hk, hx, ho⟩ ih
    dsimp only at hk hx ho ih ⊢
    have hb : h'.get? h.n = some (.cells [.slice q s.length kq, .int .i64 r, .int .i64 o] 25 true) := hx.get zaa
    have hle : ((highs s).take k).length ≤ 10000 := by rw [List.length_take]; omega
    by_cases hlt : k < s.length
    · obtain ⟨bs, es, owns, rfl, hgs⟩ := hs0.at (by rw [zai]; omega)
      have hgs' := hx.get (zab hgs)
      (repeat' (first | apply zah | apply zad | (apply O_at; rfl) | (apply zag; rfl) | apply zaf | (apply zaJ; rfl) | apply zan | apply zau | apply zaq | ((first | apply zae | apply zac); rfl; rfl; rfl; rfl) | (apply P_fa; rfl; rfl; rfl; rfl; exact zaQ rfl; (first | exact Nat.zero_add _ | exact Nat.add_zero _ | rfl)) | (apply zaX; rfl; rfl; rfl; rfl; rfl; rfl; exact zar rfl) | (apply zaL; rfl; rfl; rfl; rfl; rfl; omega) | (apply zba; rfl; rfl; rfl; rfl; rfl; (unfold fit; omega)) | (apply zc8; rfl; rfl; rfl; rfl; rfl; exact zar rfl; exact zam rfl; (first | assumption | rfl | exact (Int.toNat_of_nonneg (by omega)).symm); omega) | (apply zao; rfl; rfl; rfl; rfl; exact zay rfl; (focus repeat' first | exact zaa | assumption | apply zab | (apply Ext.get; assumption)); (first | exact zdB (by omega) | rfl | assumption)) | (apply zcv; rfl; rfl; rfl; rfl; rfl; rfl; rfl; exact zbO rfl) | (apply zeW; rfl; rfl; rfl; rfl; rfl; rfl; rfl; rfl; exact zbO rfl; exact zar rfl; (focus repeat' first | exact zaa | assumption | apply zab | (apply Ext.get; assumption)); (apply OutI.ext; assumption; (focus repeat' first | exact Ext.refl _ | assumption | apply Ext.push | (refine Ext.trans ?_ (by assumption)))); (focus repeat' first | exact Ext.refl _ | assumption | apply Ext.push | (refine Ext.trans ?_ (by assumption))); (first | omega | (simp; omega)); (intro _ _ _ _)) | fail))
      rename_i v1 h2 ho2 hx2
      exact zaC (ih (k + 1, v1) _ (by dsimp only; omega) ⟨hlt, by (focus repeat' first | exact Ext.refl _ | assumption | apply Ext.push | (refine Ext.trans ?_ (by assumption))), by rw [zeP hlt]; exact ho2⟩) (by (focus repeat' first | rfl | exact trivial | apply And.intro))
    · obtain rfl : k = s.length := by omega
      rw [List.take_of_length_le (by rw [zcd]; exact Nat.le_refl _)] at ho
      (repeat' (first | apply zah | apply zad | (apply O_at; rfl) | (apply zag; rfl) | apply zaf | (apply zaK; rfl) | apply za7 | apply zav | apply za8 | apply zaS | apply zaT | apply zas | ((first | apply zae | apply zac); rfl; rfl; rfl; rfl) | (apply P_fa; rfl; rfl; rfl; rfl; exact zaQ rfl; (first | exact Nat.zero_add _ | exact Nat.add_zero _ | rfl)) | (apply zaX; rfl; rfl; rfl; rfl; rfl; rfl; exact zar rfl) | (apply zbb; rfl; rfl; rfl; rfl; rfl; omega) | (apply zao; rfl; rfl; rfl; rfl; exact zay rfl; (focus repeat' first | exact zaa | assumption | apply zab | (apply Ext.get; assumption)); (first | exact zdB (by omega) | rfl | assumption)) | fail))
      exact ⟨.inr rfl, _, rfl, (OutI.low (e := 3) ho (Nat.le_succ _)).isL (by (focus repeat' first | exact Ext.refl _ | assumption | apply Ext.push | (refine Ext.trans ?_ (by assumption))))⟩
  · exact ⟨Nat.zero_le _, Ext.refl _, OutI.nil _ _ _⟩
  · (focus repeat' first | rfl | exact trivial | apply And.intro)
/-- The rows around a row are the same one just if it is kept. -/
theorem zhE {n : Nat} {l : List Int} (hKp : KeptP n l) {j : Nat} (hj : j < n) : bef l (j : Nat) = aft l (j : Nat) ↔ ((j : Nat) : Int) ∈ l := by
  have hG := hKp.2.2.2
  rcases zkh hKp hj with ⟨i, hi, hij⟩ | ⟨i, hi, h1, h2⟩
  · have e1 := zeT hG (j := (j : Nat)) hi (by omega) (fun w => by have := hG i w; omega)
    have e2 := zeV hG (j := (j : Nat)) hi (by omega) (fun m w => by have := hG m (by omega); rw [w] at this; omega)
    exact ⟨fun _ => mem_at.2 ⟨i, hi, hij⟩, fun _ => by rw [e1, e2]⟩
  · have e1 := zeT hG (j := (j : Nat)) (i := i) (by omega) (by omega) (fun _ => h2)
    have e2 := zeV hG (j := (j : Nat)) (i := i + 1) hi (by omega) (fun m w => by rw [show m = i by omega]; exact h1)
    refine ⟨fun w => by rw [e1, e2] at w; omega, fun w => ?_⟩
    obtain ⟨k, hk, hkj⟩ := mem_at.1 w
    by_cases hki : k ≤ i
    · have := keptLe hG hki (by omega); omega
    · have := keptLe hG (show i + 1 ≤ k by omega) hk; omega
set_option maxHeartbeats 2000000 in
theorem zkq (hK : NoK K) {T : Tb} {l : List Int} {p : Option Addr} {cap j : Nat} {h : Heap} (hP : TbP T) (hKp : KeptP T.s.length l) (hll : l.length ≤ 1000) (hj : j < T.s.length) (hTb : TbAt T h) (hr : Rd h p (ints l)) :
    CallW Tryz.prog K 79 #[tbV T, .slice p l.length cap, .int .i64 (j : Nat)] h (IsV (.int .i64 (offv T.s l T.r j)) h) := by
  have iH : ∀ {h' : Heap}, Ext h h' → CallW Tryz.prog K 120 #[tbV T] h' (IsL (highs T.s) h') := fun x => zg4 hK (by have := hP.1; omega) (hTb.ext x)
  have iL : ∀ {h' : Heap}, Ext h h' → CallW Tryz.prog K 84 #[tbV T] h' (IsL (lows T.s) h') := fun x => zjh hK (by have := hP.1; omega) (hTb.ext x)
  have iF : ∀ {t : List Int} {pt : Option Addr} {ct : Nat} {h' : Heap}, TruthP T.s t → Rd h' pt (ints t) → Ext h h' → CallW Tryz.prog K 69 #[tbV T, .slice p l.length cap, .int .i64 (j : Nat), .slice pt t.length ct] h' (IsV (.int .i64 (figv l t T.r j)) h') := fun a g x => ze6 hK hP hKp a hll hj (hTb.ext x) (hr.ext x) g
  have f1 := zc0 (r := T.r) hP.2.1 hKp (zcp hP.2.1) hj
  have f2 := zc0 (r := T.r) hP.2.1 hKp (zbY hP.2.1) hj
  rw [zc1 hj] at f1 f2
  have hv := hP.2.1 j hj
  obtain ⟨q, kq, s, r, o⟩ := T
  have hqb : ∀ a, q = some a → a.block < h.n := hTb.b
  have hs0 := hTb.rd
  have hn := hP.1
  have hV := hP.2.1
  dsimp only [tbV, ValP] at iH iL iF f1 f2 hv hn hV hKp hj hs0 ⊢
  have hl2 := hKp.1
  obtain ⟨bs, es, owns, rfl, hgs⟩ := hs0.at (by rw [zai]; omega)
  have ll := zcX s
  have hl := zcd s
  refine body (N := 45) Tryz.func79 rfl (hK _ _ _ rfl) rfl rfl ?_
  have hsame := zhE hKp hj
  by_cases hc : ((j : Nat) : Int) ∈ l
  · have hba := hsame.2 hc
    have e0 : offv s l r j = 0 := if_pos hc
    rw [e0]
    (repeat' (first | apply zah | apply zad | (apply O_at; rfl) | (apply zag; rfl) | apply zaf | (apply zaJ; rfl) | apply zav | apply zbF | apply zas | ((first | apply zae | apply zac | apply zat | apply zbg); rfl; rfl; rfl; rfl) | (apply za2; rfl; rfl; rfl; rfl; rfl) | (apply zcj; rfl; rfl; rfl; rfl; rfl; omega) | (apply zaY; rfl; rfl; rfl; rfl; exact zam rfl; rfl; rfl) | ((first | (apply zaj; rfl; rfl; rfl; rfl; rfl; rfl) | (apply zbe; rfl; rfl; rfl; rfl; rfl; rfl; rfl)); exact zb8 hK (by omega) (hr.ext (by (focus repeat' first | exact Ext.refl _ | assumption | apply Ext.push | (refine Ext.trans ?_ (by assumption))))); (rintro _ _ ⟨rfl, _⟩)) | fail))
    exact ⟨.inr rfl, _, rfl, rfl, by (focus repeat' first | exact Ext.refl _ | assumption | apply Ext.push | (refine Ext.trans ?_ (by assumption)))⟩
  · have hba : ¬ bef l (j : Nat) = aft l (j : Nat) := fun w => hc (hsame.1 w)
    have e0 : offv s l r j = max ((s.getD j (0, 0)).2 - figv l (lows s) r j) (figv l (highs s) r j - (s.getD j (0, 0)).1) := if_neg hc
    rw [e0]
    (repeat' (first | apply zah | apply zad | (apply O_at; rfl) | (apply N_at; rfl) | (apply zag; rfl) | apply zaf | (apply zaK; rfl) | (apply zbE; exact zaO (by decide +kernel)) | apply zau | ((first | apply zae | apply zac | apply zat | apply zbg); rfl; rfl; rfl; rfl) | (apply za2; rfl; rfl; rfl; rfl; rfl) | (apply zeq; rfl; rfl; rfl; rfl; rfl; omega) | (apply zaY; rfl; rfl; rfl; rfl; exact zam rfl; rfl; rfl) | ((first | ((apply zcl; rfl; rfl; rfl; rfl; exact zay rfl); (focus repeat' first | exact zaa | assumption | apply zab | (apply Ext.get; assumption)); (first | exact zdA (by omega) | exact zdB (by omega) | rfl | assumption)) | ((apply zcK; rfl; rfl; rfl; rfl; exact za0 rfl); (focus repeat' first | exact zaa | assumption | apply zab | (apply Ext.get; assumption)); (first | exact Nat.le_of_ble_eq_true rfl | (simp; done) | (simp; omega) | (rw [zai]; omega)); rfl)); (first | assumption | exact zbi _ _ | exact zcn _ _ _ | exact zcA _ _ _ _ _ | rfl | (focus simp [same, same.all2]; done)); (first | rfl | assumption | exact hwv _ | (focus apply zcm; (focus repeat' first | exact zaa | assumption | apply zab | (apply Ext.get; assumption)); done) | exact zbm (by assumption) (by (focus repeat' first | exact Ext.refl _ | assumption | apply Ext.push | (refine Ext.trans ?_ (by assumption)))) | (simp [within]; omega))) | ((first | (apply zaj; rfl; rfl; rfl; rfl; rfl; rfl) | (apply zbe; rfl; rfl; rfl; rfl; rfl; rfl; rfl)); exact zb8 hK (by omega) (hr.ext (by (focus repeat' first | exact Ext.refl _ | assumption | apply Ext.push | (refine Ext.trans ?_ (by assumption))))); (rintro _ _ ⟨rfl, _⟩)) | ((first | (apply zaj; rfl; rfl; rfl; rfl; rfl; rfl) | (apply zbe; rfl; rfl; rfl; rfl; rfl; rfl; rfl)); exact iH (by (focus repeat' first | exact Ext.refl _ | assumption | apply Ext.push | (refine Ext.trans ?_ (by assumption)))); (rintro _ _ ⟨_, _, rfl, _, _⟩)) | fail))
    rename_i h1 x1 h2 p2 c2 rd2 x2
    (repeat' (first | (apply N_at; rfl) | ((first | apply zae | apply zac | apply zat | apply zbg); rfl; rfl; rfl; rfl) | (apply M_fa; rfl; rfl; rfl; rfl; exact zaQ rfl; (first | exact Nat.zero_add _ | exact Nat.add_zero _ | rfl)) | (apply zlw; rfl; rfl; rfl; rfl; rfl; (unfold fit; omega)) | (apply M_idxB; rfl; rfl; rfl; rfl; rfl; exact zar rfl; exact zam rfl; (first | assumption | rfl | exact (Int.toNat_of_nonneg (by omega)).symm); omega) | ((first | ((apply zcl; rfl; rfl; rfl; rfl; exact zay rfl); (focus repeat' first | exact zaa | assumption | apply zab | (apply Ext.get; assumption)); (first | exact zdA (by omega) | exact zdB (by omega) | rfl | assumption)) | ((apply zcK; rfl; rfl; rfl; rfl; exact za0 rfl); (focus repeat' first | exact zaa | assumption | apply zab | (apply Ext.get; assumption)); (first | exact Nat.le_of_ble_eq_true rfl | (simp; done) | (simp; omega) | (rw [zai]; omega)); rfl)); (first | assumption | exact zbi _ _ | exact zcn _ _ _ | exact zcA _ _ _ _ _ | rfl | (focus simp [same, same.all2]; done)); (first | rfl | assumption | exact hwv _ | (focus apply zcm; (focus repeat' first | exact zaa | assumption | apply zab | (apply Ext.get; assumption)); done) | exact zbm (by assumption) (by (focus repeat' first | exact Ext.refl _ | assumption | apply Ext.push | (refine Ext.trans ?_ (by assumption)))) | (simp [within]; omega))) | ((first | (apply zaj; rfl; rfl; rfl; rfl; rfl; rfl) | (apply zbe; rfl; rfl; rfl; rfl; rfl; rfl; rfl)); exact iF (zbY hV) rd2 (by (focus repeat' first | exact Ext.refl _ | assumption | apply Ext.push | (refine Ext.trans ?_ (by assumption)))); (rintro _ _ ⟨rfl, _⟩)) | ((first | (apply zaj; rfl; rfl; rfl; rfl; rfl; rfl) | (apply zbe; rfl; rfl; rfl; rfl; rfl; rfl; rfl)); exact iL (by (focus repeat' first | exact Ext.refl _ | assumption | apply Ext.push | (refine Ext.trans ?_ (by assumption)))); (rintro _ _ ⟨_, _, rfl, _, _⟩)) | fail))
    rename_i h3 x3 h4 p4 c4 rd4 x4
    (repeat' (first | (apply N_at; rfl) | apply zaf | apply zav | (apply zcJ; rfl; refine .inr ?_; (focus repeat' first | exact trivial | exact Keeps.nil _ _ | apply And.intro | rfl | (apply Keeps.cons; iterate 2 (focus repeat' first | exact zaa | assumption | apply zab | (apply Ext.get; assumption))))) | apply zas | ((first | apply zae | apply zac | apply zat | apply zbg); rfl; rfl; rfl; rfl) | (apply zlw; rfl; rfl; rfl; rfl; rfl; (unfold fit; omega)) | (apply M_max; rfl; rfl; rfl; rfl; rfl; rfl) | ((first | (apply zaj; rfl; rfl; rfl; rfl; rfl; rfl) | (apply zbe; rfl; rfl; rfl; rfl; rfl; rfl; rfl)); exact iF (zcp hV) rd4 (by (focus repeat' first | exact Ext.refl _ | assumption | apply Ext.push | (refine Ext.trans ?_ (by assumption)))); (rintro _ _ ⟨rfl, _⟩)) | fail))
    refine ⟨.inr rfl, _, rfl, ?_, by (focus repeat' first | exact Ext.refl _ | assumption | apply Ext.push | (refine Ext.trans ?_ (by assumption)))⟩
    exact congrArg (Value.int .i64) (by omega)
set_option maxHeartbeats 1000000 in
theorem zfS (hK : NoK K) {T : Tb} {l : List Int} {p : Option Addr} {cap : Nat} {h : Heap} (hP : TbP T) (hKp : KeptP T.s.length l) (hll : l.length ≤ 1000) (hTb : TbAt T h) (hr : Rd h p (ints l)) :
    CallW Tryz.prog K 36 #[tbV T, .slice p l.length cap] h (IsL (dbts T.s l T.r T.o T.s.length) h) := by
  have hF : ∀ {j : Nat} {h' : Heap}, j < T.s.length → Ext h h' → CallW Tryz.prog K 79 #[tbV T, .slice p l.length cap, .int .i64 (j : Nat)] h' (IsV (.int .i64 (offv T.s l T.r j)) h') := fun hj x => zkq hK hP hKp hll hj (hTb.ext x) (hr.ext x)
  obtain ⟨q, kq, s, r, o⟩ := T
  have hqb : ∀ a, q = some a → a.block < h.n := hTb.b
  have hn := hP.1
  dsimp only [tbV] at hF hn ⊢
  refine body (N := 26) Tryz.func36 rfl (hK _ _ _ rfl) rfl rfl ?_
  (repeat' (first | apply zah | apply zad | (apply O_at; rfl) | (apply zag; rfl) | apply zaf | apply zan | ((first | apply zae | apply zac | apply zat); rfl; rfl; rfl; rfl) | (apply zaY; rfl; rfl; rfl; rfl; exact zam rfl; rfl; rfl) | fail))
  refine zaR (fun a : Nat × Value => [(6, .int .i64 (a.1 : Nat)), (5, a.2), (2, .pointer (some ⟨h.n, 0, none⟩)), (1, .slice p l.length cap)])
    (fun a h' => a.1 ≤ s.length ∧ Ext (h.push (.cells [.slice q s.length kq, .int .i64 r, .int .i64 o] 25 true)) h' ∧ OutI 3 (h.push (.cells [.slice q s.length kq, .int .i64 r, .int .i64 o] 25 true)) h' a.2 (dbts s l r o a.1)) (fun a => s.length - a.1) ?_ (0, nilV) ?_ ?_
  · rintro ⟨k, v⟩ h' ⟨hk, hx, ho⟩ ih
    dsimp only at hk hx ho ih ⊢
    have hb : h'.get? h.n = some (.cells [.slice q s.length kq, .int .i64 r, .int .i64 o] 25 true) := hx.get zaa
    have hle := dbts_len s l r o k
    by_cases hlt : k < s.length
    · by_cases hc : o < offv s l r k
      · (repeat' (first | apply zah | apply zad | (apply O_at; rfl) | (apply N_at; rfl) | (apply zag; rfl) | apply zaf | (apply zaJ; rfl) | (apply zbE; exact zaO (by decide +kernel)) | apply zan | apply zau | (apply zcJ; rfl; refine .inr ?_; (focus repeat' first | exact trivial | exact Keeps.nil _ _ | apply And.intro | rfl | (apply Keeps.cons; iterate 2 (focus repeat' first | exact zaa | assumption | (apply Ext.get; assumption))))) | apply zaq | ((first | apply zae | apply zac | apply zat); rfl; rfl; rfl; rfl) | ((first | apply P_fa | apply M_fa); rfl; rfl; rfl; rfl; exact zaQ rfl; (first | exact Nat.zero_add _ | exact Nat.add_zero _ | rfl)) | (apply zaX; rfl; rfl; rfl; rfl; rfl; rfl; exact zar rfl) | (apply zaL; rfl; rfl; rfl; rfl; rfl; omega) | (apply zba; rfl; rfl; rfl; rfl; rfl; (unfold fit; omega)) | (apply zao; rfl; rfl; rfl; rfl; exact zay rfl; (focus repeat' first | exact zaa | assumption | (apply Ext.get; assumption)); (first | rfl | assumption)) | (apply zcv; rfl; rfl; rfl; rfl; rfl; rfl; rfl; exact zbO rfl) | (apply zeW; rfl; rfl; rfl; rfl; rfl; rfl; rfl; rfl; exact zbO rfl; exact zar rfl; (focus repeat' first | exact zaa | assumption | (apply Ext.get; assumption)); (apply OutI.ext; assumption; (focus repeat' first | exact Ext.refl _ | assumption | apply Ext.push | (refine Ext.trans ?_ (by assumption)))); (focus repeat' first | exact Ext.refl _ | assumption | apply Ext.push | (refine Ext.trans ?_ (by assumption))); (first | omega | (simp; omega)); (intro _ _ _ _)) | (apply M_gtrT; rfl; rfl; rfl; rfl; rfl; omega) | ((first | ((apply zcl; rfl; rfl; rfl; rfl; exact zay rfl); (focus repeat' first | exact zaa | assumption | (apply Ext.get; assumption)); (first | rfl | assumption)) | ((apply zcK; rfl; rfl; rfl; rfl; exact za0 rfl); (focus repeat' first | exact zaa | assumption | (apply Ext.get; assumption)); (first | exact Nat.le_of_ble_eq_true rfl | (simp; done) | (simp; omega)); rfl)); (first | assumption | exact zbi _ _ | exact zcA _ _ _ _ _ | rfl | (focus simp [same, same.all2]; done)); (first | rfl | assumption | exact hwv _ | exact zbm (by assumption) (by (focus repeat' first | exact Ext.refl _ | assumption | apply Ext.push | (refine Ext.trans ?_ (by assumption)))) | (simp [within]; omega))) | (apply zbe; rfl; rfl; rfl; rfl; rfl; rfl; rfl; exact hF hlt (by (focus repeat' first | exact Ext.refl _ | assumption | apply Ext.push | (refine Ext.trans ?_ (by assumption)))); (rintro _ _ ⟨rfl, _⟩)) | fail))
        rename_i v1 h2 ho2 hx2
        exact zaC (ih (k + 1, v1) _ (by dsimp only; omega) ⟨hlt, by (focus repeat' first | exact Ext.refl _ | assumption | apply Ext.push | (refine Ext.trans ?_ (by assumption))), by rw [zfs hc]; exact ho2⟩) (by (focus repeat' first | rfl | exact trivial | apply And.intro))
      · (repeat' (first | apply zah | apply zad | (apply O_at; rfl) | (apply N_at; rfl) | (apply zag; rfl) | apply zaf | (apply zaJ; rfl) | (apply zaK; rfl) | (apply zbE; exact zaO (by decide +kernel)) | apply zan | apply zau | (apply zcJ; rfl; refine .inr ?_; (focus repeat' first | exact trivial | exact Keeps.nil _ _ | apply And.intro | rfl | (apply Keeps.cons; iterate 2 (focus repeat' first | exact zaa | assumption | (apply Ext.get; assumption))))) | apply zaq | ((first | apply zae | apply zac | apply zat); rfl; rfl; rfl; rfl) | ((first | apply P_fa | apply M_fa); rfl; rfl; rfl; rfl; exact zaQ rfl; (first | exact Nat.zero_add _ | exact Nat.add_zero _ | rfl)) | (apply zaX; rfl; rfl; rfl; rfl; rfl; rfl; exact zar rfl) | (apply zaL; rfl; rfl; rfl; rfl; rfl; omega) | (apply zba; rfl; rfl; rfl; rfl; rfl; (unfold fit; omega)) | (apply zao; rfl; rfl; rfl; rfl; exact zay rfl; (focus repeat' first | exact zaa | assumption | (apply Ext.get; assumption)); (first | rfl | assumption)) | (apply M_gtrF; rfl; rfl; rfl; rfl; rfl; omega) | ((first | ((apply zcl; rfl; rfl; rfl; rfl; exact zay rfl); (focus repeat' first | exact zaa | assumption | (apply Ext.get; assumption)); (first | rfl | assumption)) | ((apply zcK; rfl; rfl; rfl; rfl; exact za0 rfl); (focus repeat' first | exact zaa | assumption | (apply Ext.get; assumption)); (first | exact Nat.le_of_ble_eq_true rfl | (simp; done) | (simp; omega)); rfl)); (first | assumption | exact zbi _ _ | exact zcA _ _ _ _ _ | rfl | (focus simp [same, same.all2]; done)); (first | rfl | assumption | exact hwv _ | exact zbm (by assumption) (by (focus repeat' first | exact Ext.refl _ | assumption | apply Ext.push | (refine Ext.trans ?_ (by assumption)))) | (simp [within]; omega))) | (apply zbe; rfl; rfl; rfl; rfl; rfl; rfl; rfl; exact hF hlt (by (focus repeat' first | exact Ext.refl _ | assumption | apply Ext.push | (refine Ext.trans ?_ (by assumption)))); (rintro _ _ ⟨rfl, _⟩)) | fail))
        exact zaC (ih (k + 1, v) _ (by dsimp only; omega) ⟨hlt, by (focus repeat' first | exact Ext.refl _ | assumption | apply Ext.push | (refine Ext.trans ?_ (by assumption))), by rw [zhw hc]; exact OutI.ext (e := 3) ho (by (focus repeat' first | exact Ext.refl _ | assumption | apply Ext.push | (refine Ext.trans ?_ (by assumption))))⟩) (by (focus repeat' first | rfl | exact trivial | apply And.intro))
    · obtain rfl : k = s.length := by omega
      (repeat' (first | apply zah | apply zad | (apply O_at; rfl) | (apply zag; rfl) | apply zaf | (apply zaK; rfl) | apply za7 | apply zav | apply za8 | apply zaS | apply zaT | apply zas | ((first | apply zae | apply zac | apply zat); rfl; rfl; rfl; rfl) | ((first | apply P_fa | apply M_fa); rfl; rfl; rfl; rfl; exact zaQ rfl; (first | exact Nat.zero_add _ | exact Nat.add_zero _ | rfl)) | (apply zaX; rfl; rfl; rfl; rfl; rfl; rfl; exact zar rfl) | (apply zbb; rfl; rfl; rfl; rfl; rfl; omega) | (apply zao; rfl; rfl; rfl; rfl; exact zay rfl; (focus repeat' first | exact zaa | assumption | (apply Ext.get; assumption)); (first | rfl | assumption)) | fail))
      exact ⟨.inr rfl, _, rfl, (OutI.low (e := 3) ho (Nat.le_succ _)).isL (by (focus repeat' first | exact Ext.refl _ | assumption | apply Ext.push | (refine Ext.trans ?_ (by assumption))))⟩
  · exact ⟨Nat.zero_le _, Ext.refl _, OutI.nil _ _ _⟩
  · (focus repeat' first | rfl | exact trivial | apply And.intro)
end Go.AX.Sa

namespace Go.AX.Sa
open Go.Proofs
set_option maxRecDepth 100000
variable {K : Known}
/-! The list of a step: numbers. -/
def kps (st c : Nat) : List Int := (List.range c).map fun i => ((i * st : Nat) : Int)
theorem zdf (st c : Nat) : (kps st c).length = c := by simp [kps]
theorem zih (st c : Nat) : kps st (c + 1) = kps st c ++ [((c * st : Nat) : Int)] := by simp [kps, List.range_succ]
theorem kps_get {st c i : Nat} (h : i < c) : (kps st c).getD i 0 = ((i * st : Nat) : Int) := by
  simp [kps, List.getD_eq_getElem?_getD, h]
def cnt (last st : Nat) : Nat := (last + st - 1) / st
theorem cnt_is {last st c : Nat} (hst : 1 ≤ st) (h1 : last ≤ c * st) (h2 : ∀ d, c = d + 1 → d * st < last) : c = cnt last st := by
  unfold cnt
  symm
  apply Nat.div_eq_of_lt_le
  · cases c with
    | zero => rw [Nat.zero_mul]; exact Nat.zero_le _
    | succ d =>
      have := h2 d rfl
      rw [Nat.succ_mul]; omega
  · rw [Nat.succ_mul]; omega
theorem cnt_ex {last st : Nat} (hst : 1 ≤ st) : last ≤ cnt last st * st ∧ ∀ d, cnt last st = d + 1 → d * st < last := by
  have h := Nat.div_add_mod (last + st - 1) st
  have hm := Nat.mod_lt (last + st - 1) hst
  have hc : st * ((last + st - 1) / st) = cnt last st * st := Nat.mul_comm _ _
  refine ⟨by omega, fun d hd => ?_⟩
  rw [hd, Nat.succ_mul] at hc
  omega
/-- The list of a step, of a table of some rows. -/
def kls (n st : Nat) : List Int := kps st (cnt (n - 1) st) ++ [(n : Int) - 1]
theorem zcc (n st : Nat) : (kls n st).length = cnt (n - 1) st + 1 := by simp [kls, zdf]
theorem cnt_le {last st : Nat} (hst : 1 ≤ st) : cnt last st ≤ last := by
  have h := (cnt_ex (last := last) hst).2
  cases hc : cnt last st with
  | zero => exact Nat.zero_le _
  | succ d =>
    have := h d hc
    have := Nat.le_mul_of_pos_right d hst
    omega
theorem zfg {n st i : Nat} (h : i < cnt (n - 1) st) : (kls n st).getD i 0 = ((i * st : Nat) : Int) := by
  unfold kls
  rw [List.getD_eq_getElem?_getD, List.getElem?_append_left (by rw [zdf]; exact h), ← List.getD_eq_getElem?_getD, kps_get h]
theorem zff (n st : Nat) : (kls n st).getD (cnt (n - 1) st) 0 = (n : Int) - 1 := by
  unfold kls
  rw [List.getD_eq_getElem?_getD, List.getElem?_append_right (by rw [zdf]; exact Nat.le_refl _), zdf, Nat.sub_self]
  rfl
theorem zii {n st : Nat} (hn : 2 ≤ n) (hst : 1 ≤ st) : KeptP n (kls n st) := by
  obtain ⟨c1, c2⟩ := cnt_ex (last := n - 1) hst
  have hc0 : 0 < cnt (n - 1) st := by
    rcases Nat.eq_zero_or_pos (cnt (n - 1) st) with q | q
    · rw [q, Nat.zero_mul] at c1; omega
    · exact q
  refine ⟨by rw [zcc]; omega, by rw [zfg hc0, Nat.zero_mul]; rfl, by rw [zcc, Nat.add_sub_cancel, zff], fun i hi => ?_⟩
  rw [zcc] at hi
  rw [zfg (show i < cnt (n - 1) st by omega)]
  by_cases hl : i + 1 = cnt (n - 1) st
  · have := c2 i hl.symm
    rw [hl, zff]; omega
  · rw [zfg (show i + 1 < cnt (n - 1) st by omega), Nat.succ_mul]; omega
theorem kls_one {n j : Nat} (hj : j < n) : ((j : Nat) : Int) ∈ kls n 1 := by
  have hc : cnt (n - 1) 1 = n - 1 := by unfold cnt; rw [Nat.div_one, Nat.add_sub_cancel]
  by_cases q : j < n - 1
  · exact mem_at.2 ⟨j, by rw [zcc, hc]; omega, by rw [zfg (by omega), Nat.mul_one]⟩
  · exact mem_at.2 ⟨n - 1, by rw [zcc, hc]; omega, by
      have := zff n 1
      rw [hc] at this
      rw [this]; omega⟩
theorem sure_one {s : List (Int × Int)} {r o : Int} (ho : 0 ≤ o) : SureP s (kls s.length 1) r o := fun j hj => by
  unfold offv
  rw [if_pos (kls_one hj)]
  exact ho
/-- The greatest step whose list surely is right. -/
def WidP (s : List (Int × Int)) (r o : Int) (w : Int) : Prop := (1 ≤ w ∧ w ≤ (s.length : Int) - 1) ∧ SureP s (kls s.length w.toNat) r o ∧ ∀ m : Int, w < m → m ≤ (s.length : Int) - 1 → ¬ SureP s (kls s.length m.toNat) r o
theorem wid_ex {s : List (Int × Int)} {r o : Int} (hn : 2 ≤ s.length) (ho : 0 ≤ o) : ∃ w, WidP s r o w := by
  have key : ∀ d : Nat, ∀ w : Int, w = (d : Int) + 1 → w ≤ (s.length : Int) - 1 → (∀ m : Int, w < m → m ≤ (s.length : Int) - 1 → ¬ SureP s (kls s.length m.toNat) r o) → ∃ w, WidP s r o w := by
    intro d
    induction d with
    | zero =>
      intro w hw h1 h2
      refine ⟨w, ⟨by omega, h1⟩, ?_, h2⟩
      rw [show w.toNat = 1 by omega]
      exact sure_one ho
    | succ d ih =>
      intro w hw h1 h2
      by_cases hs : SureP s (kls s.length w.toNat) r o
      · exact ⟨w, ⟨by omega, h1⟩, hs, h2⟩
      · refine ih (w - 1) (by omega) (by omega) fun m hm1 hm2 => ?_
        by_cases q : m = w
        · subst q; exact hs
        · exact h2 m (by omega) hm2
  exact key (s.length - 2) ((s.length : Int) - 1) (by omega) (Int.le_refl _) fun m h1 h2 => by omega
end Go.AX.Sa
