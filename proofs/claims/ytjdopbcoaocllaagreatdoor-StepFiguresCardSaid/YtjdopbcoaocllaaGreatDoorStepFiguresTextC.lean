/- The law StepFigures at the reading: what the functions that it calls answer (3). -/
import Derived.Test.YtjdopbcoaocllaaGreatDoorStepFiguresTextB
namespace Go.AX.Sa
open Go.Proofs
set_option maxRecDepth 100000
variable {K : Known}
/-! The specification's figures; what is asked for. -/
theorem zdB (hK : NoK K) {l : List Int} {p : Option Addr} {cap : Nat} {row a c : Int} {h : Heap} (hl : 1 ≤ l.length ∧ l.length ≤ 1000) (hr : Rd h p (ints l)) (e1 : bef l row = a) (e2 : aft l row = c) :
    CallW Tryz.prog K 106 #[.slice p l.length cap, .int .i64 row] h (IsV (.tuple #[.int .i64 a, .int .i64 c]) h) := by
  have := zf7 (cap := cap) hK hl hr (row := row)
  rw [e1, e2] at this
  exact this
theorem zc0 (hK : NoK K) {T : Tb} {l t : List Int} {p pt : Option Addr} {cap ct j : Nat} {h : Heap} (hP : TbP T) (hKp : KeptP T.s.length l) (hT : TruthP T.s t) (hll : l.length ≤ 1000) (hj : j < T.s.length) (hTb : TbAt T h) (hr : Rd h p (ints l)) (hrt : Rd h pt (ints t)) :
    CallW Tryz.prog K 69 #[tbV T, .slice p l.length cap, .int .i64 (j : Nat), .slice pt t.length ct] h (IsV (.int .i64 (figv l t T.r j)) h) := by
  obtain ⟨q, kq, s, r, o⟩ := T
  have hqb : ∀ a, q = some a → a.block < h.n := hTb.b
  dsimp only [tbV] at hP hKp hT hj ⊢
  have htl := hT.1
  have hn := hP.1
  dsimp only at hn
  have hr4 := hP.2.2.1
  have hG := hKp.2.2.2
  have hl2 := hKp.1
  have hbd : ∀ j, j < s.length → -10000 ≤ t.getD j 0 ∧ t.getD j 0 ≤ 10000 := fun j hj => zcV hP.2.1 hT hj
  have hlk : ∀ i, i < l.length → 0 ≤ l.getD i 0 ∧ l.getD i 0 ≤ (s.length : Int) - 1 := fun i hi => by
    have a := keptLe hG (Nat.zero_le i) hi
    have c := keptLe hG (show i ≤ l.length - 1 by omega) (by omega)
    have h0 := hKp.2.1
    have h1 := hKp.2.2.1
    omega
  obtain ⟨b, e, own, rfl, hg⟩ := hr.at (by rw [zas]; omega)
  obtain ⟨bt, et, ownt, rfl, hgt⟩ := hrt.at (by rw [zas]; omega)
  refine body (N := 31) Tryz.func69 rfl (hK _ _ _ rfl) rfl rfl ?_
  rcases row_at hKp hj with ⟨i, hi, hij⟩ | ⟨i, hi, h1, h2⟩
  · have e1 := ziw hG (j := (j : Nat)) hi (by omega) (fun w => by have := hG i w; omega)
    have e2 := ziz hG (j := (j : Nat)) hi (by omega) (fun m w => by have := hG m (by omega); rw [w] at this; omega)
    rw [hij] at e1 e2
    rw [zc6 hG hi hij]
    (repeat' (first | apply zam | apply zad | (apply O_at; rfl) | (apply N_at; rfl) | (apply zai; rfl) | apply zaj | (apply zbc; exact zaF (by decide +kernel)) | apply zaA | (apply zbA; rfl; refine .inr ?_; (focus repeat' first | exact trivial | exact Keeps.nil _ _ | apply And.intro | rfl | (apply Keeps.cons; iterate 2 (focus repeat' first | exact zaa | assumption | apply zab | (apply Ext.get; assumption))))) | apply zaB | ((first | apply zae | apply zac | apply zaJ | apply za7); rfl; rfl; rfl; rfl) | (apply zbj; rfl; rfl; rfl; rfl; rfl) | (apply za4; rfl; rfl; rfl; rfl; exact zat rfl; rfl; rfl) | (apply M_fa; rfl; rfl; rfl; rfl; exact zbd rfl; (first | exact Nat.zero_add _ | exact Nat.add_zero _ | rfl)) | (apply zbk; rfl; rfl; rfl; rfl; rfl; exact zav rfl; exact zat rfl; (first | assumption | rfl | exact (Int.toNat_of_nonneg (by omega)).symm); omega) | (((apply zbo; rfl; rfl; rfl; rfl; exact zaI rfl); (focus repeat' first | exact zaa | assumption | apply zab | (apply Ext.get; assumption)); (first | exact zah (by omega) | rfl | assumption)); (first | assumption | exact zan _ _ | rfl | (focus simp [same, same.all2]; done)); (first | rfl | assumption | exact hwv _ | (simp [within]; omega))) | ((first | (apply zaf; rfl; rfl; rfl; rfl; rfl; rfl) | (apply zbl; rfl; rfl; rfl; rfl; rfl; rfl; rfl)); exact zdB hK (by omega) (hr.ext (by (focus repeat' first | exact Ext.refl _ | assumption | apply Ext.push | (refine Ext.trans ?_ (by assumption))))) e1 e2; (rintro _ _ ⟨rfl, _⟩)) | ((first | (apply zaf; rfl; rfl; rfl; rfl; rfl; rfl) | (apply zbl; rfl; rfl; rfl; rfl; rfl; rfl; rfl)); exact zeN hK; (rintro _ _ ⟨rfl, _⟩)) | fail))
    exact ⟨.inr rfl, _, rfl, rfl, by (focus repeat' first | exact Ext.refl _ | assumption | apply Ext.push | (refine Ext.trans ?_ (by assumption)))⟩
  · have e1 := ziw hG (j := (j : Nat)) (i := i) (by omega) (by omega) (fun _ => h2)
    have e2 := ziz hG (j := (j : Nat)) (i := i + 1) hi (by omega) (fun m w => by rw [show m = i by omega]; exact h1)
    have a1 := hlk i (by omega)
    have a2 := hlk (i + 1) hi
    have hm := zfG (l := l) (t := t) (r := r) (i := i) (j := j) hG hi h1 h2
    obtain ⟨A, hA⟩ : ∃ A : Nat, l.getD i 0 = (A : Nat) := ⟨(l.getD i 0).toNat, by omega⟩
    obtain ⟨C, hC⟩ : ∃ C : Nat, l.getD (i + 1) 0 = (C : Nat) := ⟨(l.getD (i + 1) 0).toNat, by omega⟩
    rw [hA] at e1 h1 hm
    rw [hC] at e2 h2 hm
    rw [Int.toNat_natCast, Int.toNat_natCast] at hm
    have hA1 := hbd A (by omega)
    have hC1 := hbd C (by omega)
    rw [hm]
    (repeat' (first | apply zam | apply zad | (apply O_at; rfl) | (apply N_at; rfl) | (apply zai; rfl) | apply zaj | (apply zbc; exact zaF (by decide +kernel)) | apply zaA | (apply zbA; rfl; refine .inr ?_; (focus repeat' first | exact trivial | exact Keeps.nil _ _ | apply And.intro | rfl | (apply Keeps.cons; iterate 2 (focus repeat' first | exact zaa | assumption | apply zab | (apply Ext.get; assumption))))) | apply zaB | ((first | apply zae | apply zac | apply zaJ | apply za7); rfl; rfl; rfl; rfl) | (apply zbj; rfl; rfl; rfl; rfl; rfl) | (apply za4; rfl; rfl; rfl; rfl; exact zat rfl; rfl; rfl) | (apply M_fa; rfl; rfl; rfl; rfl; exact zbd rfl; (first | exact Nat.zero_add _ | exact Nat.add_zero _ | rfl)) | (apply zbk; rfl; rfl; rfl; rfl; rfl; exact zav rfl; exact zat rfl; (first | assumption | rfl | exact (Int.toNat_of_nonneg (by omega)).symm); omega) | (((apply zbo; rfl; rfl; rfl; rfl; exact zaI rfl); (focus repeat' first | exact zaa | assumption | apply zab | (apply Ext.get; assumption)); (first | exact zah (by omega) | rfl | assumption)); (first | assumption | exact zan _ _ | rfl | (focus simp [same, same.all2]; done)); (first | rfl | assumption | exact hwv _ | (simp [within]; omega))) | ((first | (apply zaf; rfl; rfl; rfl; rfl; rfl; rfl) | (apply zbl; rfl; rfl; rfl; rfl; rfl; rfl; rfl)); exact zdB hK (by omega) (hr.ext (by (focus repeat' first | exact Ext.refl _ | assumption | apply Ext.push | (refine Ext.trans ?_ (by assumption))))) e1 e2; (rintro _ _ ⟨rfl, _⟩)) | ((first | (apply zaf; rfl; rfl; rfl; rfl; rfl; rfl) | (apply zbl; rfl; rfl; rfl; rfl; rfl; rfl; rfl)); exact zf6 hK hA1 hC1 (by omega) (by omega) (by omega) (by omega) (by omega); (rintro _ _ ⟨rfl, _⟩)) | fail))
    exact ⟨.inr rfl, _, rfl, rfl, by (focus repeat' first | exact Ext.refl _ | assumption | apply Ext.push | (refine Ext.trans ?_ (by assumption)))⟩
end Go.AX.Sa

namespace Go.AX.Sa
open Go.Proofs
set_option maxRecDepth 100000
variable {K : Known}
/-! All figures, and whether they are right. -/
theorem zfs (hK : NoK K) {T : Tb} {l t : List Int} {p pt : Option Addr} {cap ct : Nat} {h : Heap} (hP : TbP T) (hKp : KeptP T.s.length l) (hT : TruthP T.s t) (hll : l.length ≤ 1000) (hTb : TbAt T h) (hr : Rd h p (ints l)) (hrt : Rd h pt (ints t)) :
    CallW Tryz.prog K 24 #[tbV T, .slice p l.length cap, .slice pt t.length ct] h (IsL (figs l t T.r T.s.length) h) := by
  have hF : ∀ {j : Nat} {h' : Heap}, j < T.s.length → Ext h h' → CallW Tryz.prog K 69 #[tbV T, .slice p l.length cap, .int .i64 (j : Nat), .slice pt t.length ct] h' (IsV (.int .i64 (figv l t T.r j)) h') := fun hj x => zc0 hK hP hKp hT hll hj (hTb.ext x) (hr.ext x) (hrt.ext x)
  obtain ⟨q, kq, s, r, o⟩ := T
  have hn := hP.1
  dsimp only [tbV] at hF hn ⊢
  refine body (N := 25) Tryz.func24 rfl (hK _ _ _ rfl) rfl rfl ?_
  (repeat' (first | apply zam | apply zad | (apply O_at; rfl) | (apply zai; rfl) | apply zaj | apply zay | ((first | apply zae | apply zac); rfl; rfl; rfl; rfl) | (apply za4; rfl; rfl; rfl; rfl; exact zat rfl; rfl; rfl) | fail))
  refine zbB (fun a : Nat × Value => [(8, .int .i64 (a.1 : Nat)), (7, a.2), (3, .pointer (some ⟨h.n, 0, none⟩)), (2, .slice pt t.length ct), (1, .slice p l.length cap)])
    (fun a h' => a.1 ≤ s.length ∧ Ext (h.push (.cells [.slice q s.length kq, .int .i64 r, .int .i64 o] 25 true)) h' ∧ OutI 3 (h.push (.cells [.slice q s.length kq, .int .i64 r, .int .i64 o] 25 true)) h' a.2 (figs l t r a.1)) (fun a => s.length - a.1) ?_ (0, nilV) ?_ ?_
  · rintro ⟨k, v⟩ h' ⟨hk, hx, ho⟩ ih
    dsimp only at hk hx ho ih ⊢
    have hb : h'.get? h.n = some (.cells [.slice q s.length kq, .int .i64 r, .int .i64 o] 25 true) := hx.get zaa
    have hle := zc7 l t r k
    by_cases hlt : k < s.length
    · (repeat' (first | apply zam | apply zad | (apply O_at; rfl) | (apply zai; rfl) | apply zaj | (apply zaS; rfl) | apply zay | apply zaz | apply zaK | ((first | apply zae | apply zac); rfl; rfl; rfl; rfl) | (apply P_fa; rfl; rfl; rfl; rfl; exact zbd rfl; (first | exact Nat.zero_add _ | exact Nat.add_zero _ | rfl)) | (apply zbb; rfl; rfl; rfl; rfl; rfl; rfl; exact zav rfl) | (apply za9; rfl; rfl; rfl; rfl; rfl; omega) | (apply zbx; rfl; rfl; rfl; rfl; rfl; (unfold fit; omega)) | (apply zaG; rfl; rfl; rfl; rfl; exact zaI rfl; (focus repeat' first | exact zaa | assumption | (apply Ext.get; assumption)); (first | rfl | assumption)) | (apply zaP; rfl; rfl; rfl; rfl; exact za1 rfl; (focus repeat' first | exact zaa | assumption | (apply Ext.get; assumption)); (first | exact Nat.le_of_ble_eq_true rfl | (simp; done) | (simp; omega)); rfl) | (apply P_build1; rfl; rfl; rfl; rfl; rfl; rfl; rfl; exact c1_ok rfl) | (apply P_appI; rfl; rfl; rfl; rfl; rfl; rfl; rfl; rfl; exact c1_ok rfl; exact zav rfl; (focus repeat' first | exact zaa | assumption | (apply Ext.get; assumption)); (apply OutI.ext; assumption; (focus repeat' first | exact Ext.refl _ | assumption | apply Ext.push | (refine Ext.trans ?_ (by assumption)))); (focus repeat' first | exact Ext.refl _ | assumption | apply Ext.push | (refine Ext.trans ?_ (by assumption))); (first | omega | (simp; omega)); (intro _ _ _ _)) | (apply zaf; rfl; rfl; rfl; rfl; rfl; rfl; exact hF hlt (by (focus repeat' first | exact Ext.refl _ | assumption | apply Ext.push | (refine Ext.trans ?_ (by assumption)))); (rintro _ _ ⟨rfl, _⟩)) | fail))
      rename_i v1 h2 ho2 hx2
      exact zbi (ih (k + 1, v1) _ (by dsimp only; omega) ⟨hlt, by (focus repeat' first | exact Ext.refl _ | assumption | apply Ext.push | (refine Ext.trans ?_ (by assumption))), by rw [zkD]; exact ho2⟩) (by (focus repeat' first | rfl | exact trivial | apply And.intro))
    · obtain rfl : k = s.length := by omega
      (repeat' (first | apply zam | apply zad | (apply O_at; rfl) | (apply zai; rfl) | apply zaj | (apply zaV; rfl) | apply zbf | apply zaA | apply zbg | apply zaT | apply zaU | apply zaB | ((first | apply zae | apply zac); rfl; rfl; rfl; rfl) | (apply P_fa; rfl; rfl; rfl; rfl; exact zbd rfl; (first | exact Nat.zero_add _ | exact Nat.add_zero _ | rfl)) | (apply zbb; rfl; rfl; rfl; rfl; rfl; rfl; exact zav rfl) | (apply zbw; rfl; rfl; rfl; rfl; rfl; omega) | (apply zaG; rfl; rfl; rfl; rfl; exact zaI rfl; (focus repeat' first | exact zaa | assumption | (apply Ext.get; assumption)); (first | rfl | assumption)) | fail))
      exact ⟨.inr rfl, _, rfl, (OutI.low (e := 3) ho (Nat.le_succ _)).isL (by (focus repeat' first | exact Ext.refl _ | assumption | apply Ext.push | (refine Ext.trans ?_ (by assumption))))⟩
  · exact ⟨Nat.zero_le _, Ext.refl _, OutI.nil _ _ _⟩
  · (focus repeat' first | rfl | exact trivial | apply And.intro)
def RightP (s : List (Int × Int)) (l t : List Int) (r o : Int) : Prop := ∀ j, j < s.length → t.getD j 0 - o ≤ figv l t r j ∧ figv l t r j ≤ t.getD j 0 + o
theorem mixv_bd {a c j x y : Int} (hx : -10000 ≤ x ∧ x ≤ 10000) (hy : -10000 ≤ y ∧ y ≤ 10000) (h1 : a ≤ j) (h2 : j ≤ c) (h3 : c - a ≤ 20) : -400000 ≤ mixv a c j x y ∧ mixv a c j x y ≤ 400000 := by
  have m1 := ze4 hx (d := c - j) (by omega)
  have m2 := ze4 hy (d := j - a) (by omega)
  unfold mixv
  omega
theorem zkC {T : Tb} {l t : List Int} (hP : TbP T) (hKp : KeptP T.s.length l) (hT : TruthP T.s t) {j : Nat} (hj : j < T.s.length) : -1000000 ≤ figv l t T.r j ∧ figv l t T.r j ≤ 1000000 := by
  have hG := hKp.2.2.2
  have hn := hP.1
  have hbd : ∀ j, j < T.s.length → -10000 ≤ t.getD j 0 ∧ t.getD j 0 ≤ 10000 := fun j hj => zcV hP.2.1 hT hj
  have hlk : ∀ i, i < l.length → 0 ≤ l.getD i 0 ∧ l.getD i 0 ≤ (T.s.length : Int) - 1 := fun i hi => by
    have a := keptLe hG (Nat.zero_le i) hi
    have c := keptLe hG (show i ≤ l.length - 1 by omega) (by omega)
    have h0 := hKp.2.1
    have h1 := hKp.2.2.1
    omega
  rcases row_at hKp hj with ⟨i, hi, hij⟩ | ⟨i, hi, h1, h2⟩
  · rw [zc6 hG hi hij]
    have := hbd j hj
    omega
  · have a1 := hlk i (by omega)
    have a2 := hlk (i + 1) hi
    rw [zfG hG hi h1 h2]
    have m := mixv_bd (j := (j : Nat)) (hbd (l.getD i 0).toNat (by omega)) (hbd (l.getD (i + 1) 0).toNat (by omega)) (Int.le_of_lt h1) (Int.le_of_lt h2) (by omega)
    have a3 := rnd_lo T.r (mixv (l.getD i 0) (l.getD (i + 1) 0) j (t.getD (l.getD i 0).toNat 0) (t.getD (l.getD (i + 1) 0).toNat 0)) (l.getD (i + 1) 0 - l.getD i 0)
    obtain ⟨d1, d2⟩ := zes (n := mixv (l.getD i 0) (l.getD (i + 1) 0) j (t.getD (l.getD i 0).toNat 0) (t.getD (l.getD (i + 1) 0).toNat 0)) (u := l.getD (i + 1) 0 - l.getD i 0) (by omega)
    omega
theorem zhh (hK : NoK K) {T : Tb} {l t : List Int} {p pt : Option Addr} {cap ct : Nat} {h : Heap} (hP : TbP T) (hKp : KeptP T.s.length l) (hT : TruthP T.s t) (hll : l.length ≤ 1000) (hTb : TbAt T h) (hr : Rd h p (ints l)) (hrt : Rd h pt (ints t)) (hpb : ∀ a, p = some a → a.block < h.n) (hptb : ∀ a, pt = some a → a.block < h.n) :
    CallW Tryz.prog K 25 #[tbV T, .slice p l.length cap, .slice pt t.length ct] h (IfB (RightP T.s l t T.r T.o) h) := by
  have hF : ∀ {j : Nat} {h' : Heap}, j < T.s.length → Ext h h' → CallW Tryz.prog K 69 #[tbV T, .slice p l.length cap, .int .i64 (j : Nat), .slice pt t.length ct] h' (IsV (.int .i64 (figv l t T.r j)) h') := fun hj x => zc0 hK hP hKp hT hll hj (hTb.ext x) (hr.ext x) (hrt.ext x)
  have hbf : ∀ j, j < T.s.length → -1000000 ≤ figv l t T.r j ∧ figv l t T.r j ≤ 1000000 := fun j hj => zkC hP hKp hT hj
  obtain ⟨q, kq, s, r, o⟩ := T
  have hqb : ∀ a, q = some a → a.block < h.n := hTb.b
  have hbd : ∀ j, j < s.length → -10000 ≤ t.getD j 0 ∧ t.getD j 0 ≤ 10000 := fun j hj => zcV hP.2.1 hT hj
  have hn := hP.1
  have htl := hT.1
  have hOff := hP.2.2.2
  dsimp only [tbV, OffP] at hF hbf hn htl hOff ⊢
  obtain ⟨bt, et, ownt, rfl, hgt⟩ := hrt.at (by rw [zas]; omega)
  refine body (N := 33) Tryz.func25 rfl (hK _ _ _ rfl) rfl rfl ?_
  (repeat' (first | apply zam | apply zad | (apply O_at; rfl) | (apply zai; rfl) | apply zaj | apply zay | ((first | apply zae | apply zac | apply zaJ | apply za7); rfl; rfl; rfl; rfl) | (apply za4; rfl; rfl; rfl; rfl; exact zat rfl; rfl; rfl) | fail))
  refine zbB (fun k : Nat => [(7, .int .i64 (k : Nat)), (3, .pointer (some ⟨h.n, 0, none⟩)), (2, .slice (some ⟨bt, 0, none⟩) t.length ct), (1, .slice p l.length cap)])
    (fun k h' => k ≤ s.length ∧ Ext (h.push (.cells [.slice q s.length kq, .int .i64 r, .int .i64 o] 25 true)) h' ∧ ∀ j, j < k → t.getD j 0 - o ≤ figv l t r j ∧ figv l t r j ≤ t.getD j 0 + o) (fun k => s.length - k) ?_ 0 ?_ ?_
  · intro k h' ⟨hk, hx, hj⟩ ih
    have hb : h'.get? h.n = some (.cells [.slice q s.length kq, .int .i64 r, .int .i64 o] 25 true) := hx.get zaa
    have hgt' := hx.get (zab hgt)
    by_cases hlt : k < s.length
    · have hb1 := hbf k hlt
      have hb2 := hbd k hlt
      by_cases hc : t.getD k 0 - o ≤ figv l t r k ∧ figv l t r k ≤ t.getD k 0 + o
      · (repeat' (first | apply zam | apply zad | (apply O_at; rfl) | (apply N_at; rfl) | (apply zai; rfl) | apply zaj | (apply zaS; rfl) | (apply zaV; rfl) | (apply zbc; exact zaF (by decide +kernel)) | apply zay | apply zaz | (apply zbA; rfl; refine .inr ?_; (focus repeat' first | exact trivial | exact Keeps.nil _ _ | apply And.intro | rfl | (apply Keeps.cons; iterate 2 (focus repeat' first | exact zaa | assumption | apply zab | (apply Ext.get; assumption))))) | apply zaK | ((first | apply zae | apply zac | apply zaJ | apply za7); rfl; rfl; rfl; rfl) | (apply P_fa; rfl; rfl; rfl; rfl; exact zbd rfl; (first | exact Nat.zero_add _ | exact Nat.add_zero _ | rfl)) | (apply zbb; rfl; rfl; rfl; rfl; rfl; rfl; exact zav rfl) | (apply zhR; rfl; rfl; rfl; rfl; (unfold fit; omega)) | (apply za9; rfl; rfl; rfl; rfl; rfl; omega) | (apply zcf; rfl; rfl; rfl; rfl; rfl; omega) | (apply zbx; rfl; rfl; rfl; rfl; rfl; (unfold fit; omega)) | (apply zaG; rfl; rfl; rfl; rfl; exact zaI rfl; (focus repeat' first | exact zaa | assumption | apply zab | (apply Ext.get; assumption)); (first | exact zah (by omega) | rfl | assumption)) | (apply P_max; rfl; rfl; rfl; rfl; rfl; rfl) | (apply zdL; rfl; rfl; rfl; rfl; rfl; (unfold fit; omega)) | (apply zbk; rfl; rfl; rfl; rfl; rfl; exact zav rfl; exact zat rfl; (first | assumption | rfl | exact (Int.toNat_of_nonneg (by omega)).symm); omega) | ((first | ((apply zbo; rfl; rfl; rfl; rfl; exact zaI rfl); (focus repeat' first | exact zaa | assumption | apply zab | (apply Ext.get; assumption)); (first | exact zah (by omega) | rfl | assumption)) | ((apply zbJ; rfl; rfl; rfl; rfl; exact za1 rfl); (focus repeat' first | exact zaa | assumption | apply zab | (apply Ext.get; assumption)); (first | exact Nat.le_of_ble_eq_true rfl | (simp; done) | (simp; omega) | (rw [zas]; omega)); rfl)); (first | assumption | exact zan _ _ | exact zaM _ _ _ _ _ | rfl | (focus simp [same, same.all2]; done)); (first | rfl | assumption | exact hwv _ | exact zap (by assumption) (by (focus repeat' first | exact Ext.refl _ | assumption | apply Ext.push | (refine Ext.trans ?_ (by assumption)))) | (simp [within]; omega))) | (apply zbl; rfl; rfl; rfl; rfl; rfl; rfl; rfl; exact hF hlt (by (focus repeat' first | exact Ext.refl _ | assumption | apply Ext.push | (refine Ext.trans ?_ (by assumption)))); (rintro _ _ ⟨rfl, _⟩)) | fail))
        refine zbi (ih (k + 1) _ (by omega) ⟨hlt, by (focus repeat' first | exact Ext.refl _ | assumption | apply Ext.push | (refine Ext.trans ?_ (by assumption))), fun j hj' => ?_⟩) (by (focus repeat' first | rfl | exact trivial | apply And.intro))
        by_cases hjk : j = k
        · subst hjk; exact hc
        · exact hj j (by omega)
      · (repeat' (first | apply zam | apply zad | (apply O_at; rfl) | (apply N_at; rfl) | (apply zai; rfl) | apply zaj | (apply zaS; rfl) | (apply zbc; exact zaF (by decide +kernel)) | apply zay | apply zaz | apply zaA | (apply zbA; rfl; refine .inr ?_; (focus repeat' first | exact trivial | exact Keeps.nil _ _ | apply And.intro | rfl | (apply Keeps.cons; iterate 2 (focus repeat' first | exact zaa | assumption | apply zab | (apply Ext.get; assumption))))) | apply zaN | apply zbQ | apply zbR | apply zaB | ((first | apply zae | apply zac | apply zaJ | apply za7); rfl; rfl; rfl; rfl) | (apply P_fa; rfl; rfl; rfl; rfl; exact zbd rfl; (first | exact Nat.zero_add _ | exact Nat.add_zero _ | rfl)) | (apply zbb; rfl; rfl; rfl; rfl; rfl; rfl; exact zav rfl) | (apply zhR; rfl; rfl; rfl; rfl; (unfold fit; omega)) | (apply za9; rfl; rfl; rfl; rfl; rfl; omega) | (apply zcI; rfl; rfl; rfl; rfl; rfl; omega) | (apply zaG; rfl; rfl; rfl; rfl; exact zaI rfl; (focus repeat' first | exact zaa | assumption | apply zab | (apply Ext.get; assumption)); (first | exact zah (by omega) | rfl | assumption)) | (apply P_max; rfl; rfl; rfl; rfl; rfl; rfl) | (apply zdL; rfl; rfl; rfl; rfl; rfl; (unfold fit; omega)) | (apply zbk; rfl; rfl; rfl; rfl; rfl; exact zav rfl; exact zat rfl; (first | assumption | rfl | exact (Int.toNat_of_nonneg (by omega)).symm); omega) | ((first | ((apply zbo; rfl; rfl; rfl; rfl; exact zaI rfl); (focus repeat' first | exact zaa | assumption | apply zab | (apply Ext.get; assumption)); (first | exact zah (by omega) | rfl | assumption)) | ((apply zbJ; rfl; rfl; rfl; rfl; exact za1 rfl); (focus repeat' first | exact zaa | assumption | apply zab | (apply Ext.get; assumption)); (first | exact Nat.le_of_ble_eq_true rfl | (simp; done) | (simp; omega) | (rw [zas]; omega)); rfl)); (first | assumption | exact zan _ _ | exact zaM _ _ _ _ _ | rfl | (focus simp [same, same.all2]; done)); (first | rfl | assumption | exact hwv _ | exact zap (by assumption) (by (focus repeat' first | exact Ext.refl _ | assumption | apply Ext.push | (refine Ext.trans ?_ (by assumption)))) | (simp [within]; omega))) | (apply zbl; rfl; rfl; rfl; rfl; rfl; rfl; rfl; exact hF hlt (by (focus repeat' first | exact Ext.refl _ | assumption | apply Ext.push | (refine Ext.trans ?_ (by assumption)))); (rintro _ _ ⟨rfl, _⟩)) | fail))
        exact ⟨.inr rfl, _, rfl, .inr ⟨rfl, fun z => hc (z k hlt), by (focus repeat' first | exact Ext.refl _ | assumption | apply Ext.push | (refine Ext.trans ?_ (by assumption)))⟩⟩
    · (repeat' (first | apply zam | apply zad | (apply O_at; rfl) | (apply zai; rfl) | apply zaj | (apply zaV; rfl) | apply zbf | apply zaA | apply zbg | apply zaT | apply zaU | apply zaB | ((first | apply zae | apply zac | apply zaJ | apply za7); rfl; rfl; rfl; rfl) | (apply P_fa; rfl; rfl; rfl; rfl; exact zbd rfl; (first | exact Nat.zero_add _ | exact Nat.add_zero _ | rfl)) | (apply zbb; rfl; rfl; rfl; rfl; rfl; rfl; exact zav rfl) | (apply zbw; rfl; rfl; rfl; rfl; rfl; omega) | (apply zaG; rfl; rfl; rfl; rfl; exact zaI rfl; (focus repeat' first | exact zaa | assumption | apply zab | (apply Ext.get; assumption)); (first | exact zah (by omega) | rfl | assumption)) | fail))
      exact ⟨.inr rfl, _, rfl, .inl ⟨rfl, fun j hj' => hj j (by omega), by (focus repeat' first | exact Ext.refl _ | assumption | apply Ext.push | (refine Ext.trans ?_ (by assumption)))⟩⟩
  · exact ⟨Nat.zero_le _, Ext.refl _, fun j hj => by omega⟩
  · (focus repeat' first | rfl | exact trivial | apply And.intro)
end Go.AX.Sa

namespace Go.AX.Sa
open Go.Proofs
set_option maxRecDepth 100000
variable {K : Known}
/-! Check, Figures, Right. -/
theorem fill_st (q p : Option Addr) (n k m j : Nat) (r o : Int) : fillB Tryz.prog 82 [(0, .agg #[.slice q n k, .int .i64 r, .int .i64 o]), (1, .slice p m j)] = some (.agg #[.slice q n k, .int .i64 r, .int .i64 o, .slice p m j]) := by kernel_rfl
section
variable {x : Ctx} {N : Nat} {E : Env} {h : Heap} {ops : Array Oper} {F : Ex → Env → Heap → Prop} {i : Nat}
variable {d : Nat} {ty : TypeId} {pos : String} {af : Array Edge} {g : Option (Nat × Bool)} {ps : Array (Nat × Operand)}
theorem zcg {q p : Option Addr} {n k1 m j : Nat} {r o : Int} (hN : Nat.blt d N = true) (hg : gval ops E g = some true) (hk : opsOK Tryz.prog ⟨some d, .build 82 ps, ty, pos, af, g⟩ = true)
    (hps : E.parts ps.toList = some [(0, .agg #[.slice q n k1, .int .i64 r, .int .i64 o]), (1, .slice p m j)]) (k : R1 Tryz.prog K x N ops F (i + 1) ((d, .agg #[.slice q n k1, .int .i64 r, .int .i64 o, .slice p m j]) :: E) h) : R2 Tryz.prog K x N ops F i ⟨some d, .build 82 ps, ty, pos, af, g⟩ E h := zeF hN hg hk hps (fill_st q p n k1 m j r o) k
end
theorem check_ok (hK : NoK K) {T : Tb} {h : Heap} (hl : T.s.length ≤ 1000) (hTb : TbAt T h) (hP : TbP T) : CallW Tryz.prog K 17 #[tbV T] h (IsV (.int .i64 0) h) := by
  have iT : ∀ {h' : Heap}, Ext h h' → CallW Tryz.prog K 62 #[tbV T] h' (IfB (TbP T) h') := fun x => zdm hK hl (hTb.ext x)
  obtain ⟨q, kq, s, r, o⟩ := T
  dsimp only [tbV] at iT ⊢
  refine body (N := 6) Tryz.func17 rfl (hK _ _ _ rfl) rfl rfl ?_
  (repeat' (first | apply zam | apply zad | (apply O_at; rfl) | (apply zai; rfl) | apply zaj | (apply zaV; rfl) | apply zaz | apply zaA | apply zaB | ((first | apply zac | apply zb1); rfl; rfl; rfl; rfl) | (apply zaP; rfl; rfl; rfl; rfl; exact za1 rfl; (focus repeat' first | exact zaa | assumption); (first | exact Nat.le_of_ble_eq_true rfl | (simp; done) | (simp; omega)); rfl) | (apply za4; rfl; rfl; rfl; rfl; exact zat rfl; rfl; rfl) | (apply zaf; rfl; rfl; rfl; rfl; rfl; rfl; exact yes (iT (by (focus repeat' first | exact Ext.refl _ | assumption | apply Ext.push | (refine Ext.trans ?_ (by assumption))))) hP; (rintro _ _ ⟨rfl, _⟩)) | fail))
  exact ⟨.inr rfl, _, rfl, rfl, by (focus repeat' first | exact Ext.refl _ | assumption | apply Ext.push | (refine Ext.trans ?_ (by assumption)))⟩
theorem zkS (hK : NoK K) {T : Tb} {h : Heap} (hl : T.s.length ≤ 1000) (hTb : TbAt T h) (hP : ¬ TbP T) : CallW Tryz.prog K 17 #[tbV T] h (IsV (.int .i64 2) h) := by
  have iT : ∀ {h' : Heap}, Ext h h' → CallW Tryz.prog K 62 #[tbV T] h' (IfB (TbP T) h') := fun x => zdm hK hl (hTb.ext x)
  obtain ⟨q, kq, s, r, o⟩ := T
  dsimp only [tbV] at iT ⊢
  refine body (N := 6) Tryz.func17 rfl (hK _ _ _ rfl) rfl rfl ?_
  (repeat' (first | apply zam | apply zad | (apply O_at; rfl) | (apply zai; rfl) | apply zaj | (apply zaS; rfl) | apply zaA | apply zaN | apply zaB | ((first | apply zac | apply zb1); rfl; rfl; rfl; rfl) | (apply zaP; rfl; rfl; rfl; rfl; exact za1 rfl; (focus repeat' first | exact zaa | assumption); (first | exact Nat.le_of_ble_eq_true rfl | (simp; done) | (simp; omega)); rfl) | (apply za4; rfl; rfl; rfl; rfl; exact zat rfl; rfl; rfl) | (apply zaf; rfl; rfl; rfl; rfl; rfl; rfl; exact no (iT (by (focus repeat' first | exact Ext.refl _ | assumption | apply Ext.push | (refine Ext.trans ?_ (by assumption))))) hP; (rintro _ _ ⟨rfl, _⟩)) | fail))
  exact ⟨.inr rfl, _, rfl, rfl, by (focus repeat' first | exact Ext.refl _ | assumption | apply Ext.push | (refine Ext.trans ?_ (by assumption)))⟩
theorem ze0 (hK : NoK K) {T : Tb} {l t : List Int} {p pt : Option Addr} {cap ct : Nat} {h : Heap} (hP : TbP T) (hKp : KeptP T.s.length l) (hT : TruthP T.s t) (hcap : l.length ≤ cap) (hll : l.length ≤ 1000) (hTb : TbAt T h) (hr : Rd h p (ints l)) (hrt : Rd h pt (ints t)) (hpb : ∀ a, p = some a → a.block < h.n) :
    CallW Tryz.prog K 18 #[tbV T, .slice p l.length cap, .slice pt t.length ct] h (OkL (figs l t T.r T.s.length) h) := by
  have hn := hP.1
  have htl := hT.1
  have hl2 := hKp.1
  obtain ⟨b, e, own, rfl, hg⟩ := hr.at (by rw [zas]; omega)
  obtain ⟨bt, et, ownt, rfl, hgt⟩ := hrt.at (by rw [zas]; omega)
  have iK : ∀ {h' : Heap}, Ext h h' → CallW Tryz.prog K 63 #[ktV T (some ⟨b, 0, none⟩) l.length cap] h' (IsV (.bool true) h') := fun x => yes (zgw hK (by omega) hll (hTb.ext x) (hr.ext x) (fun a w => Nat.lt_of_lt_of_le (hpb a w) x.n)) ⟨hP, hKp⟩
  have iW : ∀ {h' : Heap}, Ext h h' → CallW Tryz.prog K 64 #[.slice (some ⟨bt, 0, none⟩) t.length ct, .slice T.q T.s.length T.k] h' (IsV (.bool true) h') := fun x => yes (zdG hK (by omega) (hTb.rd.ext x) (by omega) (hrt.ext x)) hT
  have iF : ∀ {h' : Heap}, Ext h h' → CallW Tryz.prog K 65 #[ktV T (some ⟨b, 0, none⟩) l.length cap, .slice (some ⟨bt, 0, none⟩) t.length ct] h' (IsL (figs l t T.r T.s.length) h') := fun x => zjg hK hP hKp hT hcap hll (x.get hg) (x.get hgt)
  obtain ⟨q, kq, s, r, o⟩ := T
  dsimp only [tbV, ktV] at iK iW iF ⊢
  refine body (N := 25) Tryz.func18 rfl (hK _ _ _ rfl) rfl rfl ?_
  (repeat' (first | apply zam | apply zad | (apply O_at; rfl) | (apply zai; rfl) | apply zaj | (apply zaV; rfl) | apply zaz | apply zaA | apply zaB | ((first | apply zae | apply zac | apply zb1); rfl; rfl; rfl; rfl) | (apply P_fa; rfl; rfl; rfl; rfl; exact zbd rfl; (first | exact Nat.zero_add _ | exact Nat.add_zero _ | rfl)) | (apply zaY; rfl; rfl; rfl; rfl; rfl; rfl) | (apply zaG; rfl; rfl; rfl; rfl; exact zaI rfl; (focus repeat' first | exact zaa | assumption | apply zab | (apply Ext.get; assumption)); (first | rfl | assumption)) | (apply zaP; rfl; rfl; rfl; rfl; exact za1 rfl; (focus repeat' first | exact zaa | assumption | apply zab | (apply Ext.get; assumption)); (first | exact Nat.le_of_ble_eq_true rfl | (simp; done) | (simp; omega) | (rw [zas]; omega)); rfl) | (apply zbV; rfl; rfl; rfl; rfl; exact zat rfl; rfl; rfl; rfl) | (apply zcg; rfl; rfl; rfl; rfl) | (apply za4; rfl; rfl; rfl; rfl; exact zat rfl; rfl; rfl) | (apply zdu; rfl; rfl; rfl; rfl; exact zat rfl; rfl; rfl) | (apply zaf; rfl; rfl; rfl; rfl; rfl; rfl; exact iK (by (focus repeat' first | exact Ext.refl _ | assumption | apply Ext.push | (refine Ext.trans ?_ (by assumption)))); (rintro _ _ ⟨rfl, _⟩)) | (apply zaf; rfl; rfl; rfl; rfl; rfl; rfl; exact iW (by (focus repeat' first | exact Ext.refl _ | assumption | apply Ext.push | (refine Ext.trans ?_ (by assumption)))); (rintro _ _ ⟨rfl, _⟩)) | (apply zaf; rfl; rfl; rfl; rfl; rfl; rfl; exact iF (by (focus repeat' first | exact Ext.refl _ | assumption | apply Ext.push | (refine Ext.trans ?_ (by assumption)))); (rintro _ _ ⟨_, _, rfl, _, _⟩)) | fail))
  rename_i rd1 y1
  exact ⟨.inr rfl, _, rfl, _, _, rfl, rd1, by (focus repeat' first | exact Ext.refl _ | assumption | apply Ext.push | (refine Ext.trans ?_ (by assumption)))⟩
theorem zd1 (hK : NoK K) {T : Tb} {l t : List Int} {p pt : Option Addr} {cap ct : Nat} {h : Heap} (hsl : T.s.length ≤ 1000) (hn : ¬ ((TbP T ∧ KeptP T.s.length l) ∧ TruthP T.s t)) (hll : l.length ≤ 1000) (htl : t.length ≤ 1000) (hTb : TbAt T h) (hr : Rd h p (ints l)) (hrt : Rd h pt (ints t)) (hpb : ∀ a, p = some a → a.block < h.n) :
    CallW Tryz.prog K 18 #[tbV T, .slice p l.length cap, .slice pt t.length ct] h (IsV (.tuple #[.slice none 0 0, .int .i64 2]) h) := by
  have iK : ∀ {h' : Heap}, Ext h h' → CallW Tryz.prog K 63 #[ktV T p l.length cap] h' (IfB (TbP T ∧ KeptP T.s.length l) h') := fun x => zgw hK hsl hll (hTb.ext x) (hr.ext x) (fun a w => Nat.lt_of_lt_of_le (hpb a w) x.n)
  have iW : ∀ {h' : Heap}, Ext h h' → CallW Tryz.prog K 64 #[.slice pt t.length ct, .slice T.q T.s.length T.k] h' (IfB (TruthP T.s t) h') := fun x => zdG hK hsl (hTb.rd.ext x) htl (hrt.ext x)
  obtain ⟨q, kq, s, r, o⟩ := T
  dsimp only [tbV, ktV] at iK iW hn ⊢
  refine body (N := 25) Tryz.func18 rfl (hK _ _ _ rfl) rfl rfl ?_
  by_cases h1 : TbP ⟨q, kq, s, r, o⟩ ∧ KeptP s.length l
  · have h2 : ¬ TruthP s t := fun w => hn ⟨h1, w⟩
    (repeat' (first | apply zam | apply zad | (apply O_at; rfl) | (apply zai; rfl) | apply zaj | (apply zaS; rfl) | apply zaA | apply zaN | apply zaB | ((first | apply zae | apply zac | apply zb1); rfl; rfl; rfl; rfl) | (apply P_fa; rfl; rfl; rfl; rfl; exact zbd rfl; (first | exact Nat.zero_add _ | exact Nat.add_zero _ | rfl)) | (apply zaY; rfl; rfl; rfl; rfl; rfl; rfl) | (apply zaG; rfl; rfl; rfl; rfl; exact zaI rfl; (focus repeat' first | exact zaa | assumption | apply zab | (apply Ext.get; assumption)); (first | rfl | assumption)) | (apply zaP; rfl; rfl; rfl; rfl; exact za1 rfl; (focus repeat' first | exact zaa | assumption | apply zab | (apply Ext.get; assumption)); (first | exact Nat.le_of_ble_eq_true rfl | (simp; done) | (simp; omega)); rfl) | (apply zbV; rfl; rfl; rfl; rfl; exact zat rfl; rfl; rfl; rfl) | (apply zcg; rfl; rfl; rfl; rfl) | (apply za4; rfl; rfl; rfl; rfl; exact zat rfl; rfl; rfl) | (apply zdu; rfl; rfl; rfl; rfl; exact zat rfl; rfl; rfl) | (apply zaf; rfl; rfl; rfl; rfl; rfl; rfl; exact yes (iK (by (focus repeat' first | exact Ext.refl _ | assumption | apply Ext.push | (refine Ext.trans ?_ (by assumption))))) h1; (rintro _ _ ⟨rfl, _⟩)) | (apply zaf; rfl; rfl; rfl; rfl; rfl; rfl; exact no (iW (by (focus repeat' first | exact Ext.refl _ | assumption | apply Ext.push | (refine Ext.trans ?_ (by assumption))))) h2; (rintro _ _ ⟨rfl, _⟩)) | fail))
    exact ⟨.inr rfl, _, rfl, rfl, by (focus repeat' first | exact Ext.refl _ | assumption | apply Ext.push | (refine Ext.trans ?_ (by assumption)))⟩
  · (repeat' (first | apply zam | apply zad | (apply O_at; rfl) | (apply zai; rfl) | apply zaj | (apply zaS; rfl) | apply zaA | apply zaN | apply zaB | (apply zbv; rfl; rfl; rfl) | ((first | apply zae | apply zac | apply zb1); rfl; rfl; rfl; rfl) | (apply zaY; rfl; rfl; rfl; rfl; rfl; rfl) | (apply zaP; rfl; rfl; rfl; rfl; exact za1 rfl; (focus repeat' first | exact zaa | assumption | apply zab | (apply Ext.get; assumption)); (first | exact Nat.le_of_ble_eq_true rfl | (simp; done) | (simp; omega)); rfl) | (apply zbV; rfl; rfl; rfl; rfl; exact zat rfl; rfl; rfl; rfl) | (apply zcg; rfl; rfl; rfl; rfl) | (apply za4; rfl; rfl; rfl; rfl; exact zat rfl; rfl; rfl) | (apply zdu; rfl; rfl; rfl; rfl; exact zat rfl; rfl; rfl) | (apply zaf; rfl; rfl; rfl; rfl; rfl; rfl; exact no (iK (by (focus repeat' first | exact Ext.refl _ | assumption | apply Ext.push | (refine Ext.trans ?_ (by assumption))))) h1; (rintro _ _ ⟨rfl, _⟩)) | fail))
    exact ⟨.inr rfl, _, rfl, rfl, by (focus repeat' first | exact Ext.refl _ | assumption | apply Ext.push | (refine Ext.trans ?_ (by assumption)))⟩
end Go.AX.Sa

namespace Go.AX.Sa
open Go.Proofs
set_option maxRecDepth 100000
variable {K : Known}
/-! Right; the law. -/
theorem figs_at {T : Tb} {l t : List Int} (hP : TbP T) (hKp : KeptP T.s.length l) (hT : TruthP T.s t) {j : Nat} (hj : j < T.s.length) : -1000000 ≤ (figs l t T.r T.s.length).getD j 0 ∧ (figs l t T.r T.s.length).getD j 0 ≤ 1000000 := by
  rw [zfH hj]; exact zkC hP hKp hT hj
theorem right_ok (hK : NoK K) {T : Tb} {l t : List Int} {p pt : Option Addr} {cap ct : Nat} {h : Heap} (hP : TbP T) (hKp : KeptP T.s.length l) (hT : TruthP T.s t) (hcap : l.length ≤ cap) (hll : l.length ≤ 1000) (hTb : TbAt T h) (hr : Rd h p (ints l)) (hrt : Rd h pt (ints t)) (hpb : ∀ a, p = some a → a.block < h.n) :
    CallW Tryz.prog K 19 #[tbV T, .slice p l.length cap, .slice pt t.length ct] h (fun v h1 => (v = .tuple #[.bool true, .int .i64 0] ∧ RightP T.s l t T.r T.o ∧ Ext h h1) ∨ (v = .tuple #[.bool false, .int .i64 0] ∧ ¬ RightP T.s l t T.r T.o ∧ Ext h h1)) := by
  have iF : ∀ {h' : Heap}, Ext h h' → CallW Tryz.prog K 18 #[tbV T, .slice p l.length cap, .slice pt t.length ct] h' (OkL (figs l t T.r T.s.length) h') := fun x => ze0 hK hP hKp hT hcap hll (hTb.ext x) (hr.ext x) (hrt.ext x) (fun a w => Nat.lt_of_lt_of_le (hpb a w) x.n)
  have hbf : ∀ j, j < T.s.length → -1000000 ≤ (figs l t T.r T.s.length).getD j 0 ∧ (figs l t T.r T.s.length).getD j 0 ≤ 1000000 := fun j hj => figs_at hP hKp hT hj
  obtain ⟨q, kq, s, r, o⟩ := T
  have hqb : ∀ a, q = some a → a.block < h.n := hTb.b
  have hbd : ∀ j, j < s.length → -10000 ≤ t.getD j 0 ∧ t.getD j 0 ≤ 10000 := fun j hj => zcV hP.2.1 hT hj
  have hn := hP.1
  have htl := hT.1
  have hOff := hP.2.2.2
  dsimp only [tbV, OffP] at iF hbf hn htl hOff ⊢
  obtain ⟨bt, et, ownt, rfl, hgt⟩ := hrt.at (by rw [zas]; omega)
  have hfl := zc7 l t r s.length
  refine body (N := 47) Tryz.func19 rfl (hK _ _ _ rfl) rfl rfl ?_
  (repeat' (first | apply zam | apply zad | (apply O_at; rfl) | (apply zai; rfl) | apply zaj | (apply zaV; rfl) | apply zay | apply zaz | ((first | apply zae | apply zac | apply zaJ | apply zeY); rfl; rfl; rfl; rfl) | (apply zbb; rfl; rfl; rfl; rfl; rfl; rfl; exact zav rfl) | (apply zbj; rfl; rfl; rfl; rfl; rfl) | (apply zb0; rfl; rfl; rfl; rfl; rfl; omega) | (apply zaP; rfl; rfl; rfl; rfl; exact za1 rfl; (focus repeat' first | exact zaa | assumption | apply zab | (apply Ext.get; assumption)); (first | exact Nat.le_of_ble_eq_true rfl | (simp; done) | (simp; omega) | (rw [zas]; omega)); rfl) | (apply za4; rfl; rfl; rfl; rfl; exact zat rfl; rfl; rfl) | ((first | (apply zaf; rfl; rfl; rfl; rfl; rfl; rfl) | (apply zbl; rfl; rfl; rfl; rfl; rfl; rfl; rfl)); exact iF (by (focus repeat' first | exact Ext.refl _ | assumption | apply Ext.push | (refine Ext.trans ?_ (by assumption)))); (rintro _ _ ⟨_, _, rfl, _, _⟩)) | fail))
  rename_i h1 fq fc frd fx
  rw [hfl]
  obtain ⟨bf, ef, ownf, rfl, gf⟩ := frd.at (by rw [zas]; omega)
  have hgt1 := fx.get (zab hgt)
  have hb1 : h1.get? h.n = some (.cells [.slice q s.length kq, .int .i64 r, .int .i64 o] 25 true) := fx.get zaa
  refine zbB (fun k : Nat => [(24, .int .i64 (k : Nat)), (23, .int .i64 (s.length : Nat)), (22, .slice (some ⟨bf, 0, none⟩) s.length fc), (3, .pointer (some ⟨h.n, 0, none⟩)), (2, .slice (some ⟨bt, 0, none⟩) t.length ct)])
    (fun k h' => k ≤ s.length ∧ Ext h1 h' ∧ ∀ j, j < k → t.getD j 0 - o ≤ figv l t r j ∧ figv l t r j ≤ t.getD j 0 + o) (fun k => s.length - k) ?_ 0 ?_ ?_
  · intro k h' ⟨hk, hx, hj⟩ ih
    have hb := hx.get hb1
    have hgt' := hx.get hgt1
    have gf' := hx.get gf
    by_cases hlt : k < s.length
    · have c1 := hbf k hlt
      have c2 := hbd k hlt
      have c3 := zfH (l := l) (t := t) (r := r) hlt
      by_cases hc : t.getD k 0 - o ≤ (figs l t r s.length).getD k 0 ∧ (figs l t r s.length).getD k 0 ≤ t.getD k 0 + o
      · (repeat' (first | apply zam | apply zad | (apply O_at; rfl) | (apply N_at; rfl) | (apply zai; rfl) | apply zaj | (apply zaS; rfl) | (apply zaV; rfl) | (apply zbc; exact zaF (by decide +kernel)) | apply zay | apply zaz | (apply zbA; rfl; refine .inr ?_; (focus repeat' first | exact trivial | exact Keeps.nil _ _ | apply And.intro | rfl | (apply Keeps.cons; iterate 2 (focus repeat' first | exact zaa | assumption | apply zab | (apply Ext.get; assumption))))) | apply zaK | ((first | apply zae | apply zac | apply zaJ | apply zeY); rfl; rfl; rfl; rfl) | (apply za9; rfl; rfl; rfl; rfl; rfl; omega) | ((first | apply zbx | apply M_add); rfl; rfl; rfl; rfl; rfl; (unfold fit; omega)) | ((first | apply zcm | apply zbk); rfl; rfl; rfl; rfl; rfl; exact zav rfl; exact zat rfl; (first | assumption | rfl | exact (Int.toNat_of_nonneg (by omega)).symm); omega) | (apply zaG; rfl; rfl; rfl; rfl; exact zaI rfl; (focus repeat' first | exact zaa | assumption | apply zab | (apply Ext.get; assumption)); (first | exact zah (by omega) | rfl | assumption)) | (apply M_fa; rfl; rfl; rfl; rfl; exact zbd rfl; (first | exact Nat.zero_add _ | exact Nat.add_zero _ | rfl)) | (apply zdL; rfl; rfl; rfl; rfl; rfl; (unfold fit; omega)) | (((apply zbo; rfl; rfl; rfl; rfl; exact zaI rfl); (focus repeat' first | exact zaa | assumption | apply zab | (apply Ext.get; assumption)); (first | exact zah (by omega) | rfl | assumption)); (first | assumption | exact zan _ _ | rfl | (focus simp [same, same.all2]; done)); (first | rfl | assumption | exact hwv _ | (simp [within]; omega))) | ((first | (apply zaf; rfl; rfl; rfl; rfl; rfl; rfl) | (apply zbl; rfl; rfl; rfl; rfl; rfl; rfl; rfl)); exact yes (zbE hK) hc; (rintro _ _ ⟨rfl, _⟩)) | fail))
        refine zbi (ih (k + 1) _ (by omega) ⟨hlt, by (focus repeat' first | exact Ext.refl _ | assumption | apply Ext.push | (refine Ext.trans ?_ (by assumption))), fun j hj' => ?_⟩) (by (focus repeat' first | rfl | exact trivial | apply And.intro))
        by_cases hjk : j = k
        · subst hjk; rw [c3] at hc; exact hc
        · exact hj j (by omega)
      · (repeat' (first | apply zam | apply zad | (apply O_at; rfl) | (apply N_at; rfl) | (apply zai; rfl) | apply zaj | (apply zaS; rfl) | (apply zbc; exact zaF (by decide +kernel)) | apply zay | apply zaz | apply zaA | (apply zbA; rfl; refine .inr ?_; (focus repeat' first | exact trivial | exact Keeps.nil _ _ | apply And.intro | rfl | (apply Keeps.cons; iterate 2 (focus repeat' first | exact zaa | assumption | apply zab | (apply Ext.get; assumption))))) | apply zaN | apply zbQ | apply zbR | apply zaB | ((first | apply zae | apply zac | apply zaJ | apply zeY); rfl; rfl; rfl; rfl) | (apply za9; rfl; rfl; rfl; rfl; rfl; omega) | ((first | apply zbx | apply M_add); rfl; rfl; rfl; rfl; rfl; (unfold fit; omega)) | ((first | apply zcm | apply zbk); rfl; rfl; rfl; rfl; rfl; exact zav rfl; exact zat rfl; (first | assumption | rfl | exact (Int.toNat_of_nonneg (by omega)).symm); omega) | (apply zaG; rfl; rfl; rfl; rfl; exact zaI rfl; (focus repeat' first | exact zaa | assumption | apply zab | (apply Ext.get; assumption)); (first | exact zah (by omega) | rfl | assumption)) | (apply M_fa; rfl; rfl; rfl; rfl; exact zbd rfl; (first | exact Nat.zero_add _ | exact Nat.add_zero _ | rfl)) | (apply zdL; rfl; rfl; rfl; rfl; rfl; (unfold fit; omega)) | (((apply zbo; rfl; rfl; rfl; rfl; exact zaI rfl); (focus repeat' first | exact zaa | assumption | apply zab | (apply Ext.get; assumption)); (first | exact zah (by omega) | rfl | assumption)); (first | assumption | exact zan _ _ | rfl | (focus simp [same, same.all2]; done)); (first | rfl | assumption | exact hwv _ | (simp [within]; omega))) | ((first | (apply zaf; rfl; rfl; rfl; rfl; rfl; rfl) | (apply zbl; rfl; rfl; rfl; rfl; rfl; rfl; rfl)); exact no (zbE hK) hc; (rintro _ _ ⟨rfl, _⟩)) | fail))
        exact ⟨.inr rfl, _, rfl, .inr ⟨rfl, fun z => hc (by rw [c3]; exact z k hlt), by (focus repeat' first | exact Ext.refl _ | assumption | apply Ext.push | (refine Ext.trans ?_ (by assumption)))⟩⟩
    · (repeat' (first | apply zam | apply zad | (apply O_at; rfl) | (apply zai; rfl) | apply zaj | (apply zaV; rfl) | apply zbf | apply zaA | apply zbg | apply zaT | apply zaU | apply zaB | ((first | apply zae | apply zac | apply zaJ | apply zeY); rfl; rfl; rfl; rfl) | (apply zbw; rfl; rfl; rfl; rfl; rfl; omega) | fail))
      exact ⟨.inr rfl, _, rfl, .inl ⟨rfl, fun j hj' => hj j (by omega), by (focus repeat' first | exact Ext.refl _ | assumption | apply Ext.push | (refine Ext.trans ?_ (by assumption)))⟩⟩
  · exact ⟨Nat.zero_le _, Ext.refl _, fun j hj => by omega⟩
  · (focus repeat' first | rfl | exact trivial | apply And.intro)
theorem zj4 (hK : NoK K) {T : Tb} {l t : List Int} {p pt : Option Addr} {cap ct : Nat} {h : Heap} (hsl : T.s.length ≤ 1000) (hn : ¬ ((TbP T ∧ KeptP T.s.length l) ∧ TruthP T.s t)) (hll : l.length ≤ 1000) (htl : t.length ≤ 1000) (hTb : TbAt T h) (hr : Rd h p (ints l)) (hrt : Rd h pt (ints t)) (hpb : ∀ a, p = some a → a.block < h.n) :
    CallW Tryz.prog K 19 #[tbV T, .slice p l.length cap, .slice pt t.length ct] h (IsV (.tuple #[.bool false, .int .i64 2]) h) := by
  have iF : ∀ {h' : Heap}, Ext h h' → CallW Tryz.prog K 18 #[tbV T, .slice p l.length cap, .slice pt t.length ct] h' (IsV (.tuple #[.slice none 0 0, .int .i64 2]) h') := fun x => zd1 hK hsl hn hll htl (hTb.ext x) (hr.ext x) (hrt.ext x) (fun a w => Nat.lt_of_lt_of_le (hpb a w) x.n)
  obtain ⟨q, kq, s, r, o⟩ := T
  dsimp only [tbV] at iF ⊢
  refine body (N := 47) Tryz.func19 rfl (hK _ _ _ rfl) rfl rfl ?_
  (repeat' (first | apply zam | apply zad | (apply O_at; rfl) | (apply zai; rfl) | apply zaj | (apply zaS; rfl) | apply zaA | apply zaN | apply zaB | ((first | apply zae | apply zac); rfl; rfl; rfl; rfl) | (apply zbj; rfl; rfl; rfl; rfl; rfl) | (apply zcz; rfl; rfl; rfl; rfl; rfl; omega) | (apply zaP; rfl; rfl; rfl; rfl; exact za1 rfl; (focus repeat' first | exact zaa | assumption); (first | exact Nat.le_of_ble_eq_true rfl | (simp; done) | (simp; omega)); rfl) | (apply za4; rfl; rfl; rfl; rfl; exact zat rfl; rfl; rfl) | (apply zaf; rfl; rfl; rfl; rfl; rfl; rfl; exact iF (by (focus repeat' first | exact Ext.refl _ | assumption | apply Ext.push | (refine Ext.trans ?_ (by assumption)))); (rintro _ _ ⟨rfl, _⟩)) | fail))
  exact ⟨.inr rfl, _, rfl, rfl, by (focus repeat' first | exact Ext.refl _ | assumption | apply Ext.push | (refine Ext.trans ?_ (by assumption)))⟩
theorem short_ok (hK : NoK K) {T : Tb} {h : Heap} : CallW Tryz.prog K 15 #[tbV T] h (IfB (T.s.length ≤ 16) h) := by
  obtain ⟨q, kq, s, r, o⟩ := T
  dsimp only [tbV]
  refine body (N := 7) Tryz.func15 rfl (hK _ _ _ rfl) rfl rfl ?_
  by_cases hs : s.length ≤ 16
  · (repeat' (first | apply zam | apply zad | (apply O_at; rfl) | (apply zai; rfl) | apply zaj | apply zaA | apply zaB | (apply zac; rfl; rfl; rfl; rfl) | (apply P_fa; rfl; rfl; rfl; rfl; exact zbd rfl; (first | exact Nat.zero_add _ | exact Nat.add_zero _ | rfl)) | (apply zbb; rfl; rfl; rfl; rfl; rfl; rfl; exact zav rfl) | (apply ziC; rfl; rfl; rfl; rfl; rfl; omega) | (apply zaG; rfl; rfl; rfl; rfl; exact zaI rfl; (focus repeat' first | exact zaa | assumption); (first | rfl | assumption)) | (apply za4; rfl; rfl; rfl; rfl; exact zat rfl; rfl; rfl) | fail))
    exact ⟨.inr rfl, _, rfl, .inl ⟨rfl, hs, by (focus repeat' first | exact Ext.refl _ | assumption | apply Ext.push)⟩⟩
  · (repeat' (first | apply zam | apply zad | (apply O_at; rfl) | (apply zai; rfl) | apply zaj | apply zaA | apply zaB | (apply zac; rfl; rfl; rfl; rfl) | (apply P_fa; rfl; rfl; rfl; rfl; exact zbd rfl; (first | exact Nat.zero_add _ | exact Nat.add_zero _ | rfl)) | (apply zbb; rfl; rfl; rfl; rfl; rfl; rfl; exact zav rfl) | (apply zk2; rfl; rfl; rfl; rfl; rfl; omega) | (apply zaG; rfl; rfl; rfl; rfl; exact zaI rfl; (focus repeat' first | exact zaa | assumption); (first | rfl | assumption)) | (apply za4; rfl; rfl; rfl; rfl; exact zat rfl; rfl; rfl) | fail))
    exact ⟨.inr rfl, _, rfl, .inr ⟨rfl, hs, by (focus repeat' first | exact Ext.refl _ | assumption | apply Ext.push)⟩⟩
end Go.AX.Sa

namespace Go.AX.Sa
open Go.Proofs
set_option maxRecDepth 100000
variable {K : Known}
/-- A list in memory, as an argument. -/
structure RowAt (p : Option Addr) (l : List Int) (cap : Nat) (h : Heap) : Prop where
  rd : Rd h p (ints l)
  b : ∀ a, p = some a → a.block < h.n
  cap : l.length ≤ 1000000 → l.length ≤ cap
theorem RowAt.ext {p : Option Addr} {l : List Int} {cap : Nat} {h h1 : Heap} (x : RowAt p l cap h) (e : Ext h h1) : RowAt p l cap h1 := ⟨x.rd.ext e, fun a q => Nat.lt_of_lt_of_le (x.b a q) e.n, x.cap⟩
set_option maxHeartbeats 2000000 in
/-- P5.1: which tables are as defined, and the figures of any truth with any kept list, or the errors. -/
theorem zeI (hK : NoK K) (hKn : Kn K) {T : Tb} {l t : List Int} {p pt : Option Addr} {cap ct : Nat} {h : Heap} (hTb : TbAt T h) (hl : RowAt p l cap h) (ht : RowAt pt t ct h) :
    CallW Tryz.prog K 3 #[tbV T, .slice p l.length cap, .slice pt t.length ct] h (fun v _ => v = .bool true) := by
  have iS : ∀ {h' : Heap}, CallW Tryz.prog K 15 #[tbV T] h' (IfB (T.s.length ≤ 16) h') := short_ok hK
  have iC1 : ∀ {h' : Heap}, T.s.length ≤ 16 → TbP T → Ext h h' → CallW Tryz.prog K 17 #[tbV T] h' (IsV (.int .i64 0) h') := fun a b x => check_ok hK (by omega) (hTb.ext x) b
  have iC2 : ∀ {h' : Heap}, T.s.length ≤ 16 → ¬ TbP T → Ext h h' → CallW Tryz.prog K 17 #[tbV T] h' (IsV (.int .i64 2) h') := fun a b x => zkS hK (by omega) (hTb.ext x) b
  have iT : ∀ {h' : Heap}, T.s.length ≤ 16 → Ext h h' → CallW Tryz.prog K 20 #[tbV T] h' (IfB (TbP T) h') := fun a x => zhg hK (by omega) (hTb.ext x)
  have iFb : ∀ {h' : Heap}, T.s.length ≤ 16 → l.length ≤ 16 → t.length ≤ 16 → ¬ ((TbP T ∧ KeptP T.s.length l) ∧ TruthP T.s t) → Ext h h' → CallW Tryz.prog K 18 #[tbV T, .slice p l.length cap, .slice pt t.length ct] h' (IsV (.tuple #[.slice none 0 0, .int .i64 2]) h') := fun a b c n x => zd1 hK (by omega) n (by omega) (by omega) (hTb.ext x) (hl.ext x).rd (ht.ext x).rd (hl.ext x).b
  have iRb : ∀ {h' : Heap}, T.s.length ≤ 16 → l.length ≤ 16 → t.length ≤ 16 → ¬ ((TbP T ∧ KeptP T.s.length l) ∧ TruthP T.s t) → Ext h h' → CallW Tryz.prog K 19 #[tbV T, .slice p l.length cap, .slice pt t.length ct] h' (IsV (.tuple #[.bool false, .int .i64 2]) h') := fun a b c n x => zj4 hK (by omega) n (by omega) (by omega) (hTb.ext x) (hl.ext x).rd (ht.ext x).rd (hl.ext x).b
  have iK : ∀ {h' : Heap}, T.s.length ≤ 16 → l.length ≤ 16 → Ext h h' → CallW Tryz.prog K 21 #[tbV T, .slice p l.length cap] h' (IfB (KeptP T.s.length l) h') := fun a b x => zi6 hK (by omega) (by omega) (hTb.ext x) (hl.ext x).rd (hl.ext x).b
  have iU : ∀ {h' : Heap}, T.s.length ≤ 16 → t.length ≤ 16 → Ext h h' → CallW Tryz.prog K 22 #[tbV T, .slice pt t.length ct] h' (IfB (TruthP T.s t) h') := fun a b x => zhf hK (by omega) (hTb.ext x).rd (by omega) (ht.ext x).rd
  have iF : ∀ {h' : Heap}, TbP T → KeptP T.s.length l → TruthP T.s t → l.length ≤ 16 → Ext h h' → CallW Tryz.prog K 18 #[tbV T, .slice p l.length cap, .slice pt t.length ct] h' (OkL (figs l t T.r T.s.length) h') := fun a b c d x => ze0 hK a b c (hl.cap (by omega)) (by omega) (hTb.ext x) (hl.ext x).rd (ht.ext x).rd (hl.ext x).b
  have iR := fun {h' : Heap} (a : TbP T) (b : KeptP T.s.length l) (c : TruthP T.s t) (d : l.length ≤ 16) (x : Ext h h') => right_ok (cap := cap) (ct := ct) hK a b c (hl.cap (by omega)) (by omega) (hTb.ext x) (hl.ext x).rd (ht.ext x).rd (hl.ext x).b
  have jF : ∀ {h' : Heap}, TbP T → KeptP T.s.length l → TruthP T.s t → l.length ≤ 16 → Ext h h' → CallW Tryz.prog K 24 #[tbV T, .slice p l.length cap, .slice pt t.length ct] h' (IsL (figs l t T.r T.s.length) h') := fun a b c d x => zfs hK a b c (by omega) (hTb.ext x) (hl.ext x).rd (ht.ext x).rd
  have jR : ∀ {h' : Heap}, TbP T → KeptP T.s.length l → TruthP T.s t → l.length ≤ 16 → Ext h h' → CallW Tryz.prog K 25 #[tbV T, .slice p l.length cap, .slice pt t.length ct] h' (IfB (RightP T.s l t T.r T.o) h') := fun a b c d x => zhh hK a b c (by omega) (hTb.ext x) (hl.ext x).rd (ht.ext x).rd (hl.ext x).b (ht.ext x).b
  obtain ⟨q, kq, s, r, o⟩ := T
  dsimp only [tbV] at *
  refine body (N := 122) Tryz.func3 rfl (hK _ _ _ rfl) rfl rfl ?_
  by_cases hs : s.length ≤ 16
  · by_cases hl16 : l.length ≤ 16
    · by_cases ht16 : t.length ≤ 16
      · by_cases hP : TbP ⟨q, kq, s, r, o⟩
        · by_cases hKp : KeptP s.length l
          · by_cases hT : TruthP s t
            · have hsl := hP.1
              dsimp only at hsl
              have hfl := zc7 l t r s.length
              by_cases hR : RightP s l t r o
              · (repeat' (first | apply zam | apply zad | (apply O_at; rfl) | (apply zai; rfl) | apply zaj | (apply zaV; rfl) | apply zaz | ((first | apply zae | apply zac | apply zb1); rfl; rfl; rfl; rfl) | (apply zbb; rfl; rfl; rfl; rfl; rfl; rfl; exact zav rfl) | (apply zaY; rfl; rfl; rfl; rfl; rfl; rfl) | (apply zbj; rfl; rfl; rfl; rfl; rfl) | (apply zcf; rfl; rfl; rfl; rfl; rfl; omega) | (apply zbP; rfl; rfl; rfl; rfl; rfl; omega) | (apply zb0; rfl; rfl; rfl; rfl; rfl; omega) | (apply zaP; rfl; rfl; rfl; rfl; exact za1 rfl; (focus repeat' first | exact zaa | assumption | (apply Ext.get; assumption)); (first | exact Nat.le_of_ble_eq_true rfl | (simp; done) | (simp; omega)); rfl) | (apply za4; rfl; rfl; rfl; rfl; exact zat rfl; rfl; rfl) | (apply zaf; rfl; rfl; rfl; rfl; rfl; rfl; exact yes iS hs; (rintro _ _ ⟨rfl, _⟩)) | (apply zaf; rfl; rfl; rfl; rfl; rfl; rfl; exact iC1 hs hP (by (focus repeat' first | exact Ext.refl _ | assumption | apply Ext.push | (refine Ext.trans ?_ (by assumption)))); (rintro _ _ ⟨rfl, _⟩)) | (apply zaf; rfl; rfl; rfl; rfl; rfl; rfl; exact iF hP hKp hT hl16 (by (focus repeat' first | exact Ext.refl _ | assumption | apply Ext.push | (refine Ext.trans ?_ (by assumption)))); (rintro _ _ ⟨_, _, rfl, _, _⟩)) | (apply zaf; rfl; rfl; rfl; rfl; rfl; rfl; exact okY (iR hP hKp hT hl16 (by (focus repeat' first | exact Ext.refl _ | assumption | apply Ext.push | (refine Ext.trans ?_ (by assumption))))) hR; (rintro _ _ ⟨rfl, _⟩)) | (apply zaf; rfl; rfl; rfl; rfl; rfl; rfl; exact yes (iT hs (by (focus repeat' first | exact Ext.refl _ | assumption | apply Ext.push | (refine Ext.trans ?_ (by assumption))))) hP; (rintro _ _ ⟨rfl, _⟩)) | (apply zaf; rfl; rfl; rfl; rfl; rfl; rfl; exact yes (iK hs hl16 (by (focus repeat' first | exact Ext.refl _ | assumption | apply Ext.push | (refine Ext.trans ?_ (by assumption))))) hKp; (rintro _ _ ⟨rfl, _⟩)) | (apply zaf; rfl; rfl; rfl; rfl; rfl; rfl; exact yes (iU hs ht16 (by (focus repeat' first | exact Ext.refl _ | assumption | apply Ext.push | (refine Ext.trans ?_ (by assumption))))) hT; (rintro _ _ ⟨rfl, _⟩)) | (apply zaf; rfl; rfl; rfl; rfl; rfl; rfl; exact jF hP hKp hT hl16 (by (focus repeat' first | exact Ext.refl _ | assumption | apply Ext.push | (refine Ext.trans ?_ (by assumption)))); (rintro _ _ ⟨_, _, rfl, _, _⟩)) | fail))
                rename_i g1 x1 g2 x2 g3 f1 c1 rd1 x3 g4 x4 g5 x5 g6 x6 g7 x7 g8 f2 c2 rd2 x8
                (repeat' (first | (apply O_at; rfl) | (apply zai; rfl) | apply zaj | apply zaA | apply zaB | ((first | apply zae | apply zac | apply zb1); rfl; rfl; rfl; rfl) | (apply zaY; rfl; rfl; rfl; rfl; rfl; rfl) | (apply zbP; rfl; rfl; rfl; rfl; rfl; omega) | (apply zaP; rfl; rfl; rfl; rfl; exact za1 rfl; (focus repeat' first | exact zaa | assumption | (apply Ext.get; assumption)); (first | exact Nat.le_of_ble_eq_true rfl | (simp; done) | (simp; omega)); rfl) | (apply zdg; rfl; rfl; rfl; rfl; rfl; rfl) | (apply zaf; rfl; rfl; rfl; rfl; rfl; rfl; exact yes (zjU hK (by omega) (by omega) (rd1.ext (by (focus repeat' first | exact Ext.refl _ | assumption | apply Ext.push | (refine Ext.trans ?_ (by assumption))))) rd2) rfl; (rintro _ _ ⟨rfl, _⟩)) | (apply zaf; rfl; rfl; rfl; rfl; rfl; rfl; exact yes (jR hP hKp hT hl16 (by (focus repeat' first | exact Ext.refl _ | assumption | apply Ext.push | (refine Ext.trans ?_ (by assumption))))) hR; (rintro _ _ ⟨rfl, _⟩)) | (apply zaf; rfl; rfl; rfl; rfl; rfl; rfl; exact zbN hKn; (rintro _ _ ⟨rfl, _⟩)) | fail))
                exact ⟨.inr rfl, _, rfl, rfl⟩
              · (repeat' (first | apply zam | apply zad | (apply O_at; rfl) | (apply zai; rfl) | apply zaj | (apply zaV; rfl) | apply zaz | ((first | apply zae | apply zac | apply zb1); rfl; rfl; rfl; rfl) | (apply zbb; rfl; rfl; rfl; rfl; rfl; rfl; exact zav rfl) | (apply zaY; rfl; rfl; rfl; rfl; rfl; rfl) | (apply zbj; rfl; rfl; rfl; rfl; rfl) | (apply zcf; rfl; rfl; rfl; rfl; rfl; omega) | (apply zbP; rfl; rfl; rfl; rfl; rfl; omega) | (apply zb0; rfl; rfl; rfl; rfl; rfl; omega) | (apply zaP; rfl; rfl; rfl; rfl; exact za1 rfl; (focus repeat' first | exact zaa | assumption | (apply Ext.get; assumption)); (first | exact Nat.le_of_ble_eq_true rfl | (simp; done) | (simp; omega)); rfl) | (apply za4; rfl; rfl; rfl; rfl; exact zat rfl; rfl; rfl) | (apply zaf; rfl; rfl; rfl; rfl; rfl; rfl; exact yes iS hs; (rintro _ _ ⟨rfl, _⟩)) | (apply zaf; rfl; rfl; rfl; rfl; rfl; rfl; exact iC1 hs hP (by (focus repeat' first | exact Ext.refl _ | assumption | apply Ext.push | (refine Ext.trans ?_ (by assumption)))); (rintro _ _ ⟨rfl, _⟩)) | (apply zaf; rfl; rfl; rfl; rfl; rfl; rfl; exact iF hP hKp hT hl16 (by (focus repeat' first | exact Ext.refl _ | assumption | apply Ext.push | (refine Ext.trans ?_ (by assumption)))); (rintro _ _ ⟨_, _, rfl, _, _⟩)) | (apply zaf; rfl; rfl; rfl; rfl; rfl; rfl; exact okN (iR hP hKp hT hl16 (by (focus repeat' first | exact Ext.refl _ | assumption | apply Ext.push | (refine Ext.trans ?_ (by assumption))))) hR; (rintro _ _ ⟨rfl, _⟩)) | (apply zaf; rfl; rfl; rfl; rfl; rfl; rfl; exact yes (iT hs (by (focus repeat' first | exact Ext.refl _ | assumption | apply Ext.push | (refine Ext.trans ?_ (by assumption))))) hP; (rintro _ _ ⟨rfl, _⟩)) | (apply zaf; rfl; rfl; rfl; rfl; rfl; rfl; exact yes (iK hs hl16 (by (focus repeat' first | exact Ext.refl _ | assumption | apply Ext.push | (refine Ext.trans ?_ (by assumption))))) hKp; (rintro _ _ ⟨rfl, _⟩)) | (apply zaf; rfl; rfl; rfl; rfl; rfl; rfl; exact yes (iU hs ht16 (by (focus repeat' first | exact Ext.refl _ | assumption | apply Ext.push | (refine Ext.trans ?_ (by assumption))))) hT; (rintro _ _ ⟨rfl, _⟩)) | (apply zaf; rfl; rfl; rfl; rfl; rfl; rfl; exact jF hP hKp hT hl16 (by (focus repeat' first | exact Ext.refl _ | assumption | apply Ext.push | (refine Ext.trans ?_ (by assumption)))); (rintro _ _ ⟨_, _, rfl, _, _⟩)) | fail))
                rename_i g1 x1 g2 x2 g3 f1 c1 rd1 x3 g4 x4 g5 x5 g6 x6 g7 x7 g8 f2 c2 rd2 x8
                (repeat' (first | (apply O_at; rfl) | (apply zai; rfl) | apply zaj | apply zaA | apply zaB | ((first | apply zae | apply zac | apply zb1); rfl; rfl; rfl; rfl) | (apply zaY; rfl; rfl; rfl; rfl; rfl; rfl) | (apply zbP; rfl; rfl; rfl; rfl; rfl; omega) | (apply zaP; rfl; rfl; rfl; rfl; exact za1 rfl; (focus repeat' first | exact zaa | assumption | (apply Ext.get; assumption)); (first | exact Nat.le_of_ble_eq_true rfl | (simp; done) | (simp; omega)); rfl) | (apply zdg; rfl; rfl; rfl; rfl; rfl; rfl) | (apply zaf; rfl; rfl; rfl; rfl; rfl; rfl; exact yes (zjU hK (by omega) (by omega) (rd1.ext (by (focus repeat' first | exact Ext.refl _ | assumption | apply Ext.push | (refine Ext.trans ?_ (by assumption))))) rd2) rfl; (rintro _ _ ⟨rfl, _⟩)) | (apply zaf; rfl; rfl; rfl; rfl; rfl; rfl; exact no (jR hP hKp hT hl16 (by (focus repeat' first | exact Ext.refl _ | assumption | apply Ext.push | (refine Ext.trans ?_ (by assumption))))) hR; (rintro _ _ ⟨rfl, _⟩)) | (apply zaf; rfl; rfl; rfl; rfl; rfl; rfl; exact zbN hKn; (rintro _ _ ⟨rfl, _⟩)) | fail))
                exact ⟨.inr rfl, _, rfl, rfl⟩
            · have hno : ¬ ((TbP ⟨q, kq, s, r, o⟩ ∧ KeptP s.length l) ∧ TruthP s t) := fun w => hT w.2
              (repeat' (first | apply zam | apply zad | (apply O_at; rfl) | (apply zai; rfl) | apply zaj | (apply zaS; rfl) | (apply zaV; rfl) | apply zaz | apply zaA | apply zaN | apply zaB | ((first | apply zae | apply zac | apply zb1); rfl; rfl; rfl; rfl) | (apply zbb; rfl; rfl; rfl; rfl; rfl; rfl; exact zav rfl) | (apply zaY; rfl; rfl; rfl; rfl; rfl; rfl) | (apply zbj; rfl; rfl; rfl; rfl; rfl) | (apply zcf; rfl; rfl; rfl; rfl; rfl; omega) | (apply zbP; rfl; rfl; rfl; rfl; rfl; omega) | (apply zb0; rfl; rfl; rfl; rfl; rfl; omega) | (apply zaP; rfl; rfl; rfl; rfl; exact za1 rfl; (focus repeat' first | exact zaa | assumption | (apply Ext.get; assumption)); (first | exact Nat.le_of_ble_eq_true rfl | (simp; done) | (simp; omega)); rfl) | (apply za4; rfl; rfl; rfl; rfl; exact zat rfl; rfl; rfl) | (apply zaf; rfl; rfl; rfl; rfl; rfl; rfl; exact yes iS hs; (rintro _ _ ⟨rfl, _⟩)) | (apply zaf; rfl; rfl; rfl; rfl; rfl; rfl; exact iC1 hs hP (by (focus repeat' first | exact Ext.refl _ | assumption | apply Ext.push | (refine Ext.trans ?_ (by assumption)))); (rintro _ _ ⟨rfl, _⟩)) | (apply zaf; rfl; rfl; rfl; rfl; rfl; rfl; exact iFb hs hl16 ht16 hno (by (focus repeat' first | exact Ext.refl _ | assumption | apply Ext.push | (refine Ext.trans ?_ (by assumption)))); (rintro _ _ ⟨rfl, _⟩)) | (apply zaf; rfl; rfl; rfl; rfl; rfl; rfl; exact iRb hs hl16 ht16 hno (by (focus repeat' first | exact Ext.refl _ | assumption | apply Ext.push | (refine Ext.trans ?_ (by assumption)))); (rintro _ _ ⟨rfl, _⟩)) | (apply zaf; rfl; rfl; rfl; rfl; rfl; rfl; exact yes (iT hs (by (focus repeat' first | exact Ext.refl _ | assumption | apply Ext.push | (refine Ext.trans ?_ (by assumption))))) hP; (rintro _ _ ⟨rfl, _⟩)) | (apply zaf; rfl; rfl; rfl; rfl; rfl; rfl; exact yes (iK hs hl16 (by (focus repeat' first | exact Ext.refl _ | assumption | apply Ext.push | (refine Ext.trans ?_ (by assumption))))) hKp; (rintro _ _ ⟨rfl, _⟩)) | (apply zaf; rfl; rfl; rfl; rfl; rfl; rfl; exact no (iU hs ht16 (by (focus repeat' first | exact Ext.refl _ | assumption | apply Ext.push | (refine Ext.trans ?_ (by assumption))))) hT; (rintro _ _ ⟨rfl, _⟩)) | (apply zaf; rfl; rfl; rfl; rfl; rfl; rfl; exact zbN hKn; (rintro _ _ ⟨rfl, _⟩)) | fail))
              exact ⟨.inr rfl, _, rfl, rfl⟩
          · have hno : ¬ ((TbP ⟨q, kq, s, r, o⟩ ∧ KeptP s.length l) ∧ TruthP s t) := fun w => hKp w.1.2
            (repeat' (first | apply zam | apply zad | (apply O_at; rfl) | (apply zai; rfl) | apply zaj | (apply zaS; rfl) | (apply zaV; rfl) | apply zaz | apply zaA | apply zaN | apply zaB | (apply zbv; rfl; rfl; rfl) | ((first | apply zae | apply zac | apply zb1); rfl; rfl; rfl; rfl) | (apply zbb; rfl; rfl; rfl; rfl; rfl; rfl; exact zav rfl) | (apply zaY; rfl; rfl; rfl; rfl; rfl; rfl) | (apply zbj; rfl; rfl; rfl; rfl; rfl) | (apply zcf; rfl; rfl; rfl; rfl; rfl; omega) | (apply zbP; rfl; rfl; rfl; rfl; rfl; omega) | (apply zb0; rfl; rfl; rfl; rfl; rfl; omega) | (apply zaP; rfl; rfl; rfl; rfl; exact za1 rfl; (focus repeat' first | exact zaa | assumption | (apply Ext.get; assumption)); (first | exact Nat.le_of_ble_eq_true rfl | (simp; done) | (simp; omega)); rfl) | (apply za4; rfl; rfl; rfl; rfl; exact zat rfl; rfl; rfl) | (apply zaf; rfl; rfl; rfl; rfl; rfl; rfl; exact yes iS hs; (rintro _ _ ⟨rfl, _⟩)) | (apply zaf; rfl; rfl; rfl; rfl; rfl; rfl; exact iC1 hs hP (by (focus repeat' first | exact Ext.refl _ | assumption | apply Ext.push | (refine Ext.trans ?_ (by assumption)))); (rintro _ _ ⟨rfl, _⟩)) | (apply zaf; rfl; rfl; rfl; rfl; rfl; rfl; exact iFb hs hl16 ht16 hno (by (focus repeat' first | exact Ext.refl _ | assumption | apply Ext.push | (refine Ext.trans ?_ (by assumption)))); (rintro _ _ ⟨rfl, _⟩)) | (apply zaf; rfl; rfl; rfl; rfl; rfl; rfl; exact iRb hs hl16 ht16 hno (by (focus repeat' first | exact Ext.refl _ | assumption | apply Ext.push | (refine Ext.trans ?_ (by assumption)))); (rintro _ _ ⟨rfl, _⟩)) | (apply zaf; rfl; rfl; rfl; rfl; rfl; rfl; exact yes (iT hs (by (focus repeat' first | exact Ext.refl _ | assumption | apply Ext.push | (refine Ext.trans ?_ (by assumption))))) hP; (rintro _ _ ⟨rfl, _⟩)) | (apply zaf; rfl; rfl; rfl; rfl; rfl; rfl; exact no (iK hs hl16 (by (focus repeat' first | exact Ext.refl _ | assumption | apply Ext.push | (refine Ext.trans ?_ (by assumption))))) hKp; (rintro _ _ ⟨rfl, _⟩)) | (apply zaf; rfl; rfl; rfl; rfl; rfl; rfl; exact zbN hKn; (rintro _ _ ⟨rfl, _⟩)) | fail))
            exact ⟨.inr rfl, _, rfl, rfl⟩
        · have hno : ¬ ((TbP ⟨q, kq, s, r, o⟩ ∧ KeptP s.length l) ∧ TruthP s t) := fun w => hP w.1.1
          (repeat' (first | apply zam | apply zad | (apply O_at; rfl) | (apply zai; rfl) | apply zaj | (apply zaS; rfl) | (apply zaV; rfl) | apply zaz | apply zaA | apply zaN | apply zaB | ((first | apply zae | apply zac | apply zb1); rfl; rfl; rfl; rfl) | (apply zbb; rfl; rfl; rfl; rfl; rfl; rfl; exact zav rfl) | (apply zaY; rfl; rfl; rfl; rfl; rfl; rfl) | (apply zbj; rfl; rfl; rfl; rfl; rfl) | (apply zcf; rfl; rfl; rfl; rfl; rfl; omega) | (apply zbP; rfl; rfl; rfl; rfl; rfl; omega) | (apply zaP; rfl; rfl; rfl; rfl; exact za1 rfl; (focus repeat' first | exact zaa | assumption | (apply Ext.get; assumption)); (first | exact Nat.le_of_ble_eq_true rfl | (simp; done) | (simp; omega)); rfl) | (apply za4; rfl; rfl; rfl; rfl; exact zat rfl; rfl; rfl) | (apply zaf; rfl; rfl; rfl; rfl; rfl; rfl; exact yes iS hs; (rintro _ _ ⟨rfl, _⟩)) | (apply zaf; rfl; rfl; rfl; rfl; rfl; rfl; exact iC2 hs hP (by (focus repeat' first | exact Ext.refl _ | assumption | apply Ext.push | (refine Ext.trans ?_ (by assumption)))); (rintro _ _ ⟨rfl, _⟩)) | (apply zaf; rfl; rfl; rfl; rfl; rfl; rfl; exact iFb hs hl16 ht16 hno (by (focus repeat' first | exact Ext.refl _ | assumption | apply Ext.push | (refine Ext.trans ?_ (by assumption)))); (rintro _ _ ⟨rfl, _⟩)) | (apply zaf; rfl; rfl; rfl; rfl; rfl; rfl; exact iRb hs hl16 ht16 hno (by (focus repeat' first | exact Ext.refl _ | assumption | apply Ext.push | (refine Ext.trans ?_ (by assumption)))); (rintro _ _ ⟨rfl, _⟩)) | (apply zaf; rfl; rfl; rfl; rfl; rfl; rfl; exact no (iT hs (by (focus repeat' first | exact Ext.refl _ | assumption | apply Ext.push | (refine Ext.trans ?_ (by assumption))))) hP; (rintro _ _ ⟨rfl, _⟩)) | (apply zaf; rfl; rfl; rfl; rfl; rfl; rfl; exact zbN hKn; (rintro _ _ ⟨rfl, _⟩)) | fail))
          exact ⟨.inr rfl, _, rfl, rfl⟩
      · (repeat' (first | apply zam | apply zad | (apply O_at; rfl) | (apply zai; rfl) | apply zaj | (apply zaS; rfl) | apply zaA | apply zaN | apply zaB | ((first | apply zae | apply zac | apply zb1); rfl; rfl; rfl; rfl) | (apply zbb; rfl; rfl; rfl; rfl; rfl; rfl; exact zav rfl) | (apply zaY; rfl; rfl; rfl; rfl; rfl; rfl) | (apply zcf; rfl; rfl; rfl; rfl; rfl; omega) | (apply zcI; rfl; rfl; rfl; rfl; rfl; omega) | (apply zaP; rfl; rfl; rfl; rfl; exact za1 rfl; (focus repeat' first | exact zaa | assumption | (apply Ext.get; assumption)); (first | exact Nat.le_of_ble_eq_true rfl | (simp; done) | (simp; omega)); rfl) | (apply za4; rfl; rfl; rfl; rfl; exact zat rfl; rfl; rfl) | (apply zaf; rfl; rfl; rfl; rfl; rfl; rfl; exact yes iS hs; (rintro _ _ ⟨rfl, _⟩)) | (apply zaf; rfl; rfl; rfl; rfl; rfl; rfl; exact zbN hKn; (rintro _ _ ⟨rfl, _⟩)) | fail))
        exact ⟨.inr rfl, _, rfl, rfl⟩
    · (repeat' (first | apply zam | apply zad | (apply O_at; rfl) | (apply zai; rfl) | apply zaj | (apply zaS; rfl) | apply zaA | apply zaN | apply zaB | (apply zbv; rfl; rfl; rfl) | ((first | apply zae | apply zac | apply zb1); rfl; rfl; rfl; rfl) | (apply zbb; rfl; rfl; rfl; rfl; rfl; rfl; exact zav rfl) | (apply zaY; rfl; rfl; rfl; rfl; rfl; rfl) | (apply zcI; rfl; rfl; rfl; rfl; rfl; omega) | (apply zaP; rfl; rfl; rfl; rfl; exact za1 rfl; (focus repeat' first | exact zaa | assumption | (apply Ext.get; assumption)); (first | exact Nat.le_of_ble_eq_true rfl | (simp; done) | (simp; omega)); rfl) | (apply za4; rfl; rfl; rfl; rfl; exact zat rfl; rfl; rfl) | (apply zaf; rfl; rfl; rfl; rfl; rfl; rfl; exact yes iS hs; (rintro _ _ ⟨rfl, _⟩)) | (apply zaf; rfl; rfl; rfl; rfl; rfl; rfl; exact zbN hKn; (rintro _ _ ⟨rfl, _⟩)) | fail))
      exact ⟨.inr rfl, _, rfl, rfl⟩
  · (repeat' (first | apply zam | apply zad | (apply O_at; rfl) | (apply zai; rfl) | apply zaj | (apply zaS; rfl) | apply zaA | apply zaN | apply zaB | (apply zbv; rfl; rfl; rfl) | ((first | apply zae | apply zac | apply zb1); rfl; rfl; rfl; rfl) | (apply zaY; rfl; rfl; rfl; rfl; rfl; rfl) | (apply zaP; rfl; rfl; rfl; rfl; exact za1 rfl; (focus repeat' first | exact zaa | assumption | (apply Ext.get; assumption)); (first | exact Nat.le_of_ble_eq_true rfl | (simp; done) | (simp; omega)); rfl) | (apply za4; rfl; rfl; rfl; rfl; exact zat rfl; rfl; rfl) | (apply zaf; rfl; rfl; rfl; rfl; rfl; rfl; exact no iS hs; (rintro _ _ ⟨rfl, _⟩)) | (apply zaf; rfl; rfl; rfl; rfl; rfl; rfl; exact zbN hKn; (rintro _ _ ⟨rfl, _⟩)) | fail))
    exact ⟨.inr rfl, _, rfl, rfl⟩
end Go.AX.Sa
