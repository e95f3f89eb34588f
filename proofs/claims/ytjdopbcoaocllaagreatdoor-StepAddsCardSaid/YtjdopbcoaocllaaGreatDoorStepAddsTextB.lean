/- The law StepAdds at the reading: what the functions that it calls answer (2). -/
import Derived.Test.YtjdopbcoaocllaaGreatDoorStepAddsTextA
namespace Go.AX.Sa
open Go.Proofs
set_option maxRecDepth 100000
variable {K : Known}
/-! The figures of all rows. -/
theorem getD_set {l : List Int} {k j : Nat} {n : Int} (h : k < l.length) : (l.set k n).getD j 0 = if j = k then n else l.getD j 0 := by
  simp only [List.getD_eq_getElem?_getD, List.getElem?_set]
  by_cases hj : k = j
  · subst hj; simp [h]
  · rw [if_neg hj, if_neg (fun q => hj q.symm)]
theorem list_eq {a b : List Int} (hl : a.length = b.length) (h : ∀ j, j < a.length → a.getD j 0 = b.getD j 0) : a = b := by
  apply List.ext_getElem hl
  intro j h1 h2
  have := h j h1
  simpa [List.getD_eq_getElem?_getD, h1, h2] using this
/-- slices.Clone of a list that is not empty. -/
theorem zix (hK : NoK K) {t : List Int} {q : Option Addr} {cap : Nat} {h : Heap} (hp : 0 < t.length) (hl : t.length ≤ 1000) (hr : Rd h q (ints t)) :
    CallW Tryz.prog K 103 #[.slice q t.length cap] h fun v h1 => Ext h h1 ∧ ∃ b, v = .slice (some ⟨b, 0, none⟩) t.length unk ∧ h1.get? b = some (.cells (ints t) 3 true) ∧ h.n ≤ b := by
  obtain ⟨b, e, own, rfl, hg⟩ := hr.at (by rw [zau]; omega)
  refine body (N := 8) Tryz.func103 rfl (hK _ _ _ rfl) rfl rfl ?_
  (repeat' (first | apply zah | apply zad | (apply O_at; rfl) | (apply zag; rfl) | apply zaf | (apply zaG; rfl) | apply zat | apply zav | apply zaw | ((first | apply zae | apply zac); rfl; rfl; rfl; rfl) | (apply P_nilF; rfl; rfl; rfl; rfl; rfl; exact zao rfl) | (apply P_build0; rfl; rfl; rfl; rfl; exact zbM rfl) | (apply zdb; rfl; rfl; rfl; rfl; rfl; rfl; (apply app_full; rfl; rfl; exact zbM rfl; exact zao rfl; (focus repeat' first | exact zaa | assumption | apply zab); (first | rfl | exact zau _); (first | decide | omega); (first | decide | omega); (first | rfl | exact ints_one _); (focus repeat' first | exact zaa | assumption | apply zab); (first | rfl | exact zau _); omega; omega)) | fail))
  refine ⟨.inr rfl, _, rfl, ?_, (h.push (.cells [] 3 true)).n, ?_, ?_, ?_⟩
  · (focus repeat' first | exact Ext.refl _ | assumption | apply Ext.push)
  · simp [resV]
  · exact zaa
  · exact Nat.le_succ _


theorem zhV {s : List (Int × Int)} {t : List Int} (hV : Vals s) (hT : TruthP s t) {j : Nat} (hj : j < s.length) : -10000 ≤ t.getD j 0 ∧ t.getD j 0 ≤ 10000 := by
  have h1 := hV j hj
  have h2 := hT.2 j (by rw [hT.1]; exact hj)
  unfold ValP at h1
  omega
set_option maxHeartbeats 2000000 in
theorem zju (hK : NoK K) {T : Tb} {l t : List Int} {b bt cap ct : Nat} {e et : TypeId} {own ownt : Bool} {h : Heap} (hP : TbP T) (hKp : KeptP T.s.length l) (hT : TruthP T.s t) (hcap : l.length ≤ cap) (hll : l.length ≤ 1000)
    (hg : h.get? b = some (.cells (ints l) e own)) (hgt : h.get? bt = some (.cells (ints t) et ownt)) :
    CallW Tryz.prog K 65 #[ktV T (some ⟨b, 0, none⟩) l.length cap, .slice (some ⟨bt, 0, none⟩) t.length ct] h (IsL (figs l t T.r T.s.length) h) := by
  obtain ⟨q, kq, s, r, o⟩ := T
  dsimp only at hP hKp hT ⊢
  have htl := hT.1
  have hn := hP.1
  dsimp only at hn
  have hr := hP.2.2.1
  have hG := hKp.2.2.2
  have hl2 := hKp.1
  have h0 := hKp.2.1
  have h1 := hKp.2.2.1
  have hbd : ∀ j, j < s.length → -10000 ≤ t.getD j 0 ∧ t.getD j 0 ≤ 10000 := fun j hj => zhV hP.2.1 hT hj
  have hlk : ∀ i, i < l.length → 0 ≤ l.getD i 0 ∧ l.getD i 0 ≤ (s.length : Int) - 1 := fun i hi => by
    have a := keptLe hG (Nat.zero_le i) hi
    have c := keptLe hG (show i ≤ l.length - 1 by omega) (by omega)
    omega
  have hb0 := Heap.get_lt hg
  have hbt0 := Heap.get_lt hgt
  refine body (N := 48) Tryz.func65 rfl (hK _ _ _ rfl) rfl rfl ?_
  (repeat' (first | apply zah | apply zad | (apply O_at; rfl) | (apply zag; rfl) | apply zaf | ((first | apply zae | apply zac | apply zaz); rfl; rfl; rfl; rfl) | (apply za4; rfl; rfl; rfl; rfl; exact zak rfl; rfl; rfl) | fail))
  apply zaj; rfl; rfl; rfl; rfl; rfl; rfl
  exact zix hK (by omega) (by omega) (.inr ⟨_, _, _, rfl, zab hgt⟩)
  rintro _ h2 ⟨x2, bc, rfl, gc, hbc⟩
  have hk2 : h2.get? h.n = some (.cells [.slice q s.length kq, .int .i64 r, .int .i64 o, .slice (some ⟨b, 0, none⟩) l.length cap] 82 true) := x2.get zaa
  have hg2 := x2.get (zab hg)
  have hgt2 := x2.get (zab hgt)
  (repeat' (first | apply zah | apply zad | (apply O_at; rfl) | (apply zag; rfl) | apply zaf | ((first | apply zae | apply zac | apply zaz); rfl; rfl; rfl; rfl) | (apply zaF; rfl; rfl; rfl; rfl; exact za6 rfl; (focus repeat' first | exact zaa | assumption | apply zab | (apply Ext.get; assumption) | (apply ExtBut.get; assumption; (first | assumption | omega | (simp only [Heap.push]; omega)))); (first | exact Nat.le_of_ble_eq_true rfl | (simp; done) | (simp; omega) | (rw [zai]; omega)); (first | exact zaB (by omega) | rfl)) | fail))
  apply zaj; rfl; rfl; rfl; rfl; rfl; rfl
  exact pairs_ok (T := ⟨q, kq, s, r, o⟩) hK ⟨hl2, hll⟩ hcap hg2
  rintro _ h3 ⟨pp, cp, rfl, rp, fp, x3⟩
  have hpl := zhb l (l.length - 1)
  obtain ⟨bp, ep, ownp, rfl, gp⟩ := rp.at (by rw [zai]; omega)
  have gc3 := x3.get gc
  have hk3 := x3.get hk2
  have hgt3 := x3.get hgt2
  have hbp := Heap.get_lt gp
  have hn3 := Heap.get_lt gc3
  have hn2 := Heap.get_lt gc
  have fp' := fp _ rfl
  dsimp only at fp'
  simp only [Heap.push] at hbc
  rw [hpl]
  (repeat' (first | (apply O_at; rfl) | (apply zag; rfl) | apply zaf | apply zal | ((first | apply zae | apply zac | apply zaz); rfl; rfl; rfl; rfl) | (apply zaN; rfl; rfl; rfl; rfl; rfl; rfl; exact zao rfl) | fail))
  refine zaT (fun a : Nat × List Int => [(14, .int .i64 (a.1 : Nat)), (13, .int .i64 ((l.length - 1 : Nat) : Int)), (12, .slice (some ⟨bp, 0, none⟩) (l.length - 1) cp), (5, .slice (some ⟨bc, 0, none⟩) t.length unk), (2, .pointer (some ⟨h.n, 0, none⟩)), (1, .slice (some ⟨bt, 0, none⟩) t.length ct)])
    (fun a h' => a.1 ≤ l.length - 1 ∧ ExtBut bc h3 h' ∧ h'.get? bc = some (.cells (ints a.2) 3 true) ∧ a.2.length = t.length ∧ ∀ j, j < t.length → a.2.getD j 0 = if ((j : Nat) : Int) < l.getD a.1 0 then figv l t r j else t.getD j 0) (fun a => l.length - 1 - a.1) ?_ (0, t) ?_ ?_
  · rintro ⟨i, F⟩ h' ⟨hi, hx, hb, hF, hj⟩ ih
    dsimp only at hi hb hF hj ih ⊢
    have hne : bp ≠ bc := by omega
    have hne2 : h.n ≠ bc := by omega
    have hne3 : bt ≠ bc := by omega
    have gp' := hx.get hne gp
    have hk' := hx.get hne2 hk3
    have hgt' := hx.get hne3 hgt3
    by_cases hlt : i < l.length - 1
    · have hpi : i < (prs l (l.length - 1)).length := by omega
      have hpg := prs_get (l := l) (k := l.length - 1) hlt
      have a1 := hlk i (by omega)
      have a2 := hlk (i + 1) (by omega)
      have a3 := hG i (by omega)
      have e1 : ((prs l (l.length - 1)).getD i (0, 0)).1 = l.getD i 0 := by rw [hpg]
      have e2 : ((prs l (l.length - 1)).getD i (0, 0)).2 = l.getD (i + 1) 0 := by rw [hpg]
      obtain ⟨A, hA⟩ : ∃ A : Nat, l.getD i 0 = (A : Nat) := ⟨(l.getD i 0).toNat, by omega⟩
      obtain ⟨C, hC⟩ : ∃ C : Nat, l.getD (i + 1) 0 = (C : Nat) := ⟨(l.getD (i + 1) 0).toNat, by omega⟩
      have hn' := hx.n
      (repeat' (first | apply zah | apply zad | (apply O_at; rfl) | (apply zag; rfl) | apply zaf | (apply zaE; rfl) | apply zal | apply zat | ((first | apply zae | apply zac | apply zaz); rfl; rfl; rfl; rfl) | ((first | apply P_fa | apply M_fa); rfl; rfl; rfl; rfl; exact zaU rfl; (first | exact Nat.zero_add _ | exact Nat.add_zero _ | rfl)) | (apply zaA; rfl; rfl; rfl; rfl; rfl; omega) | (apply zaV; rfl; rfl; rfl; rfl; rfl; (unfold fit; omega)) | (apply zch; rfl; rfl; rfl; rfl; rfl; exact zao rfl; exact zak rfl; (first | assumption | rfl | exact (Int.toNat_of_nonneg (by omega)).symm); omega) | (apply zan; rfl; rfl; rfl; rfl; exact zay rfl; (focus repeat' first | exact zaa | assumption | apply zab | (apply Ext.get; assumption) | (apply ExtBut.get; assumption; (first | assumption | omega | (simp only [Heap.push]; omega)))); (first | exact zar (by omega) | rfl | assumption)) | (apply zaF; rfl; rfl; rfl; rfl; exact za6 rfl; (focus repeat' first | exact zaa | assumption | apply zab | (apply Ext.get; assumption) | (apply ExtBut.get; assumption; (first | assumption | omega | (simp only [Heap.push]; omega)))); (first | exact Nat.le_of_ble_eq_true rfl | (simp; done) | (simp; omega) | (rw [zai]; omega)); (first | exact zaB (by omega) | rfl)) | (apply zaX; rfl; rfl; rfl; rfl; exact zak rfl; rfl; rfl; rfl) | (apply zbi; rfl; rfl; rfl; rfl; exact zak rfl; rfl; rfl) | fail))
      simp only [e1, e2, hA, hC]
      refine zaT (fun a : Nat × List Int => [(8, .int .i64 (a.1 : Nat)), (14, .int .i64 (i : Nat)), (13, .int .i64 ((l.length - 1 : Nat) : Int)), (12, .slice (some ⟨bp, 0, none⟩) (l.length - 1) cp), (7, .pointer (some ⟨h'.n, 0, none⟩)), (5, .slice (some ⟨bc, 0, none⟩) t.length unk), (2, .pointer (some ⟨h.n, 0, none⟩)), (1, .slice (some ⟨bt, 0, none⟩) t.length ct)])
        (fun a g => A + 1 ≤ a.1 ∧ a.1 ≤ C ∧ ExtBut bc (h'.push (.cells [.int .i64 (A : Nat), .int .i64 (C : Nat)] 123 true)) g ∧ g.get? bc = some (.cells (ints a.2) 3 true) ∧ a.2.length = t.length ∧ ∀ j, j < t.length → a.2.getD j 0 = if j < a.1 then figv l t r j else t.getD j 0) (fun a => C - a.1) ?_ (A + 1, F) ?_ ?_
      · rintro ⟨row, G⟩ g ⟨hr1, hr2, hxg, hbg, hGl, hGj⟩ ih2
        dsimp only at hr1 hr2 hbg hGl hGj ih2 ⊢
        have q1 : g.get? h'.n = some (.cells [.int .i64 (A : Nat), .int .i64 (C : Nat)] 123 true) := hxg.get (by omega) zaa
        have q2 := hxg.get hne2 (zab hk')
        have q3 := hxg.get hne3 (zab hgt')
        by_cases hrow : row < C
        · have hm := zfq (l := l) (t := t) (r := r) (i := i) (j := row) hG (by omega) (by omega) (by omega)
          rw [hA, hC, Int.toNat_natCast, Int.toNat_natCast] at hm
          have hA1 := hbd A (by omega)
          have hC1 := hbd C (by omega)
          have hlr : row < G.length := by omega
          (repeat' (first | apply zah | apply zad | (apply O_at; rfl) | (apply N_at; rfl) | (apply zag; rfl) | apply zaf | (apply zaE; rfl) | (apply zbp; exact zaH (by decide +kernel)) | apply zal | apply zat | (apply zbN; rfl; refine .inr ?_; (focus repeat' first | exact trivial | exact Keeps.nil _ _ | apply And.intro | rfl | (apply Keeps.cons; iterate 2 (focus repeat' first | exact zaa | assumption | apply zab | (apply Ext.get; assumption) | (apply ExtBut.get; assumption; (first | assumption | omega | (simp only [Heap.push]; omega))))))) | apply zap | ((first | apply zae | apply zac | apply zaz); rfl; rfl; rfl; rfl) | ((first | apply P_fa | apply M_fa); rfl; rfl; rfl; rfl; exact zaU rfl; (first | exact Nat.zero_add _ | exact Nat.add_zero _ | rfl)) | (apply zaA; rfl; rfl; rfl; rfl; rfl; omega) | (apply zaV; rfl; rfl; rfl; rfl; rfl; (unfold fit; omega)) | (apply zan; rfl; rfl; rfl; rfl; exact zay rfl; (focus repeat' first | exact zaa | assumption | apply zab | (apply Ext.get; assumption) | (apply ExtBut.get; assumption; (first | assumption | omega | (simp only [Heap.push]; omega)))); (first | exact zar (by omega) | rfl | assumption)) | (apply zbV; rfl; rfl; rfl; rfl; rfl; exact zao rfl; exact zak rfl; (first | assumption | rfl | exact (Int.toNat_of_nonneg (by omega)).symm); omega) | ((first | ((apply zce; rfl; rfl; rfl; rfl; exact zay rfl); (focus repeat' first | exact zaa | assumption | apply zab | (apply Ext.get; assumption) | (apply ExtBut.get; assumption; (first | assumption | omega | (simp only [Heap.push]; omega)))); (first | exact zar (by omega) | rfl | assumption)) | ((apply zcN; rfl; rfl; rfl; rfl; exact za6 rfl); (focus repeat' first | exact zaa | assumption | apply zab | (apply Ext.get; assumption) | (apply ExtBut.get; assumption; (first | assumption | omega | (simp only [Heap.push]; omega)))); (first | exact Nat.le_of_ble_eq_true rfl | (simp; done) | (simp; omega) | (rw [zai]; omega)); (first | exact zaB (by omega) | rfl))); (first | assumption | exact za5 _ _ | exact zdS _ _ | rfl | (focus simp [same, same.all2]; done)); (first | rfl | assumption | exact hwv _ | (simp [within]; omega))) | (apply ziJ; rfl; rfl; rfl; rfl; (focus repeat' first | exact zaa | assumption | apply zab | (apply Ext.get; assumption) | (apply ExtBut.get; assumption; (first | assumption | omega | (simp only [Heap.push]; omega)))); exact zak rfl; (first | omega | (focus simp; done)); rfl; (intro _ _ _)) | ((first | (apply zaj; rfl; rfl; rfl; rfl; rfl; rfl) | (apply za8; rfl; rfl; rfl; rfl; rfl; rfl; rfl)); exact zjG hK hA1 hC1 (by omega) (by omega) (by omega) (by omega) (by omega) hr; (rintro _ _ ⟨rfl, _⟩)) | fail))
          rename_i g1 xg1 g2 qg2 xg2
          rw [← hm] at qg2
          refine zax (ih2 (row + 1, G.set row (figv l t r row)) _ (by dsimp only; omega) ⟨by dsimp only; omega, by dsimp only; omega, (hxg.trans (Ext.but xg1 _)).trans xg2, qg2, by simpa using hGl, fun j hj' => ?_⟩) (by (focus repeat' first | rfl | exact trivial | apply And.intro))
          dsimp only
          rw [getD_set hlr]
          by_cases w : j = row
          · subst w; rw [if_pos rfl, if_pos (by omega)]
          · rw [if_neg w, hGj j hj']
            by_cases w2 : j < row
            · rw [if_pos w2, if_pos (by omega)]
            · rw [if_neg w2, if_neg (by omega)]
        · have : row = C := by omega
          subst this
          (repeat' (first | apply zah | apply zad | (apply O_at; rfl) | (apply zag; rfl) | apply zaf | (apply zaG; rfl) | apply za2 | apply za3 | apply zaI | apply zaM | apply zap | ((first | apply zae | apply zac | apply zaz); rfl; rfl; rfl; rfl) | ((first | apply P_fa | apply M_fa); rfl; rfl; rfl; rfl; exact zaU rfl; (first | exact Nat.zero_add _ | exact Nat.add_zero _ | rfl)) | (apply zaR; rfl; rfl; rfl; rfl; rfl; omega) | (apply zaV; rfl; rfl; rfl; rfl; rfl; (unfold fit; omega)) | (apply zan; rfl; rfl; rfl; rfl; exact zay rfl; (focus repeat' first | exact zaa | assumption | apply zab | (apply Ext.get; assumption) | (apply ExtBut.get; assumption; (first | assumption | omega | (simp only [Heap.push]; omega)))); (first | exact zar (by omega) | rfl | assumption)) | fail))
          refine zax (ih (i + 1, G) _ (by dsimp only; omega) ⟨by dsimp only; omega, (hx.trans (Ext.but (Ext.push (Ext.refl _) _) _)).trans hxg, hbg, hGl, fun j hj' => ?_⟩) (by (focus repeat' first | rfl | exact trivial | apply And.intro))
          dsimp only
          rw [hGj j hj', hC]
          by_cases w : j < row
          · rw [if_pos w, if_pos (by omega)]
          · rw [if_neg w, if_neg (by omega)]
      · refine ⟨Nat.le_refl _, by omega, ExtBut.refl _ _, zab hb, hF, fun j hj' => ?_⟩
        dsimp only
        rw [hj j hj', hA]
        by_cases w : j < A
        · rw [if_pos (by omega), if_pos (by omega)]
        · by_cases w2 : j = A
          · subst w2
            rw [if_neg (by omega), if_pos (by omega), zb5 hG (by omega) hA]
          · rw [if_neg (by omega), if_neg (by omega)]
      · (focus repeat' first | rfl | exact trivial | apply And.intro)
    · have : i = l.length - 1 := by omega
      subst this
      (repeat' (first | apply zah | apply zad | (apply O_at; rfl) | (apply zag; rfl) | apply zaf | (apply zaG; rfl) | apply za2 | apply zav | apply za3 | apply zaI | apply zaM | apply zaw | ((first | apply zae | apply zac | apply zaz); rfl; rfl; rfl; rfl) | (apply zaR; rfl; rfl; rfl; rfl; rfl; omega) | fail))
      have hfin : F = figs l t r s.length := by
        refine list_eq (by rw [hF, zdJ, htl]) fun j hj' => ?_
        rw [hj j (by omega), zc1 (by omega)]
        by_cases w : ((j : Nat) : Int) < l.getD (l.length - 1) 0
        · rw [if_pos w]
        · rw [if_neg w, zb5 hG (show l.length - 1 < l.length by omega) (by omega)]
      refine ⟨.inr rfl, _, rfl, some ⟨bc, 0, none⟩, unk, ?_, .inr ⟨_, _, _, rfl, hfin ▸ hb⟩, ?_⟩
      · rw [zdJ, ← htl]; rfl
      · exact Ext.ofBut (((Ext.push (Ext.refl h) _).trans x2).trans x3) hx (by omega)
  · exact ⟨Nat.zero_le _, ExtBut.refl _ _, gc3, rfl, fun j hj => by dsimp only; rw [h0, if_neg (by omega)]⟩
  · (focus repeat' first | rfl | exact trivial | apply And.intro)
end Go.AX.Sa

namespace Go.AX.Sa
open Go.Proofs
set_option maxRecDepth 100000
variable {K : Known}
/-! The specification's figures; what is asked for. -/
theorem zdq (hK : NoK K) {l : List Int} {p : Option Addr} {cap : Nat} {row a c : Int} {h : Heap} (hl : 1 ≤ l.length ∧ l.length ≤ 1000) (hr : Rd h p (ints l)) (e1 : bef l row = a) (e2 : aft l row = c) :
    CallW Tryz.prog K 106 #[.slice p l.length cap, .int .i64 row] h (IsV (.tuple #[.int .i64 a, .int .i64 c]) h) := by
  have := zcm (cap := cap) hK hl hr (row := row)
  rw [e1, e2] at this
  exact this
theorem zfd (hK : NoK K) {T : Tb} {l t : List Int} {p pt : Option Addr} {cap ct j : Nat} {h : Heap} (hP : TbP T) (hKp : KeptP T.s.length l) (hT : TruthP T.s t) (hll : l.length ≤ 1000) (hj : j < T.s.length) (hTb : TbAt T h) (hr : Rd h p (ints l)) (hrt : Rd h pt (ints t)) :
    CallW Tryz.prog K 69 #[tbV T, .slice p l.length cap, .int .i64 (j : Nat), .slice pt t.length ct] h (IsV (.int .i64 (figv l t T.r j)) h) := by
  obtain ⟨q, kq, s, r, o⟩ := T
  have hqb : ∀ a, q = some a → a.block < h.n := hTb.b
  dsimp only [tbV] at hP hKp hT hj ⊢
  have htl := hT.1
  have hn := hP.1
  dsimp only at hn
  have hr4 := hP.2.2.1
  have hG := hKp.2.2.2
  have hl2 := hKp.1
  have hbd : ∀ j, j < s.length → -10000 ≤ t.getD j 0 ∧ t.getD j 0 ≤ 10000 := fun j hj => zhV hP.2.1 hT hj
  have hlk : ∀ i, i < l.length → 0 ≤ l.getD i 0 ∧ l.getD i 0 ≤ (s.length : Int) - 1 := fun i hi => by
    have a := keptLe hG (Nat.zero_le i) hi
    have c := keptLe hG (show i ≤ l.length - 1 by omega) (by omega)
    have h0 := hKp.2.1
    have h1 := hKp.2.2.1
    omega
  obtain ⟨b, e, own, rfl, hg⟩ := hr.at (by rw [zau]; omega)
  obtain ⟨bt, et, ownt, rfl, hgt⟩ := hrt.at (by rw [zau]; omega)
  refine body (N := 31) Tryz.func69 rfl (hK _ _ _ rfl) rfl rfl ?_
  rcases zkg hKp hj with ⟨i, hi, hij⟩ | ⟨i, hi, h1, h2⟩
  · have e1 := zeU hG (j := (j : Nat)) hi (by omega) (fun w => by have := hG i w; omega)
    have e2 := zeW hG (j := (j : Nat)) hi (by omega) (fun m w => by have := hG m (by omega); rw [w] at this; omega)
    rw [hij] at e1 e2
    rw [zb5 hG hi hij]
    (repeat' (first | apply zah | apply zad | (apply O_at; rfl) | (apply N_at; rfl) | (apply zag; rfl) | apply zaf | (apply zbp; exact zaH (by decide +kernel)) | apply zav | (apply zbN; rfl; refine .inr ?_; (focus repeat' first | exact trivial | exact Keeps.nil _ _ | apply And.intro | rfl | (apply Keeps.cons; iterate 2 (focus repeat' first | exact zaa | assumption | apply zab | (apply Ext.get; assumption))))) | apply zaw | ((first | apply zae | apply zac | apply zaz | apply zaD); rfl; rfl; rfl; rfl) | (apply zba; rfl; rfl; rfl; rfl; rfl) | (apply za4; rfl; rfl; rfl; rfl; exact zak rfl; rfl; rfl) | (apply M_fa; rfl; rfl; rfl; rfl; exact zaU rfl; (first | exact Nat.zero_add _ | exact Nat.add_zero _ | rfl)) | (apply zbV; rfl; rfl; rfl; rfl; rfl; exact zao rfl; exact zak rfl; (first | assumption | rfl | exact (Int.toNat_of_nonneg (by omega)).symm); omega) | (((apply zce; rfl; rfl; rfl; rfl; exact zay rfl); (focus repeat' first | exact zaa | assumption | apply zab | (apply Ext.get; assumption)); (first | exact zar (by omega) | rfl | assumption)); (first | assumption | exact za5 _ _ | rfl | (focus simp [same, same.all2]; done)); (first | rfl | assumption | exact hwv _ | (simp [within]; omega))) | ((first | (apply zaj; rfl; rfl; rfl; rfl; rfl; rfl) | (apply za8; rfl; rfl; rfl; rfl; rfl; rfl; rfl)); exact zdq hK (by omega) (hr.ext (by (focus repeat' first | exact Ext.refl _ | assumption | apply Ext.push | (refine Ext.trans ?_ (by assumption))))) e1 e2; (rintro _ _ ⟨rfl, _⟩)) | ((first | (apply zaj; rfl; rfl; rfl; rfl; rfl; rfl) | (apply za8; rfl; rfl; rfl; rfl; rfl; rfl; rfl)); exact zez hK; (rintro _ _ ⟨rfl, _⟩)) | fail))
    exact ⟨.inr rfl, _, rfl, rfl, by (focus repeat' first | exact Ext.refl _ | assumption | apply Ext.push | (refine Ext.trans ?_ (by assumption)))⟩
  · have e1 := zeU hG (j := (j : Nat)) (i := i) (by omega) (by omega) (fun _ => h2)
    have e2 := zeW hG (j := (j : Nat)) (i := i + 1) hi (by omega) (fun m w => by rw [show m = i by omega]; exact h1)
    have a1 := hlk i (by omega)
    have a2 := hlk (i + 1) hi
    have hm := zfq (l := l) (t := t) (r := r) (i := i) (j := j) hG hi h1 h2
    obtain ⟨A, hA⟩ : ∃ A : Nat, l.getD i 0 = (A : Nat) := ⟨(l.getD i 0).toNat, by omega⟩
    obtain ⟨C, hC⟩ : ∃ C : Nat, l.getD (i + 1) 0 = (C : Nat) := ⟨(l.getD (i + 1) 0).toNat, by omega⟩
    rw [hA] at e1 h1 hm
    rw [hC] at e2 h2 hm
    rw [Int.toNat_natCast, Int.toNat_natCast] at hm
    have hA1 := hbd A (by omega)
    have hC1 := hbd C (by omega)
    rw [hm]
    (repeat' (first | apply zah | apply zad | (apply O_at; rfl) | (apply N_at; rfl) | (apply zag; rfl) | apply zaf | (apply zbp; exact zaH (by decide +kernel)) | apply zav | (apply zbN; rfl; refine .inr ?_; (focus repeat' first | exact trivial | exact Keeps.nil _ _ | apply And.intro | rfl | (apply Keeps.cons; iterate 2 (focus repeat' first | exact zaa | assumption | apply zab | (apply Ext.get; assumption))))) | apply zaw | ((first | apply zae | apply zac | apply zaz | apply zaD); rfl; rfl; rfl; rfl) | (apply zba; rfl; rfl; rfl; rfl; rfl) | (apply za4; rfl; rfl; rfl; rfl; exact zak rfl; rfl; rfl) | (apply M_fa; rfl; rfl; rfl; rfl; exact zaU rfl; (first | exact Nat.zero_add _ | exact Nat.add_zero _ | rfl)) | (apply zbV; rfl; rfl; rfl; rfl; rfl; exact zao rfl; exact zak rfl; (first | assumption | rfl | exact (Int.toNat_of_nonneg (by omega)).symm); omega) | (((apply zce; rfl; rfl; rfl; rfl; exact zay rfl); (focus repeat' first | exact zaa | assumption | apply zab | (apply Ext.get; assumption)); (first | exact zar (by omega) | rfl | assumption)); (first | assumption | exact za5 _ _ | rfl | (focus simp [same, same.all2]; done)); (first | rfl | assumption | exact hwv _ | (simp [within]; omega))) | ((first | (apply zaj; rfl; rfl; rfl; rfl; rfl; rfl) | (apply za8; rfl; rfl; rfl; rfl; rfl; rfl; rfl)); exact zdq hK (by omega) (hr.ext (by (focus repeat' first | exact Ext.refl _ | assumption | apply Ext.push | (refine Ext.trans ?_ (by assumption))))) e1 e2; (rintro _ _ ⟨rfl, _⟩)) | ((first | (apply zaj; rfl; rfl; rfl; rfl; rfl; rfl) | (apply za8; rfl; rfl; rfl; rfl; rfl; rfl; rfl)); exact zfS hK hA1 hC1 (by omega) (by omega) (by omega) (by omega) (by omega); (rintro _ _ ⟨rfl, _⟩)) | fail))
    exact ⟨.inr rfl, _, rfl, rfl, by (focus repeat' first | exact Ext.refl _ | assumption | apply Ext.push | (refine Ext.trans ?_ (by assumption)))⟩
end Go.AX.Sa

namespace Go.AX.Sa
open Go.Proofs
set_option maxRecDepth 100000
variable {K : Known}
/-! All figures, and whether they are right. -/
def RightP (s : List (Int × Int)) (l t : List Int) (r o : Int) : Prop := ∀ j, j < s.length → t.getD j 0 - o ≤ figv l t r j ∧ figv l t r j ≤ t.getD j 0 + o
end Go.AX.Sa

namespace Go.AX.Sa
open Go.Proofs
set_option maxRecDepth 100000
variable {K : Known}
/-! Check, Figures, Right. -/
theorem fill_st (q p : Option Addr) (n k m j : Nat) (r o : Int) : fillB Tryz.prog 82 [(0, .agg #[.slice q n k, .int .i64 r, .int .i64 o]), (1, .slice p m j)] = some (.agg #[.slice q n k, .int .i64 r, .int .i64 o, .slice p m j]) := by kernel_rfl
section
variable {x : Ctx} {N : Nat} {E : Env} {h : Heap} {ops : Array Oper} {F : Ex → Env → Heap → Prop} {i : Nat}
variable {d : Nat} {ty : TypeId} {pos : String} {af : Array Edge} {g : Option (Nat × Bool)} {ps : Array (Nat × Operand)}
theorem zeY {q p : Option Addr} {n k1 m j : Nat} {r o : Int} (hN : Nat.blt d N = true) (hg : gval ops E g = some true) (hk : opsOK Tryz.prog ⟨some d, .build 82 ps, ty, pos, af, g⟩ = true)
    (hps : E.parts ps.toList = some [(0, .agg #[.slice q n k1, .int .i64 r, .int .i64 o]), (1, .slice p m j)]) (k : R1 Tryz.prog K x N ops F (i + 1) ((d, .agg #[.slice q n k1, .int .i64 r, .int .i64 o, .slice p m j]) :: E) h) : R2 Tryz.prog K x N ops F i ⟨some d, .build 82 ps, ty, pos, af, g⟩ E h := zdl hN hg hk hps (fill_st q p n k1 m j r o) k
end
end Go.AX.Sa

namespace Go.AX.Sa
open Go.Proofs
set_option maxRecDepth 100000
variable {K : Known}
/-! Right; the law. -/
theorem short_ok (hK : NoK K) {T : Tb} {h : Heap} : CallW Tryz.prog K 15 #[tbV T] h (IfB (T.s.length ≤ 16) h) := by
  obtain ⟨q, kq, s, r, o⟩ := T
  dsimp only [tbV]
  refine body (N := 7) Tryz.func15 rfl (hK _ _ _ rfl) rfl rfl ?_
  by_cases hs : s.length ≤ 16
  · (repeat' (first | apply zah | apply zad | (apply O_at; rfl) | (apply zag; rfl) | apply zaf | apply zav | apply zaw | (apply zac; rfl; rfl; rfl; rfl) | (apply P_fa; rfl; rfl; rfl; rfl; exact zaU rfl; (first | exact Nat.zero_add _ | exact Nat.add_zero _ | rfl)) | (apply zaN; rfl; rfl; rfl; rfl; rfl; rfl; exact zao rfl) | (apply ziG; rfl; rfl; rfl; rfl; rfl; omega) | (apply zan; rfl; rfl; rfl; rfl; exact zay rfl; (focus repeat' first | exact zaa | assumption); (first | rfl | assumption)) | (apply za4; rfl; rfl; rfl; rfl; exact zak rfl; rfl; rfl) | fail))
    exact ⟨.inr rfl, _, rfl, .inl ⟨rfl, hs, by (focus repeat' first | exact Ext.refl _ | assumption | apply Ext.push)⟩⟩
  · (repeat' (first | apply zah | apply zad | (apply O_at; rfl) | (apply zag; rfl) | apply zaf | apply zav | apply zaw | (apply zac; rfl; rfl; rfl; rfl) | (apply P_fa; rfl; rfl; rfl; rfl; exact zaU rfl; (first | exact Nat.zero_add _ | exact Nat.add_zero _ | rfl)) | (apply zaN; rfl; rfl; rfl; rfl; rfl; rfl; exact zao rfl) | (apply zlp; rfl; rfl; rfl; rfl; rfl; omega) | (apply zan; rfl; rfl; rfl; rfl; exact zay rfl; (focus repeat' first | exact zaa | assumption); (first | rfl | assumption)) | (apply za4; rfl; rfl; rfl; rfl; exact zak rfl; rfl; rfl) | fail))
    exact ⟨.inr rfl, _, rfl, .inr ⟨rfl, hs, by (focus repeat' first | exact Ext.refl _ | assumption | apply Ext.push)⟩⟩
end Go.AX.Sa

namespace Go.AX.Sa
open Go.Proofs
set_option maxRecDepth 100000
variable {K : Known}
/-- A list in memory, as an argument. -/
structure RowAt (p : Option Addr) (l : List Int) (cap : Nat) (h : Heap) : Prop where
  rd : Rd h p (ints l)
  b : ∀ a, p = some a → a.block < h.n
  cap : l.length ≤ 1000000 → l.length ≤ cap
theorem RowAt.ext {p : Option Addr} {l : List Int} {cap : Nat} {h h1 : Heap} (x : RowAt p l cap h) (e : Ext h h1) : RowAt p l cap h1 := ⟨x.rd.ext e, fun a q => Nat.lt_of_lt_of_le (x.b a q) e.n, x.cap⟩
end Go.AX.Sa

namespace Go.AX.Sa
open Go.Proofs
set_option maxRecDepth 100000
variable {K : Known}
/-! The theorem of figures: numbers. -/
theorem mixv_lo (a c x y : Int) : mixv a c a x y = x * (c - a) := by
  unfold mixv; rw [Int.sub_self, Int.mul_zero, Int.add_zero]
theorem mixv_hi (a c x y : Int) : mixv a c c x y = y * (c - a) := by
  unfold mixv; rw [Int.sub_self, Int.mul_zero, Int.zero_add]
/-- Between two kept rows, both included. -/
theorem figv_mix {l t : List Int} {r : Int} {i j : Nat} (hG : GrowP l) (hi : i + 1 < l.length) (h1 : l.getD i 0 ≤ (j : Nat)) (h2 : ((j : Nat) : Int) ≤ l.getD (i + 1) 0) :
    figv l t r j = rnd r (mixv (l.getD i 0) (l.getD (i + 1) 0) j (t.getD (l.getD i 0).toNat 0) (t.getD (l.getD (i + 1) 0).toNat 0)) (l.getD (i + 1) 0 - l.getD i 0) := by
  have hg := hG i hi
  by_cases e1 : l.getD i 0 = (j : Nat)
  · rw [zb5 hG (by omega) e1, e1, mixv_lo, zg5 (by omega), Int.toNat_natCast]
  · by_cases e2 : l.getD (i + 1) 0 = (j : Nat)
    · rw [zb5 hG hi e2, e2, mixv_hi, zg5 (by omega), Int.toNat_natCast]
    · exact zfq hG hi (by omega) (by omega)
theorem mixv_is (a c j x y : Int) : mixv a c j x y = mix a c j x y := rfl
/-- The figure lies between the numbers of the kept rows around it. -/
theorem zhx {l t : List Int} {r lo hi : Int} {i j : Nat} (hG : GrowP l) (hi' : i + 1 < l.length) (h1 : l.getD i 0 ≤ (j : Nat)) (h2 : ((j : Nat) : Int) ≤ l.getD (i + 1) 0)
    (x1 : lo ≤ t.getD (l.getD i 0).toNat 0) (x2 : t.getD (l.getD i 0).toNat 0 ≤ hi) (y1 : lo ≤ t.getD (l.getD (i + 1) 0).toNat 0) (y2 : t.getD (l.getD (i + 1) 0).toNat 0 ≤ hi) :
    lo ≤ figv l t r j ∧ figv l t r j ≤ hi := by
  have hg := hG i hi'
  rw [figv_mix hG hi' h1 h2, mixv_is]
  exact zhm h1 h2 hg x1 x2 y1 y2
/-- A table that is short and as defined, and a kept list of it. -/
def RightT (T : Tb) (l : List Int) : Prop := T.s.length ≤ 16 ∧ l.length ≤ 16 ∧ TbP T ∧ KeptP T.s.length l
end Go.AX.Sa

namespace Go.AX.Sa
open Go.Proofs
set_option maxRecDepth 100000
variable {K : Known}
/-! The theorem of figures. -/
theorem zdc {s : List (Int × Int)} {t : List Int} (hV : Vals s) (hT : TruthP s t) {j : Nat} (hj : j < s.length) : -9999 ≤ t.getD j 0 ∧ t.getD j 0 ≤ 9999 := by
  have h1 := hV j hj
  have h2 := hT.2 j (by rw [hT.1]; exact hj)
  unfold ValP at h1
  omega
theorem zkO {n : Nat} {l : List Int} (hKp : KeptP n l) {i : Nat} (hi : i < l.length) : 0 ≤ l.getD i 0 ∧ l.getD i 0 ≤ (n : Int) - 1 := by
  have a := keptLe hKp.2.2.2 (Nat.zero_le i) hi
  have c := keptLe hKp.2.2.2 (show i ≤ l.length - 1 by omega) (by omega)
  have h0 := hKp.2.1
  have h1 := hKp.2.2.1
  omega
/-- All figures are numbers as rows have them. -/
theorem zc0 {s : List (Int × Int)} {l t : List Int} {r : Int} (hV : Vals s) (hKp : KeptP s.length l) (hT : TruthP s t) {j : Nat} (hj : j < s.length) : -9999 ≤ (figs l t r s.length).getD j 0 ∧ (figs l t r s.length).getD j 0 ≤ 9999 := by
  rw [zc1 hj]
  rcases zkg hKp hj with ⟨i, hi, hij⟩ | ⟨i, hi, h1, h2⟩
  · rw [zb5 hKp.2.2.2 hi hij]
    exact zdc hV hT hj
  · have a1 := zkO hKp (i := i) (by omega)
    have a2 := zkO hKp hi
    have b1 := zdc hV hT (j := (l.getD i 0).toNat) (by omega)
    have b2 := zdc hV hT (j := (l.getD (i + 1) 0).toNat) (by omega)
    exact zhx hKp.2.2.2 hi (by omega) (by omega) b1.1 b1.2 b2.1 b2.2
end Go.AX.Sa

namespace Go.AX.Sa
open Go.Proofs
set_option maxRecDepth 100000
variable {K : Known}
/-! The theorem of proportional parts. -/
end Go.AX.Sa

namespace Go.AX.Sa
open Go.Proofs
set_option maxRecDepth 100000
variable {K : Known}
/-! The least ends of spans, and the greatest ones. -/
theorem least_ok (hK : NoK K) {a b : Int} {h : Heap} : CallW Tryz.prog K 145 #[.agg #[.int .i64 a, .int .i64 b]] h (IsV (.int .i64 a) h) := by
  refine body (N := 5) Tryz.func145 rfl (hK _ _ _ rfl) rfl rfl ?_
  (repeat' (first | apply zah | apply zad | (apply O_at; rfl) | (apply zag; rfl) | apply zaf | apply zav | apply zaw | (apply zac; rfl; rfl; rfl; rfl) | (apply P_fa; rfl; rfl; rfl; rfl; exact zaU rfl; (first | exact Nat.zero_add _ | exact Nat.add_zero _ | rfl)) | (apply zan; rfl; rfl; rfl; rfl; exact zay rfl; (focus repeat' first | exact zaa | assumption); (first | rfl | assumption)) | (apply za4; rfl; rfl; rfl; rfl; exact zak rfl; rfl; rfl) | fail))
  exact ⟨.inr rfl, _, rfl, rfl, by (focus repeat' first | exact Ext.refl _ | assumption | apply Ext.push)⟩
theorem zhu (hK : NoK K) {a b : Int} {h : Heap} : CallW Tryz.prog K 146 #[.agg #[.int .i64 a, .int .i64 b]] h (IsV (.int .i64 b) h) := by
  refine body (N := 5) Tryz.func146 rfl (hK _ _ _ rfl) rfl rfl ?_
  (repeat' (first | apply zah | apply zad | (apply O_at; rfl) | (apply zag; rfl) | apply zaf | apply zav | apply zaw | (apply zac; rfl; rfl; rfl; rfl) | (apply P_fa; rfl; rfl; rfl; rfl; exact zaU rfl; (first | exact Nat.zero_add _ | exact Nat.add_zero _ | rfl)) | (apply zan; rfl; rfl; rfl; rfl; exact zay rfl; (focus repeat' first | exact zaa | assumption); (first | rfl | assumption)) | (apply za4; rfl; rfl; rfl; rfl; exact zak rfl; rfl; rfl) | fail))
  exact ⟨.inr rfl, _, rfl, rfl, by (focus repeat' first | exact Ext.refl _ | assumption | apply Ext.push)⟩
def twoF : Array Value := #[.func (.func 145) #[] #[], .func (.func 146) #[] #[]]
theorem fill146 : fillB Tryz.prog 171 [(0, .func (.func 145) #[] #[]), (1, .func (.func 146) #[] #[])] = some (.agg twoF) := by kernel_rfl
def RdV (h : Heap) (v : Value) (l : List Int) : Prop := ∃ p cap, v = .slice p l.length cap ∧ Rd h p (ints l)
theorem RdV.ext {h h1 : Heap} {v : Value} {l : List Int} (r : RdV h v l) (x : Ext h h1) : RdV h1 v l := by
  obtain ⟨p, cap, e, r⟩ := r
  exact ⟨p, cap, e, r.ext x⟩
theorem OutI.rdV {e : TypeId} {h0 h : Heap} {v : Value} {l : List Int} (o : OutI e h0 h v l) : RdV h v l := by
  rcases o with ⟨rfl, rfl⟩ | ⟨_, b, h1, h2, _⟩
  · exact ⟨none, 0, rfl, .inl rfl⟩
  · exact ⟨_, _, h1, .inr ⟨b, e, true, rfl, h2⟩⟩
def lows (s : List (Int × Int)) : List Int := s.map (·.1)
def highs (s : List (Int × Int)) : List Int := s.map (·.2)
theorem zgg {s : List (Int × Int)} {k : Nat} (h : k < s.length) : (lows s).take (k + 1) = (lows s).take k ++ [(s.getD k (0, 0)).1] := by
  rw [List.take_succ_eq_append_getElem (by simpa [lows] using h)]
  simp [lows, List.getD_eq_getElem?_getD, h]
theorem zeQ {s : List (Int × Int)} {k : Nat} (h : k < s.length) : (highs s).take (k + 1) = (highs s).take k ++ [(s.getD k (0, 0)).2] := by
  rw [List.take_succ_eq_append_getElem (by simpa [highs] using h)]
  simp [highs, List.getD_eq_getElem?_getD, h]
theorem OutI.one {e : TypeId} {h0 h : Heap} {v : Value} {l : List Int} (o : OutI e h0 h v l) : oneB v = true ∧ v.cells = #[v] := by
  rcases o with ⟨_, rfl⟩ | ⟨_, b, rfl, _⟩ <;> exact ⟨rfl, rfl⟩
theorem OutI.sameV {e : TypeId} {h0 h : Heap} {v : Value} {l : List Int} (o : OutI e h0 h v l) : same 20 v v = true := by
  rcases o with ⟨_, rfl⟩ | ⟨_, b, rfl, _⟩ <;> simp [same]
theorem OutI.withinV {e : TypeId} {h0 h : Heap} {v : Value} {l : List Int} (o : OutI e h0 h v l) {m : Nat} (hm : h.n ≤ m) : within 20 m v = true := by
  rcases o with ⟨_, rfl⟩ | ⟨_, b, rfl, g, _⟩
  · rfl
  · have := Heap.get_lt g
    simp [within]; omega
theorem ends_ok (hK : NoK K) {s : List (Int × Int)} {p : Option Addr} {cap : Nat} {h : Heap} (hp : Rd h p (spanCells s)) (hsl : s.length ≤ 1000) :
    CallW Tryz.prog K 122 #[.slice p s.length cap] h (fun u h1 => ∃ u0 u1, u = .agg #[u0, u1] ∧ RdV h1 u0 (lows s) ∧ RdV h1 u1 (highs s) ∧ Ext h h1) := by
  refine body (N := 34) Tryz.func122 rfl (hK _ _ _ rfl) rfl rfl ?_
  (repeat' (first | apply zah | apply zad | (apply O_at; rfl) | (apply zag; rfl) | apply zaf | (apply zbi; rfl; rfl; rfl; rfl; exact zak rfl; rfl; rfl) | fail))
  apply zdl; rfl; rfl; rfl; rfl; exact fill146
  (repeat' (first | apply zah | apply zad | (apply O_at; rfl) | (apply zag; rfl) | apply zaf | apply zal | ((first | apply zae | apply zac | apply zaz); rfl; rfl; rfl; rfl) | (apply zaF; rfl; rfl; rfl; rfl; exact za6 rfl; (focus repeat' first | exact zaa | assumption | apply zab | (apply Ext.get; assumption) | (apply ExtBut.get; assumption; (first | assumption | omega | (simp only [Heap.push]; omega)))); (first | exact Nat.le_of_ble_eq_true rfl | (simp; done) | (simp; omega) | (rw [zai]; omega)); (first | exact zaB (by omega) | rfl)) | (apply zaX; rfl; rfl; rfl; rfl; exact zak rfl; rfl; rfl; rfl) | (apply zbi; rfl; rfl; rfl; rfl; exact zak rfl; rfl; rfl) | fail))
  refine zaT (fun a : Nat × Value × Value => [(11, .int .i64 (a.1 : Nat)), (10, .agg twoF), (4, .pointer (some ⟨h.n + 2, 0, none⟩)), (2, .pointer (some ⟨h.n, 0, none⟩)), (0, .slice p s.length cap)])
    (fun a h' => a.1 ≤ 2 ∧ h.n + 3 ≤ h'.n ∧ ExtBut (h.n + 2) (h.push (.cells [nilV, nilV] 141 true)) h' ∧ h'.get? (h.n + 2) = some (.cells [a.2.1, a.2.2] 141 true) ∧ (a.1 = 0 → a.2.1 = nilV) ∧ (a.1 ≤ 1 → a.2.2 = nilV) ∧ (0 < a.1 → RdV h' a.2.1 (lows s)) ∧ (1 < a.1 → RdV h' a.2.2 (highs s))) (fun a => 2 - a.1) ?_ (0, nilV, nilV) ?_ ?_
  · rintro ⟨i, v0, v1⟩ h' ⟨hi, hn, hx, hb, z0, z1, r0, r1⟩ ih
    dsimp only at hi hn hx hb z0 z1 r0 r1 ih ⊢
    by_cases hlt : i < 2
    · have hlt' : (i : Int) < 2 := by omega
      rcases (show i = 0 ∨ i = 1 by omega) with rfl | rfl
      · obtain rfl := z0 rfl
        obtain rfl := z1 (by decide)
        (repeat' (first | apply zah | apply zad | (apply O_at; rfl) | (apply zag; rfl) | apply zaf | (apply zaE; rfl) | apply zal | apply zat | ((first | apply zae | apply zac | apply zaz); rfl; rfl; rfl; rfl) | (apply zaN; rfl; rfl; rfl; rfl; rfl; rfl; exact zao rfl) | (apply zaA; rfl; rfl; rfl; rfl; rfl; omega) | (apply zdM; rfl; rfl; rfl; rfl; rfl; (first | assumption | exact zq0 | exact zq1 | rfl | exact (Int.toNat_of_nonneg (by omega)).symm); exact zdy rfl; exact zay rfl; (first | decide | omega); rfl) | fail))
        refine zaT (fun a : Nat × Value => [(17, .int .i64 (a.1 : Nat)), (16, .int .i64 (s.length : Nat)), (15, .slice p s.length cap), (5, .int .i64 ((0 : Nat) : Int)), (6, .func (.func 145) #[] #[]), (11, .int .i64 ((0 : Nat) : Int)), (10, .agg twoF), (4, .pointer (some ⟨h.n + 2, 0, none⟩)), (2, .pointer (some ⟨h.n, 0, none⟩)), (0, .slice p s.length cap)])
          (fun a h2 => a.1 ≤ s.length ∧ ExtBut (h.n + 2) h' h2 ∧ OutI 3 h' h2 a.2 ((lows s).take a.1) ∧ h2.get? (h.n + 2) = some (.cells [a.2, nilV] 141 true)) (fun a => s.length - a.1) ?_ (0, nilV) ?_ ?_
        · rintro ⟨k, v⟩ h2 ⟨hk, hx2, ho, hb2⟩ ih2
          dsimp only at hk hx2 hb2 ih2 ⊢
          replace ho : OutI 3 h' h2 v ((lows s).take k) := ho
          by_cases hks : k < s.length
          · obtain ⟨bs, es, owns, rfl, hg⟩ := hp.at (by rw [zai]; omega)
            have hbs : bs < h.n := Heap.get_lt hg
            have hg1 : h2.get? bs = some (.cells (spanCells s) es owns) := hx2.get (by omega) (hx.get (by omega) (zab hg))
            have hle : ((lows s).take k).length ≤ 10000 := by rw [List.length_take]; omega
            obtain ⟨one1, one2⟩ := OutI.one (e := 3) (h0 := h') ho
            have hn2 := hx2.n
            have hsv := OutI.sameV (e := 3) (h0 := h') ho
            have hwv : ∀ blk, within 20 (h2.push blk).n v = true := fun blk => OutI.withinV (e := 3) (h0 := h') ho (Nat.le_succ _)
            (repeat' (first | apply zah | apply zad | (apply O_at; rfl) | (apply N_at; rfl) | (apply zag; rfl) | apply zaf | (apply zaE; rfl) | (apply zbp; exact zaH (by decide +kernel)) | apply zal | apply zat | ((first | apply zae | apply zac | apply zaz); rfl; rfl; rfl; rfl) | (apply zaA; rfl; rfl; rfl; rfl; rfl; omega) | (apply zch; rfl; rfl; rfl; rfl; rfl; exact zao rfl; exact zak rfl; (first | assumption | exact zq0 | exact zq1 | rfl | exact (Int.toNat_of_nonneg (by omega)).symm); omega) | (apply zaF; rfl; rfl; rfl; rfl; exact za6 rfl; (focus repeat' first | exact zaa | assumption | apply zab | (apply Ext.get; assumption) | (apply ExtBut.get; assumption; (first | assumption | omega | (simp only [Heap.push]; omega)))); (first | exact Nat.le_of_ble_eq_true rfl | (simp; done) | (simp; omega) | (rw [zai]; omega)); (first | exact zaB (by omega) | rfl)) | (apply zaX; rfl; rfl; rfl; rfl; exact zak rfl; rfl; rfl; rfl) | (apply zbi; rfl; rfl; rfl; rfl; exact zak rfl; rfl; rfl) | (apply ziN; rfl; rfl; rfl; rfl; rfl; rfl; rfl; exact zbM rfl) | ((first | ((apply ziM; rfl; rfl; rfl; rfl; exact zay rfl; exact zeX (by decide +kernel)); (focus repeat' first | exact zaa | assumption | apply zab | (apply Ext.get; assumption) | (apply ExtBut.get; assumption; (first | assumption | omega | (simp only [Heap.push]; omega)))); (first | rfl | assumption)) | ((apply ziL; rfl; rfl; rfl; rfl; exact za6 rfl; exact zbe (by decide +kernel)); (focus repeat' first | exact zaa | assumption | apply zab | (apply Ext.get; assumption) | (apply ExtBut.get; assumption; (first | assumption | omega | (simp only [Heap.push]; omega)))); (first | exact Nat.le_of_ble_eq_true rfl | (simp; done) | (simp; omega) | (rw [zai]; omega)); (first | exact zaB (by omega) | rfl))); (first | assumption | exact zdS _ _ | rfl | (focus simp [same, same.all2]; done)); (first | rfl | assumption | exact hwv _ | (simp [within]; omega))) | (apply zgK; rfl; rfl; rfl; rfl; rfl; exact zdy rfl; exact zak rfl; (first | assumption | exact zq0 | exact zq1 | rfl | exact (Int.toNat_of_nonneg (by omega)).symm); omega) | (apply za8; rfl; rfl; rfl; rfl; rfl; rfl; rfl; exact least_ok hK; (rintro _ _ ⟨rfl, _⟩)) | fail))
            rename_i h3 hx3
            have hb3 : h3.get? (h.n + 2) = some (.cells [v, nilV] 141 true) := hx3.get (zab hb2)
            apply zlz (h0 := h'); rfl; rfl; rfl; rfl; rfl; rfl; rfl; rfl; exact zbM rfl; exact zao rfl; exact zaa; exact OutI.ext (e := 3) (h0 := h') ho (by (focus repeat' first | exact Ext.refl _ | assumption | apply Ext.push | (refine Ext.trans ?_ (by assumption)) | (refine Ext.ofBut ?_ (by assumption) (by first | exact Nat.le_refl _ | omega)))); exact (by have := hx3.n; simp only [Heap.push] at this ⊢; omega); exact hle; rfl
            intro v3 h4 ho4 k4
            replace ho4 : OutI 3 h' h4 v3 ((lows s).take (k + 1)) := by rw [zgg hks]; exact ho4
            have hb4 : h4.get? (h.n + 2) = some (.cells [v, nilV] 141 true) := k4.lo (by omega) (zab hb3)
            obtain ⟨on1, on2⟩ := OutI.one (e := 3) (h0 := h') ho4
            (repeat' (first | (apply N_at; rfl) | (apply zgK; rfl; rfl; rfl; rfl; rfl; exact zdy rfl; exact zak rfl; (first | assumption | exact zq0 | exact zq1 | rfl | exact (Int.toNat_of_nonneg (by omega)).symm); omega) | fail))
            apply ziK (c' := [v3, nilV]); rfl; rfl; rfl; rfl; exact hb4; exact zak rfl; exact (by rw [on2]; rfl); exact (by simp); exact (by rw [on2]; simp [on1]); exact (by rw [on2]; rfl); rfl
            intro h5 hb5 hx5
            have hx25 : ExtBut (h.n + 2) h' h5 := ⟨by have q1 := k4.n; have q2 := hx5.n; have q3 := hx3.n; simp only [Heap.push] at q1 q2 q3; omega, fun c x hne g => hx5.get hne (k4.lo (Heap.get_lt g) (zab (hx3.get (zab (hx2.get hne g)))))⟩
            have ho5 : OutI 3 h' h5 v3 ((lows s).take (k + 1)) := OutI.but (h0 := h') ho4 hx5 (by omega)
            (repeat' (first | apply zad | (apply O_at; rfl) | (apply zag; rfl) | apply zaf | (apply zbN; rfl; refine .inr ?_; (focus repeat' first | exact trivial | exact Keeps.nil _ _ | apply And.intro | rfl | (apply Keeps.cons; iterate 2 (focus repeat' first | exact zaa | assumption | apply zab | (apply Ext.get; assumption) | (apply ExtBut.get; assumption; (first | assumption | omega | (simp only [Heap.push]; omega))))))) | apply zap | ((first | apply zae | apply zac | apply zaz); rfl; rfl; rfl; rfl) | (apply zaV; rfl; rfl; rfl; rfl; rfl; (unfold fit; omega)) | fail))
            exact zax (ih2 (k + 1, v3) _ (by dsimp only; omega) ⟨hks, hx25, ho5, hb5⟩) (by (focus repeat' first | rfl | exact trivial | apply And.intro))
          · have hks' : k = s.length := by omega
            subst hks'
            (repeat' (first | apply zah | apply zad | (apply O_at; rfl) | (apply zag; rfl) | apply zaf | (apply zaG; rfl) | apply za2 | apply za3 | apply zaI | apply zaM | apply zap | ((first | apply zae | apply zac | apply zaz); rfl; rfl; rfl; rfl) | (apply zaR; rfl; rfl; rfl; rfl; rfl; omega) | (apply zaV; rfl; rfl; rfl; rfl; rfl; (unfold fit; omega)) | fail))
            have hl : (lows s).take s.length = lows s := List.take_of_length_le (by simp [lows])
            rw [hl] at ho
            exact zax (ih (1, v, nilV) _ (by dsimp only; omega) ⟨by dsimp only; omega, by have := hx2.n; omega, hx.trans hx2, hb2, fun q => absurd q (by dsimp only; omega), fun _ => rfl, fun _ => OutI.rdV (e := 3) (h0 := h') ho, fun q => absurd q (by dsimp only; omega)⟩) (by (focus repeat' first | rfl | exact trivial | apply And.intro))
        · exact ⟨Nat.zero_le _, ExtBut.refl _ _, OutI.nil _ _ _, hb⟩
        · (focus repeat' first | rfl | exact trivial | apply And.intro)
      · obtain rfl := z1 (by decide)
        obtain ⟨p0, c0, rfl, rd0⟩ := r0 (by decide)
        (repeat' (first | apply zah | apply zad | (apply O_at; rfl) | (apply zag; rfl) | apply zaf | (apply zaE; rfl) | apply zal | apply zat | ((first | apply zae | apply zac | apply zaz); rfl; rfl; rfl; rfl) | (apply zaN; rfl; rfl; rfl; rfl; rfl; rfl; exact zao rfl) | (apply zaA; rfl; rfl; rfl; rfl; rfl; omega) | (apply zdM; rfl; rfl; rfl; rfl; rfl; (first | assumption | exact zq0 | exact zq1 | rfl | exact (Int.toNat_of_nonneg (by omega)).symm); exact zdy rfl; exact zay rfl; (first | decide | omega); rfl) | fail))
        refine zaT (fun a : Nat × Value => [(17, .int .i64 (a.1 : Nat)), (16, .int .i64 (s.length : Nat)), (15, .slice p s.length cap), (5, .int .i64 ((1 : Nat) : Int)), (6, .func (.func 146) #[] #[]), (11, .int .i64 ((1 : Nat) : Int)), (10, .agg twoF), (4, .pointer (some ⟨h.n + 2, 0, none⟩)), (2, .pointer (some ⟨h.n, 0, none⟩)), (0, .slice p s.length cap)])
          (fun a h2 => a.1 ≤ s.length ∧ ExtBut (h.n + 2) h' h2 ∧ OutI 3 h' h2 a.2 ((highs s).take a.1) ∧ h2.get? (h.n + 2) = some (.cells [.slice p0 (lows s).length c0, a.2] 141 true)) (fun a => s.length - a.1) ?_ (0, nilV) ?_ ?_
        · rintro ⟨k, v⟩ h2 ⟨hk, hx2, ho, hb2⟩ ih2
          dsimp only at hk hx2 hb2 ih2 ⊢
          replace ho : OutI 3 h' h2 v ((highs s).take k) := ho
          by_cases hks : k < s.length
          · obtain ⟨bs, es, owns, rfl, hg⟩ := hp.at (by rw [zai]; omega)
            have hbs : bs < h.n := Heap.get_lt hg
            have hg1 : h2.get? bs = some (.cells (spanCells s) es owns) := hx2.get (by omega) (hx.get (by omega) (zab hg))
            have hle : ((highs s).take k).length ≤ 10000 := by rw [List.length_take]; omega
            obtain ⟨one1, one2⟩ := OutI.one (e := 3) (h0 := h') ho
            have hn2 := hx2.n
            have hsv := OutI.sameV (e := 3) (h0 := h') ho
            have hwv : ∀ blk, within 20 (h2.push blk).n v = true := fun blk => OutI.withinV (e := 3) (h0 := h') ho (Nat.le_succ _)
            (repeat' (first | apply zah | apply zad | (apply O_at; rfl) | (apply N_at; rfl) | (apply zag; rfl) | apply zaf | (apply zaE; rfl) | (apply zbp; exact zaH (by decide +kernel)) | apply zal | apply zat | ((first | apply zae | apply zac | apply zaz); rfl; rfl; rfl; rfl) | (apply zaA; rfl; rfl; rfl; rfl; rfl; omega) | (apply zch; rfl; rfl; rfl; rfl; rfl; exact zao rfl; exact zak rfl; (first | assumption | exact zq0 | exact zq1 | rfl | exact (Int.toNat_of_nonneg (by omega)).symm); omega) | (apply zaF; rfl; rfl; rfl; rfl; exact za6 rfl; (focus repeat' first | exact zaa | assumption | apply zab | (apply Ext.get; assumption) | (apply ExtBut.get; assumption; (first | assumption | omega | (simp only [Heap.push]; omega)))); (first | exact Nat.le_of_ble_eq_true rfl | (simp; done) | (simp; omega) | (rw [zai]; omega)); (first | exact zaB (by omega) | rfl)) | (apply zaX; rfl; rfl; rfl; rfl; exact zak rfl; rfl; rfl; rfl) | (apply zbi; rfl; rfl; rfl; rfl; exact zak rfl; rfl; rfl) | (apply ziN; rfl; rfl; rfl; rfl; rfl; rfl; rfl; exact zbM rfl) | ((first | ((apply ziM; rfl; rfl; rfl; rfl; exact zay rfl; exact zeX (by decide +kernel)); (focus repeat' first | exact zaa | assumption | apply zab | (apply Ext.get; assumption) | (apply ExtBut.get; assumption; (first | assumption | omega | (simp only [Heap.push]; omega)))); (first | rfl | assumption)) | ((apply ziL; rfl; rfl; rfl; rfl; exact za6 rfl; exact zbe (by decide +kernel)); (focus repeat' first | exact zaa | assumption | apply zab | (apply Ext.get; assumption) | (apply ExtBut.get; assumption; (first | assumption | omega | (simp only [Heap.push]; omega)))); (first | exact Nat.le_of_ble_eq_true rfl | (simp; done) | (simp; omega) | (rw [zai]; omega)); (first | exact zaB (by omega) | rfl))); (first | assumption | exact zdS _ _ | rfl | (focus simp [same, same.all2]; done)); (first | rfl | assumption | exact hwv _ | (simp [within]; omega))) | (apply zgK; rfl; rfl; rfl; rfl; rfl; exact zdy rfl; exact zak rfl; (first | assumption | exact zq0 | exact zq1 | rfl | exact (Int.toNat_of_nonneg (by omega)).symm); omega) | (apply za8; rfl; rfl; rfl; rfl; rfl; rfl; rfl; exact zhu hK; (rintro _ _ ⟨rfl, _⟩)) | fail))
            rename_i h3 hx3
            have hb3 : h3.get? (h.n + 2) = some (.cells [.slice p0 (lows s).length c0, v] 141 true) := hx3.get (zab hb2)
            apply zlz (h0 := h'); rfl; rfl; rfl; rfl; rfl; rfl; rfl; rfl; exact zbM rfl; exact zao rfl; exact zaa; exact OutI.ext (e := 3) (h0 := h') ho (by (focus repeat' first | exact Ext.refl _ | assumption | apply Ext.push | (refine Ext.trans ?_ (by assumption)) | (refine Ext.ofBut ?_ (by assumption) (by first | exact Nat.le_refl _ | omega)))); exact (by have := hx3.n; simp only [Heap.push] at this ⊢; omega); exact hle; rfl
            intro v3 h4 ho4 k4
            replace ho4 : OutI 3 h' h4 v3 ((highs s).take (k + 1)) := by rw [zeQ hks]; exact ho4
            have hb4 : h4.get? (h.n + 2) = some (.cells [.slice p0 (lows s).length c0, v] 141 true) := k4.lo (by omega) (zab hb3)
            obtain ⟨on1, on2⟩ := OutI.one (e := 3) (h0 := h') ho4
            (repeat' (first | (apply N_at; rfl) | (apply zgK; rfl; rfl; rfl; rfl; rfl; exact zdy rfl; exact zak rfl; (first | assumption | exact zq0 | exact zq1 | rfl | exact (Int.toNat_of_nonneg (by omega)).symm); omega) | fail))
            apply ziK (c' := [.slice p0 (lows s).length c0, v3]); rfl; rfl; rfl; rfl; exact hb4; exact zak rfl; exact (by rw [on2]; rfl); exact (by simp); exact (by rw [on2]; simp [on1]); exact (by rw [on2]; rfl); rfl
            intro h5 hb5 hx5
            have hx25 : ExtBut (h.n + 2) h' h5 := ⟨by have q1 := k4.n; have q2 := hx5.n; have q3 := hx3.n; simp only [Heap.push] at q1 q2 q3; omega, fun c x hne g => hx5.get hne (k4.lo (Heap.get_lt g) (zab (hx3.get (zab (hx2.get hne g)))))⟩
            have ho5 : OutI 3 h' h5 v3 ((highs s).take (k + 1)) := OutI.but (h0 := h') ho4 hx5 (by omega)
            (repeat' (first | apply zad | (apply O_at; rfl) | (apply zag; rfl) | apply zaf | (apply zbN; rfl; refine .inr ?_; (focus repeat' first | exact trivial | exact Keeps.nil _ _ | apply And.intro | rfl | (apply Keeps.cons; iterate 2 (focus repeat' first | exact zaa | assumption | apply zab | (apply Ext.get; assumption) | (apply ExtBut.get; assumption; (first | assumption | omega | (simp only [Heap.push]; omega))))))) | apply zap | ((first | apply zae | apply zac | apply zaz); rfl; rfl; rfl; rfl) | (apply zaV; rfl; rfl; rfl; rfl; rfl; (unfold fit; omega)) | fail))
            exact zax (ih2 (k + 1, v3) _ (by dsimp only; omega) ⟨hks, hx25, ho5, hb5⟩) (by (focus repeat' first | rfl | exact trivial | apply And.intro))
          · have hks' : k = s.length := by omega
            subst hks'
            (repeat' (first | apply zah | apply zad | (apply O_at; rfl) | (apply zag; rfl) | apply zaf | (apply zaG; rfl) | apply za2 | apply za3 | apply zaI | apply zaM | apply zap | ((first | apply zae | apply zac | apply zaz); rfl; rfl; rfl; rfl) | (apply zaR; rfl; rfl; rfl; rfl; rfl; omega) | (apply zaV; rfl; rfl; rfl; rfl; rfl; (unfold fit; omega)) | fail))
            have hl : (highs s).take s.length = highs s := List.take_of_length_le (by simp [highs])
            rw [hl] at ho
            have rd2 : Rd h2 p0 (ints (lows s)) := by
              rcases rd0 with r | ⟨b, e, own, rfl, g⟩
              · exact .inl r
              · refine .inr ⟨b, e, own, rfl, hx2.get (fun q => ?_) g⟩
                subst q
                rw [hb] at g
                cases hls : lows s with
                | nil => rw [hls] at g; cases g
                | cons z l => rw [hls] at g; cases g
            exact zax (ih (2, .slice p0 (lows s).length c0, v) _ (by dsimp only; omega) ⟨by dsimp only; omega, by have := hx2.n; omega, hx.trans hx2, hb2, fun q => absurd q (by dsimp only; omega), fun q => absurd q (by dsimp only; omega), fun _ => ⟨p0, c0, rfl, rd2⟩, fun _ => OutI.rdV (e := 3) (h0 := h') ho⟩) (by (focus repeat' first | rfl | exact trivial | apply And.intro))
        · exact ⟨Nat.zero_le _, ExtBut.refl _ _, OutI.nil _ _ _, hb⟩
        · (focus repeat' first | rfl | exact trivial | apply And.intro)
    · have : i = 2 := by omega
      subst this
      obtain ⟨p0, c0, rfl, rd0⟩ := r0 (by decide)
      obtain ⟨p1, c1, rfl, rd1⟩ := r1 (by decide)
      have hg0 : h'.get? h.n = some (.cells [nilV, nilV] 141 true) := hx.get (by omega) zaa
      have hx0 : Ext h h' := Ext.ofBut ((Ext.refl _).push _) hx (by omega)
      (repeat' (first | apply zah | apply zad | (apply O_at; rfl) | (apply zag; rfl) | apply zaf | (apply zaG; rfl) | apply za2 | apply zav | apply za3 | apply zaI | apply zaM | apply zaw | (apply zaR; rfl; rfl; rfl; rfl; rfl; omega) | (apply zaF; rfl; rfl; rfl; rfl; exact za6 rfl; (focus repeat' first | exact zaa | assumption | apply zab | (apply Ext.get; assumption) | (apply ExtBut.get; assumption; (first | assumption | omega | (simp only [Heap.push]; omega)))); (first | exact Nat.le_of_ble_eq_true rfl | (simp; done) | (simp; omega) | (rw [zai]; omega)); (first | exact zaB (by omega) | rfl)) | (apply zc9; rfl; rfl; rfl; rfl; (focus repeat' first | exact zaa | assumption | apply zab | (apply Ext.get; assumption) | (apply ExtBut.get; assumption; (first | assumption | omega | (simp only [Heap.push]; omega)))); exact zak rfl; rfl; (first | rfl | exact zau _); rfl; (intro _ _ _)) | fail))
      rename_i h4 hb4 hx4
      have e4 : Ext h h4 := Ext.ofBut hx0 hx4 (Nat.le_refl _)
      have hlo : ∀ {q : Option Addr} {l : List Int}, Rd h' q (ints l) → Rd h4 q (ints l) := by
        intro q l r
        rcases r with r | ⟨b, e, own, rfl, g⟩
        · exact .inl r
        · refine .inr ⟨b, e, own, rfl, hx4.get (fun q => ?_) g⟩
          subst q
          rw [hg0] at g
          cases l with
          | nil => cases g
          | cons z l => cases g
      exact ⟨.inr rfl, _, zkn rfl (readA (za6 rfl) hb4 (Nat.le_of_ble_eq_true rfl) rfl) rfl, _, _, rfl, ⟨p0, c0, rfl, hlo rd0⟩, ⟨p1, c1, rfl, hlo rd1⟩, e4⟩
  · refine ⟨by decide, Nat.le_refl _, ((Ext.refl _).push _ |>.push _).but _, zaa, fun _ => rfl, fun _ => rfl, fun q => absurd q (by dsimp only; omega), fun q => absurd q (by dsimp only; omega)⟩
  · (focus repeat' first | rfl | exact trivial | apply And.intro)
end Go.AX.Sa

namespace Go.AX.Sa
open Go.Proofs
set_option maxRecDepth 100000
variable {K : Known}
/-! By how much figures can differ from their numbers. -/
theorem mem_at {l : List Int} {x : Int} : x ∈ l ↔ ∃ k, k < l.length ∧ l.getD k 0 = x := by
  rw [List.mem_iff_getElem]
  constructor
  · rintro ⟨k, hk, e⟩
    exact ⟨k, hk, by simpa [List.getD_eq_getElem?_getD, hk] using e⟩
  · rintro ⟨k, hk, e⟩
    exact ⟨k, hk, by simpa [List.getD_eq_getElem?_getD, hk] using e⟩
theorem index_ok (hK : NoK K) {l : List Int} {x : Int} {p : Option Addr} {cap : Nat} {h : Heap} (hl : l.length ≤ 1000) (hr : Rd h p (ints l)) :
    CallW Tryz.prog K 123 #[.slice p l.length cap, .int .i64 x] h fun v h1 => ∃ n : Int, v = .int .i64 n ∧ (0 ≤ n ↔ x ∈ l) ∧ Ext h h1 := by
  refine body (N := 19) Tryz.func123 rfl (hK _ _ _ rfl) rfl rfl ?_
  (repeat' (first | apply zah | apply zad | (apply O_at; rfl) | (apply zag; rfl) | apply zaf | apply zal | ((first | apply zae | apply zac); rfl; rfl; rfl; rfl) | (apply zaN; rfl; rfl; rfl; rfl; rfl; rfl; exact zao rfl) | fail))
  refine zaT (fun k : Nat => [(8, .int .i64 (k : Nat)), (7, .int .i64 (l.length : Nat)), (1, .int .i64 x), (0, .slice p l.length cap)])
    (fun k h' => k ≤ l.length ∧ Ext h h' ∧ ∀ j, j < k → l.getD j 0 ≠ x) (fun k => l.length - k) ?_ 0 ⟨Nat.zero_le _, Ext.refl _, fun j hj => by omega⟩ ?_
  · intro k h' ⟨hk, hx, hj⟩ ih
    by_cases hlt : k < l.length
    · obtain ⟨b, e, own, rfl, hg⟩ := hr.at (by rw [zau]; omega)
      by_cases hc : x = l.getD k 0
      · (repeat' (first | apply zah | apply zad | (apply O_at; rfl) | (apply zag; rfl) | apply zaf | (apply zaE; rfl) | apply zal | apply zat | apply zav | apply zbq | apply zeZ | apply ze0 | apply zaw | ((first | apply zae | apply zac); rfl; rfl; rfl; rfl) | (apply zaA; rfl; rfl; rfl; rfl; rfl; omega) | (apply zbC; rfl; rfl; rfl; rfl; rfl; omega) | (apply zbh; rfl; rfl; rfl; rfl; rfl; exact zao rfl; exact zak rfl; (first | assumption | rfl | exact (Int.toNat_of_nonneg (by omega)).symm); omega) | (apply zan; rfl; rfl; rfl; rfl; exact zay rfl; (focus repeat' first | assumption | (apply Ext.get; assumption)); (first | exact zar (by omega) | rfl | assumption)) | fail))
        exact ⟨.inr rfl, _, rfl, (k : Int), rfl, ⟨fun _ => mem_at.2 ⟨k, hlt, hc.symm⟩, fun _ => by omega⟩, by (focus repeat' first | exact Ext.refl _ | assumption)⟩
      · (repeat' (first | apply zah | apply zad | (apply O_at; rfl) | (apply zag; rfl) | apply zaf | (apply zaE; rfl) | (apply zaG; rfl) | apply zal | apply zat | apply zap | ((first | apply zae | apply zac); rfl; rfl; rfl; rfl) | (apply zaA; rfl; rfl; rfl; rfl; rfl; omega) | (apply zbR; rfl; rfl; rfl; rfl; rfl; omega) | (apply zaV; rfl; rfl; rfl; rfl; rfl; (unfold fit; omega)) | (apply zbh; rfl; rfl; rfl; rfl; rfl; exact zao rfl; exact zak rfl; (first | assumption | rfl | exact (Int.toNat_of_nonneg (by omega)).symm); omega) | (apply zan; rfl; rfl; rfl; rfl; exact zay rfl; (focus repeat' first | assumption | (apply Ext.get; assumption)); (first | exact zar (by omega) | rfl | assumption)) | fail))
        refine zax (ih (k + 1) _ (by omega) ⟨hlt, by (focus repeat' first | exact Ext.refl _ | assumption), fun j hj' => ?_⟩) (by (focus repeat' first | rfl | exact trivial | apply And.intro))
        by_cases hjk : j = k
        · subst hjk; exact fun w => hc w.symm
        · exact hj j (by omega)
    · (repeat' (first | apply zah | apply zad | (apply O_at; rfl) | (apply zag; rfl) | apply zaf | (apply zaG; rfl) | apply za2 | apply zav | apply za3 | apply zaI | apply zaM | apply zaw | ((first | apply zae | apply zac); rfl; rfl; rfl; rfl) | (apply zaR; rfl; rfl; rfl; rfl; rfl; omega) | fail))
      refine ⟨.inr rfl, _, rfl, -1, rfl, ⟨fun q => by omega, fun q => ?_⟩, by (focus repeat' first | exact Ext.refl _ | assumption)⟩
      obtain ⟨j, hj1, hj2⟩ := mem_at.1 q
      exact absurd hj2 (hj j (by omega))
  · (focus repeat' first | rfl | exact trivial | apply And.intro)
theorem zcd (hK : NoK K) {l : List Int} {x : Int} {p : Option Addr} {cap : Nat} {h : Heap} (hl : l.length ≤ 1000) (hr : Rd h p (ints l)) :
    CallW Tryz.prog K 86 #[.slice p l.length cap, .int .i64 x] h (IfB (x ∈ l) h) := by
  refine body (N := 9) Tryz.func86 rfl (hK _ _ _ rfl) rfl rfl ?_
  (repeat' (first | apply zah | apply zad | (apply O_at; rfl) | (apply zag; rfl) | apply zaf | ((first | apply zae | apply zac); rfl; rfl; rfl; rfl) | fail))
  apply zaj; rfl; rfl; rfl; rfl; rfl; rfl; exact index_ok hK hl hr
  rintro _ _ ⟨n, rfl, hn, hx⟩
  by_cases hc : 0 ≤ n
  · (repeat' (first | (apply O_at; rfl) | (apply zag; rfl) | apply zaf | apply zav | apply zaw | ((first | apply zae | apply zac); rfl; rfl; rfl; rfl) | (apply ziH; rfl; rfl; rfl; rfl; rfl; omega) | fail))
    exact ⟨.inr rfl, _, rfl, .inl ⟨rfl, hn.1 hc, by (focus repeat' first | assumption)⟩⟩
  · (repeat' (first | (apply O_at; rfl) | (apply zag; rfl) | apply zaf | apply zav | apply zaw | ((first | apply zae | apply zac); rfl; rfl; rfl; rfl) | (apply zlr; rfl; rfl; rfl; rfl; rfl; omega) | fail))
    exact ⟨.inr rfl, _, rfl, .inr ⟨rfl, fun q => hc (hn.2 q), by (focus repeat' first | assumption)⟩⟩
theorem zcY (s : List (Int × Int)) : (lows s).length = s.length := by simp [lows]
theorem zcq (s : List (Int × Int)) : (highs s).length = s.length := by simp [highs]
theorem lows_get {s : List (Int × Int)} {j : Nat} (h : j < s.length) : (lows s).getD j 0 = (s.getD j (0, 0)).1 := by simp [lows, List.getD_eq_getElem?_getD, h]
theorem zkW {s : List (Int × Int)} {j : Nat} (h : j < s.length) : (highs s).getD j 0 = (s.getD j (0, 0)).2 := by simp [highs, List.getD_eq_getElem?_getD, h]
theorem zcx {s : List (Int × Int)} (hV : Vals s) : TruthP s (lows s) := by
  refine ⟨zcY s, fun k hk => ?_⟩
  rw [zcY] at hk
  have := hV k hk
  unfold ValP at this
  rw [lows_get hk]; omega
theorem zcb {s : List (Int × Int)} (hV : Vals s) : TruthP s (highs s) := by
  refine ⟨zcq s, fun k hk => ?_⟩
  rw [zcq] at hk
  have := hV k hk
  unfold ValP at this
  rw [zkW hk]; omega
def offv (s : List (Int × Int)) (l : List Int) (r : Int) (j : Nat) : Int :=
  if ((j : Nat) : Int) ∈ l then 0 else max ((s.getD j (0, 0)).2 - figv l (lows s) r j) (figv l (highs s) r j - (s.getD j (0, 0)).1)
def offs (s : List (Int × Int)) (l : List Int) (r : Int) (k : Nat) : List Int := (List.range k).map (offv s l r)
theorem zdI (s : List (Int × Int)) (l : List Int) (r : Int) (k : Nat) : (offs s l r k).length = k := by simp [offs]
theorem zgc (s : List (Int × Int)) (l : List Int) (r : Int) (k : Nat) : offs s l r (k + 1) = offs s l r k ++ [offv s l r k] := by simp [offs, List.range_succ]
theorem offs_get {s : List (Int × Int)} {l : List Int} {r : Int} {k j : Nat} (h : j < k) : (offs s l r k).getD j 0 = offv s l r j := by
  simp [offs, List.getD_eq_getElem?_getD, h]
theorem row_keep {l : List Int} {n : Nat} (h : l.length < n) : l ++ List.replicate (n - l.length) 0 = (l ++ [0]) ++ List.replicate (n - (l.length + 1)) 0 := by
  rw [show n - l.length = (n - (l.length + 1)) + 1 by omega, List.replicate_succ, List.append_assoc]
  rfl
theorem Rd.butV {h h1 : Heap} {b0 : Nat} {q p : Option Addr} {l : List Int} {n c : Nat} {u : Value} {t : TypeId} {own : Bool} (r : Rd h q (ints l)) (x : ExtBut b0 h h1) (g0 : h.get? b0 = some (.cells [.slice p n c, u] t own)) : Rd h1 q (ints l) := by
  rcases r with r | ⟨b, e, own', rfl, g⟩
  · exact .inl r
  · refine .inr ⟨b, e, own', rfl, x.get (fun w => ?_) g⟩
    subst w
    rw [g0] at g
    cases l with
    | nil => cases g
    | cons z l => cases g
set_option maxHeartbeats 4000000 in
theorem offs_ok (hK : NoK K) {T : Tb} {l : List Int} {b cap : Nat} {e : TypeId} {own : Bool} {h : Heap} (hP : TbP T) (hKp : KeptP T.s.length l) (hcap : l.length ≤ cap) (hll : l.length ≤ 1000) (hTb : TbAt T h) (hg : h.get? b = some (.cells (ints l) e own)) :
    CallW Tryz.prog K 82 #[ktV T (some ⟨b, 0, none⟩) l.length cap] h (IsL (offs T.s l T.r T.s.length) h) := by
  have iF : ∀ {t : List Int} {bt ct : Nat} {et : TypeId} {ownt : Bool} {h' : Heap}, TruthP T.s t → h'.get? bt = some (.cells (ints t) et ownt) → Ext h h' → CallW Tryz.prog K 65 #[ktV T (some ⟨b, 0, none⟩) l.length cap, .slice (some ⟨bt, 0, none⟩) t.length ct] h' (IsL (figs l t T.r T.s.length) h') := fun a g x => zju hK hP hKp a hcap hll (x.get hg) g
  obtain ⟨q, kq, s, r, o⟩ := T
  dsimp only [ktV] at iF ⊢
  have hn := hP.1
  have hV := hP.2.1
  dsimp only at hn hV hKp
  have hs0 := hTb.rd
  dsimp only at hs0
  obtain ⟨bs, es, owns, rfl, hgs⟩ := hs0.at (by rw [zai]; omega)
  have hb0 := Heap.get_lt hg
  have hbs0 := Heap.get_lt hgs
  refine body (N := 64) Tryz.func82 rfl (hK _ _ _ rfl) rfl rfl ?_
  (repeat' (first | apply zah | apply zad | (apply O_at; rfl) | (apply zag; rfl) | apply zaf | ((first | apply zae | apply zac | apply zbf | apply zaz); rfl; rfl; rfl; rfl) | ((first | apply P_fa | apply M_fa); rfl; rfl; rfl; rfl; exact zaU rfl; (first | exact Nat.zero_add _ | exact Nat.add_zero _ | rfl)) | (apply zan; rfl; rfl; rfl; rfl; exact zay rfl; (focus repeat' first | exact zaa | assumption | apply zab | (apply Ext.get; assumption) | (apply ExtBut.get; assumption; (first | assumption | omega | (simp only [Heap.push]; omega)))); (first | exact zar (by omega) | rfl | assumption)) | (apply za4; rfl; rfl; rfl; rfl; exact zak rfl; rfl; rfl) | (apply zbi; rfl; rfl; rfl; rfl; exact zak rfl; rfl; rfl) | fail))
  apply zaj; rfl; rfl; rfl; rfl; rfl; rfl; exact ends_ok hK (hs0.ext (by (focus repeat' first | exact Ext.refl _ | assumption | apply Ext.push | (refine Ext.trans ?_ (by assumption)) | (refine Ext.ofBut ?_ (by assumption) (by first | exact Nat.le_refl _ | omega))))) (by omega)
  rintro _ h3 ⟨u0, u1, rfl, r0, r1, x3⟩
  obtain ⟨p0, c0, rfl, rd0⟩ := r0
  obtain ⟨p1, c1, rfl, rd1⟩ := r1
  have ll := zcY s
  have hl := zcq s
  obtain ⟨b0, e0, own0, rfl, g0⟩ := rd0.at (by rw [zau]; omega)
  obtain ⟨b1, e1, own1, rfl, g1⟩ := rd1.at (by rw [zau]; omega)
  have hk3 : h3.get? h.n = some (.cells [.slice (some ⟨bs, 0, none⟩) s.length kq, .int .i64 r, .int .i64 o, .slice (some ⟨b, 0, none⟩) l.length cap] 82 true) := x3.get (zab zaa)
  have he3 : h3.get? (h.n + 1) = some (.cells [nilV, nilV] 141 true) := x3.get zaa
  have hgs3 := x3.get (zab (zab hgs))
  have hg3 := x3.get (zab (zab hg))
  have hbx0 : b0 ≠ h.n + 1 := fun w => by
    subst w
    rw [he3] at g0
    cases hls : lows s with
    | nil => rw [hls] at ll; simp at ll; omega
    | cons z m => rw [hls] at g0; cases g0
  have hbx1 : b1 ≠ h.n + 1 := fun w => by
    subst w
    rw [he3] at g1
    cases hls : highs s with
    | nil => rw [hls] at hl; simp at hl; omega
    | cons z m => rw [hls] at g1; cases g1
  (repeat' (first | (apply O_at; rfl) | (apply zag; rfl) | apply zaf | apply zal | ((first | apply zae | apply zac | apply zbf | apply zaz); rfl; rfl; rfl; rfl) | fail))
  refine zaT (fun a : Nat × Value × Value => [(13, .int .i64 (a.1 : Nat)), (12, .agg #[.slice (some ⟨b0, 0, none⟩) (lows s).length c0, .slice (some ⟨b1, 0, none⟩) (highs s).length c1]), (3, .pointer (some ⟨h.n + 1, 0, none⟩)), (1, .pointer (some ⟨h.n, 0, none⟩))])
    (fun a h' => a.1 ≤ 2 ∧ ExtBut (h.n + 1) h3 h' ∧ h'.get? (h.n + 1) = some (.cells [a.2.1, a.2.2] 141 true) ∧ (a.1 = 0 → a.2.1 = nilV) ∧ (a.1 ≤ 1 → a.2.2 = nilV) ∧ (0 < a.1 → RdV h' a.2.1 (figs l (lows s) r s.length)) ∧ (1 < a.1 → RdV h' a.2.2 (figs l (highs s) r s.length))) (fun a => 2 - a.1) ?_ (0, nilV, nilV) ?_ ?_
  · rintro ⟨i, v0, v1⟩ h' ⟨hi, hx, hb, z0, z1, q0, q1⟩ ih
    dsimp only at hi hx hb z0 z1 q0 q1 ih ⊢
    have hn3 := x3.n
    have hn' := hx.n
    simp only [Heap.push] at hn3
    have hk' := hx.get (by omega) hk3
    have hgs' := hx.get (by omega) hgs3
    have hg' := hx.get (by omega) hg3
    have g0' := hx.get hbx0 g0
    have g1' := hx.get hbx1 g1
    by_cases hlt : i < 2
    · have hlt' : (i : Int) < 2 := by omega
      have eh : Ext h h' := Ext.ofBut (by (focus repeat' first | exact Ext.refl _ | assumption | apply Ext.push | (refine Ext.trans ?_ (by assumption)) | (refine Ext.ofBut ?_ (by assumption) (by first | exact Nat.le_refl _ | omega)))) hx (by omega)
      rcases (show i = 0 ∨ i = 1 by omega) with rfl | rfl
      · obtain rfl := z0 rfl
        obtain rfl := z1 (by decide)
        (repeat' (first | apply zah | apply zad | (apply O_at; rfl) | (apply zag; rfl) | apply zaf | (apply zaE; rfl) | apply zal | apply zat | apply zap | ((first | apply zae | apply zac | apply zbf | apply zaz); rfl; rfl; rfl; rfl) | (apply zaA; rfl; rfl; rfl; rfl; rfl; omega) | (apply zaV; rfl; rfl; rfl; rfl; rfl; (unfold fit; omega)) | (apply zaF; rfl; rfl; rfl; rfl; exact za6 rfl; (focus repeat' first | exact zaa | assumption | apply zab | (apply Ext.get; assumption) | (apply ExtBut.get; assumption; (first | assumption | omega | (simp only [Heap.push]; omega)))); (first | exact Nat.le_of_ble_eq_true rfl | (simp; done) | (simp; omega) | (rw [zai]; omega) | (rw [zau]; omega)); (first | exact zaB (by omega) | rfl)) | (apply ziE; rfl; rfl; rfl; rfl; (focus repeat' first | exact zaa | assumption | apply zab | (apply Ext.get; assumption) | (apply ExtBut.get; assumption; (first | assumption | omega | (simp only [Heap.push]; omega)))); exact zak rfl; omega; (intro _ _ _)) | (apply zlq; rfl; rfl; rfl; rfl; rfl; exact zdy rfl; exact zak rfl; (first | assumption | exact zq0 | exact zq1 | rfl | exact (Int.toNat_of_nonneg (by omega)).symm); omega) | (apply zdM; rfl; rfl; rfl; rfl; rfl; (first | assumption | exact zq0 | exact zq1 | rfl | exact (Int.toNat_of_nonneg (by omega)).symm); exact zdy rfl; exact zay rfl; (first | decide | omega); rfl) | (apply zaj; rfl; rfl; rfl; rfl; rfl; rfl; exact iF (zcx hV) g0' eh; (rintro _ _ ⟨_, _, rfl, _, _⟩)) | fail))
        rename_i h4 pf cf rdf xf h5 gb5 x5
        exact zax (ih (1, .slice pf (figs l (lows s) r s.length).length cf, nilV) _ (by dsimp only; omega) ⟨by dsimp only; omega, (hx.trans (Ext.but xf _)).trans x5, gb5, fun w => absurd w (by dsimp only; omega), fun _ => rfl, fun _ => ⟨pf, cf, rfl, Rd.butV rdf x5 (xf.get hb)⟩, fun w => absurd w (by dsimp only; omega)⟩) (by (focus repeat' first | rfl | exact trivial | apply And.intro))
      · obtain rfl := z1 (by decide)
        obtain ⟨pv, cv, rfl, rdv⟩ := q0 (by decide)
        (repeat' (first | apply zah | apply zad | (apply O_at; rfl) | (apply zag; rfl) | apply zaf | (apply zaE; rfl) | apply zal | apply zat | apply zap | ((first | apply zae | apply zac | apply zbf | apply zaz); rfl; rfl; rfl; rfl) | (apply zaA; rfl; rfl; rfl; rfl; rfl; omega) | (apply zaV; rfl; rfl; rfl; rfl; rfl; (unfold fit; omega)) | (apply zaF; rfl; rfl; rfl; rfl; exact za6 rfl; (focus repeat' first | exact zaa | assumption | apply zab | (apply Ext.get; assumption) | (apply ExtBut.get; assumption; (first | assumption | omega | (simp only [Heap.push]; omega)))); (first | exact Nat.le_of_ble_eq_true rfl | (simp; done) | (simp; omega) | (rw [zai]; omega) | (rw [zau]; omega)); (first | exact zaB (by omega) | rfl)) | (apply ziE; rfl; rfl; rfl; rfl; (focus repeat' first | exact zaa | assumption | apply zab | (apply Ext.get; assumption) | (apply ExtBut.get; assumption; (first | assumption | omega | (simp only [Heap.push]; omega)))); exact zak rfl; omega; (intro _ _ _)) | (apply zlq; rfl; rfl; rfl; rfl; rfl; exact zdy rfl; exact zak rfl; (first | assumption | exact zq0 | exact zq1 | rfl | exact (Int.toNat_of_nonneg (by omega)).symm); omega) | (apply zdM; rfl; rfl; rfl; rfl; rfl; (first | assumption | exact zq0 | exact zq1 | rfl | exact (Int.toNat_of_nonneg (by omega)).symm); exact zdy rfl; exact zay rfl; (first | decide | omega); rfl) | (apply zaj; rfl; rfl; rfl; rfl; rfl; rfl; exact iF (zcb hV) g1' eh; (rintro _ _ ⟨_, _, rfl, _, _⟩)) | fail))
        rename_i h4 pf cf rdf xf h5 gb5 x5
        exact zax (ih (2, .slice pv (figs l (lows s) r s.length).length cv, .slice pf (figs l (highs s) r s.length).length cf) _ (by dsimp only; omega) ⟨by dsimp only; omega, (hx.trans (Ext.but xf _)).trans x5, gb5, fun w => absurd w (by dsimp only; omega), fun w => absurd w (by dsimp only; omega), fun _ => ⟨pv, cv, rfl, Rd.butV (rdv.ext xf) x5 (xf.get hb)⟩, fun _ => ⟨pf, cf, rfl, Rd.butV rdf x5 (xf.get hb)⟩⟩) (by (focus repeat' first | rfl | exact trivial | apply And.intro))
    · obtain rfl : i = 2 := by omega
      obtain ⟨p2, c2, rfl, rd2⟩ := q0 (by decide)
      obtain ⟨p3, c3, rfl, rd3⟩ := q1 (by decide)
      have l2 := zdJ l (lows s) r s.length
      have l3 := zdJ l (highs s) r s.length
      obtain ⟨b2, e2, own2, rfl, g2⟩ := rd2.at (by rw [zau]; omega)
      obtain ⟨b3, e3, own3, rfl, g3⟩ := rd3.at (by rw [zau]; omega)
      have n2 := Heap.get_lt g2
      have n3 := Heap.get_lt g3
      have hbk := Heap.get_lt hk'
      have hbe := Heap.get_lt hb
      have hbb := Heap.get_lt hg'
      have hbs' := Heap.get_lt hgs'
      (repeat' (first | apply zah | apply zad | (apply O_at; rfl) | (apply zag; rfl) | apply zaf | (apply zaG; rfl) | apply zal | apply za2 | apply za3 | apply zaI | apply zaM | ((first | apply zae | apply zac | apply zbf | apply zaz); rfl; rfl; rfl; rfl) | ((first | apply P_fa | apply M_fa); rfl; rfl; rfl; rfl; exact zaU rfl; (first | exact Nat.zero_add _ | exact Nat.add_zero _ | rfl)) | (apply zaN; rfl; rfl; rfl; rfl; rfl; rfl; exact zao rfl) | (apply zaR; rfl; rfl; rfl; rfl; rfl; omega) | (apply zan; rfl; rfl; rfl; rfl; exact zay rfl; (focus repeat' first | exact zaa | assumption | apply zab | (apply Ext.get; assumption) | (apply ExtBut.get; assumption; (first | assumption | omega | (simp only [Heap.push]; omega)))); (first | exact zar (by omega) | rfl | assumption)) | (apply P_makeI; rfl; rfl; rfl; rfl; rfl; exact zbM rfl; exact zero3; omega; omega) | fail))
      rw [Int.toNat_natCast]
      refine zaT (fun k : Nat => [(32, .int .i64 (k : Nat)), (31, .int .i64 (s.length : Nat)), (30, .slice (some ⟨bs, 0, none⟩) s.length kq), (6, .slice (some ⟨h'.n, 0, none⟩) s.length s.length), (3, .pointer (some ⟨h.n + 1, 0, none⟩)), (1, .pointer (some ⟨h.n, 0, none⟩))])
        (fun k g => k ≤ s.length ∧ ExtBut h'.n (h'.push (.cells (ints (List.replicate s.length 0)) 3 true)) g ∧ g.get? h'.n = some (.cells (ints (offs s l r k ++ List.replicate (s.length - (offs s l r k).length) 0)) 3 true)) (fun k => s.length - k) ?_ 0 ?_ ?_
      · rintro k g ⟨hk, hxg, hbg⟩ ih2
        have ok := zdI s l r k
        have y1 := hxg.get (by omega) (zab hk')
        have y2 := hxg.get (by omega) (zab hb)
        have y3 := hxg.get (by omega) (zab g2)
        have y4 := hxg.get (by omega) (zab g3)
        have y5 := hxg.get (by omega) (zab hgs')
        have y6 := hxg.get (by omega) (zab hg')
        by_cases hks : k < s.length
        · have hn2 := hxg.n
          have hv := hV k hks
          unfold ValP at hv
          have f1 := zc1 (l := l) (t := lows s) (r := r) hks
          have f2 := zc1 (l := l) (t := highs s) (r := r) hks
          have m1 := zc0 (r := r) hV hKp (zcx hV) hks
          have m2 := zc0 (r := r) hV hKp (zcb hV) hks
          have hlk : k < (offs s l r k ++ List.replicate (s.length - (offs s l r k).length) 0).length := by simp [ok]; omega
          by_cases hc : ((k : Nat) : Int) ∈ l
          · have e0 : offv s l r k = 0 := if_pos hc
            (repeat' (first | apply zah | apply zad | (apply O_at; rfl) | (apply zag; rfl) | apply zaf | (apply zaE; rfl) | (apply zaG; rfl) | apply zal | apply zat | apply zap | ((first | apply zae | apply zac | apply zbf | apply zaz); rfl; rfl; rfl; rfl) | ((first | apply P_fa | apply M_fa); rfl; rfl; rfl; rfl; exact zaU rfl; (first | exact Nat.zero_add _ | exact Nat.add_zero _ | rfl)) | (apply zaA; rfl; rfl; rfl; rfl; rfl; omega) | (apply zaV; rfl; rfl; rfl; rfl; rfl; (unfold fit; omega)) | (apply zch; rfl; rfl; rfl; rfl; rfl; exact zao rfl; exact zak rfl; (first | assumption | exact zq0 | exact zq1 | rfl | exact (Int.toNat_of_nonneg (by omega)).symm); omega) | (apply zan; rfl; rfl; rfl; rfl; exact zay rfl; (focus repeat' first | exact zaa | assumption | apply zab | (apply Ext.get; assumption) | (apply ExtBut.get; assumption; (first | assumption | omega | (simp only [Heap.push]; omega)))); (first | exact zar (by omega) | rfl | assumption)) | (apply zaF; rfl; rfl; rfl; rfl; exact za6 rfl; (focus repeat' first | exact zaa | assumption | apply zab | (apply Ext.get; assumption) | (apply ExtBut.get; assumption; (first | assumption | omega | (simp only [Heap.push]; omega)))); (first | exact Nat.le_of_ble_eq_true rfl | (simp; done) | (simp; omega) | (rw [zai]; omega) | (rw [zau]; omega)); (first | exact zaB (by omega) | rfl)) | (apply zaX; rfl; rfl; rfl; rfl; exact zak rfl; rfl; rfl; rfl) | (apply zbi; rfl; rfl; rfl; rfl; exact zak rfl; rfl; rfl) | (apply zaj; rfl; rfl; rfl; rfl; rfl; rfl; exact yes (zcd hK hll (.inr ⟨_, _, _, rfl, by (focus repeat' first | exact zaa | assumption | apply zab | (apply Ext.get; assumption) | (apply ExtBut.get; assumption; (first | assumption | omega | (simp only [Heap.push]; omega))))⟩)) hc; (rintro _ _ ⟨rfl, _⟩)) | fail))
            rename_i g1 xg1
            refine zax (ih2 (k + 1) _ (by omega) ⟨hks, hxg.trans (Ext.but (by (focus repeat' first | exact Ext.refl _ | assumption | apply Ext.push | (refine Ext.trans ?_ (by assumption)) | (refine Ext.ofBut ?_ (by assumption) (by first | exact Nat.le_refl _ | omega)))) _), ?_⟩) (by (focus repeat' first | rfl | exact trivial | apply And.intro))
            have hr := row_keep (l := offs s l r k) (n := s.length) (by omega)
            have hs1 : offs s l r (k + 1) = offs s l r k ++ [0] := by rw [zgc, e0]
            rw [ok, ← hs1] at hr
            rw [zdI, ← hr]
            rw [ok] at hbg
            exact xg1.get (zab hbg)
          · have e0 : offv s l r k = max ((s.getD k (0, 0)).2 - (figs l (lows s) r s.length).getD k 0) ((figs l (highs s) r s.length).getD k 0 - (s.getD k (0, 0)).1) := by rw [f1, f2]; exact if_neg hc
            (repeat' (first | apply zah | apply zad | (apply O_at; rfl) | (apply N_at; rfl) | (apply zag; rfl) | apply zaf | (apply zaE; rfl) | (apply zbp; exact zaH (by decide +kernel)) | apply zal | apply zat | (apply zbN; rfl; refine .inr ?_; (focus repeat' first | exact trivial | apply And.intro | rfl)) | apply zap | ((first | apply zae | apply zac | apply zbf | apply zaz); rfl; rfl; rfl; rfl) | ((first | apply P_fa | apply M_fa); rfl; rfl; rfl; rfl; exact zaU rfl; (first | exact Nat.zero_add _ | exact Nat.add_zero _ | rfl)) | (apply zaA; rfl; rfl; rfl; rfl; rfl; omega) | (apply zaV; rfl; rfl; rfl; rfl; rfl; (unfold fit; omega)) | (apply zch; rfl; rfl; rfl; rfl; rfl; exact zao rfl; exact zak rfl; (first | assumption | exact zq0 | exact zq1 | rfl | exact (Int.toNat_of_nonneg (by omega)).symm); omega) | (apply zan; rfl; rfl; rfl; rfl; exact zay rfl; (focus repeat' first | exact zaa | assumption | apply zab | (apply Ext.get; assumption) | (apply ExtBut.get; assumption; (first | assumption | omega | (simp only [Heap.push]; omega)))); (first | exact zar (by omega) | rfl | assumption)) | (apply zaF; rfl; rfl; rfl; rfl; exact za6 rfl; (focus repeat' first | exact zaa | assumption | apply zab | (apply Ext.get; assumption) | (apply ExtBut.get; assumption; (first | assumption | omega | (simp only [Heap.push]; omega)))); (first | exact Nat.le_of_ble_eq_true rfl | (simp; done) | (simp; omega) | (rw [zai]; omega) | (rw [zau]; omega)); (first | exact zaB (by omega) | rfl)) | (apply zaX; rfl; rfl; rfl; rfl; exact zak rfl; rfl; rfl; rfl) | (apply zbi; rfl; rfl; rfl; rfl; exact zak rfl; rfl; rfl) | (apply zeI; rfl; rfl; rfl; rfl; rfl; (unfold fit; omega)) | (apply zbV; rfl; rfl; rfl; rfl; rfl; exact zao rfl; exact zak rfl; (first | assumption | exact zq0 | exact zq1 | rfl | exact (Int.toNat_of_nonneg (by omega)).symm); omega) | (((apply zbU; rfl; rfl; rfl; rfl; exact zay rfl; exact zbe (by decide +kernel)); (focus repeat' first | exact zaa | assumption | apply zab | (apply Ext.get; assumption) | (apply ExtBut.get; assumption; (first | assumption | omega | (simp only [Heap.push]; omega)))); (first | exact zar (by omega) | rfl | assumption)); (first | assumption | exact za5 _ _ | exact zbc _ _ _ | rfl | (focus simp [same, same.all2]; done)); (first | rfl | assumption | exact hwv _ | (focus apply zb1; (focus repeat' first | exact zaa | assumption | apply zab | (apply Ext.get; assumption) | (apply ExtBut.get; assumption; (first | assumption | omega | (simp only [Heap.push]; omega)))); done) | (simp [within]; omega))) | (apply ziJ; rfl; rfl; rfl; rfl; (focus repeat' first | exact zaa | assumption | apply zab | (apply Ext.get; assumption) | (apply ExtBut.get; assumption; (first | assumption | omega | (simp only [Heap.push]; omega)))); exact zak rfl; (first | omega | (focus simp; done)); rfl; (intro _ _ _)) | (apply M_max; rfl; rfl; rfl; rfl; rfl; rfl) | (apply zgK; rfl; rfl; rfl; rfl; rfl; exact zdy rfl; exact zak rfl; (first | assumption | exact zq0 | exact zq1 | rfl | exact (Int.toNat_of_nonneg (by omega)).symm); omega) | (apply zaj; rfl; rfl; rfl; rfl; rfl; rfl; exact no (zcd hK hll (.inr ⟨_, _, _, rfl, by (focus repeat' first | exact zaa | assumption | apply zab | (apply Ext.get; assumption) | (apply ExtBut.get; assumption; (first | assumption | omega | (simp only [Heap.push]; omega))))⟩)) hc; (rintro _ _ ⟨rfl, _⟩)) | fail))
            rename_i g1 xg1 g5 q5 xg5
            refine zax (ih2 (k + 1) _ (by omega) ⟨hks, (hxg.trans (Ext.but (by (focus repeat' first | exact Ext.refl _ | assumption | apply Ext.push | (refine Ext.trans ?_ (by assumption)) | (refine Ext.ofBut ?_ (by assumption) (by first | exact Nat.le_refl _ | omega)))) _)).trans xg5, ?_⟩) (by (focus repeat' first | rfl | exact trivial | apply And.intro))
            have hr := row_set (l := offs s l r k) (n := s.length) (x := offv s l r k) (by omega)
            rw [← zgc, ok] at hr
            rw [← e0, ok] at q5
            rw [zdI, ← hr]
            exact q5
        · obtain rfl : k = s.length := by omega
          rw [ok, Nat.sub_self, List.replicate_zero, List.append_nil] at hbg
          (repeat' (first | apply zah | apply zad | (apply O_at; rfl) | (apply zag; rfl) | apply zaf | (apply zaG; rfl) | apply za2 | apply zav | apply za3 | apply zaI | apply zaM | apply zaw | ((first | apply zae | apply zac | apply zbf | apply zaz); rfl; rfl; rfl; rfl) | (apply zaR; rfl; rfl; rfl; rfl; rfl; omega) | fail))
          refine ⟨.inr rfl, _, rfl, some ⟨h'.n, 0, none⟩, s.length, ?_, .inr ⟨_, _, _, rfl, hbg⟩, ?_⟩
          · rw [ok]; rfl
          · exact Ext.ofBut (Ext.push (Ext.ofBut (by (focus repeat' first | exact Ext.refl _ | assumption | apply Ext.push | (refine Ext.trans ?_ (by assumption)) | (refine Ext.ofBut ?_ (by assumption) (by first | exact Nat.le_refl _ | omega)))) hx (by omega)) _) hxg (by omega)
      · exact ⟨Nat.zero_le _, ExtBut.refl _ _, zaa⟩
      · (focus repeat' first | rfl | exact trivial | apply And.intro)
  · exact ⟨by decide, ExtBut.refl _ _, he3, fun _ => rfl, fun _ => rfl, fun q => absurd q (by dsimp only; omega), fun q => absurd q (by dsimp only; omega)⟩
  · (focus repeat' first | rfl | exact trivial | apply And.intro)
end Go.AX.Sa

namespace Go.AX.Sa
open Go.Proofs
set_option maxRecDepth 100000
variable {K : Known}
/-! The rows that may be wrong; whether a kept list surely is right. -/
def dbts (s : List (Int × Int)) (l : List Int) (r o : Int) : Nat → List Int
  | 0 => []
  | k + 1 => if o < offv s l r k then dbts s l r o k ++ [((k : Nat) : Int)] else dbts s l r o k
theorem zfw {s : List (Int × Int)} {l : List Int} {r o : Int} {k : Nat} (h : o < offv s l r k) : dbts s l r o (k + 1) = dbts s l r o k ++ [((k : Nat) : Int)] := if_pos h
theorem zhD {s : List (Int × Int)} {l : List Int} {r o : Int} {k : Nat} (h : ¬ o < offv s l r k) : dbts s l r o (k + 1) = dbts s l r o k := if_neg h
theorem ziv (s : List (Int × Int)) (l : List Int) (r o : Int) : ∀ k, (dbts s l r o k).length ≤ k := by
  intro k
  induction k with
  | zero => exact Nat.le_refl _
  | succ k ih =>
    by_cases h : o < offv s l r k
    · rw [zfw h, List.length_append]; simp only [List.length_cons, List.length_nil]; omega
    · rw [zhD h]; omega
/-- A kept list surely is right. -/
def SureP (s : List (Int × Int)) (l : List Int) (r o : Int) : Prop := ∀ j, j < s.length → offv s l r j ≤ o
theorem zk6 (hK : NoK K) {T : Tb} {l : List Int} {b cap : Nat} {e : TypeId} {own : Bool} {h : Heap} (hP : TbP T) (hKp : KeptP T.s.length l) (hcap : l.length ≤ cap) (hll : l.length ≤ 1000) (hTb : TbAt T h) (hg : h.get? b = some (.cells (ints l) e own)) :
    CallW Tryz.prog K 77 #[ktV T (some ⟨b, 0, none⟩) l.length cap] h (IsL (dbts T.s l T.r T.o T.s.length) h) := by
  have iO : ∀ {h' : Heap}, Ext h h' → CallW Tryz.prog K 82 #[ktV T (some ⟨b, 0, none⟩) l.length cap] h' (IsL (offs T.s l T.r T.s.length) h') := fun x => offs_ok hK hP hKp hcap hll (hTb.ext x) (x.get hg)
  obtain ⟨q, kq, s, r, o⟩ := T
  have hqb : ∀ a, q = some a → a.block < h.n := hTb.b
  have hb0 := Heap.get_lt hg
  have hn := hP.1
  dsimp only [ktV] at iO hn ⊢
  have hfl := zdI s l r s.length
  refine body (N := 25) Tryz.func77 rfl (hK _ _ _ rfl) rfl rfl ?_
  (repeat' (first | apply zah | apply zad | (apply O_at; rfl) | (apply zag; rfl) | apply zaf | apply zal | ((first | apply zae | apply zac); rfl; rfl; rfl; rfl) | (apply zaN; rfl; rfl; rfl; rfl; rfl; rfl; exact zao rfl) | (apply zaF; rfl; rfl; rfl; rfl; exact za6 rfl; (focus repeat' first | exact zaa | assumption | (apply Ext.get; assumption)); (first | exact Nat.le_of_ble_eq_true rfl | (simp; done) | (simp; omega) | (rw [zau]; omega)); rfl) | (apply za4; rfl; rfl; rfl; rfl; exact zak rfl; rfl; rfl) | (apply zaj; rfl; rfl; rfl; rfl; rfl; rfl; exact iO (by (focus repeat' first | exact Ext.refl _ | assumption | apply Ext.push | (refine Ext.trans ?_ (by assumption)))); (rintro _ _ ⟨_, _, rfl, _, _⟩)) | fail))
  rename_i h1 fq fc frd fx
  rw [hfl]
  obtain ⟨bf, ef, ownf, rfl, gf⟩ := frd.at (by rw [zau]; omega)
  have hk1 : h1.get? h.n = some (.cells [.slice q s.length kq, .int .i64 r, .int .i64 o, .slice (some ⟨b, 0, none⟩) l.length cap] 82 true) := fx.get zaa
  refine zaT (fun a : Nat × Value => [(9, .int .i64 (a.1 : Nat)), (8, .int .i64 (s.length : Nat)), (7, .slice (some ⟨bf, 0, none⟩) s.length fc), (3, a.2), (1, .pointer (some ⟨h.n, 0, none⟩))])
    (fun a h' => a.1 ≤ s.length ∧ Ext h1 h' ∧ OutI 3 h1 h' a.2 (dbts s l r o a.1)) (fun a => s.length - a.1) ?_ (0, nilV) ?_ ?_
  · rintro ⟨k, v⟩ h' ⟨hk, hx, ho⟩ ih
    dsimp only at hk hx ho ih ⊢
    have hk' := hx.get hk1
    have gf' := hx.get gf
    have hle := ziv s l r o k
    by_cases hlt : k < s.length
    · have hg1 := offs_get (s := s) (l := l) (r := r) hlt
      by_cases hc : o < offv s l r k
      · rw [← hg1] at hc
        (repeat' (first | apply zah | apply zad | (apply O_at; rfl) | (apply zag; rfl) | apply zaf | (apply zaE; rfl) | apply zal | apply zat | apply zap | ((first | apply zae | apply zac); rfl; rfl; rfl; rfl) | (apply P_fa; rfl; rfl; rfl; rfl; exact zaU rfl; (first | exact Nat.zero_add _ | exact Nat.add_zero _ | rfl)) | (apply zaA; rfl; rfl; rfl; rfl; rfl; omega) | (apply zes; rfl; rfl; rfl; rfl; rfl; omega) | (apply zaV; rfl; rfl; rfl; rfl; rfl; (unfold fit; omega)) | (apply zbh; rfl; rfl; rfl; rfl; rfl; exact zao rfl; exact zak rfl; (first | assumption | rfl | exact (Int.toNat_of_nonneg (by omega)).symm); omega) | (apply zan; rfl; rfl; rfl; rfl; exact zay rfl; (focus repeat' first | exact zaa | assumption | (apply Ext.get; assumption)); (first | exact zar (by omega) | rfl | assumption)) | (apply zbS; rfl; rfl; rfl; rfl; rfl; rfl; rfl; exact zbM rfl) | (apply zet; rfl; rfl; rfl; rfl; rfl; rfl; rfl; rfl; exact zbM rfl; exact zao rfl; (focus repeat' first | exact zaa | assumption | (apply Ext.get; assumption)); (apply OutI.ext; assumption; (focus repeat' first | exact Ext.refl _ | assumption | apply Ext.push | (refine Ext.trans ?_ (by assumption)))); (focus repeat' first | exact Ext.refl _ | assumption | apply Ext.push | (refine Ext.trans ?_ (by assumption))); (first | omega | (simp; omega)); (intro _ _ _ _)) | fail))
        rename_i v1 h2 ho2 hx2
        exact zax (ih (k + 1, v1) _ (by dsimp only; omega) ⟨hlt, by (focus repeat' first | exact Ext.refl _ | assumption | apply Ext.push | (refine Ext.trans ?_ (by assumption))), by rw [hg1] at hc; rw [zfw hc]; exact ho2⟩) (by (focus repeat' first | rfl | exact trivial | apply And.intro))
      · rw [← hg1] at hc
        (repeat' (first | apply zah | apply zad | (apply O_at; rfl) | (apply zag; rfl) | apply zaf | (apply zaE; rfl) | (apply zaG; rfl) | apply zal | apply zat | apply zap | ((first | apply zae | apply zac); rfl; rfl; rfl; rfl) | (apply P_fa; rfl; rfl; rfl; rfl; exact zaU rfl; (first | exact Nat.zero_add _ | exact Nat.add_zero _ | rfl)) | (apply zaA; rfl; rfl; rfl; rfl; rfl; omega) | (apply zda; rfl; rfl; rfl; rfl; rfl; omega) | (apply zaV; rfl; rfl; rfl; rfl; rfl; (unfold fit; omega)) | (apply zbh; rfl; rfl; rfl; rfl; rfl; exact zao rfl; exact zak rfl; (first | assumption | rfl | exact (Int.toNat_of_nonneg (by omega)).symm); omega) | (apply zan; rfl; rfl; rfl; rfl; exact zay rfl; (focus repeat' first | exact zaa | assumption | (apply Ext.get; assumption)); (first | exact zar (by omega) | rfl | assumption)) | fail))
        exact zax (ih (k + 1, v) _ (by dsimp only; omega) ⟨hlt, by (focus repeat' first | exact Ext.refl _ | assumption | apply Ext.push | (refine Ext.trans ?_ (by assumption))), by rw [hg1] at hc; rw [zhD hc]; exact ho⟩) (by (focus repeat' first | rfl | exact trivial | apply And.intro))
    · obtain rfl : k = s.length := by omega
      (repeat' (first | apply zah | apply zad | (apply O_at; rfl) | (apply zag; rfl) | apply zaf | (apply zaG; rfl) | apply za2 | apply zav | apply za3 | apply zaI | apply zaM | apply zaw | ((first | apply zae | apply zac); rfl; rfl; rfl; rfl) | (apply zaR; rfl; rfl; rfl; rfl; rfl; omega) | fail))
      have hn1 := fx.n
      simp only [Heap.push] at hn1
      exact ⟨.inr rfl, _, rfl, (OutI.low (e := 3) ho (by omega)).isL (by (focus repeat' first | exact Ext.refl _ | assumption | apply Ext.push | (refine Ext.trans ?_ (by assumption))))⟩
  · exact ⟨Nat.zero_le _, Ext.refl _, OutI.nil _ _ _⟩
  · (focus repeat' first | rfl | exact trivial | apply And.intro)
def dbtV : Value := .iface 131 (.agg #[])
def dbtCh : List PanicEntry := [⟨dbtV, false, false⟩]
section
variable {T : Tb} {l : List Int} {b cap : Nat} {e : TypeId} {own : Bool} {h : Heap}
end
end Go.AX.Sa

namespace Go.AX.Sa
open Go.Proofs
set_option maxRecDepth 100000
variable {K : Known}
/-! The specification's: how far figures can be, and the rows that may be wrong. -/
theorem zji (hK : NoK K) {T : Tb} {h : Heap} (hsl : T.s.length ≤ 1000) (hTb : TbAt T h) :
    CallW Tryz.prog K 84 #[tbV T] h (IsL (lows T.s) h) := by
  obtain ⟨q, kq, s, r, o⟩ := T
  have hs0 := hTb.rd
  dsimp only [tbV] at hsl hs0 ⊢
  refine body (N := 22) Tryz.func84 rfl (hK _ _ _ rfl) rfl rfl ?_
  (repeat' (first | apply zah | apply zad | (apply O_at; rfl) | (apply zag; rfl) | apply zaf | apply zal | ((first | apply zae | apply zac); rfl; rfl; rfl; rfl) | (apply za4; rfl; rfl; rfl; rfl; exact zak rfl; rfl; rfl) | fail))
  refine zaT (fun a : Nat × Value => [(4, .int .i64 (a.1 : Nat)), (3, a.2), (1, .pointer (some ⟨h.n, 0, none⟩))])
    (fun a h' => a.1 ≤ s.length ∧ Ext (h.push (.cells [.slice q s.length kq, .int .i64 r, .int .i64 o] 25 true)) h' ∧ OutI 3 (h.push (.cells [.slice q s.length kq, .int .i64 r, .int .i64 o] 25 true)) h' a.2 ((lows s).take a.1)) (fun a => s.length - a.1) ?_ (0, nilV) ?_ ?_
  · rintro ⟨k, v⟩ h' ⟨hk, hx, ho⟩ ih
    dsimp only at hk hx ho ih ⊢
    have hb : h'.get? h.n = some (.cells [.slice q s.length kq, .int .i64 r, .int .i64 o] 25 true) := hx.get zaa
    have hle : ((lows s).take k).length ≤ 10000 := by rw [List.length_take]; omega
    by_cases hlt : k < s.length
    · obtain ⟨bs, es, owns, rfl, hgs⟩ := hs0.at (by rw [zai]; omega)
      have hgs' := hx.get (zab hgs)
      (repeat' (first | apply zah | apply zad | (apply O_at; rfl) | (apply zag; rfl) | apply zaf | (apply zaE; rfl) | apply zal | apply zat | apply zap | ((first | apply zae | apply zac); rfl; rfl; rfl; rfl) | (apply P_fa; rfl; rfl; rfl; rfl; exact zaU rfl; (first | exact Nat.zero_add _ | exact Nat.add_zero _ | rfl)) | (apply zaN; rfl; rfl; rfl; rfl; rfl; rfl; exact zao rfl) | (apply zaA; rfl; rfl; rfl; rfl; rfl; omega) | (apply zaV; rfl; rfl; rfl; rfl; rfl; (unfold fit; omega)) | (apply zch; rfl; rfl; rfl; rfl; rfl; exact zao rfl; exact zak rfl; (first | assumption | rfl | exact (Int.toNat_of_nonneg (by omega)).symm); omega) | (apply zan; rfl; rfl; rfl; rfl; exact zay rfl; (focus repeat' first | exact zaa | assumption | apply zab | (apply Ext.get; assumption)); (first | exact zdC (by omega) | rfl | assumption)) | (apply zbS; rfl; rfl; rfl; rfl; rfl; rfl; rfl; exact zbM rfl) | (apply zet; rfl; rfl; rfl; rfl; rfl; rfl; rfl; rfl; exact zbM rfl; exact zao rfl; (focus repeat' first | exact zaa | assumption | apply zab | (apply Ext.get; assumption)); (apply OutI.ext; assumption; (focus repeat' first | exact Ext.refl _ | assumption | apply Ext.push | (refine Ext.trans ?_ (by assumption)))); (focus repeat' first | exact Ext.refl _ | assumption | apply Ext.push | (refine Ext.trans ?_ (by assumption))); (first | omega | (simp; omega)); (intro _ _ _ _)) | fail))
      rename_i v1 h2 ho2 hx2
      exact zax (ih (k + 1, v1) _ (by dsimp only; omega) ⟨hlt, by (focus repeat' first | exact Ext.refl _ | assumption | apply Ext.push | (refine Ext.trans ?_ (by assumption))), by rw [zgg hlt]; exact ho2⟩) (by (focus repeat' first | rfl | exact trivial | apply And.intro))
    · obtain rfl : k = s.length := by omega
      rw [List.take_of_length_le (by rw [zcY]; exact Nat.le_refl _)] at ho
      (repeat' (first | apply zah | apply zad | (apply O_at; rfl) | (apply zag; rfl) | apply zaf | (apply zaG; rfl) | apply za2 | apply zav | apply za3 | apply zaI | apply zaM | apply zaw | ((first | apply zae | apply zac); rfl; rfl; rfl; rfl) | (apply P_fa; rfl; rfl; rfl; rfl; exact zaU rfl; (first | exact Nat.zero_add _ | exact Nat.add_zero _ | rfl)) | (apply zaN; rfl; rfl; rfl; rfl; rfl; rfl; exact zao rfl) | (apply zaR; rfl; rfl; rfl; rfl; rfl; omega) | (apply zan; rfl; rfl; rfl; rfl; exact zay rfl; (focus repeat' first | exact zaa | assumption | apply zab | (apply Ext.get; assumption)); (first | exact zdC (by omega) | rfl | assumption)) | fail))
      exact ⟨.inr rfl, _, rfl, (OutI.low (e := 3) ho (Nat.le_succ _)).isL (by (focus repeat' first | exact Ext.refl _ | assumption | apply Ext.push | (refine Ext.trans ?_ (by assumption))))⟩
  · exact ⟨Nat.zero_le _, Ext.refl _, OutI.nil _ _ _⟩
  · (focus repeat' first | rfl | exact trivial | apply And.intro)
theorem zg9 (hK : NoK K) {T : Tb} {h : Heap} (hsl : T.s.length ≤ 1000) (hTb : TbAt T h) :
    CallW Tryz.prog K 120 #[tbV T] h (IsL (highs T.s) h) := by
  obtain ⟨q, kq, s, r, o⟩ := T
  have hs0 := hTb.rd
  dsimp only [tbV] at hsl hs0 ⊢
  refine body (N := 22) Tryz.func120 rfl (hK _ _ _ rfl) rfl rfl ?_
  (repeat' (first | apply zah | apply zad | (apply O_at; rfl) | (apply zag; rfl) | apply zaf | apply zal | ((first | apply zae | apply zac); rfl; rfl; rfl; rfl) | (apply za4; rfl; rfl; rfl; rfl; exact zak rfl; rfl; rfl) | fail))
  refine zaT (fun a : Nat × Value => [(4, .int .i64 (a.1 : Nat)), (3, a.2), (1, .pointer (some ⟨h.n, 0, none⟩))])
    (fun a h' => a.1 ≤ s.length ∧ Ext (h.push (.cells [.slice q s.length kq, .int .i64 r, .int .i64 o] 25 true)) h' ∧ OutI 3 (h.push (.cells [.slice q s.length kq, .int .i64 r, .int .i64 o] 25 true)) h' a.2 ((highs s).take a.1)) (fun a => s.length - a.1) ?_ (0, nilV) ?_ ?_
  · rintro ⟨k, v⟩ h' ⟨hk, hx, ho⟩ ih
    dsimp only at hk hx ho ih ⊢
    have hb : h'.get? h.n = some (.cells [.slice q s.length kq, .int .i64 r, .int .i64 o] 25 true) := hx.get zaa
    have hle : ((highs s).take k).length ≤ 10000 := by rw [List.length_take]; omega
    by_cases hlt : k < s.length
    · obtain ⟨bs, es, owns, rfl, hgs⟩ := hs0.at (by rw [zai]; omega)
      have hgs' := hx.get (zab hgs)
      (repeat' (first | apply zah | apply zad | (apply O_at; rfl) | (apply zag; rfl) | apply zaf | (apply zaE; rfl) | apply zal | apply zat | apply zap | ((first | apply zae | apply zac); rfl; rfl; rfl; rfl) | (apply P_fa; rfl; rfl; rfl; rfl; exact zaU rfl; (first | exact Nat.zero_add _ | exact Nat.add_zero _ | rfl)) | (apply zaN; rfl; rfl; rfl; rfl; rfl; rfl; exact zao rfl) | (apply zaA; rfl; rfl; rfl; rfl; rfl; omega) | (apply zaV; rfl; rfl; rfl; rfl; rfl; (unfold fit; omega)) | (apply zch; rfl; rfl; rfl; rfl; rfl; exact zao rfl; exact zak rfl; (first | assumption | rfl | exact (Int.toNat_of_nonneg (by omega)).symm); omega) | (apply zan; rfl; rfl; rfl; rfl; exact zay rfl; (focus repeat' first | exact zaa | assumption | apply zab | (apply Ext.get; assumption)); (first | exact zdD (by omega) | rfl | assumption)) | (apply zbS; rfl; rfl; rfl; rfl; rfl; rfl; rfl; exact zbM rfl) | (apply zet; rfl; rfl; rfl; rfl; rfl; rfl; rfl; rfl; exact zbM rfl; exact zao rfl; (focus repeat' first | exact zaa | assumption | apply zab | (apply Ext.get; assumption)); (apply OutI.ext; assumption; (focus repeat' first | exact Ext.refl _ | assumption | apply Ext.push | (refine Ext.trans ?_ (by assumption)))); (focus repeat' first | exact Ext.refl _ | assumption | apply Ext.push | (refine Ext.trans ?_ (by assumption))); (first | omega | (simp; omega)); (intro _ _ _ _)) | fail))
      rename_i v1 h2 ho2 hx2
      exact zax (ih (k + 1, v1) _ (by dsimp only; omega) ⟨hlt, by (focus repeat' first | exact Ext.refl _ | assumption | apply Ext.push | (refine Ext.trans ?_ (by assumption))), by rw [zeQ hlt]; exact ho2⟩) (by (focus repeat' first | rfl | exact trivial | apply And.intro))
    · obtain rfl : k = s.length := by omega
      rw [List.take_of_length_le (by rw [zcq]; exact Nat.le_refl _)] at ho
      (repeat' (first | apply zah | apply zad | (apply O_at; rfl) | (apply zag; rfl) | apply zaf | (apply zaG; rfl) | apply za2 | apply zav | apply za3 | apply zaI | apply zaM | apply zaw | ((first | apply zae | apply zac); rfl; rfl; rfl; rfl) | (apply P_fa; rfl; rfl; rfl; rfl; exact zaU rfl; (first | exact Nat.zero_add _ | exact Nat.add_zero _ | rfl)) | (apply zaN; rfl; rfl; rfl; rfl; rfl; rfl; exact zao rfl) | (apply zaR; rfl; rfl; rfl; rfl; rfl; omega) | (apply zan; rfl; rfl; rfl; rfl; exact zay rfl; (focus repeat' first | exact zaa | assumption | apply zab | (apply Ext.get; assumption)); (first | exact zdD (by omega) | rfl | assumption)) | fail))
      exact ⟨.inr rfl, _, rfl, (OutI.low (e := 3) ho (Nat.le_succ _)).isL (by (focus repeat' first | exact Ext.refl _ | assumption | apply Ext.push | (refine Ext.trans ?_ (by assumption))))⟩
  · exact ⟨Nat.zero_le _, Ext.refl _, OutI.nil _ _ _⟩
  · (focus repeat' first | rfl | exact trivial | apply And.intro)
/-- The rows around a row are the same one just if it is kept. -/
theorem zhK {n : Nat} {l : List Int} (hKp : KeptP n l) {j : Nat} (hj : j < n) : bef l (j : Nat) = aft l (j : Nat) ↔ ((j : Nat) : Int) ∈ l := by
  have hG := hKp.2.2.2
  rcases zkg hKp hj with ⟨i, hi, hij⟩ | ⟨i, hi, h1, h2⟩
  · have e1 := zeU hG (j := (j : Nat)) hi (by omega) (fun w => by have := hG i w; omega)
    have e2 := zeW hG (j := (j : Nat)) hi (by omega) (fun m w => by have := hG m (by omega); rw [w] at this; omega)
    exact ⟨fun _ => mem_at.2 ⟨i, hi, hij⟩, fun _ => by rw [e1, e2]⟩
  · have e1 := zeU hG (j := (j : Nat)) (i := i) (by omega) (by omega) (fun _ => h2)
    have e2 := zeW hG (j := (j : Nat)) (i := i + 1) hi (by omega) (fun m w => by rw [show m = i by omega]; exact h1)
    refine ⟨fun w => by rw [e1, e2] at w; omega, fun w => ?_⟩
    obtain ⟨k, hk, hkj⟩ := mem_at.1 w
    by_cases hki : k ≤ i
    · have := keptLe hG hki (by omega); omega
    · have := keptLe hG (show i + 1 ≤ k by omega) hk; omega
set_option maxHeartbeats 2000000 in
theorem zkq (hK : NoK K) {T : Tb} {l : List Int} {p : Option Addr} {cap j : Nat} {h : Heap} (hP : TbP T) (hKp : KeptP T.s.length l) (hll : l.length ≤ 1000) (hj : j < T.s.length) (hTb : TbAt T h) (hr : Rd h p (ints l)) :
    CallW Tryz.prog K 79 #[tbV T, .slice p l.length cap, .int .i64 (j : Nat)] h (IsV (.int .i64 (offv T.s l T.r j)) h) := by
  have iH : ∀ {h' : Heap}, Ext h h' → CallW Tryz.prog K 120 #[tbV T] h' (IsL (highs T.s) h') := fun x => zg9 hK (by have := hP.1; omega) (hTb.ext x)
  have iL : ∀ {h' : Heap}, Ext h h' → CallW Tryz.prog K 84 #[tbV T] h' (IsL (lows T.s) h') := fun x => zji hK (by have := hP.1; omega) (hTb.ext x)
  have iF : ∀ {t : List Int} {pt : Option Addr} {ct : Nat} {h' : Heap}, TruthP T.s t → Rd h' pt (ints t) → Ext h h' → CallW Tryz.prog K 69 #[tbV T, .slice p l.length cap, .int .i64 (j : Nat), .slice pt t.length ct] h' (IsV (.int .i64 (figv l t T.r j)) h') := fun a g x => zfd hK hP hKp a hll hj (hTb.ext x) (hr.ext x) g
  have f1 := zc0 (r := T.r) hP.2.1 hKp (zcx hP.2.1) hj
  have f2 := zc0 (r := T.r) hP.2.1 hKp (zcb hP.2.1) hj
  rw [zc1 hj] at f1 f2
  have hv := hP.2.1 j hj
  obtain ⟨q, kq, s, r, o⟩ := T
  have hqb : ∀ a, q = some a → a.block < h.n := hTb.b
  have hs0 := hTb.rd
  have hn := hP.1
  have hV := hP.2.1
  dsimp only [tbV, ValP] at iH iL iF f1 f2 hv hn hV hKp hj hs0 ⊢
  have hl2 := hKp.1
  obtain ⟨bs, es, owns, rfl, hgs⟩ := hs0.at (by rw [zai]; omega)
  have ll := zcY s
  have hl := zcq s
  refine body (N := 45) Tryz.func79 rfl (hK _ _ _ rfl) rfl rfl ?_
  have hsame := zhK hKp hj
  by_cases hc : ((j : Nat) : Int) ∈ l
  · have hba := hsame.2 hc
    have e0 : offv s l r j = 0 := if_pos hc
    rw [e0]
    (repeat' (first | apply zah | apply zad | (apply O_at; rfl) | (apply zag; rfl) | apply zaf | (apply zaE; rfl) | apply zav | apply zbq | apply zaw | ((first | apply zae | apply zac | apply zaz | apply zaD); rfl; rfl; rfl; rfl) | (apply zba; rfl; rfl; rfl; rfl; rfl) | (apply zbC; rfl; rfl; rfl; rfl; rfl; omega) | (apply za4; rfl; rfl; rfl; rfl; exact zak rfl; rfl; rfl) | ((first | (apply zaj; rfl; rfl; rfl; rfl; rfl; rfl) | (apply za8; rfl; rfl; rfl; rfl; rfl; rfl; rfl)); exact zcm hK (by omega) (hr.ext (by (focus repeat' first | exact Ext.refl _ | assumption | apply Ext.push | (refine Ext.trans ?_ (by assumption))))); (rintro _ _ ⟨rfl, _⟩)) | fail))
    exact ⟨.inr rfl, _, rfl, rfl, by (focus repeat' first | exact Ext.refl _ | assumption | apply Ext.push | (refine Ext.trans ?_ (by assumption)))⟩
  · have hba : ¬ bef l (j : Nat) = aft l (j : Nat) := fun w => hc (hsame.1 w)
    have e0 : offv s l r j = max ((s.getD j (0, 0)).2 - figv l (lows s) r j) (figv l (highs s) r j - (s.getD j (0, 0)).1) := if_neg hc
    rw [e0]
    (repeat' (first | apply zah | apply zad | (apply O_at; rfl) | (apply N_at; rfl) | (apply zag; rfl) | apply zaf | (apply zaG; rfl) | (apply zbp; exact zaH (by decide +kernel)) | apply zat | ((first | apply zae | apply zac | apply zaz | apply zaD); rfl; rfl; rfl; rfl) | (apply zba; rfl; rfl; rfl; rfl; rfl) | (apply zbR; rfl; rfl; rfl; rfl; rfl; omega) | (apply za4; rfl; rfl; rfl; rfl; exact zak rfl; rfl; rfl) | ((first | ((apply zce; rfl; rfl; rfl; rfl; exact zay rfl); (focus repeat' first | exact zaa | assumption | apply zab | (apply Ext.get; assumption)); (first | exact zdC (by omega) | exact zdD (by omega) | rfl | assumption)) | ((apply zcN; rfl; rfl; rfl; rfl; exact za6 rfl); (focus repeat' first | exact zaa | assumption | apply zab | (apply Ext.get; assumption)); (first | exact Nat.le_of_ble_eq_true rfl | (simp; done) | (simp; omega) | (rw [zai]; omega)); rfl)); (first | assumption | exact za5 _ _ | exact zbc _ _ _ | exact zdd _ _ _ _ _ | rfl | (focus simp [same, same.all2]; done)); (first | rfl | assumption | exact hwv _ | (focus apply zb1; (focus repeat' first | exact zaa | assumption | apply zab | (apply Ext.get; assumption)); done) | exact zbF (by assumption) (by (focus repeat' first | exact Ext.refl _ | assumption | apply Ext.push | (refine Ext.trans ?_ (by assumption)))) | (simp [within]; omega))) | ((first | (apply zaj; rfl; rfl; rfl; rfl; rfl; rfl) | (apply za8; rfl; rfl; rfl; rfl; rfl; rfl; rfl)); exact zcm hK (by omega) (hr.ext (by (focus repeat' first | exact Ext.refl _ | assumption | apply Ext.push | (refine Ext.trans ?_ (by assumption))))); (rintro _ _ ⟨rfl, _⟩)) | ((first | (apply zaj; rfl; rfl; rfl; rfl; rfl; rfl) | (apply za8; rfl; rfl; rfl; rfl; rfl; rfl; rfl)); exact iH (by (focus repeat' first | exact Ext.refl _ | assumption | apply Ext.push | (refine Ext.trans ?_ (by assumption)))); (rintro _ _ ⟨_, _, rfl, _, _⟩)) | fail))
    rename_i h1 x1 h2 p2 c2 rd2 x2
    (repeat' (first | (apply N_at; rfl) | ((first | apply zae | apply zac | apply zaz | apply zaD); rfl; rfl; rfl; rfl) | (apply M_fa; rfl; rfl; rfl; rfl; exact zaU rfl; (first | exact Nat.zero_add _ | exact Nat.add_zero _ | rfl)) | (apply zeI; rfl; rfl; rfl; rfl; rfl; (unfold fit; omega)) | (apply M_idxB; rfl; rfl; rfl; rfl; rfl; exact zao rfl; exact zak rfl; (first | assumption | rfl | exact (Int.toNat_of_nonneg (by omega)).symm); omega) | ((first | ((apply zce; rfl; rfl; rfl; rfl; exact zay rfl); (focus repeat' first | exact zaa | assumption | apply zab | (apply Ext.get; assumption)); (first | exact zdC (by omega) | exact zdD (by omega) | rfl | assumption)) | ((apply zcN; rfl; rfl; rfl; rfl; exact za6 rfl); (focus repeat' first | exact zaa | assumption | apply zab | (apply Ext.get; assumption)); (first | exact Nat.le_of_ble_eq_true rfl | (simp; done) | (simp; omega) | (rw [zai]; omega)); rfl)); (first | assumption | exact za5 _ _ | exact zbc _ _ _ | exact zdd _ _ _ _ _ | rfl | (focus simp [same, same.all2]; done)); (first | rfl | assumption | exact hwv _ | (focus apply zb1; (focus repeat' first | exact zaa | assumption | apply zab | (apply Ext.get; assumption)); done) | exact zbF (by assumption) (by (focus repeat' first | exact Ext.refl _ | assumption | apply Ext.push | (refine Ext.trans ?_ (by assumption)))) | (simp [within]; omega))) | ((first | (apply zaj; rfl; rfl; rfl; rfl; rfl; rfl) | (apply za8; rfl; rfl; rfl; rfl; rfl; rfl; rfl)); exact iF (zcb hV) rd2 (by (focus repeat' first | exact Ext.refl _ | assumption | apply Ext.push | (refine Ext.trans ?_ (by assumption)))); (rintro _ _ ⟨rfl, _⟩)) | ((first | (apply zaj; rfl; rfl; rfl; rfl; rfl; rfl) | (apply za8; rfl; rfl; rfl; rfl; rfl; rfl; rfl)); exact iL (by (focus repeat' first | exact Ext.refl _ | assumption | apply Ext.push | (refine Ext.trans ?_ (by assumption)))); (rintro _ _ ⟨_, _, rfl, _, _⟩)) | fail))
    rename_i h3 x3 h4 p4 c4 rd4 x4
    (repeat' (first | (apply N_at; rfl) | apply zaf | apply zav | (apply zbN; rfl; refine .inr ?_; (focus repeat' first | exact trivial | exact Keeps.nil _ _ | apply And.intro | rfl | (apply Keeps.cons; iterate 2 (focus repeat' first | exact zaa | assumption | apply zab | (apply Ext.get; assumption))))) | apply zaw | ((first | apply zae | apply zac | apply zaz | apply zaD); rfl; rfl; rfl; rfl) | (apply zeI; rfl; rfl; rfl; rfl; rfl; (unfold fit; omega)) | (apply M_max; rfl; rfl; rfl; rfl; rfl; rfl) | ((first | (apply zaj; rfl; rfl; rfl; rfl; rfl; rfl) | (apply za8; rfl; rfl; rfl; rfl; rfl; rfl; rfl)); exact iF (zcx hV) rd4 (by (focus repeat' first | exact Ext.refl _ | assumption | apply Ext.push | (refine Ext.trans ?_ (by assumption)))); (rintro _ _ ⟨rfl, _⟩)) | fail))
    refine ⟨.inr rfl, _, rfl, ?_, by (focus repeat' first | exact Ext.refl _ | assumption | apply Ext.push | (refine Ext.trans ?_ (by assumption)))⟩
    exact congrArg (Value.int .i64) (by omega)
set_option maxHeartbeats 1000000 in
theorem zfT (hK : NoK K) {T : Tb} {l : List Int} {p : Option Addr} {cap : Nat} {h : Heap} (hP : TbP T) (hKp : KeptP T.s.length l) (hll : l.length ≤ 1000) (hTb : TbAt T h) (hr : Rd h p (ints l)) :
    CallW Tryz.prog K 36 #[tbV T, .slice p l.length cap] h (IsL (dbts T.s l T.r T.o T.s.length) h) := by
  have hF : ∀ {j : Nat} {h' : Heap}, j < T.s.length → Ext h h' → CallW Tryz.prog K 79 #[tbV T, .slice p l.length cap, .int .i64 (j : Nat)] h' (IsV (.int .i64 (offv T.s l T.r j)) h') := fun hj x => zkq hK hP hKp hll hj (hTb.ext x) (hr.ext x)
  obtain ⟨q, kq, s, r, o⟩ := T
  have hqb : ∀ a, q = some a → a.block < h.n := hTb.b
  have hn := hP.1
  dsimp only [tbV] at hF hn ⊢
  refine body (N := 26) Tryz.func36 rfl (hK _ _ _ rfl) rfl rfl ?_
  (repeat' (first | apply zah | apply zad | (apply O_at; rfl) | (apply zag; rfl) | apply zaf | apply zal | ((first | apply zae | apply zac | apply zaz); rfl; rfl; rfl; rfl) | (apply za4; rfl; rfl; rfl; rfl; exact zak rfl; rfl; rfl) | fail))
  refine zaT (fun a : Nat × Value => [(6, .int .i64 (a.1 : Nat)), (5, a.2), (2, .pointer (some ⟨h.n, 0, none⟩)), (1, .slice p l.length cap)])
    (fun a h' => a.1 ≤ s.length ∧ Ext (h.push (.cells [.slice q s.length kq, .int .i64 r, .int .i64 o] 25 true)) h' ∧ OutI 3 (h.push (.cells [.slice q s.length kq, .int .i64 r, .int .i64 o] 25 true)) h' a.2 (dbts s l r o a.1)) (fun a => s.length - a.1) ?_ (0, nilV) ?_ ?_
  · rintro ⟨k, v⟩ h' ⟨hk, hx, ho⟩ ih
    dsimp only at hk hx ho ih ⊢
    have hb : h'.get? h.n = some (.cells [.slice q s.length kq, .int .i64 r, .int .i64 o] 25 true) := hx.get zaa
    have hle := ziv s l r o k
    by_cases hlt : k < s.length
    · by_cases hc : o < offv s l r k
      · (repeat' (first | apply zah | apply zad | (apply O_at; rfl) | (apply N_at; rfl) | (apply zag; rfl) | apply zaf | (apply zaE; rfl) | (apply zbp; exact zaH (by decide +kernel)) | apply zal | apply zat | (apply zbN; rfl; refine .inr ?_; (focus repeat' first | exact trivial | exact Keeps.nil _ _ | apply And.intro | rfl | (apply Keeps.cons; iterate 2 (focus repeat' first | exact zaa | assumption | (apply Ext.get; assumption))))) | apply zap | ((first | apply zae | apply zac | apply zaz); rfl; rfl; rfl; rfl) | ((first | apply P_fa | apply M_fa); rfl; rfl; rfl; rfl; exact zaU rfl; (first | exact Nat.zero_add _ | exact Nat.add_zero _ | rfl)) | (apply zaN; rfl; rfl; rfl; rfl; rfl; rfl; exact zao rfl) | (apply zaA; rfl; rfl; rfl; rfl; rfl; omega) | (apply zaV; rfl; rfl; rfl; rfl; rfl; (unfold fit; omega)) | (apply zan; rfl; rfl; rfl; rfl; exact zay rfl; (focus repeat' first | exact zaa | assumption | (apply Ext.get; assumption)); (first | rfl | assumption)) | (apply zbS; rfl; rfl; rfl; rfl; rfl; rfl; rfl; exact zbM rfl) | (apply zet; rfl; rfl; rfl; rfl; rfl; rfl; rfl; rfl; exact zbM rfl; exact zao rfl; (focus repeat' first | exact zaa | assumption | (apply Ext.get; assumption)); (apply OutI.ext; assumption; (focus repeat' first | exact Ext.refl _ | assumption | apply Ext.push | (refine Ext.trans ?_ (by assumption)))); (focus repeat' first | exact Ext.refl _ | assumption | apply Ext.push | (refine Ext.trans ?_ (by assumption))); (first | omega | (simp; omega)); (intro _ _ _ _)) | (apply M_gtrT; rfl; rfl; rfl; rfl; rfl; omega) | ((first | ((apply zce; rfl; rfl; rfl; rfl; exact zay rfl); (focus repeat' first | exact zaa | assumption | (apply Ext.get; assumption)); (first | rfl | assumption)) | ((apply zcN; rfl; rfl; rfl; rfl; exact za6 rfl); (focus repeat' first | exact zaa | assumption | (apply Ext.get; assumption)); (first | exact Nat.le_of_ble_eq_true rfl | (simp; done) | (simp; omega)); rfl)); (first | assumption | exact za5 _ _ | exact zdd _ _ _ _ _ | rfl | (focus simp [same, same.all2]; done)); (first | rfl | assumption | exact hwv _ | exact zbF (by assumption) (by (focus repeat' first | exact Ext.refl _ | assumption | apply Ext.push | (refine Ext.trans ?_ (by assumption)))) | (simp [within]; omega))) | (apply za8; rfl; rfl; rfl; rfl; rfl; rfl; rfl; exact hF hlt (by (focus repeat' first | exact Ext.refl _ | assumption | apply Ext.push | (refine Ext.trans ?_ (by assumption)))); (rintro _ _ ⟨rfl, _⟩)) | fail))
        rename_i v1 h2 ho2 hx2
        exact zax (ih (k + 1, v1) _ (by dsimp only; omega) ⟨hlt, by (focus repeat' first | exact Ext.refl _ | assumption | apply Ext.push | (refine Ext.trans ?_ (by assumption))), by rw [zfw hc]; exact ho2⟩) (by (focus repeat' first | rfl | exact trivial | apply And.intro))
      · (repeat' (first | apply zah | apply zad | (apply O_at; rfl) | (apply N_at; rfl) | (apply zag; rfl) | apply zaf | (apply zaE; rfl) | (apply zaG; rfl) | (apply zbp; exact zaH (by decide +kernel)) | apply zal | apply zat | (apply zbN; rfl; refine .inr ?_; (focus repeat' first | exact trivial | exact Keeps.nil _ _ | apply And.intro | rfl | (apply Keeps.cons; iterate 2 (focus repeat' first | exact zaa | assumption | (apply Ext.get; assumption))))) | apply zap | ((first | apply zae | apply zac | apply zaz); rfl; rfl; rfl; rfl) | ((first | apply P_fa | apply M_fa); rfl; rfl; rfl; rfl; exact zaU rfl; (first | exact Nat.zero_add _ | exact Nat.add_zero _ | rfl)) | (apply zaN; rfl; rfl; rfl; rfl; rfl; rfl; exact zao rfl) | (apply zaA; rfl; rfl; rfl; rfl; rfl; omega) | (apply zaV; rfl; rfl; rfl; rfl; rfl; (unfold fit; omega)) | (apply zan; rfl; rfl; rfl; rfl; exact zay rfl; (focus repeat' first | exact zaa | assumption | (apply Ext.get; assumption)); (first | rfl | assumption)) | (apply M_gtrF; rfl; rfl; rfl; rfl; rfl; omega) | ((first | ((apply zce; rfl; rfl; rfl; rfl; exact zay rfl); (focus repeat' first | exact zaa | assumption | (apply Ext.get; assumption)); (first | rfl | assumption)) | ((apply zcN; rfl; rfl; rfl; rfl; exact za6 rfl); (focus repeat' first | exact zaa | assumption | (apply Ext.get; assumption)); (first | exact Nat.le_of_ble_eq_true rfl | (simp; done) | (simp; omega)); rfl)); (first | assumption | exact za5 _ _ | exact zdd _ _ _ _ _ | rfl | (focus simp [same, same.all2]; done)); (first | rfl | assumption | exact hwv _ | exact zbF (by assumption) (by (focus repeat' first | exact Ext.refl _ | assumption | apply Ext.push | (refine Ext.trans ?_ (by assumption)))) | (simp [within]; omega))) | (apply za8; rfl; rfl; rfl; rfl; rfl; rfl; rfl; exact hF hlt (by (focus repeat' first | exact Ext.refl _ | assumption | apply Ext.push | (refine Ext.trans ?_ (by assumption)))); (rintro _ _ ⟨rfl, _⟩)) | fail))
        exact zax (ih (k + 1, v) _ (by dsimp only; omega) ⟨hlt, by (focus repeat' first | exact Ext.refl _ | assumption | apply Ext.push | (refine Ext.trans ?_ (by assumption))), by rw [zhD hc]; exact OutI.ext (e := 3) ho (by (focus repeat' first | exact Ext.refl _ | assumption | apply Ext.push | (refine Ext.trans ?_ (by assumption))))⟩) (by (focus repeat' first | rfl | exact trivial | apply And.intro))
    · obtain rfl : k = s.length := by omega
      (repeat' (first | apply zah | apply zad | (apply O_at; rfl) | (apply zag; rfl) | apply zaf | (apply zaG; rfl) | apply za2 | apply zav | apply za3 | apply zaI | apply zaM | apply zaw | ((first | apply zae | apply zac | apply zaz); rfl; rfl; rfl; rfl) | ((first | apply P_fa | apply M_fa); rfl; rfl; rfl; rfl; exact zaU rfl; (first | exact Nat.zero_add _ | exact Nat.add_zero _ | rfl)) | (apply zaN; rfl; rfl; rfl; rfl; rfl; rfl; exact zao rfl) | (apply zaR; rfl; rfl; rfl; rfl; rfl; omega) | (apply zan; rfl; rfl; rfl; rfl; exact zay rfl; (focus repeat' first | exact zaa | assumption | (apply Ext.get; assumption)); (first | rfl | assumption)) | fail))
      exact ⟨.inr rfl, _, rfl, (OutI.low (e := 3) ho (Nat.le_succ _)).isL (by (focus repeat' first | exact Ext.refl _ | assumption | apply Ext.push | (refine Ext.trans ?_ (by assumption))))⟩
  · exact ⟨Nat.zero_le _, Ext.refl _, OutI.nil _ _ _⟩
  · (focus repeat' first | rfl | exact trivial | apply And.intro)
end Go.AX.Sa
