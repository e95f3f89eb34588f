/- The law StepFigures at the reading: what the functions that it calls answer (2). -/
import Derived.Test.YtjdopbcoaocllaaGreatDoorStepFiguresTextA
namespace Go.AX.Sa
open Go.Proofs
set_option maxRecDepth 100000
variable {K : Known}
/-! Tables, kept lists and truths: which are as defined. -/
def ValP (a b : Int) : Prop := -9999 ≤ a ∧ a ≤ b ∧ b ≤ 9999 ∧ b ≤ a + 4
theorem zkt (hK : NoK K) {a b m w : Int} {h : Heap} (hm : 0 ≤ m ∧ m ≤ 100000) : CallW Tryz.prog K 140 #[.agg #[.int .i64 a, .int .i64 b], .int .i64 m, .int .i64 w] h (IfB ((-m ≤ a ∧ a ≤ m) ∧ (-m ≤ b ∧ b ≤ m) ∧ 0 ≤ b - a ∧ b - a ≤ w) h) := by
  refine body (N := 30) Tryz.func140 rfl (hK _ _ _ rfl) rfl rfl ?_
  (repeat' (first | apply zam | apply zad | (apply O_at; rfl) | (apply zai; rfl) | apply zaj | apply zaA | apply zaB | (apply zbv; rfl; rfl; rfl) | ((first | apply zae | apply zac); rfl; rfl; rfl; rfl) | (apply P_fa; rfl; rfl; rfl; rfl; exact zbd rfl; (first | exact Nat.zero_add _ | exact Nat.add_zero _ | rfl)) | (apply zaY; rfl; rfl; rfl; rfl; rfl; rfl) | (apply zhR; rfl; rfl; rfl; rfl; (unfold fit; omega)) | (apply zcT; rfl; rfl; rfl; rfl; rfl; (unfold fit; omega)) | (apply zaG; rfl; rfl; rfl; rfl; exact zaI rfl; (focus repeat' first | exact zaa | assumption | (apply Ext.get; assumption)); (first | rfl | assumption)) | (apply za4; rfl; rfl; rfl; rfl; exact zat rfl; rfl; rfl) | (apply zaf; rfl; rfl; rfl; rfl; rfl; rfl; exact zbE hK; (rintro _ _ (⟨rfl, _, _⟩ | ⟨rfl, _, _⟩))) | fail))
  all_goals (refine ⟨.inr rfl, _, rfl, ?_⟩; first | (refine .inl ⟨rfl, by omega, ?_⟩; (focus repeat' first | exact Ext.refl _ | assumption | apply Ext.push | (refine Ext.trans ?_ (by assumption)) | (refine Ext.set ?_ (Nat.le_succ _) (zab zaa) _) | (refine Ext.ofBut ?_ (by assumption) (by first | exact Nat.le_refl _ | omega))); done) | (refine .inr ⟨rfl, by omega, ?_⟩; (focus repeat' first | exact Ext.refl _ | assumption | apply Ext.push | (refine Ext.trans ?_ (by assumption)) | (refine Ext.set ?_ (Nat.le_succ _) (zab zaa) _) | (refine Ext.ofBut ?_ (by assumption) (by first | exact Nat.le_refl _ | omega))); done))
theorem zgv (hK : NoK K) {a b : Int} {h : Heap} : CallW Tryz.prog K 101 #[.agg #[.int .i64 a, .int .i64 b]] h (IfB (¬ ValP a b) h) := by
  refine body (N := 6) Tryz.func101 rfl (hK _ _ _ rfl) rfl rfl ?_
  (repeat' (first | apply zam | apply zad | (apply O_at; rfl) | (apply zai; rfl) | apply zaj | apply zaA | apply zaB | ((first | apply zac | apply zb1); rfl; rfl; rfl; rfl) | (apply zaP; rfl; rfl; rfl; rfl; exact za1 rfl; (focus repeat' first | exact zaa | assumption); (first | exact Nat.le_of_ble_eq_true rfl | (simp; done) | (simp; omega)); rfl) | (apply za4; rfl; rfl; rfl; rfl; exact zat rfl; rfl; rfl) | (apply zaf; rfl; rfl; rfl; rfl; rfl; rfl; exact zkt hK (by omega); (rintro _ _ (⟨rfl, _, _⟩ | ⟨rfl, _, _⟩))) | fail))
  all_goals (refine ⟨.inr rfl, _, rfl, ?_⟩; first | (refine .inl ⟨rfl, by unfold ValP at *; omega, ?_⟩; (focus repeat' first | exact Ext.refl _ | assumption | apply Ext.push | (refine Ext.trans ?_ (by assumption)) | (refine Ext.set ?_ (Nat.le_succ _) (zab zaa) _) | (refine Ext.ofBut ?_ (by assumption) (by first | exact Nat.le_refl _ | omega))); done) | (refine .inr ⟨rfl, by unfold ValP at *; omega, ?_⟩; (focus repeat' first | exact Ext.refl _ | assumption | apply Ext.push | (refine Ext.trans ?_ (by assumption)) | (refine Ext.set ?_ (Nat.le_succ _) (zab zaa) _) | (refine Ext.ofBut ?_ (by assumption) (by first | exact Nat.le_refl _ | omega))); done))
theorem zhe (hK : NoK K) {a b : Int} {h : Heap} : CallW Tryz.prog K 67 #[.agg #[.int .i64 a, .int .i64 b]] h (IfB (ValP a b) h) := by
  refine body (N := 17) Tryz.func67 rfl (hK _ _ _ rfl) rfl rfl ?_
  (repeat' (first | apply zam | apply zad | (apply O_at; rfl) | (apply zai; rfl) | apply zaj | apply zaA | apply zaB | (apply zbv; rfl; rfl; rfl) | ((first | apply zae | apply zac); rfl; rfl; rfl; rfl) | (apply P_fa; rfl; rfl; rfl; rfl; exact zbd rfl; (first | exact Nat.zero_add _ | exact Nat.add_zero _ | rfl)) | (apply zaY; rfl; rfl; rfl; rfl; rfl; rfl) | (apply zbx; rfl; rfl; rfl; rfl; rfl; (unfold fit; omega)) | (apply zaG; rfl; rfl; rfl; rfl; exact zaI rfl; (focus repeat' first | exact zaa | assumption | (apply Ext.get; assumption)); (first | rfl | assumption)) | (apply za4; rfl; rfl; rfl; rfl; exact zat rfl; rfl; rfl) | (apply P_min; rfl; rfl; rfl; rfl; rfl; rfl) | (apply zaf; rfl; rfl; rfl; rfl; rfl; rfl; exact zdQ hK; (rintro _ _ (⟨rfl, _, _⟩ | ⟨rfl, _, _⟩))) | fail))
  all_goals (refine ⟨.inr rfl, _, rfl, ?_⟩; first | (refine .inl ⟨rfl, by unfold ValP at *; omega, ?_⟩; (focus repeat' first | exact Ext.refl _ | assumption | apply Ext.push | (refine Ext.trans ?_ (by assumption)) | (refine Ext.set ?_ (Nat.le_succ _) (zab zaa) _) | (refine Ext.ofBut ?_ (by assumption) (by first | exact Nat.le_refl _ | omega))); done) | (refine .inr ⟨rfl, by unfold ValP at *; omega, ?_⟩; (focus repeat' first | exact Ext.refl _ | assumption | apply Ext.push | (refine Ext.trans ?_ (by assumption)) | (refine Ext.set ?_ (Nat.le_succ _) (zab zaa) _) | (refine Ext.ofBut ?_ (by assumption) (by first | exact Nat.le_refl _ | omega))); done))
/-- IndexFunc(s, isNoValue) -/
def Vals (l : List (Int × Int)) : Prop := ∀ k, k < l.length → ValP (l.getD k (0, 0)).1 (l.getD k (0, 0)).2
theorem zgz (hK : NoK K) {l : List (Int × Int)} {p : Option Addr} {cap : Nat} {h : Heap} (hl : l.length ≤ 1000) (hr : Rd h p (spanCells l)) :
    CallW Tryz.prog K 139 #[.slice p l.length cap, .func (.func 101) #[] #[]] h fun v h1 => ∃ n : Int, v = .int .i64 n ∧ (0 ≤ n ↔ ¬ Vals l) ∧ Ext h h1 := by
  refine body (N := 19) Tryz.func139 rfl (hK _ _ _ rfl) rfl rfl ?_
  (repeat' (first | apply zam | apply zad | (apply O_at; rfl) | (apply zai; rfl) | apply zaj | apply zay | ((first | apply zae | apply zac); rfl; rfl; rfl; rfl) | (apply zbb; rfl; rfl; rfl; rfl; rfl; rfl; exact zav rfl) | fail))
  refine zbB (fun k : Nat => [(0, .slice p l.length cap), (1, .func (.func 101) #[] #[]), (7, .int .i64 (l.length : Nat)), (8, .int .i64 (k : Nat))])
    (fun k h' => k ≤ l.length ∧ Ext h h' ∧ ∀ j, j < k → ValP (l.getD j (0, 0)).1 (l.getD j (0, 0)).2) (fun k => l.length - k) ?_ 0 ?_ ?_
  · intro k h' ⟨hk, hx, hj⟩ ih
    by_cases hlt : k < l.length
    · obtain ⟨b, e, own, rfl, hg⟩ := hr.at (by rw [zal]; omega)
      (repeat' (first | apply zam | apply zad | (apply O_at; rfl) | (apply zai; rfl) | apply zaj | (apply zaS; rfl) | (apply zaV; rfl) | apply zay | apply zaz | apply zbf | apply zaA | apply zaN | apply zbQ | apply zbR | apply zbg | apply zaT | apply zaU | apply zaK | apply zaB | ((first | apply zae | apply zac); rfl; rfl; rfl; rfl) | (apply zcA; rfl; rfl; rfl; rfl; rfl; all_goals intro _) | (apply zbx; rfl; rfl; rfl; rfl; rfl; (unfold fit; omega)) | (apply ziD; rfl; rfl; rfl; rfl; rfl; exact zav rfl; exact zat rfl; (first | assumption | rfl | exact (Int.toNat_of_nonneg (by omega)).symm); omega) | (apply zaP; rfl; rfl; rfl; rfl; exact za1 rfl; (focus repeat' first | assumption | (apply Ext.get; assumption)); (first | exact Nat.le_of_ble_eq_true rfl | (simp; done) | (simp; omega) | (rw [zal]; omega)); (first | exact zaH (by omega) | rfl)) | (apply zaf; rfl; rfl; rfl; rfl; rfl; rfl; exact zgv hK; (rintro _ _ (⟨rfl, _, _⟩ | ⟨rfl, _, _⟩))) | fail))
      · refine ⟨.inr rfl, _, rfl, (k : Int), rfl, ⟨fun _ q => ?_, fun _ => by omega⟩, by (focus repeat' first | exact Ext.refl _ | assumption | (refine Ext.trans ?_ (by assumption)))⟩
        rename_i hns _ _; exact hns (q k hlt)
      · rename_i hns _
        refine zbi (ih (k + 1) _ ?_ ⟨hlt, ?_, fun j hj' => ?_⟩) ?_
        · omega
        · (focus repeat' first | exact Ext.refl _ | assumption | (refine Ext.trans ?_ (by assumption)))
        · by_cases hjk : j = k
          · subst hjk; exact Classical.not_not.1 hns
          · exact hj j (by omega)
        · (focus repeat' first | rfl | exact trivial | apply And.intro)
      · omega
    · (repeat' (first | apply zam | apply zad | (apply O_at; rfl) | (apply zai; rfl) | apply zaj | (apply zaS; rfl) | (apply zaV; rfl) | apply zay | apply zaz | apply zbf | apply zaA | apply zbg | apply zaT | apply zaU | apply zaB | ((first | apply zae | apply zac); rfl; rfl; rfl; rfl) | (apply zcA; rfl; rfl; rfl; rfl; rfl; all_goals intro _) | fail))
      · omega
      · refine ⟨.inr rfl, _, rfl, -1, rfl, ⟨fun q => by omega, fun q => absurd (fun j hj' => hj j (by omega)) q⟩, by (focus repeat' first | exact Ext.refl _ | assumption | (refine Ext.trans ?_ (by assumption)))⟩
  · exact ⟨Nat.zero_le _, Ext.refl _, fun j hj => by omega⟩
  · (focus repeat' first | rfl | exact trivial | apply And.intro)
/-- ContainsFunc(s, isNoValue) -/
theorem zew (hK : NoK K) {l : List (Int × Int)} {p : Option Addr} {cap : Nat} {h : Heap} (hl : l.length ≤ 1000) (hr : Rd h p (spanCells l)) :
    CallW Tryz.prog K 100 #[.slice p l.length cap, .func (.func 101) #[] #[]] h (IfB (¬ Vals l) h) := by
  refine body (N := 9) Tryz.func100 rfl (hK _ _ _ rfl) rfl rfl ?_
  (repeat' (first | apply zam | apply zad | (apply O_at; rfl) | (apply zai; rfl) | apply zaj | ((first | apply zae | apply zac); rfl; rfl; rfl; rfl) | fail))
  apply zaf; rfl; rfl; rfl; rfl; rfl; rfl; exact zgz hK hl hr
  rintro _ _ ⟨n, rfl, hn, hx⟩
  (repeat' (first | (apply O_at; rfl) | (apply zai; rfl) | apply zaj | apply zaA | apply zaB | ((first | apply zae | apply zac); rfl; rfl; rfl; rfl) | (apply zeX; rfl; rfl; rfl; rfl; rfl; all_goals intro _) | fail))
  · refine ⟨.inr rfl, _, rfl, .inl ⟨rfl, hn.1 (by assumption), by (focus repeat' first | assumption)⟩⟩
  · rename_i hc; refine ⟨.inr rfl, _, rfl, .inr ⟨rfl, fun q => hc (hn.2 q), by (focus repeat' first | assumption)⟩⟩
structure Tb where
  q : Option Addr
  k : Nat
  s : List (Int × Int)
  r : Int
  o : Int
def tbV (T : Tb) : Value := .agg #[.slice T.q T.s.length T.k, .int .i64 T.r, .int .i64 T.o]
structure TbAt (T : Tb) (h : Heap) : Prop where
  rd : Rd h T.q (spanCells T.s)
  b : ∀ a, T.q = some a → a.block < h.n
theorem TbAt.ext {T : Tb} {h h1 : Heap} (x : TbAt T h) (e : Ext h h1) : TbAt T h1 := ⟨x.rd.ext e, fun a q => Nat.lt_of_lt_of_le (x.b a q) e.n⟩
def OffP (o : Int) : Prop := 0 ≤ o ∧ o ≤ 100
def TbP (T : Tb) : Prop := (2 ≤ T.s.length ∧ T.s.length ≤ 13) ∧ Vals T.s ∧ RuleP T.r ∧ OffP T.o
theorem zdm (hK : NoK K) {T : Tb} {h : Heap} (hl : T.s.length ≤ 1000) (hT : TbAt T h) : CallW Tryz.prog K 62 #[tbV T] h (IfB (TbP T) h) := by
  obtain ⟨q, k, s, r, o⟩ := T
  have hr := hT.rd
  dsimp only [tbV] at hl hr ⊢
  refine body (N := 23) Tryz.func62 rfl (hK _ _ _ rfl) rfl rfl ?_
  (repeat' (first | apply zam | apply zad | (apply O_at; rfl) | (apply zai; rfl) | apply zaj | apply zaA | apply zaB | (apply zbv; rfl; rfl; rfl) | ((first | apply zae | apply zac | apply zb1); rfl; rfl; rfl; rfl) | (apply P_fa; rfl; rfl; rfl; rfl; exact zbd rfl; (first | exact Nat.zero_add _ | exact Nat.add_zero _ | rfl)) | (apply zbb; rfl; rfl; rfl; rfl; rfl; rfl; exact zav rfl) | (apply zaY; rfl; rfl; rfl; rfl; rfl; rfl) | (apply zaG; rfl; rfl; rfl; rfl; exact zaI rfl; (focus repeat' first | exact zaa | assumption | (apply Ext.get; assumption)); (first | rfl | assumption)) | (apply za4; rfl; rfl; rfl; rfl; exact zat rfl; rfl; rfl) | (apply zaf; rfl; rfl; rfl; rfl; rfl; rfl; exact zbE hK; (rintro _ _ (⟨rfl, _, _⟩ | ⟨rfl, _, _⟩))) | (apply zaf; rfl; rfl; rfl; rfl; rfl; rfl; exact zew hK hl (hr.ext (by (focus repeat' first | exact Ext.refl _ | assumption | apply Ext.push | (refine Ext.trans ?_ (by assumption))))); (rintro _ _ (⟨rfl, _, _⟩ | ⟨rfl, _, _⟩))) | (apply zaf; rfl; rfl; rfl; rfl; rfl; rfl; exact zku hK; (rintro _ _ (⟨rfl, _, _⟩ | ⟨rfl, _, _⟩))) | fail))
  all_goals (refine ⟨.inr rfl, _, rfl, ?_⟩; first | (refine .inl ⟨rfl, by grind [TbP, OffP], ?_⟩; (focus repeat' first | exact Ext.refl _ | assumption | apply Ext.push | (refine Ext.trans ?_ (by assumption)) | (refine Ext.set ?_ (Nat.le_succ _) (zab zaa) _) | (refine Ext.ofBut ?_ (by assumption) (by first | exact Nat.le_refl _ | omega))); done) | (refine .inr ⟨rfl, by grind [TbP, OffP], ?_⟩; (focus repeat' first | exact Ext.refl _ | assumption | apply Ext.push | (refine Ext.trans ?_ (by assumption)) | (refine Ext.set ?_ (Nat.le_succ _) (zab zaa) _) | (refine Ext.ofBut ?_ (by assumption) (by first | exact Nat.le_refl _ | omega))); done))
theorem zj7 (hK : NoK K) {o : Int} {h : Heap} : CallW Tryz.prog K 42 #[.int .i64 o] h (IfB (OffP o) h) := by
  refine body (N := 5) Tryz.func42 rfl (hK _ _ _ rfl) rfl rfl ?_
  (repeat' (first | apply zam | apply zad | (apply O_at; rfl) | (apply zai; rfl) | apply zaj | apply zaA | apply zaB | ((first | apply zae | apply zac); rfl; rfl; rfl; rfl) | (apply zaf; rfl; rfl; rfl; rfl; rfl; rfl; exact zdQ hK; (rintro _ _ (⟨rfl, _, _⟩ | ⟨rfl, _, _⟩))) | fail))
  all_goals (refine ⟨.inr rfl, _, rfl, ?_⟩; first | (refine .inl ⟨rfl, by unfold OffP at *; omega, ?_⟩; (focus repeat' first | exact Ext.refl _ | assumption | apply Ext.push | (refine Ext.trans ?_ (by assumption)) | (refine Ext.set ?_ (Nat.le_succ _) (zab zaa) _) | (refine Ext.ofBut ?_ (by assumption) (by first | exact Nat.le_refl _ | omega))); done) | (refine .inr ⟨rfl, by unfold OffP at *; omega, ?_⟩; (focus repeat' first | exact Ext.refl _ | assumption | apply Ext.push | (refine Ext.trans ?_ (by assumption)) | (refine Ext.set ?_ (Nat.le_succ _) (zab zaa) _) | (refine Ext.ofBut ?_ (by assumption) (by first | exact Nat.le_refl _ | omega))); done))
theorem zhg (hK : NoK K) {T : Tb} {h : Heap} (hl : T.s.length ≤ 1000) (hT : TbAt T h) : CallW Tryz.prog K 20 #[tbV T] h (IfB (TbP T) h) := by
  obtain ⟨q, kq, s, r, o⟩ := T
  have hr := hT.rd
  dsimp only [tbV] at hl hr ⊢
  refine body (N := 32) Tryz.func20 rfl (hK _ _ _ rfl) rfl rfl ?_
  (repeat' (first | apply zam | apply zad | (apply O_at; rfl) | (apply zai; rfl) | apply zaj | apply zay | ((first | apply zae | apply zac | apply zb1); rfl; rfl; rfl; rfl) | (apply za4; rfl; rfl; rfl; rfl; exact zat rfl; rfl; rfl) | fail))
  refine zbB (fun k : Nat => [(3, .int .i64 (k : Nat)), (1, .pointer (some ⟨h.n, 0, none⟩))])
    (fun k h' => k ≤ s.length ∧ Ext (h.push (.cells [.slice q s.length kq, .int .i64 r, .int .i64 o] 25 true)) h' ∧ ∀ j, j < k → ValP (s.getD j (0, 0)).1 (s.getD j (0, 0)).2) (fun k => s.length - k) ?_ 0 ?_ ?_
  · intro k h' ⟨hk, hx, hj⟩ ih
    have hb : h'.get? h.n = some (.cells [.slice q s.length kq, .int .i64 r, .int .i64 o] 25 true) := hx.get zaa
    by_cases hlt : k < s.length
    · obtain ⟨b, e, own, rfl, hg⟩ := hr.at (by rw [zal]; omega)
      have hg' := hx.get (zab hg)
      (repeat' (first | apply zam | apply zad | (apply O_at; rfl) | (apply zai; rfl) | apply zaj | (apply zaS; rfl) | (apply zaV; rfl) | apply zay | apply zaz | apply zaA | apply zaN | apply zbQ | apply zbR | apply zaK | apply zaB | ((first | apply zae | apply zac | apply zb1); rfl; rfl; rfl; rfl) | (apply P_fa; rfl; rfl; rfl; rfl; exact zbd rfl; (first | exact Nat.zero_add _ | exact Nat.add_zero _ | rfl)) | (apply zbb; rfl; rfl; rfl; rfl; rfl; rfl; exact zav rfl) | (apply za9; rfl; rfl; rfl; rfl; rfl; omega) | (apply zbx; rfl; rfl; rfl; rfl; rfl; (unfold fit; omega)) | (apply ziD; rfl; rfl; rfl; rfl; rfl; exact zav rfl; exact zat rfl; (first | assumption | rfl | exact (Int.toNat_of_nonneg (by omega)).symm); omega) | (apply zaG; rfl; rfl; rfl; rfl; exact zaI rfl; (focus repeat' first | exact zaa | assumption | apply zab | (apply Ext.get; assumption)); (first | rfl | assumption)) | (apply zaP; rfl; rfl; rfl; rfl; exact za1 rfl; (focus repeat' first | exact zaa | assumption | apply zab | (apply Ext.get; assumption)); (first | exact Nat.le_of_ble_eq_true rfl | (simp; done) | (simp; omega) | (rw [zal]; omega)); (first | exact zaH (by omega) | rfl)) | (apply zaf; rfl; rfl; rfl; rfl; rfl; rfl; exact zhe hK; (rintro _ _ (⟨rfl, _, _⟩ | ⟨rfl, _, _⟩))) | fail))
      · rename_i w _
        refine zbi (ih (k + 1) _ (by omega) ⟨hlt, by (focus repeat' first | exact Ext.refl _ | assumption | apply Ext.push | (refine Ext.trans ?_ (by assumption))), fun j hj' => ?_⟩) (by (focus repeat' first | rfl | exact trivial | apply And.intro))
        by_cases hjk : j = k
        · subst hjk; exact w
        · exact hj j (by omega)
      · rename_i w _
        exact ⟨.inr rfl, _, rfl, .inr ⟨rfl, fun z => w (z.2.1 k hlt), by (focus repeat' first | exact Ext.refl _ | assumption | apply Ext.push | (refine Ext.trans ?_ (by assumption)))⟩⟩
    · have hv : Vals s := fun j hj' => hj j (by omega)
      (repeat' (first | apply zam | apply zad | (apply O_at; rfl) | (apply zai; rfl) | apply zaj | (apply zaV; rfl) | apply zbf | apply zaA | apply zbg | apply zaT | apply zaU | apply zaB | (apply zbv; rfl; rfl; rfl) | ((first | apply zae | apply zac | apply zb1); rfl; rfl; rfl; rfl) | (apply P_fa; rfl; rfl; rfl; rfl; exact zbd rfl; (first | exact Nat.zero_add _ | exact Nat.add_zero _ | rfl)) | (apply zbb; rfl; rfl; rfl; rfl; rfl; rfl; exact zav rfl) | (apply zaY; rfl; rfl; rfl; rfl; rfl; rfl) | (apply zbw; rfl; rfl; rfl; rfl; rfl; omega) | (apply zaG; rfl; rfl; rfl; rfl; exact zaI rfl; (focus repeat' first | exact zaa | assumption | apply zab | (apply Ext.get; assumption)); (first | rfl | assumption)) | (apply zaf; rfl; rfl; rfl; rfl; rfl; rfl; exact zdQ hK; (rintro _ _ (⟨rfl, _, _⟩ | ⟨rfl, _, _⟩))) | (apply zaf; rfl; rfl; rfl; rfl; rfl; rfl; exact zi5 hK; (rintro _ _ (⟨rfl, _, _⟩ | ⟨rfl, _, _⟩))) | (apply zaf; rfl; rfl; rfl; rfl; rfl; rfl; exact zj7 hK; (rintro _ _ (⟨rfl, _, _⟩ | ⟨rfl, _, _⟩))) | fail))
      all_goals (refine ⟨.inr rfl, _, rfl, ?_⟩; first | (refine .inl ⟨rfl, by grind [TbP], ?_⟩; (focus repeat' first | exact Ext.refl _ | assumption | apply Ext.push | (refine Ext.trans ?_ (by assumption)) | (refine Ext.set ?_ (Nat.le_succ _) (zab zaa) _) | (refine Ext.ofBut ?_ (by assumption) (by first | exact Nat.le_refl _ | omega))); done) | (refine .inr ⟨rfl, by grind [TbP], ?_⟩; (focus repeat' first | exact Ext.refl _ | assumption | apply Ext.push | (refine Ext.trans ?_ (by assumption)) | (refine Ext.set ?_ (Nat.le_succ _) (zab zaa) _) | (refine Ext.ofBut ?_ (by assumption) (by first | exact Nat.le_refl _ | omega))); done))
  · exact ⟨Nat.zero_le _, Ext.refl _, fun j hj => by omega⟩
  · (focus repeat' first | rfl | exact trivial | apply And.intro)
end Go.AX.Sa

namespace Go.AX.Sa
open Go.Proofs
set_option maxRecDepth 100000
variable {K : Known}
theorem zaM (p : Option Addr) (n c : Nat) (r o : Int) : same 20 (.agg [Value.slice p n c, .int .i64 r, .int .i64 o].toArray) (.agg [Value.slice p n c, .int .i64 r, .int .i64 o].toArray) = true := by simp [same, same.all2]
theorem zap {h0 h : Heap} {p : Option Addr} {n c : Nat} {r o : Int} (hp : ∀ a, p = some a → a.block < h0.n) (e : Ext h0 h) : within 20 h.n (.agg [Value.slice p n c, .int .i64 r, .int .i64 o].toArray) = true := by
  have := e.n
  cases p with
  | none => simp [within]
  | some a => have := hp a rfl; simp [within]; omega
theorem za0 (p q : Option Addr) (n c m c' : Nat) (r o : Int) : same 20 (.agg [Value.slice p n c, .int .i64 r, .int .i64 o, .slice q m c'].toArray) (.agg [Value.slice p n c, .int .i64 r, .int .i64 o, .slice q m c'].toArray) = true := by simp [same, same.all2]
theorem zaC {h0 h : Heap} {p q : Option Addr} {n c m c' : Nat} {r o : Int} (hp : ∀ a, p = some a → a.block < h0.n) (hq : ∀ a, q = some a → a.block < h0.n) (e : Ext h0 h) : within 20 h.n (.agg [Value.slice p n c, .int .i64 r, .int .i64 o, .slice q m c'].toArray) = true := by
  have := e.n
  cases p with
  | none => cases q with
    | none => simp [within]
    | some a => have := hq a rfl; simp [within]; omega
  | some b => have := hp b rfl; cases q with
    | none => simp [within]; omega
    | some a => have := hq a rfl; simp [within]; omega
theorem zak {h0 h : Heap} {p : Option Addr} {m c : Nat} (hp : ∀ a, p = some a → a.block < h0.n) (e : Ext h0 h) : within 20 h.n (.slice p m c) = true := by
  have := e.n
  cases p with
  | none => simp [within]
  | some a => have := hp a rfl; simp [within]; omega
/-! Kept lists. -/
def GrowP (l : List Int) : Prop := ∀ i, i + 1 < l.length → l.getD i 0 < l.getD (i + 1) 0
theorem zbZ (hK : NoK K) {l : List Int} {p : Option Addr} {cap : Nat} {h : Heap} (hl : l.length ≤ 1000) (hr : Rd h p (ints l)) :
    CallW Tryz.prog K 102 #[.slice p l.length cap] h (IfB (GrowP l) h) := by
  refine body (N := 24) Tryz.func102 rfl (hK _ _ _ rfl) rfl rfl ?_
  (repeat' (first | apply zam | apply zad | (apply O_at; rfl) | (apply zai; rfl) | apply zaj | apply zay | ((first | apply zae | apply zac); rfl; rfl; rfl; rfl) | (apply zbb; rfl; rfl; rfl; rfl; rfl; rfl; exact zav rfl) | fail))
  refine zbB (fun k : Nat => [(7, .int .i64 (k : Nat)), (6, .int .i64 (l.length : Nat)), (5, .slice p l.length cap), (0, .slice p l.length cap)])
    (fun k h' => k ≤ l.length ∧ Ext h h' ∧ ∀ i, i + 1 < k → l.getD i 0 < l.getD (i + 1) 0) (fun k => l.length - k) ?_ 0 ?_ ?_
  · intro k h' ⟨hk, hx, hj⟩ ih
    by_cases hlt : k < l.length
    · obtain ⟨b, e, own, rfl, hg⟩ := hr.at (by rw [zas]; omega)
      cases k with
      | zero =>
        (repeat' (first | apply zam | apply zad | (apply O_at; rfl) | (apply zai; rfl) | apply zaj | (apply zaS; rfl) | (apply zaV; rfl) | apply zay | apply zaz | apply zaK | (apply zbv; rfl; rfl; rfl) | ((first | apply zae | apply zac); rfl; rfl; rfl; rfl) | (apply zaY; rfl; rfl; rfl; rfl; rfl; rfl) | (apply za9; rfl; rfl; rfl; rfl; rfl; omega) | (apply zcf; rfl; rfl; rfl; rfl; rfl; omega) | (apply zbx; rfl; rfl; rfl; rfl; rfl; (unfold fit; omega)) | (apply zcm; rfl; rfl; rfl; rfl; rfl; exact zav rfl; exact zat rfl; (first | assumption | exact zq0 | exact zqs _ | rfl | exact (Int.toNat_of_nonneg (by omega)).symm); omega) | (apply zaG; rfl; rfl; rfl; rfl; exact zaI rfl; (focus repeat' first | assumption | (apply Ext.get; assumption)); (first | exact zah (by omega) | rfl | assumption)) | fail))
        exact zbi (ih 1 _ (by omega) ⟨hlt, by (focus repeat' first | exact Ext.refl _ | assumption), fun i hi => by omega⟩) (by (focus repeat' first | rfl | exact trivial | apply And.intro))
      | succ k =>
        have hz : (((k + 1 : Nat) : Int)) - 1 = (k : Nat) := by omega
        by_cases hc : l.getD (k + 1) 0 ≤ l.getD k 0
        · (repeat' (first | apply zam | apply zad | (apply O_at; rfl) | (apply zai; rfl) | apply zaj | (apply zaS; rfl) | apply zay | apply zaz | apply zaA | apply zaN | apply zbQ | apply zbR | apply zaB | ((first | apply zae | apply zac); rfl; rfl; rfl; rfl) | (apply zaY; rfl; rfl; rfl; rfl; rfl; rfl) | (apply za9; rfl; rfl; rfl; rfl; rfl; omega) | (apply ziC; rfl; rfl; rfl; rfl; rfl; omega) | (apply zcI; rfl; rfl; rfl; rfl; rfl; omega) | (apply zcT; rfl; rfl; rfl; rfl; rfl; (unfold fit; omega)) | (apply zcm; rfl; rfl; rfl; rfl; rfl; exact zav rfl; exact zat rfl; (first | assumption | exact zq0 | exact zqs _ | rfl | exact (Int.toNat_of_nonneg (by omega)).symm); omega) | (apply zaG; rfl; rfl; rfl; rfl; exact zaI rfl; (focus repeat' first | assumption | (apply Ext.get; assumption)); (first | exact zah (by omega) | rfl | assumption)) | fail))
          exact ⟨.inr rfl, _, rfl, .inr ⟨rfl, fun z => by have := z k hlt; omega, by (focus repeat' first | exact Ext.refl _ | assumption)⟩⟩
        · (repeat' (first | apply zam | apply zad | (apply O_at; rfl) | (apply zai; rfl) | apply zaj | (apply zaS; rfl) | (apply zaV; rfl) | apply zay | apply zaz | apply zaK | ((first | apply zae | apply zac); rfl; rfl; rfl; rfl) | (apply zaY; rfl; rfl; rfl; rfl; rfl; rfl) | (apply za9; rfl; rfl; rfl; rfl; rfl; omega) | (apply zk2; rfl; rfl; rfl; rfl; rfl; omega) | (apply zcI; rfl; rfl; rfl; rfl; rfl; omega) | (apply zbx; rfl; rfl; rfl; rfl; rfl; (unfold fit; omega)) | (apply zcT; rfl; rfl; rfl; rfl; rfl; (unfold fit; omega)) | (apply zcm; rfl; rfl; rfl; rfl; rfl; exact zav rfl; exact zat rfl; (first | assumption | exact zq0 | exact zqs _ | rfl | exact (Int.toNat_of_nonneg (by omega)).symm); omega) | (apply zaG; rfl; rfl; rfl; rfl; exact zaI rfl; (focus repeat' first | assumption | (apply Ext.get; assumption)); (first | exact zah (by omega) | rfl | assumption)) | fail))
          refine zbi (ih (k + 2) _ (by omega) ⟨hlt, by (focus repeat' first | exact Ext.refl _ | assumption), fun i hi => ?_⟩) (by (focus repeat' first | rfl | exact trivial | apply And.intro))
          by_cases hik : i = k
          · subst hik; omega
          · exact hj i (by omega)
    · (repeat' (first | apply zam | apply zad | (apply O_at; rfl) | (apply zai; rfl) | apply zaj | (apply zaV; rfl) | apply zbf | apply zaA | apply zbg | apply zaT | apply zaU | apply zaB | ((first | apply zae | apply zac); rfl; rfl; rfl; rfl) | (apply zbw; rfl; rfl; rfl; rfl; rfl; omega) | fail))
      exact ⟨.inr rfl, _, rfl, .inl ⟨rfl, fun i hi => hj i (by omega), by (focus repeat' first | exact Ext.refl _ | assumption)⟩⟩
  · exact ⟨Nat.zero_le _, Ext.refl _, fun j hj => by omega⟩
  · (focus repeat' first | rfl | exact trivial | apply And.intro)
def KeptP (n : Nat) (l : List Int) : Prop := 2 ≤ l.length ∧ l.getD 0 0 = 0 ∧ l.getD (l.length - 1) 0 = (n : Int) - 1 ∧ GrowP l
def ktV (T : Tb) (p : Option Addr) (n cap : Nat) : Value := .agg #[.slice T.q T.s.length T.k, .int .i64 T.r, .int .i64 T.o, .slice p n cap]
theorem zgw (hK : NoK K) {T : Tb} {l : List Int} {p : Option Addr} {cap : Nat} {h : Heap} (hsl : T.s.length ≤ 1000) (hl : l.length ≤ 1000) (hT : TbAt T h) (hr : Rd h p (ints l)) (hpb : ∀ a, p = some a → a.block < h.n) :
    CallW Tryz.prog K 63 #[ktV T p l.length cap] h (IfB (TbP T ∧ KeptP T.s.length l) h) := by
  obtain ⟨q, kq, s, r, o⟩ := T
  have hqb : ∀ a, q = some a → a.block < h.n := hT.b
  dsimp only at hsl
  have iT : ∀ {h' : Heap}, Ext h h' → CallW Tryz.prog K 62 #[.agg #[.slice q s.length kq, .int .i64 r, .int .i64 o]] h' (IfB (TbP ⟨q, kq, s, r, o⟩) h') := fun x => zdm (T := ⟨q, kq, s, r, o⟩) hK hsl (hT.ext x)
  refine body (N := 40) Tryz.func63 rfl (hK _ _ _ rfl) rfl rfl ?_
  dsimp only [ktV]
  by_cases hP : TbP ⟨q, kq, s, r, o⟩
  · have hn : 2 ≤ s.length := hP.1.1
    by_cases hG : GrowP l
    · by_cases h0 : 0 < l.length
      · obtain ⟨b, e, own, rfl, hg⟩ := hr.at (by rw [zas]; omega)
        have hz : ((l.length : Nat) : Int) - 1 = ((l.length - 1 : Nat) : Int) := by omega
        by_cases h1 : l.getD 0 0 = 0
        · by_cases h2 : l.getD (l.length - 1) 0 = (s.length : Int) - 1
          · have h3 : 2 ≤ l.length := by
              rcases (show l.length = 1 ∨ 2 ≤ l.length by omega) with q | q
              · rw [q] at h2; simp only [Nat.sub_self] at h2; omega
              · exact q
            (repeat' (first | apply zam | apply zad | (apply O_at; rfl) | (apply N_at; rfl) | (apply zai; rfl) | apply zaj | (apply zbc; exact zaF (by decide +kernel)) | apply zaA | (apply zbA; rfl; refine .inr ?_; (focus repeat' first | exact trivial | exact Keeps.nil _ _ | apply And.intro | rfl | (apply Keeps.cons; iterate 2 (focus repeat' first | exact zaa | assumption | apply zab | (apply Ext.get; assumption))))) | apply zaB | ((first | apply zac | apply zaJ | apply za7); rfl; rfl; rfl; rfl) | (apply za4; rfl; rfl; rfl; rfl; exact zat rfl; rfl; rfl) | (apply M_fa; rfl; rfl; rfl; rfl; exact zbd rfl; (first | exact Nat.zero_add _ | exact Nat.add_zero _ | rfl)) | (apply zcG; rfl; rfl; rfl; rfl; rfl; rfl; exact zav rfl) | (apply zcJ; rfl; rfl; rfl; rfl; rfl; rfl) | (apply zk9; rfl; rfl; rfl; rfl; rfl; omega) | (apply M_eqlT; rfl; rfl; rfl; rfl; rfl; omega) | (apply zdL; rfl; rfl; rfl; rfl; rfl; (unfold fit; omega)) | (apply zbk; rfl; rfl; rfl; rfl; rfl; exact zav rfl; exact zat rfl; (first | assumption | exact zq0 | rfl | exact (Int.toNat_of_nonneg (by omega)).symm); omega) | ((first | ((apply zbo; rfl; rfl; rfl; rfl; exact zaI rfl); (focus repeat' first | exact zaa | assumption | apply zab | (apply Ext.get; assumption)); (first | exact zah (by omega) | rfl | assumption)) | ((apply zbJ; rfl; rfl; rfl; rfl; exact za1 rfl); (focus repeat' first | exact zaa | assumption | apply zab | (apply Ext.get; assumption)); (first | exact Nat.le_of_ble_eq_true rfl | (simp; done) | (simp; omega) | (rw [zas]; omega)); rfl)); (first | assumption | exact zan _ _ | exact zag _ _ _ | exact zaM _ _ _ _ _ | rfl | (focus simp [same, same.all2]; done)); (first | rfl | assumption | exact hwv _ | (focus apply zao; (focus repeat' first | exact zaa | assumption | apply zab | (apply Ext.get; assumption)); done) | exact zap (by assumption) (by (focus repeat' first | exact Ext.refl _ | assumption | apply Ext.push | (refine Ext.trans ?_ (by assumption)))) | exact zak (by assumption) (by (focus repeat' first | exact Ext.refl _ | assumption | apply Ext.push | (refine Ext.trans ?_ (by assumption)))) | (simp [within]; omega))) | (apply zbl; rfl; rfl; rfl; rfl; rfl; rfl; rfl; exact yes (iT (by (focus repeat' first | exact Ext.refl _ | assumption | apply Ext.push | (refine Ext.trans ?_ (by assumption))))) hP; (rintro _ _ ⟨rfl, _⟩)) | (apply zbl; rfl; rfl; rfl; rfl; rfl; rfl; rfl; exact yes (zbZ hK hl (hr.ext (by (focus repeat' first | exact Ext.refl _ | assumption | apply Ext.push | (refine Ext.trans ?_ (by assumption)))))) hG; (rintro _ _ ⟨rfl, _⟩)) | fail))
            exact ⟨.inr rfl, _, rfl, .inl ⟨rfl, ⟨hP, h3, h1, h2, hG⟩, by (focus repeat' first | exact Ext.refl _ | assumption | apply Ext.push | (refine Ext.trans ?_ (by assumption)))⟩⟩
          · (repeat' (first | apply zam | apply zad | (apply O_at; rfl) | (apply N_at; rfl) | (apply zai; rfl) | apply zaj | (apply zbc; exact zaF (by decide +kernel)) | apply zaA | (apply zbA; rfl; refine .inr ?_; (focus repeat' first | exact trivial | exact Keeps.nil _ _ | apply And.intro | rfl | (apply Keeps.cons; iterate 2 (focus repeat' first | exact zaa | assumption | apply zab | (apply Ext.get; assumption))))) | apply zaB | ((first | apply zac | apply zaJ | apply za7); rfl; rfl; rfl; rfl) | (apply za4; rfl; rfl; rfl; rfl; exact zat rfl; rfl; rfl) | (apply M_fa; rfl; rfl; rfl; rfl; exact zbd rfl; (first | exact Nat.zero_add _ | exact Nat.add_zero _ | rfl)) | (apply zcG; rfl; rfl; rfl; rfl; rfl; rfl; exact zav rfl) | (apply zcJ; rfl; rfl; rfl; rfl; rfl; rfl) | (apply zk9; rfl; rfl; rfl; rfl; rfl; omega) | (apply M_eqlF; rfl; rfl; rfl; rfl; rfl; omega) | (apply M_eqlT; rfl; rfl; rfl; rfl; rfl; omega) | (apply zdL; rfl; rfl; rfl; rfl; rfl; (unfold fit; omega)) | (apply zbk; rfl; rfl; rfl; rfl; rfl; exact zav rfl; exact zat rfl; (first | assumption | exact zq0 | rfl | exact (Int.toNat_of_nonneg (by omega)).symm); omega) | ((first | ((apply zbo; rfl; rfl; rfl; rfl; exact zaI rfl); (focus repeat' first | exact zaa | assumption | apply zab | (apply Ext.get; assumption)); (first | exact zah (by omega) | rfl | assumption)) | ((apply zbJ; rfl; rfl; rfl; rfl; exact za1 rfl); (focus repeat' first | exact zaa | assumption | apply zab | (apply Ext.get; assumption)); (first | exact Nat.le_of_ble_eq_true rfl | (simp; done) | (simp; omega) | (rw [zas]; omega)); rfl)); (first | assumption | exact zan _ _ | exact zag _ _ _ | exact zaM _ _ _ _ _ | rfl | (focus simp [same, same.all2]; done)); (first | rfl | assumption | exact hwv _ | (focus apply zao; (focus repeat' first | exact zaa | assumption | apply zab | (apply Ext.get; assumption)); done) | exact zap (by assumption) (by (focus repeat' first | exact Ext.refl _ | assumption | apply Ext.push | (refine Ext.trans ?_ (by assumption)))) | exact zak (by assumption) (by (focus repeat' first | exact Ext.refl _ | assumption | apply Ext.push | (refine Ext.trans ?_ (by assumption)))) | (simp [within]; omega))) | (apply zbl; rfl; rfl; rfl; rfl; rfl; rfl; rfl; exact yes (iT (by (focus repeat' first | exact Ext.refl _ | assumption | apply Ext.push | (refine Ext.trans ?_ (by assumption))))) hP; (rintro _ _ ⟨rfl, _⟩)) | (apply zbl; rfl; rfl; rfl; rfl; rfl; rfl; rfl; exact yes (zbZ hK hl (hr.ext (by (focus repeat' first | exact Ext.refl _ | assumption | apply Ext.push | (refine Ext.trans ?_ (by assumption)))))) hG; (rintro _ _ ⟨rfl, _⟩)) | fail))
            exact ⟨.inr rfl, _, rfl, .inr ⟨rfl, fun z => h2 z.2.2.2.1, by (focus repeat' first | exact Ext.refl _ | assumption | apply Ext.push | (refine Ext.trans ?_ (by assumption)))⟩⟩
        · (repeat' (first | apply zam | apply zad | (apply O_at; rfl) | (apply N_at; rfl) | (apply zai; rfl) | apply zaj | (apply zbc; exact zaF (by decide +kernel)) | apply zaA | (apply zbA; rfl; refine .inr ?_; (focus repeat' first | exact trivial | exact Keeps.nil _ _ | apply And.intro | rfl | (apply Keeps.cons; iterate 2 (focus repeat' first | exact zaa | assumption | apply zab | (apply Ext.get; assumption))))) | apply zaB | ((first | apply zac | apply zaJ | apply za7); rfl; rfl; rfl; rfl) | (apply za4; rfl; rfl; rfl; rfl; exact zat rfl; rfl; rfl) | (apply zff; rfl; rfl; rfl; rfl) | (apply M_fa; rfl; rfl; rfl; rfl; exact zbd rfl; (first | exact Nat.zero_add _ | exact Nat.add_zero _ | rfl)) | (apply zcG; rfl; rfl; rfl; rfl; rfl; rfl; exact zav rfl) | (apply zcJ; rfl; rfl; rfl; rfl; rfl; rfl) | (apply zk9; rfl; rfl; rfl; rfl; rfl; omega) | (apply M_eqlF; rfl; rfl; rfl; rfl; rfl; omega) | (apply zbk; rfl; rfl; rfl; rfl; rfl; exact zav rfl; exact zat rfl; (first | assumption | exact zq0 | rfl | exact (Int.toNat_of_nonneg (by omega)).symm); omega) | ((first | ((apply zbo; rfl; rfl; rfl; rfl; exact zaI rfl); (focus repeat' first | exact zaa | assumption | apply zab | (apply Ext.get; assumption)); (first | exact zah (by omega) | rfl | assumption)) | ((apply zbJ; rfl; rfl; rfl; rfl; exact za1 rfl); (focus repeat' first | exact zaa | assumption | apply zab | (apply Ext.get; assumption)); (first | exact Nat.le_of_ble_eq_true rfl | (simp; done) | (simp; omega) | (rw [zas]; omega)); rfl)); (first | assumption | exact zan _ _ | exact zag _ _ _ | exact zaM _ _ _ _ _ | rfl | (focus simp [same, same.all2]; done)); (first | rfl | assumption | exact hwv _ | (focus apply zao; (focus repeat' first | exact zaa | assumption | apply zab | (apply Ext.get; assumption)); done) | exact zap (by assumption) (by (focus repeat' first | exact Ext.refl _ | assumption | apply Ext.push | (refine Ext.trans ?_ (by assumption)))) | exact zak (by assumption) (by (focus repeat' first | exact Ext.refl _ | assumption | apply Ext.push | (refine Ext.trans ?_ (by assumption)))) | (simp [within]; omega))) | (apply zbl; rfl; rfl; rfl; rfl; rfl; rfl; rfl; exact yes (iT (by (focus repeat' first | exact Ext.refl _ | assumption | apply Ext.push | (refine Ext.trans ?_ (by assumption))))) hP; (rintro _ _ ⟨rfl, _⟩)) | (apply zbl; rfl; rfl; rfl; rfl; rfl; rfl; rfl; exact yes (zbZ hK hl (hr.ext (by (focus repeat' first | exact Ext.refl _ | assumption | apply Ext.push | (refine Ext.trans ?_ (by assumption)))))) hG; (rintro _ _ ⟨rfl, _⟩)) | fail))
          exact ⟨.inr rfl, _, rfl, .inr ⟨rfl, fun z => h1 z.2.2.1, by (focus repeat' first | exact Ext.refl _ | assumption | apply Ext.push | (refine Ext.trans ?_ (by assumption)))⟩⟩
      · (repeat' (first | apply zam | apply zad | (apply O_at; rfl) | (apply N_at; rfl) | (apply zai; rfl) | apply zaj | (apply zbc; exact zaF (by decide +kernel)) | apply zaA | (apply zbA; rfl; refine .inr ?_; (focus repeat' first | exact trivial | exact Keeps.nil _ _ | apply And.intro | rfl | (apply Keeps.cons; iterate 2 (focus repeat' first | exact zaa | assumption | apply zab | (apply Ext.get; assumption))))) | apply zaB | ((first | apply zac | apply zaJ | apply za7); rfl; rfl; rfl; rfl) | (apply za4; rfl; rfl; rfl; rfl; exact zat rfl; rfl; rfl) | (apply zff; rfl; rfl; rfl; rfl) | (apply M_fa; rfl; rfl; rfl; rfl; exact zbd rfl; (first | exact Nat.zero_add _ | exact Nat.add_zero _ | rfl)) | (apply zcG; rfl; rfl; rfl; rfl; rfl; rfl; exact zav rfl) | (apply zcJ; rfl; rfl; rfl; rfl; rfl; rfl) | (apply M_gtrF; rfl; rfl; rfl; rfl; rfl; omega) | ((first | ((apply zbo; rfl; rfl; rfl; rfl; exact zaI rfl); (focus repeat' first | exact zaa | assumption | apply zab | (apply Ext.get; assumption)); (first | exact zah (by omega) | rfl | assumption)) | ((apply zbJ; rfl; rfl; rfl; rfl; exact za1 rfl); (focus repeat' first | exact zaa | assumption | apply zab | (apply Ext.get; assumption)); (first | exact Nat.le_of_ble_eq_true rfl | (simp; done) | (simp; omega) | (rw [zas]; omega)); rfl)); (first | assumption | exact zan _ _ | exact zag _ _ _ | exact zaM _ _ _ _ _ | rfl | (focus simp [same, same.all2]; done)); (first | rfl | assumption | exact hwv _ | (focus apply zao; (focus repeat' first | exact zaa | assumption | apply zab | (apply Ext.get; assumption)); done) | exact zap (by assumption) (by (focus repeat' first | exact Ext.refl _ | assumption | apply Ext.push | (refine Ext.trans ?_ (by assumption)))) | exact zak (by assumption) (by (focus repeat' first | exact Ext.refl _ | assumption | apply Ext.push | (refine Ext.trans ?_ (by assumption)))) | (simp [within]; omega))) | (apply zbl; rfl; rfl; rfl; rfl; rfl; rfl; rfl; exact yes (iT (by (focus repeat' first | exact Ext.refl _ | assumption | apply Ext.push | (refine Ext.trans ?_ (by assumption))))) hP; (rintro _ _ ⟨rfl, _⟩)) | (apply zbl; rfl; rfl; rfl; rfl; rfl; rfl; rfl; exact yes (zbZ hK hl (hr.ext (by (focus repeat' first | exact Ext.refl _ | assumption | apply Ext.push | (refine Ext.trans ?_ (by assumption)))))) hG; (rintro _ _ ⟨rfl, _⟩)) | fail))
        exact ⟨.inr rfl, _, rfl, .inr ⟨rfl, fun z => by have := z.2.1; omega, by (focus repeat' first | exact Ext.refl _ | assumption | apply Ext.push | (refine Ext.trans ?_ (by assumption)))⟩⟩
    · (repeat' (first | apply zam | apply zad | (apply O_at; rfl) | (apply N_at; rfl) | (apply zai; rfl) | apply zaj | (apply zbc; exact zaF (by decide +kernel)) | apply zaA | (apply zbA; rfl; refine .inr ?_; (focus repeat' first | exact trivial | exact Keeps.nil _ _ | apply And.intro | rfl | (apply Keeps.cons; iterate 2 (focus repeat' first | exact zaa | assumption | apply zab | (apply Ext.get; assumption))))) | apply zaB | ((first | apply zac | apply zaJ | apply za7); rfl; rfl; rfl; rfl) | (apply za4; rfl; rfl; rfl; rfl; exact zat rfl; rfl; rfl) | (apply zff; rfl; rfl; rfl; rfl) | (apply M_fa; rfl; rfl; rfl; rfl; exact zbd rfl; (first | exact Nat.zero_add _ | exact Nat.add_zero _ | rfl)) | (apply zcJ; rfl; rfl; rfl; rfl; rfl; rfl) | ((first | ((apply zbo; rfl; rfl; rfl; rfl; exact zaI rfl); (focus repeat' first | exact zaa | assumption | apply zab | (apply Ext.get; assumption)); (first | exact zah (by omega) | rfl | assumption)) | ((apply zbJ; rfl; rfl; rfl; rfl; exact za1 rfl); (focus repeat' first | exact zaa | assumption | apply zab | (apply Ext.get; assumption)); (first | exact Nat.le_of_ble_eq_true rfl | (simp; done) | (simp; omega) | (rw [zas]; omega)); rfl)); (first | assumption | exact zan _ _ | exact zag _ _ _ | exact zaM _ _ _ _ _ | rfl | (focus simp [same, same.all2]; done)); (first | rfl | assumption | exact hwv _ | (focus apply zao; (focus repeat' first | exact zaa | assumption | apply zab | (apply Ext.get; assumption)); done) | exact zap (by assumption) (by (focus repeat' first | exact Ext.refl _ | assumption | apply Ext.push | (refine Ext.trans ?_ (by assumption)))) | exact zak (by assumption) (by (focus repeat' first | exact Ext.refl _ | assumption | apply Ext.push | (refine Ext.trans ?_ (by assumption)))) | (simp [within]; omega))) | (apply zbl; rfl; rfl; rfl; rfl; rfl; rfl; rfl; exact yes (iT (by (focus repeat' first | exact Ext.refl _ | assumption | apply Ext.push | (refine Ext.trans ?_ (by assumption))))) hP; (rintro _ _ ⟨rfl, _⟩)) | (apply zbl; rfl; rfl; rfl; rfl; rfl; rfl; rfl; exact no (zbZ hK hl (hr.ext (by (focus repeat' first | exact Ext.refl _ | assumption | apply Ext.push | (refine Ext.trans ?_ (by assumption)))))) hG; (rintro _ _ ⟨rfl, _⟩)) | fail))
      exact ⟨.inr rfl, _, rfl, .inr ⟨rfl, fun z => hG z.2.2.2.2, by (focus repeat' first | exact Ext.refl _ | assumption | apply Ext.push | (refine Ext.trans ?_ (by assumption)))⟩⟩
  · (repeat' (first | apply zam | apply zad | (apply O_at; rfl) | (apply N_at; rfl) | (apply zai; rfl) | apply zaj | (apply zbc; exact zaF (by decide +kernel)) | apply zaA | (apply zbA; rfl; refine .inr ?_; (focus repeat' first | exact trivial | exact Keeps.nil _ _ | apply And.intro | rfl | (apply Keeps.cons; iterate 2 (focus repeat' first | exact zaa | assumption | apply zab | (apply Ext.get; assumption))))) | apply zaB | ((first | apply zac | apply zaJ | apply za7); rfl; rfl; rfl; rfl) | (apply za4; rfl; rfl; rfl; rfl; exact zat rfl; rfl; rfl) | (apply zff; rfl; rfl; rfl; rfl) | (apply M_skipA; rfl; rfl; rfl; rfl) | (apply M_fa; rfl; rfl; rfl; rfl; exact zbd rfl; (first | exact Nat.zero_add _ | exact Nat.add_zero _ | rfl)) | (apply zcJ; rfl; rfl; rfl; rfl; rfl; rfl) | ((first | ((apply zbo; rfl; rfl; rfl; rfl; exact zaI rfl); (focus repeat' first | exact zaa | assumption | apply zab | (apply Ext.get; assumption)); (first | exact zah (by omega) | rfl | assumption)) | ((apply zbJ; rfl; rfl; rfl; rfl; exact za1 rfl); (focus repeat' first | exact zaa | assumption | apply zab | (apply Ext.get; assumption)); (first | exact Nat.le_of_ble_eq_true rfl | (simp; done) | (simp; omega) | (rw [zas]; omega)); rfl)); (first | assumption | exact zan _ _ | exact zag _ _ _ | exact zaM _ _ _ _ _ | rfl | (focus simp [same, same.all2]; done)); (first | rfl | assumption | exact hwv _ | (focus apply zao; (focus repeat' first | exact zaa | assumption | apply zab | (apply Ext.get; assumption)); done) | exact zap (by assumption) (by (focus repeat' first | exact Ext.refl _ | assumption | apply Ext.push | (refine Ext.trans ?_ (by assumption)))) | exact zak (by assumption) (by (focus repeat' first | exact Ext.refl _ | assumption | apply Ext.push | (refine Ext.trans ?_ (by assumption)))) | (simp [within]; omega))) | (apply zbl; rfl; rfl; rfl; rfl; rfl; rfl; rfl; exact no (iT (by (focus repeat' first | exact Ext.refl _ | assumption | apply Ext.push | (refine Ext.trans ?_ (by assumption))))) hP; (rintro _ _ ⟨rfl, _⟩)) | fail))
    exact ⟨.inr rfl, _, rfl, .inr ⟨rfl, fun z => hP z.1, by (focus repeat' first | exact Ext.refl _ | assumption | apply Ext.push | (refine Ext.trans ?_ (by assumption)))⟩⟩
set_option maxHeartbeats 1000000 in
theorem zi6 (hK : NoK K) {T : Tb} {l : List Int} {p : Option Addr} {cap : Nat} {h : Heap} (hsl : T.s.length ≤ 1000) (hl : l.length ≤ 1000) (hT : TbAt T h) (hr : Rd h p (ints l)) (hpb : ∀ a, p = some a → a.block < h.n) :
    CallW Tryz.prog K 21 #[tbV T, .slice p l.length cap] h (IfB (KeptP T.s.length l) h) := by
  obtain ⟨q, kq, s, r, o⟩ := T
  have hqb : ∀ a, q = some a → a.block < h.n := hT.b
  dsimp only [tbV] at hsl ⊢
  refine body (N := 44) Tryz.func21 rfl (hK _ _ _ rfl) rfl rfl ?_
  by_cases h3 : 2 ≤ l.length
  · obtain ⟨b, e, own, rfl, hg⟩ := hr.at (by rw [zas]; omega)
    have hz : ((l.length : Nat) : Int) - 1 = ((l.length - 1 : Nat) : Int) := by omega
    by_cases h1 : l.getD 0 0 = 0
    · by_cases h2 : l.getD (l.length - 1) 0 = (s.length : Int) - 1
      · (repeat' (first | apply zam | apply zad | (apply O_at; rfl) | (apply N_at; rfl) | (apply zai; rfl) | apply zaj | (apply zaV; rfl) | (apply zbc; exact zaF (by decide +kernel)) | apply zay | apply zaz | (apply zbA; rfl; exact (.inl (Nat.le_refl 1))) | ((first | apply zae | apply zac | apply zaJ); rfl; rfl; rfl; rfl) | ((first | apply zbb | apply zcG); rfl; rfl; rfl; rfl; rfl; rfl; exact zav rfl) | (apply za4; rfl; rfl; rfl; rfl; exact zat rfl; rfl; rfl) | (apply M_fa; rfl; rfl; rfl; rfl; exact zbd rfl; (first | exact Nat.zero_add _ | exact Nat.add_zero _ | rfl)) | (apply zcJ; rfl; rfl; rfl; rfl; rfl; rfl) | (apply zk8; rfl; rfl; rfl; rfl; rfl; omega) | (apply zfh; rfl; rfl; rfl; rfl; rfl; omega) | (apply zdL; rfl; rfl; rfl; rfl; rfl; (unfold fit; omega)) | (apply zbk; rfl; rfl; rfl; rfl; rfl; exact zav rfl; exact zat rfl; (first | assumption | exact zq0 | exact zqs _ | rfl | exact (Int.toNat_of_nonneg (by omega)).symm); omega) | (((apply zbz; rfl; rfl; rfl; rfl; exact zaI rfl; exact zaX (by decide +kernel)); (focus repeat' first | exact zaa | assumption | apply zab | (apply Ext.get; assumption)); (first | exact zah (by omega) | rfl | assumption)); (first | assumption | exact zan _ _ | exact zag _ _ _ | rfl | (focus simp [same, same.all2]; done)); (first | rfl | assumption | exact hwv _ | exact zak (by assumption) (by (focus repeat' first | exact Ext.refl _ | assumption | apply Ext.push)) | (simp [within]; omega))) | fail))
        refine zbB (fun k : Nat => [(5, .int .i64 ((k + 1 : Nat) : Int)), (1, .slice (some ⟨b, 0, none⟩) l.length cap)])
          (fun k h' => k + 1 ≤ l.length ∧ Ext h h' ∧ ∀ i, i < k → l.getD i 0 < l.getD (i + 1) 0) (fun k => l.length - k) ?_ 0 ?_ ?_
        · intro k h' ⟨hk, hx, hj⟩ ih
          have hg' := hx.get hg
          have hz' : (((k + 1 : Nat) : Int)) - 1 = (k : Nat) := by omega
          by_cases hlt : k + 1 < l.length
          · by_cases hc : l.getD (k + 1) 0 ≤ l.getD k 0
            · (repeat' (first | apply zam | apply zad | (apply O_at; rfl) | (apply N_at; rfl) | (apply zai; rfl) | apply zaj | (apply zaS; rfl) | (apply zbc; exact zaF (by decide +kernel)) | apply zay | apply zaz | apply zaA | (apply zbA; rfl; exact (.inl (Nat.le_refl 1))) | apply zaN | apply zbQ | apply zbR | apply zaB | ((first | apply zae | apply zac | apply zaJ); rfl; rfl; rfl; rfl) | ((first | apply zbb | apply zcG); rfl; rfl; rfl; rfl; rfl; rfl; exact zav rfl) | (apply za9; rfl; rfl; rfl; rfl; rfl; omega) | (apply M_leqT; rfl; rfl; rfl; rfl; rfl; omega) | (apply zdL; rfl; rfl; rfl; rfl; rfl; (unfold fit; omega)) | (apply zbk; rfl; rfl; rfl; rfl; rfl; exact zav rfl; exact zat rfl; (first | assumption | exact zq0 | exact zqs _ | rfl | exact (Int.toNat_of_nonneg (by omega)).symm); omega) | (((apply zbz; rfl; rfl; rfl; rfl; exact zaI rfl; exact zaX (by decide +kernel)); (focus repeat' first | exact zaa | assumption | apply zab | (apply Ext.get; assumption)); (first | exact zah (by omega) | rfl | assumption)); (first | assumption | exact zan _ _ | exact zag _ _ _ | rfl | (focus simp [same, same.all2]; done)); (first | rfl | assumption | exact hwv _ | exact zak (by assumption) (by (focus repeat' first | exact Ext.refl _ | assumption | apply Ext.push)) | (simp [within]; omega))) | fail))
              exact ⟨.inr rfl, _, rfl, .inr ⟨rfl, fun z => by have := z.2.2.2 k hlt; omega, by (focus repeat' first | exact Ext.refl _ | assumption | apply Ext.push)⟩⟩
            · (repeat' (first | apply zam | apply zad | (apply O_at; rfl) | (apply N_at; rfl) | (apply zai; rfl) | apply zaj | (apply zaS; rfl) | (apply zaV; rfl) | (apply zbc; exact zaF (by decide +kernel)) | apply zay | apply zaz | (apply zbA; rfl; exact (.inl (Nat.le_refl 1))) | apply zaK | ((first | apply zae | apply zac | apply zaJ); rfl; rfl; rfl; rfl) | ((first | apply zbb | apply zcG); rfl; rfl; rfl; rfl; rfl; rfl; exact zav rfl) | (apply za9; rfl; rfl; rfl; rfl; rfl; omega) | (apply zbx; rfl; rfl; rfl; rfl; rfl; (unfold fit; omega)) | (apply M_leqF; rfl; rfl; rfl; rfl; rfl; omega) | (apply zdL; rfl; rfl; rfl; rfl; rfl; (unfold fit; omega)) | (apply zbk; rfl; rfl; rfl; rfl; rfl; exact zav rfl; exact zat rfl; (first | assumption | exact zq0 | exact zqs _ | rfl | exact (Int.toNat_of_nonneg (by omega)).symm); omega) | (((apply zbz; rfl; rfl; rfl; rfl; exact zaI rfl; exact zaX (by decide +kernel)); (focus repeat' first | exact zaa | assumption | apply zab | (apply Ext.get; assumption)); (first | exact zah (by omega) | rfl | assumption)); (first | assumption | exact zan _ _ | exact zag _ _ _ | rfl | (focus simp [same, same.all2]; done)); (first | rfl | assumption | exact hwv _ | exact zak (by assumption) (by (focus repeat' first | exact Ext.refl _ | assumption | apply Ext.push)) | (simp [within]; omega))) | fail))
              refine zbi (ih (k + 1) _ (by omega) ⟨hlt, by (focus repeat' first | exact Ext.refl _ | assumption | apply Ext.push), fun i hi => ?_⟩) (by (focus repeat' first | rfl | exact trivial | apply And.intro))
              by_cases hik : i = k
              · subst hik; omega
              · exact hj i (by omega)
          · (repeat' (first | apply zam | apply zad | (apply O_at; rfl) | (apply zai; rfl) | apply zaj | (apply zaV; rfl) | apply zbf | apply zaA | apply zbg | apply zaT | apply zaU | apply zaB | ((first | apply zae | apply zac | apply zaJ); rfl; rfl; rfl; rfl) | ((first | apply zbb | apply zcG); rfl; rfl; rfl; rfl; rfl; rfl; exact zav rfl) | (apply zbw; rfl; rfl; rfl; rfl; rfl; omega) | fail))
            exact ⟨.inr rfl, _, rfl, .inl ⟨rfl, ⟨h3, h1, h2, fun i hi => hj i (by omega)⟩, by (focus repeat' first | exact Ext.refl _ | assumption | apply Ext.push)⟩⟩
        · exact ⟨by omega, by (focus repeat' first | exact Ext.refl _ | assumption | apply Ext.push), fun j hj => by omega⟩
        · (focus repeat' first | rfl | exact trivial | apply And.intro)
      · (repeat' (first | apply zam | apply zad | (apply O_at; rfl) | (apply N_at; rfl) | (apply zai; rfl) | apply zaj | (apply zaS; rfl) | (apply zbc; exact zaF (by decide +kernel)) | apply zaA | (apply zbA; rfl; exact (.inl (Nat.le_refl 1))) | apply zaN | apply zaB | ((first | apply zae | apply zac | apply zaJ); rfl; rfl; rfl; rfl) | ((first | apply zbb | apply zcG); rfl; rfl; rfl; rfl; rfl; rfl; exact zav rfl) | (apply za4; rfl; rfl; rfl; rfl; exact zat rfl; rfl; rfl) | (apply M_fa; rfl; rfl; rfl; rfl; exact zbd rfl; (first | exact Nat.zero_add _ | exact Nat.add_zero _ | rfl)) | (apply zcJ; rfl; rfl; rfl; rfl; rfl; rfl) | (apply zk8; rfl; rfl; rfl; rfl; rfl; omega) | (apply zfh; rfl; rfl; rfl; rfl; rfl; omega) | (apply zfg; rfl; rfl; rfl; rfl; rfl; omega) | (apply zdL; rfl; rfl; rfl; rfl; rfl; (unfold fit; omega)) | (apply zbk; rfl; rfl; rfl; rfl; rfl; exact zav rfl; exact zat rfl; (first | assumption | exact zq0 | exact zqs _ | rfl | exact (Int.toNat_of_nonneg (by omega)).symm); omega) | (((apply zbz; rfl; rfl; rfl; rfl; exact zaI rfl; exact zaX (by decide +kernel)); (focus repeat' first | exact zaa | assumption | apply zab | (apply Ext.get; assumption)); (first | exact zah (by omega) | rfl | assumption)); (first | assumption | exact zan _ _ | exact zag _ _ _ | rfl | (focus simp [same, same.all2]; done)); (first | rfl | assumption | exact hwv _ | exact zak (by assumption) (by (focus repeat' first | exact Ext.refl _ | assumption | apply Ext.push)) | (simp [within]; omega))) | fail))
        exact ⟨.inr rfl, _, rfl, .inr ⟨rfl, fun z => h2 z.2.2.1, by (focus repeat' first | exact Ext.refl _ | assumption | apply Ext.push)⟩⟩
    · (repeat' (first | apply zam | apply zad | (apply O_at; rfl) | (apply N_at; rfl) | (apply zai; rfl) | apply zaj | (apply zaS; rfl) | (apply zbc; exact zaF (by decide +kernel)) | apply zaA | (apply zbA; rfl; exact (.inl (Nat.le_refl 1))) | apply zaN | apply zaB | ((first | apply zae | apply zac | apply zaJ); rfl; rfl; rfl; rfl) | ((first | apply zbb | apply zcG); rfl; rfl; rfl; rfl; rfl; rfl; exact zav rfl) | (apply za4; rfl; rfl; rfl; rfl; exact zat rfl; rfl; rfl) | (apply zff; rfl; rfl; rfl; rfl) | (apply zcJ; rfl; rfl; rfl; rfl; rfl; rfl) | (apply zk8; rfl; rfl; rfl; rfl; rfl; omega) | (apply zfg; rfl; rfl; rfl; rfl; rfl; omega) | (apply zbk; rfl; rfl; rfl; rfl; rfl; exact zav rfl; exact zat rfl; (first | assumption | exact zq0 | exact zqs _ | rfl | exact (Int.toNat_of_nonneg (by omega)).symm); omega) | (((apply zbz; rfl; rfl; rfl; rfl; exact zaI rfl; exact zaX (by decide +kernel)); (focus repeat' first | exact zaa | assumption | apply zab | (apply Ext.get; assumption)); (first | exact zah (by omega) | rfl | assumption)); (first | assumption | exact zan _ _ | exact zag _ _ _ | rfl | (focus simp [same, same.all2]; done)); (first | rfl | assumption | exact hwv _ | exact zak (by assumption) (by (focus repeat' first | exact Ext.refl _ | assumption | apply Ext.push)) | (simp [within]; omega))) | fail))
      exact ⟨.inr rfl, _, rfl, .inr ⟨rfl, fun z => h1 z.2.1, by (focus repeat' first | exact Ext.refl _ | assumption | apply Ext.push)⟩⟩
  · (repeat' (first | apply zam | apply zad | (apply O_at; rfl) | (apply N_at; rfl) | (apply zai; rfl) | apply zaj | (apply zaS; rfl) | (apply zbc; exact zaF (by decide +kernel)) | apply zaA | (apply zbA; rfl; exact (.inl (Nat.le_refl 1))) | apply zaN | apply zaB | ((first | apply zae | apply zac | apply zaJ); rfl; rfl; rfl; rfl) | ((first | apply zbb | apply zcG); rfl; rfl; rfl; rfl; rfl; rfl; exact zav rfl) | (apply za4; rfl; rfl; rfl; rfl; exact zat rfl; rfl; rfl) | (apply zff; rfl; rfl; rfl; rfl) | (apply zcJ; rfl; rfl; rfl; rfl; rfl; rfl) | (apply M_lssT; rfl; rfl; rfl; rfl; rfl; omega) | fail))
    exact ⟨.inr rfl, _, rfl, .inr ⟨rfl, fun z => h3 z.1, by (focus repeat' first | exact Ext.refl _ | assumption | apply Ext.push)⟩⟩
end Go.AX.Sa

namespace Go.AX.Sa
open Go.Proofs
set_option maxRecDepth 100000
variable {K : Known}
/-! Truths, sums, figures. -/
/-- Is it a truth? -/
def TruthP (l : List (Int × Int)) (t : List Int) : Prop := t.length = l.length ∧ ∀ k, k < t.length → (l.getD k (0, 0)).1 ≤ t.getD k 0 ∧ t.getD k 0 ≤ (l.getD k (0, 0)).2
theorem zdG (hK : NoK K) {l : List (Int × Int)} {p q : Option Addr} {cap cap' : Nat} {t : List Int} {h : Heap} (hl : l.length ≤ 1000) (hr : Rd h p (spanCells l)) (_ : t.length ≤ 1000) (hr' : Rd h q (ints t)) :
    CallW Tryz.prog K 64 #[.slice q t.length cap', .slice p l.length cap] h (IfB (TruthP l t) h) := by
  refine body (N := 30) Tryz.func64 rfl (hK _ _ _ rfl) rfl rfl ?_
  (repeat' (first | apply zam | apply zad | (apply O_at; rfl) | (apply zai; rfl) | apply zaj | (apply zaS; rfl) | (apply zaV; rfl) | apply zay | apply zaz | apply zaA | apply zaN | apply zaB | ((first | apply zae | apply zac | apply zaJ | apply zeY); rfl; rfl; rfl; rfl) | (apply zbb; rfl; rfl; rfl; rfl; rfl; rfl; exact zav rfl) | (apply zdr; rfl; rfl; rfl; rfl; rfl; all_goals intro _) | fail))
  · rename_i hne
    refine ⟨.inr rfl, _, rfl, .inr ⟨rfl, fun q => hne (by rw [q.1]), ?_⟩⟩
    (focus repeat' first | exact Ext.refl _ | assumption | apply Ext.push | (refine Ext.trans ?_ (by assumption)))
  rename_i heq
  have heq' : t.length = l.length := by omega
  refine zbB (fun k : Nat => [(14, .int .i64 (k : Nat)), (13, .int .i64 (l.length : Nat)), (12, .slice p l.length cap), (0, .slice q t.length cap')])
    (fun k h' => k ≤ t.length ∧ Ext h h' ∧ ∀ j, j < k → (l.getD j (0, 0)).1 ≤ t.getD j 0 ∧ t.getD j 0 ≤ (l.getD j (0, 0)).2) (fun k => t.length - k) ?_ 0 ?_ ?_
  · intro k h' ⟨hk, hx, hj⟩ ih
    by_cases hlt : k < t.length
    · obtain ⟨b, e, own, rfl, hg⟩ := hr.at (by rw [zal]; omega)
      obtain ⟨b', e', own', rfl, hg'⟩ := hr'.at (by rw [zas]; omega)
      have hg2 := hx.get hg
      have hg2' := hx.get hg'
      clear hg hg'
      have hltl : k < l.length := by omega
      (repeat' (first | apply zam | apply zad | (apply O_at; rfl) | (apply N_at; rfl) | (apply zai; rfl) | apply zaj | (apply zaS; rfl) | (apply zaV; rfl) | (apply zbc; kernel_rfl) | apply zay | apply zaz | apply zbf | apply zaA | (apply zbA; rfl; refine .inr ?_; (focus repeat' first | exact trivial | apply And.intro | rfl)) | apply zaN | apply zbQ | apply zbR | apply zbg | apply zaT | apply zaU | apply zaK | apply zaB | ((first | apply zae | apply zac | apply zaJ | apply zeY); rfl; rfl; rfl; rfl) | (apply zcA; rfl; rfl; rfl; rfl; rfl; all_goals intro _) | (apply zbx; rfl; rfl; rfl; rfl; rfl; (unfold fit; omega)) | (apply ziD; rfl; rfl; rfl; rfl; rfl; exact zav rfl; exact zat rfl; (first | assumption | rfl | exact (Int.toNat_of_nonneg (by omega)).symm); omega) | (apply zaP; rfl; rfl; rfl; rfl; exact za1 rfl; (focus repeat' first | exact zaa | assumption | apply zab | (apply Ext.get; assumption)); (first | exact Nat.le_of_ble_eq_true rfl | (simp; done) | (simp; omega) | (rw [zal]; omega) | (rw [zas]; omega)); (first | exact zaH (by omega) | rfl)) | (apply zbV; rfl; rfl; rfl; rfl; exact zat rfl; rfl; rfl; rfl) | (apply zdu; rfl; rfl; rfl; rfl; exact zat rfl; rfl; rfl) | (apply M_fa; rfl; rfl; rfl; rfl; exact zbd rfl; (first | exact Nat.zero_add _ | exact Nat.add_zero _ | rfl)) | (apply zbk; rfl; rfl; rfl; rfl; rfl; exact zav rfl; exact zat rfl; (first | assumption | rfl | exact (Int.toNat_of_nonneg (by omega)).symm); omega) | (((apply zbz; rfl; rfl; rfl; rfl; exact zaI rfl; decide +kernel); (focus repeat' first | exact zaa | assumption | apply zab | (apply Ext.get; assumption)); (first | exact zah (by omega) | rfl | assumption)); (first | assumption | exact zan _ _ | rfl | (focus simp [same, same.all2]; done)); (first | rfl | assumption | exact hwv _ | (simp [within]; omega))) | (apply zbl; rfl; rfl; rfl; rfl; rfl; rfl; rfl; exact zbE hK; (rintro _ _ (⟨rfl, _, _⟩ | ⟨rfl, _, _⟩))) | fail))
      · rename_i hns _
        refine zbi (ih (k + 1) _ ?_ ⟨hlt, ?_, fun j hj' => ?_⟩) ?_
        · omega
        · (focus repeat' first | exact Ext.refl _ | assumption | apply Ext.push | (refine Ext.trans ?_ (by assumption)))
        · by_cases hjk : j = k
          · subst hjk; exact hns
          · exact hj j (by omega)
        · (focus repeat' first | rfl | exact trivial | apply And.intro)
      · rename_i hns _
        refine ⟨.inr rfl, _, rfl, .inr ⟨rfl, fun q => hns (q.2 k hlt), ?_⟩⟩
        (focus repeat' first | exact Ext.refl _ | assumption | apply Ext.push | (refine Ext.trans ?_ (by assumption)))
      · omega
    · (repeat' (first | apply zam | apply zad | (apply O_at; rfl) | (apply zai; rfl) | apply zaj | (apply zaS; rfl) | (apply zaV; rfl) | apply zay | apply zaz | apply zbf | apply zaA | apply zbg | apply zaT | apply zaU | apply zaB | ((first | apply zae | apply zac | apply zaJ | apply zeY); rfl; rfl; rfl; rfl) | (apply zcA; rfl; rfl; rfl; rfl; rfl; all_goals intro _) | fail))
      · omega
      · refine ⟨.inr rfl, _, rfl, .inl ⟨rfl, ⟨heq', fun j hj' => hj j (by omega)⟩, ?_⟩⟩
        (focus repeat' first | exact Ext.refl _ | assumption | apply Ext.push | (refine Ext.trans ?_ (by assumption)))
  · exact ⟨Nat.zero_le _, Ext.refl _, fun j hj => by omega⟩
  · (focus repeat' first | rfl | exact trivial | apply And.intro)
theorem zhf (hK : NoK K) {l : List (Int × Int)} {p q : Option Addr} {cap cap' : Nat} {rows guard : Int} {t : List Int} {h : Heap} (hl : l.length ≤ 1000) (hr : Rd h p (spanCells l)) (_ : t.length ≤ 1000) (hr' : Rd h q (ints t)) :
    CallW Tryz.prog K 22 #[.agg #[.slice p l.length cap, .int .i64 rows, .int .i64 guard], .slice q t.length cap'] h (IfB (TruthP l t) h) := by
  refine body (N := 36) Tryz.func22 rfl (hK _ _ _ rfl) rfl rfl ?_
  (repeat' (first | apply zam | apply zad | (apply O_at; rfl) | (apply zai; rfl) | apply zaj | (apply zaS; rfl) | (apply zaV; rfl) | apply zay | apply zaz | apply zaA | apply zaN | apply zaB | ((first | apply zae | apply zac | apply zaJ | apply zeY); rfl; rfl; rfl; rfl) | ((first | apply P_fa | apply M_fa); rfl; rfl; rfl; rfl; exact zbd rfl; (first | exact Nat.zero_add _ | exact Nat.add_zero _ | rfl)) | (apply zbb; rfl; rfl; rfl; rfl; rfl; rfl; exact zav rfl) | (apply zdr; rfl; rfl; rfl; rfl; rfl; all_goals intro _) | (apply zaG; rfl; rfl; rfl; rfl; exact zaI rfl; (focus repeat' first | exact zaa | assumption | (apply Ext.get; assumption)); (first | exact zah (by omega) | exact zbp (by omega) | exact zbq (by omega) | rfl | assumption)) | (apply za4; rfl; rfl; rfl; rfl; exact zat rfl; rfl; rfl) | fail))
  · rename_i hne
    refine ⟨.inr rfl, _, rfl, .inr ⟨rfl, fun q => hne (by rw [q.1]), ?_⟩⟩
    (focus repeat' first | exact Ext.refl _ | assumption | apply Ext.push | (refine Ext.trans ?_ (by assumption)))
  rename_i heq
  have heq' : t.length = l.length := by omega
  have hb1 : (h.push (.cells (Value.agg #[.slice p l.length cap, .int .i64 rows, .int .i64 guard]).cells.toList 25 true)).get? h.n = some (.cells [.slice p l.length cap, .int .i64 rows, .int .i64 guard] 25 true) := zaa
  have hx2 : Ext h (h.push (.cells (Value.agg #[.slice p l.length cap, .int .i64 rows, .int .i64 guard]).cells.toList 25 true)) := by (focus repeat' first | exact Ext.refl _ | assumption | apply Ext.push | (refine Ext.trans ?_ (by assumption)))
  generalize h.push (.cells (Value.agg #[.slice p l.length cap, .int .i64 rows, .int .i64 guard]).cells.toList 25 true) = h2 at hb1 hx2 ⊢
  refine zbB (fun k : Nat => [(5, .int .i64 (k : Nat)), (1, .slice q t.length cap'), (2, .pointer (some ⟨h.n, 0, none⟩))])
    (fun k h' => k ≤ t.length ∧ Ext h2 h' ∧ ∀ j, j < k → (l.getD j (0, 0)).1 ≤ t.getD j 0 ∧ t.getD j 0 ≤ (l.getD j (0, 0)).2) (fun k => t.length - k) ?_ 0 ?_ ?_
  · intro k h' ⟨hk, hx, hj⟩ ih
    have hb : h'.get? h.n = some (.cells [.slice p l.length cap, .int .i64 rows, .int .i64 guard] 25 true) := hx.get hb1
    by_cases hlt : k < t.length
    · obtain ⟨b, e, own, rfl, hg⟩ := hr.at (by rw [zal]; omega)
      obtain ⟨b', e', own', rfl, hg'⟩ := hr'.at (by rw [zas]; omega)
      have hg2 := hx.get (hx2.get hg)
      have hg2' := hx.get (hx2.get hg')
      have hn1 := Heap.get_lt hg2
      have hn2 := Heap.get_lt hg2'
      have hn3 := Heap.get_lt hb
      clear hg hg' hb1
      have hltl : k < l.length := by omega
      (repeat' (first | apply zam | apply zad | (apply O_at; rfl) | (apply N_at; rfl) | (apply zai; rfl) | apply zaj | (apply zaS; rfl) | (apply zaV; rfl) | (apply zbc; kernel_rfl) | apply zay | apply zaz | apply zbf | apply zaA | (apply zbA; rfl; refine .inr ?_; (focus repeat' first | exact trivial | apply And.intro | rfl)) | apply zaN | apply zbQ | apply zbR | apply zbg | apply zaT | apply zaU | apply zaK | apply zaB | ((first | apply zae | apply zac | apply zaJ | apply zeY); rfl; rfl; rfl; rfl) | ((first | apply P_fa | apply M_fa); rfl; rfl; rfl; rfl; exact zbd rfl; (first | exact Nat.zero_add _ | exact Nat.add_zero _ | rfl)) | (apply zbb; rfl; rfl; rfl; rfl; rfl; rfl; exact zav rfl) | (apply zcA; rfl; rfl; rfl; rfl; rfl; all_goals intro _) | (apply zbx; rfl; rfl; rfl; rfl; rfl; (unfold fit; omega)) | (apply zbk; rfl; rfl; rfl; rfl; rfl; exact zav rfl; exact zat rfl; (first | assumption | rfl | exact (Int.toNat_of_nonneg (by omega)).symm); omega) | (apply zgT; rfl; rfl; rfl; rfl; rfl; exact zav rfl; exact zat rfl; (first | assumption | rfl | exact (Int.toNat_of_nonneg (by omega)).symm); omega) | (((apply zbz; rfl; rfl; rfl; rfl; exact zaI rfl; decide +kernel); (focus repeat' first | exact zaa | assumption | (apply Ext.get; assumption)); (first | exact zah (by omega) | exact zbp (by omega) | exact zbq (by omega) | rfl | assumption)); (first | assumption | exact zan _ _ | exact zag _ _ _ | rfl | (focus simp [same, same.all2]; done)); (first | rfl | assumption | exact hwv _ | (focus apply zao; (focus repeat' first | exact zaa | assumption | (apply Ext.get; assumption)); done) | (simp [within]; omega))) | (apply zbl; rfl; rfl; rfl; rfl; rfl; rfl; rfl; exact zdQ hK; (rintro _ _ (⟨rfl, _, _⟩ | ⟨rfl, _, _⟩))) | fail))
      · rename_i hns _
        refine zbi (ih (k + 1) _ ?_ ⟨hlt, ?_, fun j hj' => ?_⟩) ?_
        · omega
        · (focus repeat' first | exact Ext.refl _ | assumption | apply Ext.push | (refine Ext.trans ?_ (by assumption)))
        · by_cases hjk : j = k
          · subst hjk; exact hns
          · exact hj j (by omega)
        · (focus repeat' first | rfl | exact trivial | apply And.intro)
      · rename_i hns _
        refine ⟨.inr rfl, _, rfl, .inr ⟨rfl, fun q => hns (q.2 k hlt), ?_⟩⟩
        (focus repeat' first | exact Ext.refl _ | assumption | apply Ext.push | (refine Ext.trans ?_ (by assumption)))
      · omega
    · (repeat' (first | apply zam | apply zad | (apply O_at; rfl) | (apply N_at; rfl) | (apply zai; rfl) | apply zaj | (apply zaS; rfl) | (apply zaV; rfl) | (apply zbc; kernel_rfl) | apply zay | apply zaz | apply zbf | apply zaA | apply zbg | apply zaT | apply zaU | apply zaB | ((first | apply zae | apply zac | apply zaJ | apply zeY); rfl; rfl; rfl; rfl) | (apply zbb; rfl; rfl; rfl; rfl; rfl; rfl; exact zav rfl) | (apply zcA; rfl; rfl; rfl; rfl; rfl; all_goals intro _) | fail))
      · omega
      · refine ⟨.inr rfl, _, rfl, .inl ⟨rfl, ⟨heq', fun j hj' => hj j (by omega)⟩, ?_⟩⟩
        (focus repeat' first | exact Ext.refl _ | assumption | apply Ext.push | (refine Ext.trans ?_ (by assumption)))
  · exact ⟨Nat.zero_le _, Ext.refl _, fun j hj => by omega⟩
  · (focus repeat' first | rfl | exact trivial | apply And.intro)
theorem sum2_ok (hK : NoK K) {a b : Int} {h : Heap} (ha : -1000000 ≤ a ∧ a ≤ 1000000) (hb : -1000000 ≤ b ∧ b ≤ 1000000) {blk : Nat} (hg : h.get? blk = some (.cells (ints [a, b]) 3 true)) :
    CallW Tryz.prog K 141 #[.slice (some ⟨blk, 0, none⟩) 2 2] h (IsV (.int .i64 (a + b)) h) := by
  refine body (N := 17) Tryz.func141 rfl (hK _ _ _ rfl) rfl rfl ?_
  (repeat' (first | apply zam | apply zad | (apply O_at; rfl) | (apply zai; rfl) | apply zaj | apply zay | ((first | apply zae | apply zac); rfl; rfl; rfl; rfl) | (apply zbb; rfl; rfl; rfl; rfl; rfl; rfl; exact zav rfl) | fail))
  refine zbB (fun x : Nat × Int => [(8, .int .i64 (x.1 : Nat)), (7, .int .i64 ((2 : Nat) : Int)), (6, .slice (some ⟨blk, 0, none⟩) 2 2), (3, .int .i64 x.2)])
    (fun x h' => (x = (0, 0) ∨ x = (1, 0 + a) ∨ x = (2, 0 + a + b)) ∧ h' = h) (fun x => 2 - x.1) ?_ (0, 0) ⟨.inl rfl, rfl⟩ ?_
  · rintro ⟨k, s⟩ h' ⟨hk, rfl⟩ ih
    rcases hk with q | q | q
    all_goals cases q
    · (repeat' (first | apply zam | apply zad | (apply O_at; rfl) | (apply zai; rfl) | apply zaj | (apply zaS; rfl) | apply zay | apply zaz | apply zaK | ((first | apply zae | apply zac); rfl; rfl; rfl; rfl) | (apply za9; rfl; rfl; rfl; rfl; rfl; omega) | (apply zbx; rfl; rfl; rfl; rfl; rfl; (unfold fit; omega)) | (apply zcm; rfl; rfl; rfl; rfl; rfl; exact zav rfl; exact zat rfl; (first | assumption | exact zq0 | exact zq1 | rfl | exact (Int.toNat_of_nonneg (by omega)).symm); omega) | (apply zaG; rfl; rfl; rfl; rfl; exact zaI rfl; (focus repeat' first | assumption); (first | rfl | assumption)) | fail))
      exact zbi (ih (1, 0 + a) _ (by dsimp only; omega) ⟨.inr (.inl rfl), rfl⟩) (by (focus repeat' first | rfl | exact trivial | apply And.intro))
    · (repeat' (first | apply zam | apply zad | (apply O_at; rfl) | (apply zai; rfl) | apply zaj | (apply zaS; rfl) | apply zay | apply zaz | apply zaK | ((first | apply zae | apply zac); rfl; rfl; rfl; rfl) | (apply za9; rfl; rfl; rfl; rfl; rfl; omega) | (apply zbx; rfl; rfl; rfl; rfl; rfl; (unfold fit; omega)) | (apply zcm; rfl; rfl; rfl; rfl; rfl; exact zav rfl; exact zat rfl; (first | assumption | exact zq0 | exact zq1 | rfl | exact (Int.toNat_of_nonneg (by omega)).symm); omega) | (apply zaG; rfl; rfl; rfl; rfl; exact zaI rfl; (focus repeat' first | assumption); (first | rfl | assumption)) | fail))
      exact zbi (ih (2, 0 + a + b) _ (by dsimp only; omega) ⟨.inr (.inr rfl), rfl⟩) (by (focus repeat' first | rfl | exact trivial | apply And.intro))
    · (repeat' (first | apply zam | apply zad | (apply O_at; rfl) | (apply zai; rfl) | apply zaj | (apply zaV; rfl) | apply zbf | apply zaA | apply zbg | apply zaT | apply zaU | apply zaB | ((first | apply zae | apply zac); rfl; rfl; rfl; rfl) | (apply zbw; rfl; rfl; rfl; rfl; rfl; omega) | fail))
      exact ⟨.inr rfl, _, rfl, (by show Value.int .i64 (0 + a + b) = _; rw [Int.zero_add]), by (focus repeat' first | exact Ext.refl _ | assumption)⟩
  · (focus repeat' first | rfl | exact trivial | apply And.intro)
theorem bs_i3 (h : Heap) (a b : Int) : buildSliceB Tryz.prog h 26 2 [(0, .int .i64 a), (1, .int .i64 b)] = some (.slice (some ⟨h.n, 0, none⟩) 2 2, h.push (.cells (ints [a, b]) 3 true)) := by kernel_rfl
section
variable {x : Ctx} {N : Nat} {E : Env} {h : Heap} {ops : Array Oper} {F : Ex → Env → Heap → Prop} {i : Nat} {Hs : List Heap} {L : List Heap → Prop} {nw : List (Nat × Nat × Blk)}
variable {d : Nat} {ty : TypeId} {pos : String} {af : Array Edge} {g : Option (Nat × Bool)} {ps : Array (Nat × Operand)}
theorem M_bs_i3 {a b : Int} (hN : Nat.blt d N = true) (hg : gval ops E g = some true) (hk : opsOK Tryz.prog ⟨some d, .buildSlice 26 2 ps, ty, pos, af, g⟩ = true)
    (hps : E.parts ps.toList = some [(0, .int .i64 a), (1, .int .i64 b)]) (k : S1 Tryz.prog K x N ops F (i + 1) ((d, .slice (some ⟨h.n, 0, none⟩) 2 2) :: E) (h.push (.cells (ints [a, b]) 3 true)) Hs L ((i, h.n, .cells (ints [a, b]) 3 true) :: nw)) : S2 Tryz.prog K x N ops F i ⟨some d, .buildSlice 26 2 ps, ty, pos, af, g⟩ E h Hs L nw := M_bs hN hg hk hps (bs_i3 h _ _) k
end
/-- A row between two others. -/
def mixv (bef aft row x y : Int) : Int := x * (aft - row) + y * (row - bef)
theorem ze4 {x d : Int} (hx : -10000 ≤ x ∧ x ≤ 10000) (hd : 0 ≤ d ∧ d ≤ 20) : -200000 ≤ x * d ∧ x * d ≤ 200000 := by
  have h1 : x * d ≤ 10000 * d := Int.mul_le_mul_of_nonneg_right hx.2 hd.1
  have h2 : -10000 * d ≤ x * d := Int.mul_le_mul_of_nonneg_right (by omega) hd.1
  omega
theorem zjs (hK : NoK K) {bef aft row x y r : Int} {h : Heap} (hx : -10000 ≤ x ∧ x ≤ 10000) (hy : -10000 ≤ y ∧ y ≤ 10000) (hb : 0 ≤ bef) (h1 : bef ≤ row) (h2 : row ≤ aft) (h3 : aft ≤ 20) (h4 : bef < aft) (hr : RuleP r) :
    CallW Tryz.prog K 105 #[.agg #[.int .i64 bef, .int .i64 aft], .int .i64 row, .int .i64 x, .int .i64 y, .int .i64 r] h (IsV (.int .i64 (rnd r (mixv bef aft row x y) (aft - bef))) h) := by
  have m1 := ze4 hx (d := aft - row) (by omega)
  have m2 := ze4 hy (d := row - bef) (by omega)
  refine body (N := 32) Tryz.func105 rfl (hK _ _ _ rfl) rfl rfl ?_
  (repeat' (first | apply zam | apply zad | (apply O_at; rfl) | (apply N_at; rfl) | (apply zai; rfl) | apply zaj | (apply zbc; exact zaF (by decide +kernel)) | apply zaA | (apply zbA; rfl; refine .inr ?_; (focus repeat' first | exact trivial | exact Keeps.nil _ _ | apply And.intro | rfl | (apply Keeps.cons; iterate 2 (focus repeat' first | exact zaa | assumption | apply zab | (apply Ext.get; assumption))))) | apply zaB | ((first | apply zac | apply zaJ | apply za7); rfl; rfl; rfl; rfl) | (apply za4; rfl; rfl; rfl; rfl; exact zat rfl; rfl; rfl) | (apply M_fa; rfl; rfl; rfl; rfl; exact zbd rfl; (first | exact Nat.zero_add _ | exact Nat.add_zero _ | rfl)) | (apply zdL; rfl; rfl; rfl; rfl; rfl; (unfold fit; omega)) | (apply M_mul; rfl; rfl; rfl; rfl; rfl; (unfold fit; omega)) | (((apply zbo; rfl; rfl; rfl; rfl; exact zaI rfl); (focus repeat' first | exact zaa | assumption | apply zab | (apply Ext.get; assumption)); (first | rfl | assumption)); (first | assumption | exact zan _ _ | rfl | (focus simp [same, same.all2]; done)); (first | rfl | assumption | exact hwv _ | (simp [within]; omega))) | (apply M_bs_i3; rfl; rfl; rfl; rfl) | (apply zbl; rfl; rfl; rfl; rfl; rfl; rfl; rfl; exact sum2_ok hK (by omega) (by omega) zaa; (rintro _ _ ⟨rfl, _⟩)) | (apply zbl; rfl; rfl; rfl; rfl; rfl; rfl; rfl; exact ziZ hK (by omega) (by omega) hr; (rintro _ _ ⟨rfl, _⟩)) | fail))
  exact ⟨.inr rfl, _, rfl, rfl, by (focus repeat' first | exact Ext.refl _ | assumption | apply Ext.push | (refine Ext.trans ?_ (by assumption)))⟩
theorem zf6 (hK : NoK K) {bef aft row x y r : Int} {h : Heap} (hx : -10000 ≤ x ∧ x ≤ 10000) (hy : -10000 ≤ y ∧ y ≤ 10000) (hb : 0 ≤ bef) (h1 : bef ≤ row) (h2 : row ≤ aft) (h3 : aft ≤ 20) (h4 : bef < aft) :
    CallW Tryz.prog K 107 #[.int .i64 r, .int .i64 bef, .int .i64 aft, .int .i64 row, .int .i64 x, .int .i64 y] h (IsV (.int .i64 (rnd r (mixv bef aft row x y) (aft - bef))) h) := by
  have m1 := ze4 hx (d := aft - row) (by omega)
  have m2 := ze4 hy (d := row - bef) (by omega)
  refine body (N := 33) Tryz.func107 rfl (hK _ _ _ rfl) rfl rfl ?_
  (repeat' (first | apply zam | apply zad | (apply O_at; rfl) | (apply zai; rfl) | apply zaj | (apply zaV; rfl) | apply zaz | apply zaA | apply zaB | ((first | apply zae | apply zac); rfl; rfl; rfl; rfl) | (apply zdf; rfl; rfl; rfl; rfl; rfl; omega) | (apply zbx; rfl; rfl; rfl; rfl; rfl; (unfold fit; omega)) | (apply zcT; rfl; rfl; rfl; rfl; rfl; (unfold fit; omega)) | (apply zeW; rfl; rfl; rfl; rfl; rfl; (unfold fit; omega)) | (apply zaf; rfl; rfl; rfl; rfl; rfl; rfl; exact refTo_ok hK (by omega) (by omega); (rintro _ _ ⟨rfl, _⟩)) | fail))
  exact ⟨.inr rfl, _, rfl, rfl, by (focus repeat' first | assumption)⟩
theorem zeN (hK : NoK K) {bef row x y r : Int} {h : Heap} :
    CallW Tryz.prog K 107 #[.int .i64 r, .int .i64 bef, .int .i64 bef, .int .i64 row, .int .i64 x, .int .i64 y] h (IsV (.int .i64 x) h) := by
  refine body (N := 33) Tryz.func107 rfl (hK _ _ _ rfl) rfl rfl ?_
  (repeat' (first | apply zam | apply zad | (apply O_at; rfl) | (apply zai; rfl) | apply zaj | (apply zaS; rfl) | apply zaA | apply zaN | apply zaB | ((first | apply zae | apply zac); rfl; rfl; rfl; rfl) | (apply zbP; rfl; rfl; rfl; rfl; rfl; omega) | fail))
  exact ⟨.inr rfl, _, rfl, rfl, by (focus repeat' first | exact Ext.refl _ | assumption)⟩
end Go.AX.Sa

namespace Go.AX.Sa
open Go.Proofs
set_option maxRecDepth 100000
variable {K : Known}
/-! Kept rows next to each other. -/
def prs (l : List Int) (k : Nat) : List (Int × Int) := (List.range k).map fun i => (l.getD i 0, l.getD (i + 1) 0)
theorem zhj (l : List Int) (k : Nat) : (prs l k).length = k := by simp [prs]
theorem prs_succ (l : List Int) (k : Nat) : prs l (k + 1) = prs l k ++ [(l.getD k 0, l.getD (k + 1) 0)] := by simp [prs, List.range_succ]
theorem prs_get {l : List Int} {k i : Nat} (h : i < k) : (prs l k).getD i (0, 0) = (l.getD i 0, l.getD (i + 1) 0) := by
  simp [prs, List.getD_eq_getElem?_getD, h]
def IsP (l : List (Int × Int)) (h : Heap) (v : Value) (h1 : Heap) : Prop := ∃ p cap, v = .slice p l.length cap ∧ Rd h1 p (spanCells l) ∧ (∀ a, p = some a → h.n ≤ a.block) ∧ Ext h h1
theorem pairs_ok (hK : NoK K) {T : Tb} {l : List Int} {b cap : Nat} {e : TypeId} {own : Bool} {h : Heap} (hl : 2 ≤ l.length ∧ l.length ≤ 1000) (hcap : l.length ≤ cap) (hg : h.get? b = some (.cells (ints l) e own)) :
    CallW Tryz.prog K 104 #[ktV T (some ⟨b, 0, none⟩) l.length cap] h (IsP (prs l (l.length - 1)) h) := by
  obtain ⟨q, kq, s, r, o⟩ := T
  dsimp only [ktV]
  have hb := Heap.get_lt hg
  refine body (N := 27) Tryz.func104 rfl (hK _ _ _ rfl) rfl rfl ?_
  (repeat' (first | apply zam | apply zad | (apply O_at; rfl) | (apply zai; rfl) | apply zaj | ((first | apply zae | apply zac); rfl; rfl; rfl; rfl) | (apply P_fa; rfl; rfl; rfl; rfl; exact zbd rfl; (first | exact Nat.zero_add _ | exact Nat.add_zero _ | rfl)) | (apply zaG; rfl; rfl; rfl; rfl; exact zaI rfl; (focus repeat' first | exact zaa | assumption | apply zab | (apply Ext.get; assumption)); (first | exact zah (by omega) | rfl | assumption)) | (apply za4; rfl; rfl; rfl; rfl; exact zat rfl; rfl; rfl) | fail))
  refine zhP rfl rfl rfl rfl rfl (zav rfl) (zat rfl) (q := 1) (by omega) hcap (by omega) (by omega) ?_
  intro off cap' hoff
  have ho1 := hoff (by omega)
  subst ho1
  (repeat' (first | (apply O_at; rfl) | (apply zai; rfl) | apply zaj | apply zay | ((first | apply zae | apply zac); rfl; rfl; rfl; rfl) | (apply zbb; rfl; rfl; rfl; rfl; rfl; rfl; exact zav rfl) | fail))
  refine zbB (fun a : Nat × Value => [(10, .int .i64 (a.1 : Nat)), (9, .int .i64 ((l.length - 1 : Nat) : Int)), (8, .slice (some ⟨b, 1 * 1, none⟩) (l.length - 1) cap'), (3, a.2), (1, .pointer (some ⟨h.n, 0, none⟩))])
    (fun a h' => a.1 ≤ l.length - 1 ∧ Ext (h.push (.cells [.slice q s.length kq, .int .i64 r, .int .i64 o, .slice (some ⟨b, 0, none⟩) l.length cap] 82 true)) h' ∧ OutS 123 (h.push (.cells [.slice q s.length kq, .int .i64 r, .int .i64 o, .slice (some ⟨b, 0, none⟩) l.length cap] 82 true)) h' a.2 (prs l a.1)) (fun a => l.length - 1 - a.1) ?_ (0, nilV) ?_ ?_
  · rintro ⟨k, v⟩ h' ⟨hk, hx, ho⟩ ih
    dsimp only at hk hx ho ih ⊢
    have hbx : h'.get? h.n = some (.cells [.slice q s.length kq, .int .i64 r, .int .i64 o, .slice (some ⟨b, 0, none⟩) l.length cap] 82 true) := hx.get zaa
    have hg' := hx.get (zab hg)
    have hle := zhj l k
    by_cases hlt : k < l.length - 1
    · have hk1 : k + 1 < l.length := by omega
      (repeat' (first | apply zam | apply zad | (apply O_at; rfl) | (apply zai; rfl) | apply zaj | (apply zaS; rfl) | apply zay | apply zaz | ((first | apply zae | apply zac); rfl; rfl; rfl; rfl) | (apply za9; rfl; rfl; rfl; rfl; rfl; omega) | fail))
      refine P_idxO (o := 1) (n := 1) (k := k) rfl rfl rfl rfl rfl (zav rfl) (zat rfl) rfl hlt ?_
      rw [show (1 + k) * 1 = k + 1 by omega]
      (repeat' (first | apply zad | (apply O_at; rfl) | (apply zai; rfl) | apply zaj | apply zaK | ((first | apply zae | apply zac); rfl; rfl; rfl; rfl) | (apply P_fa; rfl; rfl; rfl; rfl; exact zbd rfl; (first | exact Nat.zero_add _ | exact Nat.add_zero _ | rfl)) | (apply zbx; rfl; rfl; rfl; rfl; rfl; (unfold fit; omega)) | (apply zcm; rfl; rfl; rfl; rfl; rfl; exact zav rfl; exact zat rfl; (first | assumption | rfl | exact (Int.toNat_of_nonneg (by omega)).symm); omega) | (apply zaG; rfl; rfl; rfl; rfl; exact zaI rfl; (focus repeat' first | exact zaa | assumption | apply zab | (apply Ext.get; assumption)); (first | exact zah (by omega) | rfl | assumption)) | (apply zds; rfl; rfl; rfl; rfl) | (apply zk3; rfl; rfl; rfl; rfl; rfl; exact c2_ok rfl) | (apply P_appS; rfl; rfl; rfl; rfl; rfl; rfl; rfl; rfl; exact c2_ok rfl; exact zav rfl; (focus repeat' first | exact zaa | assumption | apply zab | (apply Ext.get; assumption)); (apply OutS.ext; assumption; (focus repeat' first | exact Ext.refl _ | assumption | apply Ext.push | (refine Ext.trans ?_ (by assumption)))); (focus repeat' first | exact Ext.refl _ | assumption | apply Ext.push | (refine Ext.trans ?_ (by assumption))); (first | omega | (simp; omega)); (intro _ _ _ _)) | fail))
      rename_i v1 h2 ho2 hx2
      exact zbi (ih (k + 1, v1) _ (by dsimp only; omega) ⟨hlt, by (focus repeat' first | exact Ext.refl _ | assumption | apply Ext.push | (refine Ext.trans ?_ (by assumption))), by rw [prs_succ]; exact ho2⟩) (by (focus repeat' first | rfl | exact trivial | apply And.intro))
    · have : k = l.length - 1 := by omega
      subst this
      (repeat' (first | apply zam | apply zad | (apply O_at; rfl) | (apply zai; rfl) | apply zaj | (apply zaV; rfl) | apply zbf | apply zaA | apply zbg | apply zaT | apply zaU | apply zaB | ((first | apply zae | apply zac); rfl; rfl; rfl; rfl) | (apply zbw; rfl; rfl; rfl; rfl; rfl; omega) | fail))
      refine ⟨.inr rfl, _, rfl, ?_⟩
      rcases ho with ⟨q1, rfl⟩ | ⟨q1, b2, rfl, q3, q4⟩
      · have := congrArg List.length q1
        rw [zhj] at this
        simp at this; omega
      · exact ⟨_, _, rfl, .inr ⟨_, _, _, rfl, q3⟩, fun a w => by cases w; exact Nat.le_of_succ_le (show h.n + 1 ≤ b2 from q4), by (focus repeat' first | exact Ext.refl _ | assumption | apply Ext.push | (refine Ext.trans ?_ (by assumption)))⟩
  · exact ⟨Nat.zero_le _, Ext.refl _, OutS.nil _ _ _⟩
  · (focus repeat' first | rfl | exact trivial | apply And.intro)
end Go.AX.Sa

namespace Go.AX.Sa
open Go.Proofs
set_option maxRecDepth 100000
variable {K : Known}
/-! The kept rows around a row, and its figure: numbers. -/
theorem keptLt {l : List Int} (hG : GrowP l) {m : Nat} : ∀ d, m + d + 1 < l.length → l.getD m 0 < l.getD (m + d + 1) 0 := by
  intro d
  induction d with
  | zero => intro h; exact hG m h
  | succ d ih =>
    intro h
    have h1 := ih (by omega)
    have h2 := hG (m + d + 1) (by omega)
    rw [show m + (d + 1) + 1 = m + d + 1 + 1 by omega]
    omega
theorem keptLe {l : List Int} (hG : GrowP l) {m n : Nat} (h : m ≤ n) (hn : n < l.length) : l.getD m 0 ≤ l.getD n 0 := by
  by_cases he : m = n
  · subst he; exact Int.le_refl _
  · have := keptLt hG (m := m) (n - m - 1) (by omega)
    rw [show m + (n - m - 1) + 1 = n by omega] at this
    omega
def befK (l : List Int) (j : Int) : Nat → Int
  | 0 => l.getD 0 0
  | k + 1 => if l.getD k 0 ≤ j then max (befK l j k) (l.getD k 0) else befK l j k
def aftK (l : List Int) (j : Int) : Nat → Int
  | 0 => l.getD (l.length - 1) 0
  | k + 1 => if j ≤ l.getD k 0 then min (aftK l j k) (l.getD k 0) else aftK l j k
theorem befK_is {l : List Int} (hG : GrowP l) {j : Int} {i : Nat} (hi : i < l.length) (h1 : l.getD i 0 ≤ j) (h2 : i + 1 < l.length → j < l.getD (i + 1) 0) : ∀ k, k ≤ l.length → befK l j k = l.getD (min (k - 1) i) 0 := by
  intro k
  induction k with
  | zero => intro _; show l.getD 0 0 = _; rw [show min (0 - 1) i = 0 by omega]
  | succ k ih =>
    intro hk
    have ih := ih (by omega)
    unfold befK
    by_cases hki : k ≤ i
    · have a := keptLe hG hki hi
      have b := keptLe hG (show min (k - 1) i ≤ k by omega) (by omega)
      rw [if_pos (by omega), ih, show min (k + 1 - 1) i = k by omega]
      omega
    · have a := h2 (by omega)
      have b := keptLe hG (show i + 1 ≤ k by omega) (by omega)
      rw [if_neg (by omega), ih, show min (k - 1) i = i by omega, show min (k + 1 - 1) i = i by omega]
theorem aftK_is {l : List Int} (hG : GrowP l) {j : Int} {i : Nat} (hi : i < l.length) (h1 : j ≤ l.getD i 0) (h2 : ∀ m, m + 1 = i → l.getD m 0 < j) : ∀ k, k ≤ l.length → aftK l j k = if k ≤ i then l.getD (l.length - 1) 0 else l.getD i 0 := by
  intro k
  induction k with
  | zero => intro _; rw [if_pos (Nat.zero_le _)]; rfl
  | succ k ih =>
    intro hk
    have ih := ih (by omega)
    unfold aftK
    by_cases hki : k < i
    · have a := h2 (i - 1) (by omega)
      have b := keptLe hG (show k ≤ i - 1 by omega) (by omega)
      rw [if_neg (by omega), ih, if_pos (by omega), if_pos (by omega)]
    · have a := keptLe hG (show i ≤ k by omega) (by omega)
      have c := keptLe hG (show k ≤ l.length - 1 by omega) (by omega)
      rw [if_pos (by omega), if_neg (by omega), ih]
      by_cases hke : k = i
      · subst hke; rw [if_pos (Nat.le_refl _)]; omega
      · rw [if_neg (by omega)]; omega
def bef (l : List Int) (j : Int) : Int := befK l j l.length
def aft (l : List Int) (j : Int) : Int := aftK l j l.length
theorem ziw {l : List Int} (hG : GrowP l) {j : Int} {i : Nat} (hi : i < l.length) (h1 : l.getD i 0 ≤ j) (h2 : i + 1 < l.length → j < l.getD (i + 1) 0) : bef l j = l.getD i 0 := by
  unfold bef; rw [befK_is hG hi h1 h2 _ (Nat.le_refl _), show min (l.length - 1) i = i by omega]
theorem ziz {l : List Int} (hG : GrowP l) {j : Int} {i : Nat} (hi : i < l.length) (h1 : j ≤ l.getD i 0) (h2 : ∀ m, m + 1 = i → l.getD m 0 < j) : aft l j = l.getD i 0 := by
  unfold aft; rw [aftK_is hG hi h1 h2 _ (Nat.le_refl _), if_neg (by omega)]
def figv (l t : List Int) (r : Int) (j : Nat) : Int :=
  if bef l j = aft l j then t.getD (bef l j).toNat 0 else rnd r (mixv (bef l j) (aft l j) j (t.getD (bef l j).toNat 0) (t.getD (aft l j).toNat 0)) (aft l j - bef l j)
theorem zc6 {l t : List Int} {r : Int} {i j : Nat} (hG : GrowP l) (hi : i < l.length) (hj : l.getD i 0 = (j : Nat)) : figv l t r j = t.getD j 0 := by
  have e1 := ziw hG (j := (j : Nat)) hi (by omega) (fun w => by have := hG i w; omega)
  have e2 := ziz hG (j := (j : Nat)) hi (by omega) (fun m w => by have := hG m (by omega); rw [w] at this; omega)
  unfold figv
  rw [e1, e2, if_pos rfl, hj, Int.toNat_natCast]
theorem zfG {l t : List Int} {r : Int} {i j : Nat} (hG : GrowP l) (hi : i + 1 < l.length) (h1 : l.getD i 0 < (j : Nat)) (h2 : ((j : Nat) : Int) < l.getD (i + 1) 0) :
    figv l t r j = rnd r (mixv (l.getD i 0) (l.getD (i + 1) 0) j (t.getD (l.getD i 0).toNat 0) (t.getD (l.getD (i + 1) 0).toNat 0)) (l.getD (i + 1) 0 - l.getD i 0) := by
  have e1 := ziw hG (j := (j : Nat)) (i := i) (by omega) (by omega) (fun _ => h2)
  have e2 := ziz hG (j := (j : Nat)) (i := i + 1) hi (by omega) (fun m w => by rw [show m = i by omega]; exact h1)
  unfold figv
  rw [e1, e2, if_neg (by omega)]
def figs (l t : List Int) (r : Int) (k : Nat) : List Int := (List.range k).map (figv l t r)
theorem zc7 (l t : List Int) (r : Int) (k : Nat) : (figs l t r k).length = k := by simp [figs]
theorem zkD (l t : List Int) (r : Int) (k : Nat) : figs l t r (k + 1) = figs l t r k ++ [figv l t r k] := by simp [figs, List.range_succ]
theorem zfH {l t : List Int} {r : Int} {k j : Nat} (h : j < k) : (figs l t r k).getD j 0 = figv l t r j := by
  simp [figs, List.getD_eq_getElem?_getD, h]
/-- Every row is kept, or lies between two kept ones. -/
theorem row_at {n : Nat} {l : List Int} (hP : KeptP n l) {j : Nat} (hj : j < n) : (∃ i, i < l.length ∧ l.getD i 0 = (j : Nat)) ∨ ∃ i, i + 1 < l.length ∧ l.getD i 0 < (j : Nat) ∧ ((j : Nat) : Int) < l.getD (i + 1) 0 := by
  obtain ⟨h2, h0, h1, hG⟩ := hP
  have key : ∀ m, m < l.length → ((j : Nat) : Int) ≤ l.getD m 0 → (∃ i, i < l.length ∧ l.getD i 0 = (j : Nat)) ∨ ∃ i, i + 1 < l.length ∧ l.getD i 0 < (j : Nat) ∧ ((j : Nat) : Int) < l.getD (i + 1) 0 := by
    intro m
    induction m with
    | zero => intro hm hle; exact .inl ⟨0, hm, by omega⟩
    | succ m ih =>
      intro hm hle
      by_cases he : l.getD (m + 1) 0 = (j : Nat)
      · exact .inl ⟨m + 1, hm, he⟩
      · by_cases hl : ((j : Nat) : Int) ≤ l.getD m 0
        · exact ih (by omega) hl
        · exact .inr ⟨m, hm, by omega, by omega⟩
  exact key (l.length - 1) (by omega) (by omega)
theorem zf7 (hK : NoK K) {l : List Int} {p : Option Addr} {cap : Nat} {row : Int} {h : Heap} (hl : 1 ≤ l.length ∧ l.length ≤ 1000) (hr : Rd h p (ints l)) :
    CallW Tryz.prog K 106 #[.slice p l.length cap, .int .i64 row] h (IsV (.tuple #[.int .i64 (bef l row), .int .i64 (aft l row)]) h) := by
  obtain ⟨b, e, own, rfl, hg⟩ := hr.at (by rw [zas]; omega)
  have hz : ((l.length : Nat) : Int) - 1 = ((l.length - 1 : Nat) : Int) := by omega
  refine body (N := 50) Tryz.func106 rfl (hK _ _ _ rfl) rfl rfl ?_
  (repeat' (first | apply zam | apply zad | (apply O_at; rfl) | (apply N_at; rfl) | (apply zai; rfl) | apply zaj | (apply zbc; exact zaF (by decide +kernel)) | apply zay | (apply zbA; rfl; exact (.inl (Nat.le_refl 1))) | ((first | apply zae | apply zac | apply zaJ | apply za7); rfl; rfl; rfl; rfl) | ((first | apply zbb | apply zcG); rfl; rfl; rfl; rfl; rfl; rfl; exact zav rfl) | ((first | apply zcm | apply zbk); rfl; rfl; rfl; rfl; rfl; exact zav rfl; exact zat rfl; (first | assumption | exact zq0 | rfl | exact (Int.toNat_of_nonneg (by omega)).symm); omega) | (apply zdL; rfl; rfl; rfl; rfl; rfl; (unfold fit; omega)) | (((apply zbz; rfl; rfl; rfl; rfl; exact zaI rfl; exact zaX (by decide +kernel)); (focus repeat' first | assumption | (apply Ext.get; assumption)); (first | exact zah (by omega) | rfl | assumption)); (first | assumption | exact zan _ _ | rfl | (focus simp [same, same.all2]; done)); (first | rfl | assumption | exact hwv _ | (simp [within]; omega))) | fail))
  refine zbB (fun k : Nat => [(8, .int .i64 (k : Nat)), (7, .int .i64 (aftK l row k)), (6, .int .i64 (befK l row k)), (1, .int .i64 row), (0, .slice (some ⟨b, 0, none⟩) l.length cap)])
    (fun k h' => k ≤ l.length ∧ Ext h h') (fun k => l.length - k) ?_ 0 ⟨Nat.zero_le _, by (focus repeat' first | exact Ext.refl _ | assumption)⟩ ?_
  · intro k h' ⟨hk, hx⟩ ih
    have hg' := hx.get hg
    by_cases hlt : k < l.length
    · have ea : aftK l row (k + 1) = if row ≤ l.getD k 0 then min (aftK l row k) (l.getD k 0) else aftK l row k := rfl
      have eb : befK l row (k + 1) = if l.getD k 0 ≤ row then max (befK l row k) (l.getD k 0) else befK l row k := rfl
      by_cases c1 : l.getD k 0 ≤ row
      · by_cases c2 : row ≤ l.getD k 0
        · rw [if_pos c2] at ea; rw [if_pos c1] at eb
          (repeat' (first | apply zam | apply zad | (apply O_at; rfl) | (apply zai; rfl) | apply zaj | (apply zaS; rfl) | apply zay | apply zaz | apply zaK | ((first | apply zae | apply zac | apply zaJ | apply za7); rfl; rfl; rfl; rfl) | ((first | apply zbb | apply zcG); rfl; rfl; rfl; rfl; rfl; rfl; exact zav rfl) | (apply za9; rfl; rfl; rfl; rfl; rfl; omega) | (apply ziC; rfl; rfl; rfl; rfl; rfl; omega) | (apply zeE; rfl; rfl; rfl; rfl; rfl; omega) | (apply zbx; rfl; rfl; rfl; rfl; rfl; (unfold fit; omega)) | ((first | apply zcm | apply zbk); rfl; rfl; rfl; rfl; rfl; exact zav rfl; exact zat rfl; (first | assumption | exact zq0 | rfl | exact (Int.toNat_of_nonneg (by omega)).symm); omega) | (apply zaG; rfl; rfl; rfl; rfl; exact zaI rfl; (focus repeat' first | assumption | (apply Ext.get; assumption)); (first | exact zah (by omega) | rfl | assumption)) | (apply P_min; rfl; rfl; rfl; rfl; rfl; rfl) | (apply P_max; rfl; rfl; rfl; rfl; rfl; rfl) | fail))
          exact zbi (ih (k + 1) _ (by omega) ⟨hlt, by (focus repeat' first | exact Ext.refl _ | assumption)⟩) (by rw [ea, eb]; (focus repeat' first | rfl | exact trivial | apply And.intro))
        · rw [if_neg c2] at ea; rw [if_pos c1] at eb
          (repeat' (first | apply zam | apply zad | (apply O_at; rfl) | (apply zai; rfl) | apply zaj | (apply zaS; rfl) | (apply zaV; rfl) | apply zay | apply zaz | apply zaK | ((first | apply zae | apply zac | apply zaJ | apply za7); rfl; rfl; rfl; rfl) | ((first | apply zbb | apply zcG); rfl; rfl; rfl; rfl; rfl; rfl; exact zav rfl) | (apply za9; rfl; rfl; rfl; rfl; rfl; omega) | (apply ziC; rfl; rfl; rfl; rfl; rfl; omega) | (apply zfc; rfl; rfl; rfl; rfl; rfl; omega) | (apply zbx; rfl; rfl; rfl; rfl; rfl; (unfold fit; omega)) | ((first | apply zcm | apply zbk); rfl; rfl; rfl; rfl; rfl; exact zav rfl; exact zat rfl; (first | assumption | exact zq0 | rfl | exact (Int.toNat_of_nonneg (by omega)).symm); omega) | (apply zaG; rfl; rfl; rfl; rfl; exact zaI rfl; (focus repeat' first | assumption | (apply Ext.get; assumption)); (first | exact zah (by omega) | rfl | assumption)) | (apply P_max; rfl; rfl; rfl; rfl; rfl; rfl) | fail))
          exact zbi (ih (k + 1) _ (by omega) ⟨hlt, by (focus repeat' first | exact Ext.refl _ | assumption)⟩) (by rw [ea, eb]; (focus repeat' first | rfl | exact trivial | apply And.intro))
      · rw [if_pos (by omega)] at ea; rw [if_neg c1] at eb
        (repeat' (first | apply zam | apply zad | (apply O_at; rfl) | (apply zai; rfl) | apply zaj | (apply zaS; rfl) | (apply zaV; rfl) | apply zay | apply zaz | apply zaK | ((first | apply zae | apply zac | apply zaJ | apply za7); rfl; rfl; rfl; rfl) | ((first | apply zbb | apply zcG); rfl; rfl; rfl; rfl; rfl; rfl; exact zav rfl) | (apply za9; rfl; rfl; rfl; rfl; rfl; omega) | (apply zk2; rfl; rfl; rfl; rfl; rfl; omega) | (apply zeE; rfl; rfl; rfl; rfl; rfl; omega) | (apply zbx; rfl; rfl; rfl; rfl; rfl; (unfold fit; omega)) | ((first | apply zcm | apply zbk); rfl; rfl; rfl; rfl; rfl; exact zav rfl; exact zat rfl; (first | assumption | exact zq0 | rfl | exact (Int.toNat_of_nonneg (by omega)).symm); omega) | (apply zaG; rfl; rfl; rfl; rfl; exact zaI rfl; (focus repeat' first | assumption | (apply Ext.get; assumption)); (first | exact zah (by omega) | rfl | assumption)) | (apply P_min; rfl; rfl; rfl; rfl; rfl; rfl) | fail))
        exact zbi (ih (k + 1) _ (by omega) ⟨hlt, by (focus repeat' first | exact Ext.refl _ | assumption)⟩) (by rw [ea, eb]; (focus repeat' first | rfl | exact trivial | apply And.intro))
    · obtain rfl : k = l.length := by omega
      (repeat' (first | apply zam | apply zad | (apply O_at; rfl) | (apply zai; rfl) | apply zaj | (apply zaV; rfl) | apply zbf | apply zaA | apply zbg | apply zaT | apply zaU | apply zaB | ((first | apply zae | apply zac | apply zaJ | apply za7); rfl; rfl; rfl; rfl) | ((first | apply zbb | apply zcG); rfl; rfl; rfl; rfl; rfl; rfl; exact zav rfl) | (apply zbw; rfl; rfl; rfl; rfl; rfl; omega) | fail))
      exact ⟨.inr rfl, _, rfl, rfl, by (focus repeat' first | exact Ext.refl _ | assumption)⟩
  · (focus repeat' first | rfl | exact trivial | apply And.intro)
end Go.AX.Sa

namespace Go.AX.Sa
open Go.Proofs
set_option maxRecDepth 100000
variable {K : Known}
/-! The figures of all rows. -/
theorem getD_set {l : List Int} {k j : Nat} {n : Int} (h : k < l.length) : (l.set k n).getD j 0 = if j = k then n else l.getD j 0 := by
  simp only [List.getD_eq_getElem?_getD, List.getElem?_set]
  by_cases hj : k = j
  · subst hj; simp [h]
  · rw [if_neg hj, if_neg (fun q => hj q.symm)]
theorem list_eq {a b : List Int} (hl : a.length = b.length) (h : ∀ j, j < a.length → a.getD j 0 = b.getD j 0) : a = b := by
  apply List.ext_getElem hl
  intro j h1 h2
  have := h j h1
  simpa [List.getD_eq_getElem?_getD, h1, h2] using this
/-- slices.Clone of a list that is not empty. -/
theorem clone_ok (hK : NoK K) {t : List Int} {q : Option Addr} {cap : Nat} {h : Heap} (hp : 0 < t.length) (hl : t.length ≤ 1000) (hr : Rd h q (ints t)) :
    CallW Tryz.prog K 103 #[.slice q t.length cap] h fun v h1 => Ext h h1 ∧ ∃ b, v = .slice (some ⟨b, 0, none⟩) t.length unk ∧ h1.get? b = some (.cells (ints t) 3 true) ∧ h.n ≤ b := by
  obtain ⟨b, e, own, rfl, hg⟩ := hr.at (by rw [zas]; omega)
  refine body (N := 8) Tryz.func103 rfl (hK _ _ _ rfl) rfl rfl ?_
  (repeat' (first | apply zam | apply zad | (apply O_at; rfl) | (apply zai; rfl) | apply zaj | (apply zaV; rfl) | apply zaz | apply zaA | apply zaB | ((first | apply zae | apply zac); rfl; rfl; rfl; rfl) | (apply zdI; rfl; rfl; rfl; rfl; rfl; exact zav rfl) | (apply P_build0; rfl; rfl; rfl; rfl; exact c1_ok rfl) | (apply zdh; rfl; rfl; rfl; rfl; rfl; rfl; (apply app_full; rfl; rfl; exact c1_ok rfl; exact zav rfl; (focus repeat' first | exact zaa | assumption | apply zab); (first | rfl | exact zas _); (first | decide | omega); (first | decide | omega); (first | rfl | exact ints_one _); (focus repeat' first | exact zaa | assumption | apply zab); (first | rfl | exact zas _); omega; omega)) | fail))
  refine ⟨.inr rfl, _, rfl, ?_, (h.push (.cells [] 3 true)).n, ?_, ?_, ?_⟩
  · (focus repeat' first | exact Ext.refl _ | assumption | apply Ext.push)
  · simp [resV]
  · exact zaa
  · exact Nat.le_succ _


theorem zcV {s : List (Int × Int)} {t : List Int} (hV : Vals s) (hT : TruthP s t) {j : Nat} (hj : j < s.length) : -10000 ≤ t.getD j 0 ∧ t.getD j 0 ≤ 10000 := by
  have h1 := hV j hj
  have h2 := hT.2 j (by rw [hT.1]; exact hj)
  unfold ValP at h1
  omega
set_option maxHeartbeats 2000000 in
theorem zjg (hK : NoK K) {T : Tb} {l t : List Int} {b bt cap ct : Nat} {e et : TypeId} {own ownt : Bool} {h : Heap} (hP : TbP T) (hKp : KeptP T.s.length l) (hT : TruthP T.s t) (hcap : l.length ≤ cap) (hll : l.length ≤ 1000)
    (hg : h.get? b = some (.cells (ints l) e own)) (hgt : h.get? bt = some (.cells (ints t) et ownt)) :
    CallW Tryz.prog K 65 #[ktV T (some ⟨b, 0, none⟩) l.length cap, .slice (some ⟨bt, 0, none⟩) t.length ct] h (IsL (figs l t T.r T.s.length) h) := by
  obtain ⟨q, kq, s, r, o⟩ := T
  dsimp only at hP hKp hT ⊢
  have htl := hT.1
  have hn := hP.1
  dsimp only at hn
  have hr := hP.2.2.1
  have hG := hKp.2.2.2
  have hl2 := hKp.1
  have h0 := hKp.2.1
  have h1 := hKp.2.2.1
  have hbd : ∀ j, j < s.length → -10000 ≤ t.getD j 0 ∧ t.getD j 0 ≤ 10000 := fun j hj => zcV hP.2.1 hT hj
  have hlk : ∀ i, i < l.length → 0 ≤ l.getD i 0 ∧ l.getD i 0 ≤ (s.length : Int) - 1 := fun i hi => by
    have a := keptLe hG (Nat.zero_le i) hi
    have c := keptLe hG (show i ≤ l.length - 1 by omega) (by omega)
    omega
  have hb0 := Heap.get_lt hg
  have hbt0 := Heap.get_lt hgt
  refine body (N := 48) Tryz.func65 rfl (hK _ _ _ rfl) rfl rfl ?_
  (repeat' (first | apply zam | apply zad | (apply O_at; rfl) | (apply zai; rfl) | apply zaj | ((first | apply zae | apply zac | apply zaJ); rfl; rfl; rfl; rfl) | (apply za4; rfl; rfl; rfl; rfl; exact zat rfl; rfl; rfl) | fail))
  apply zaf; rfl; rfl; rfl; rfl; rfl; rfl
  exact clone_ok hK (by omega) (by omega) (.inr ⟨_, _, _, rfl, zab hgt⟩)
  rintro _ h2 ⟨x2, bc, rfl, gc, hbc⟩
  have hk2 : h2.get? h.n = some (.cells [.slice q s.length kq, .int .i64 r, .int .i64 o, .slice (some ⟨b, 0, none⟩) l.length cap] 82 true) := x2.get zaa
  have hg2 := x2.get (zab hg)
  have hgt2 := x2.get (zab hgt)
  (repeat' (first | apply zam | apply zad | (apply O_at; rfl) | (apply zai; rfl) | apply zaj | ((first | apply zae | apply zac | apply zaJ); rfl; rfl; rfl; rfl) | (apply zaP; rfl; rfl; rfl; rfl; exact za1 rfl; (focus repeat' first | exact zaa | assumption | apply zab | (apply Ext.get; assumption) | (apply ExtBut.get; assumption; (first | assumption | omega | (simp only [Heap.push]; omega)))); (first | exact Nat.le_of_ble_eq_true rfl | (simp; done) | (simp; omega) | (rw [zal]; omega)); (first | exact zaH (by omega) | rfl)) | fail))
  apply zaf; rfl; rfl; rfl; rfl; rfl; rfl
  exact pairs_ok (T := ⟨q, kq, s, r, o⟩) hK ⟨hl2, hll⟩ hcap hg2
  rintro _ h3 ⟨pp, cp, rfl, rp, fp, x3⟩
  have hpl := zhj l (l.length - 1)
  obtain ⟨bp, ep, ownp, rfl, gp⟩ := rp.at (by rw [zal]; omega)
  have gc3 := x3.get gc
  have hk3 := x3.get hk2
  have hgt3 := x3.get hgt2
  have hbp := Heap.get_lt gp
  have hn3 := Heap.get_lt gc3
  have hn2 := Heap.get_lt gc
  have fp' := fp _ rfl
  dsimp only at fp'
  simp only [Heap.push] at hbc
  rw [hpl]
  (repeat' (first | (apply O_at; rfl) | (apply zai; rfl) | apply zaj | apply zay | ((first | apply zae | apply zac | apply zaJ); rfl; rfl; rfl; rfl) | (apply zbb; rfl; rfl; rfl; rfl; rfl; rfl; exact zav rfl) | fail))
  refine zbB (fun a : Nat × List Int => [(14, .int .i64 (a.1 : Nat)), (13, .int .i64 ((l.length - 1 : Nat) : Int)), (12, .slice (some ⟨bp, 0, none⟩) (l.length - 1) cp), (5, .slice (some ⟨bc, 0, none⟩) t.length unk), (2, .pointer (some ⟨h.n, 0, none⟩)), (1, .slice (some ⟨bt, 0, none⟩) t.length ct)])
    (fun a h' => a.1 ≤ l.length - 1 ∧ ExtBut bc h3 h' ∧ h'.get? bc = some (.cells (ints a.2) 3 true) ∧ a.2.length = t.length ∧ ∀ j, j < t.length → a.2.getD j 0 = if ((j : Nat) : Int) < l.getD a.1 0 then figv l t r j else t.getD j 0) (fun a => l.length - 1 - a.1) ?_ (0, t) ?_ ?_
  · rintro ⟨i, F⟩ h' ⟨hi, hx, hb, hF, hj⟩ ih
    dsimp only at hi hb hF hj ih ⊢
    have hne : bp ≠ bc := by omega
    have hne2 : h.n ≠ bc := by omega
    have hne3 : bt ≠ bc := by omega
    have gp' := hx.get hne gp
    have hk' := hx.get hne2 hk3
    have hgt' := hx.get hne3 hgt3
    by_cases hlt : i < l.length - 1
    · have hpi : i < (prs l (l.length - 1)).length := by omega
      have hpg := prs_get (l := l) (k := l.length - 1) hlt
      have a1 := hlk i (by omega)
      have a2 := hlk (i + 1) (by omega)
      have a3 := hG i (by omega)
      have e1 : ((prs l (l.length - 1)).getD i (0, 0)).1 = l.getD i 0 := by rw [hpg]
      have e2 : ((prs l (l.length - 1)).getD i (0, 0)).2 = l.getD (i + 1) 0 := by rw [hpg]
      obtain ⟨A, hA⟩ : ∃ A : Nat, l.getD i 0 = (A : Nat) := ⟨(l.getD i 0).toNat, by omega⟩
      obtain ⟨C, hC⟩ : ∃ C : Nat, l.getD (i + 1) 0 = (C : Nat) := ⟨(l.getD (i + 1) 0).toNat, by omega⟩
      have hn' := hx.n
      (repeat' (first | apply zam | apply zad | (apply O_at; rfl) | (apply zai; rfl) | apply zaj | (apply zaS; rfl) | apply zay | apply zaz | ((first | apply zae | apply zac | apply zaJ); rfl; rfl; rfl; rfl) | ((first | apply P_fa | apply M_fa); rfl; rfl; rfl; rfl; exact zbd rfl; (first | exact Nat.zero_add _ | exact Nat.add_zero _ | rfl)) | (apply za9; rfl; rfl; rfl; rfl; rfl; omega) | (apply zbx; rfl; rfl; rfl; rfl; rfl; (unfold fit; omega)) | (apply ziD; rfl; rfl; rfl; rfl; rfl; exact zav rfl; exact zat rfl; (first | assumption | rfl | exact (Int.toNat_of_nonneg (by omega)).symm); omega) | (apply zaG; rfl; rfl; rfl; rfl; exact zaI rfl; (focus repeat' first | exact zaa | assumption | apply zab | (apply Ext.get; assumption) | (apply ExtBut.get; assumption; (first | assumption | omega | (simp only [Heap.push]; omega)))); (first | exact zah (by omega) | rfl | assumption)) | (apply zaP; rfl; rfl; rfl; rfl; exact za1 rfl; (focus repeat' first | exact zaa | assumption | apply zab | (apply Ext.get; assumption) | (apply ExtBut.get; assumption; (first | assumption | omega | (simp only [Heap.push]; omega)))); (first | exact Nat.le_of_ble_eq_true rfl | (simp; done) | (simp; omega) | (rw [zal]; omega)); (first | exact zaH (by omega) | rfl)) | (apply zbV; rfl; rfl; rfl; rfl; exact zat rfl; rfl; rfl; rfl) | (apply zdu; rfl; rfl; rfl; rfl; exact zat rfl; rfl; rfl) | fail))
      simp only [e1, e2, hA, hC]
      refine zbB (fun a : Nat × List Int => [(8, .int .i64 (a.1 : Nat)), (14, .int .i64 (i : Nat)), (13, .int .i64 ((l.length - 1 : Nat) : Int)), (12, .slice (some ⟨bp, 0, none⟩) (l.length - 1) cp), (7, .pointer (some ⟨h'.n, 0, none⟩)), (5, .slice (some ⟨bc, 0, none⟩) t.length unk), (2, .pointer (some ⟨h.n, 0, none⟩)), (1, .slice (some ⟨bt, 0, none⟩) t.length ct)])
        (fun a g => A + 1 ≤ a.1 ∧ a.1 ≤ C ∧ ExtBut bc (h'.push (.cells [.int .i64 (A : Nat), .int .i64 (C : Nat)] 123 true)) g ∧ g.get? bc = some (.cells (ints a.2) 3 true) ∧ a.2.length = t.length ∧ ∀ j, j < t.length → a.2.getD j 0 = if j < a.1 then figv l t r j else t.getD j 0) (fun a => C - a.1) ?_ (A + 1, F) ?_ ?_
      · rintro ⟨row, G⟩ g ⟨hr1, hr2, hxg, hbg, hGl, hGj⟩ ih2
        dsimp only at hr1 hr2 hbg hGl hGj ih2 ⊢
        have q1 : g.get? h'.n = some (.cells [.int .i64 (A : Nat), .int .i64 (C : Nat)] 123 true) := hxg.get (by omega) zaa
        have q2 := hxg.get hne2 (zab hk')
        have q3 := hxg.get hne3 (zab hgt')
        by_cases hrow : row < C
        · have hm := zfG (l := l) (t := t) (r := r) (i := i) (j := row) hG (by omega) (by omega) (by omega)
          rw [hA, hC, Int.toNat_natCast, Int.toNat_natCast] at hm
          have hA1 := hbd A (by omega)
          have hC1 := hbd C (by omega)
          have hlr : row < G.length := by omega
          (repeat' (first | apply zam | apply zad | (apply O_at; rfl) | (apply N_at; rfl) | (apply zai; rfl) | apply zaj | (apply zaS; rfl) | (apply zbc; exact zaF (by decide +kernel)) | apply zay | apply zaz | (apply zbA; rfl; refine .inr ?_; (focus repeat' first | exact trivial | exact Keeps.nil _ _ | apply And.intro | rfl | (apply Keeps.cons; iterate 2 (focus repeat' first | exact zaa | assumption | apply zab | (apply Ext.get; assumption) | (apply ExtBut.get; assumption; (first | assumption | omega | (simp only [Heap.push]; omega))))))) | apply zaK | ((first | apply zae | apply zac | apply zaJ); rfl; rfl; rfl; rfl) | ((first | apply P_fa | apply M_fa); rfl; rfl; rfl; rfl; exact zbd rfl; (first | exact Nat.zero_add _ | exact Nat.add_zero _ | rfl)) | (apply za9; rfl; rfl; rfl; rfl; rfl; omega) | (apply zbx; rfl; rfl; rfl; rfl; rfl; (unfold fit; omega)) | (apply zaG; rfl; rfl; rfl; rfl; exact zaI rfl; (focus repeat' first | exact zaa | assumption | apply zab | (apply Ext.get; assumption) | (apply ExtBut.get; assumption; (first | assumption | omega | (simp only [Heap.push]; omega)))); (first | exact zah (by omega) | rfl | assumption)) | (apply zbk; rfl; rfl; rfl; rfl; rfl; exact zav rfl; exact zat rfl; (first | assumption | rfl | exact (Int.toNat_of_nonneg (by omega)).symm); omega) | ((first | ((apply zbo; rfl; rfl; rfl; rfl; exact zaI rfl); (focus repeat' first | exact zaa | assumption | apply zab | (apply Ext.get; assumption) | (apply ExtBut.get; assumption; (first | assumption | omega | (simp only [Heap.push]; omega)))); (first | exact zah (by omega) | rfl | assumption)) | ((apply zbJ; rfl; rfl; rfl; rfl; exact za1 rfl); (focus repeat' first | exact zaa | assumption | apply zab | (apply Ext.get; assumption) | (apply ExtBut.get; assumption; (first | assumption | omega | (simp only [Heap.push]; omega)))); (first | exact Nat.le_of_ble_eq_true rfl | (simp; done) | (simp; omega) | (rw [zal]; omega)); (first | exact zaH (by omega) | rfl))); (first | assumption | exact zan _ _ | exact zaE _ _ | rfl | (focus simp [same, same.all2]; done)); (first | rfl | assumption | exact hwv _ | (simp [within]; omega))) | (apply M_storeI; rfl; rfl; rfl; rfl; (focus repeat' first | exact zaa | assumption | apply zab | (apply Ext.get; assumption) | (apply ExtBut.get; assumption; (first | assumption | omega | (simp only [Heap.push]; omega)))); exact zat rfl; (first | omega | (focus simp; done)); rfl; (intro _ _ _)) | ((first | (apply zaf; rfl; rfl; rfl; rfl; rfl; rfl) | (apply zbl; rfl; rfl; rfl; rfl; rfl; rfl; rfl)); exact zjs hK hA1 hC1 (by omega) (by omega) (by omega) (by omega) (by omega) hr; (rintro _ _ ⟨rfl, _⟩)) | fail))
          rename_i g1 xg1 g2 qg2 xg2
          rw [← hm] at qg2
          refine zbi (ih2 (row + 1, G.set row (figv l t r row)) _ (by dsimp only; omega) ⟨by dsimp only; omega, by dsimp only; omega, (hxg.trans (Ext.but xg1 _)).trans xg2, qg2, by simpa using hGl, fun j hj' => ?_⟩) (by (focus repeat' first | rfl | exact trivial | apply And.intro))
          dsimp only
          rw [getD_set hlr]
          by_cases w : j = row
          · subst w; rw [if_pos rfl, if_pos (by omega)]
          · rw [if_neg w, hGj j hj']
            by_cases w2 : j < row
            · rw [if_pos w2, if_pos (by omega)]
            · rw [if_neg w2, if_neg (by omega)]
        · have : row = C := by omega
          subst this
          (repeat' (first | apply zam | apply zad | (apply O_at; rfl) | (apply zai; rfl) | apply zaj | (apply zaV; rfl) | apply zbf | apply zbg | apply zaT | apply zaU | apply zaK | ((first | apply zae | apply zac | apply zaJ); rfl; rfl; rfl; rfl) | ((first | apply P_fa | apply M_fa); rfl; rfl; rfl; rfl; exact zbd rfl; (first | exact Nat.zero_add _ | exact Nat.add_zero _ | rfl)) | (apply zbw; rfl; rfl; rfl; rfl; rfl; omega) | (apply zbx; rfl; rfl; rfl; rfl; rfl; (unfold fit; omega)) | (apply zaG; rfl; rfl; rfl; rfl; exact zaI rfl; (focus repeat' first | exact zaa | assumption | apply zab | (apply Ext.get; assumption) | (apply ExtBut.get; assumption; (first | assumption | omega | (simp only [Heap.push]; omega)))); (first | exact zah (by omega) | rfl | assumption)) | fail))
          refine zbi (ih (i + 1, G) _ (by dsimp only; omega) ⟨by dsimp only; omega, (hx.trans (Ext.but (Ext.push (Ext.refl _) _) _)).trans hxg, hbg, hGl, fun j hj' => ?_⟩) (by (focus repeat' first | rfl | exact trivial | apply And.intro))
          dsimp only
          rw [hGj j hj', hC]
          by_cases w : j < row
          · rw [if_pos w, if_pos (by omega)]
          · rw [if_neg w, if_neg (by omega)]
      · refine ⟨Nat.le_refl _, by omega, ExtBut.refl _ _, zab hb, hF, fun j hj' => ?_⟩
        dsimp only
        rw [hj j hj', hA]
        by_cases w : j < A
        · rw [if_pos (by omega), if_pos (by omega)]
        · by_cases w2 : j = A
          · subst w2
            rw [if_neg (by omega), if_pos (by omega), zc6 hG (by omega) hA]
          · rw [if_neg (by omega), if_neg (by omega)]
      · (focus repeat' first | rfl | exact trivial | apply And.intro)
    · have : i = l.length - 1 := by omega
      subst this
      (repeat' (first | apply zam | apply zad | (apply O_at; rfl) | (apply zai; rfl) | apply zaj | (apply zaV; rfl) | apply zbf | apply zaA | apply zbg | apply zaT | apply zaU | apply zaB | ((first | apply zae | apply zac | apply zaJ); rfl; rfl; rfl; rfl) | (apply zbw; rfl; rfl; rfl; rfl; rfl; omega) | fail))
      have hfin : F = figs l t r s.length := by
        refine list_eq (by rw [hF, zc7, htl]) fun j hj' => ?_
        rw [hj j (by omega), zfH (by omega)]
        by_cases w : ((j : Nat) : Int) < l.getD (l.length - 1) 0
        · rw [if_pos w]
        · rw [if_neg w, zc6 hG (show l.length - 1 < l.length by omega) (by omega)]
      refine ⟨.inr rfl, _, rfl, some ⟨bc, 0, none⟩, unk, ?_, .inr ⟨_, _, _, rfl, hfin ▸ hb⟩, ?_⟩
      · rw [zc7, ← htl]; rfl
      · exact Ext.ofBut (((Ext.push (Ext.refl h) _).trans x2).trans x3) hx (by omega)
  · exact ⟨Nat.zero_le _, ExtBut.refl _ _, gc3, rfl, fun j hj => by dsimp only; rw [h0, if_neg (by omega)]⟩
  · (focus repeat' first | rfl | exact trivial | apply And.intro)
end Go.AX.Sa
