/- The law ProofTwo at the reading: what the functions that it calls answer (3). -/
import Derived.Test.YtliligceejfakaaGreatDoorProofTwoTextB
namespace Go.AX.Sa
open Go.Proofs
set_option maxRecDepth 100000
variable {K : Known}
/-! Whether the page passes. -/
theorem fill149 : fillB Tryz.prog 149 [] = some (.agg #[]) := by kernel_rfl
def fewV : Value := .iface 149 (.agg #[])
def fewCh : List PanicEntry := [⟨fewV, false, false⟩]
theorem zhY : assertB Tryz.prog .nilIface 149 true = some (.tuple #[.agg #[], .bool false]) := by kernel_rfl
theorem assertF : assertB Tryz.prog fewV 149 true = some (.tuple #[.agg #[], .bool true]) := by kernel_rfl
theorem few_fin {b : Nat} {v : Value} {h : Heap} (_hg : h.get? b = some (.cells [v] 4 true)) :
    ∃ h1, CallD Tryz.prog K 111 #[.pointer (some ⟨b, 0, none⟩)] .returning h .returning h1 ∧ Ext h h1 := by
  apply bodyD (u := .returning) (N := 9) Tryz.func111; rfl; rfl; rfl; rfl; rfl; rfl; rfl
  show R1 _ _ _ _ _ _ _ ((4, .nilIface) :: _) _
  (repeat' (first | (apply O_at; rfl) | fail))
  apply ziO; rfl; rfl; rfl; rfl; exact zhY
  (repeat' (first | apply zan | apply zac | (apply O_at; rfl) | (apply zag; rfl) | apply zah | (apply zaG; rfl) | apply zav | apply zar | ((first | apply zae | apply zad); rfl; rfl; rfl; rfl) | (apply zbK; rfl; rfl; rfl; rfl; rfl) | (apply zaL; rfl; rfl; rfl; rfl; exact zak rfl; rfl; rfl; rfl) | (apply zbi; rfl; rfl; rfl; rfl; exact zak rfl; rfl; rfl) | fail))
  exact ⟨.inl rfl, by (focus repeat' first | exact Ext.refl _ | assumption | apply Ext.push)⟩
theorem few_pan {b : Nat} {v : Value} {h : Heap} (hg : h.get? b = some (.cells [v] 4 true)) {h0 : Heap} (hx : Ext h0 h) (hb : h0.n ≤ b) :
    ∃ h1, CallD Tryz.prog K 111 #[.pointer (some ⟨b, 0, none⟩)] (.panicking fewCh) h (.panicking [⟨fewV, true, false⟩]) h1 ∧ (h1.get? b = some (.cells [.bool false] 4 true) ∧ Ext h0 h1) := by
  apply bodyD (u := .panicking fewCh) (N := 9) Tryz.func111; rfl; rfl; rfl; rfl; rfl; rfl; rfl
  show R1 _ _ _ _ _ _ _ ((4, fewV) :: _) _
  (repeat' (first | (apply O_at; rfl) | fail))
  apply ziO; rfl; rfl; rfl; rfl; exact assertF
  (repeat' (first | apply zan | apply zac | (apply O_at; rfl) | (apply zag; rfl) | apply zah | (apply zbc; rfl) | apply zar | ((first | apply zae | apply zad); rfl; rfl; rfl; rfl) | (apply zbK; rfl; rfl; rfl; rfl; rfl) | (apply zaL; rfl; rfl; rfl; rfl; exact zak rfl; rfl; rfl; rfl) | (apply zbi; rfl; rfl; rfl; rfl; exact zak rfl; rfl; rfl) | (apply zfT; rfl; rfl; rfl; rfl; (focus repeat' first | assumption | apply zab); exact zak rfl; rfl; (first | rfl | exact zaj _); rfl; (intro _ _ _)) | fail))
  rename_i h1 g1 x1
  exact ⟨.inl rfl, g1, Ext.ofBut (by (focus repeat' first | assumption | apply Ext.push | (refine Ext.ofBut ?_ (by assumption) (by first | exact Nat.le_refl _ | omega)))) x1 hb⟩
def AllP (G : Pg) (L : List Ent) : Prop := ∀ j, j < G.n → PassP G L j
theorem zgu (hK : NoK K) {G : Pg} {L : List Ent} {s bn bs r : Nat} {h : Heap} (hS : StL G L s bn bs r h) (hp : 2 ≤ G.people ∧ G.people ≤ 6) (hn : G.n ≤ 1000) (hA : AllP G L) :
    CallW Tryz.prog K 112 #[.pointer (some ⟨s, 0, none⟩)] h (fun _ h1 => Ext h h1) := by
  have hS' := hS
  obtain ⟨f, ⟨box, nums, sets, hrd, nl, sl⟩, hf⟩ := hS
  refine body (N := 19) Tryz.func112 rfl (hK _ _ _ rfl) rfl rfl ?_
  unfold stC at box
  (repeat' (first | apply zan | apply zac | (apply O_at; rfl) | (apply zag; rfl) | apply zah | apply zaq | ((first | apply zae | apply zad | apply zbm); rfl; rfl; rfl; rfl) | (apply P_fa; rfl; rfl; rfl; rfl; exact zaw rfl; (first | exact Nat.zero_add _ | exact Nat.add_zero _ | rfl)) | (apply zbe; rfl; rfl; rfl; rfl; rfl; rfl; exact zau rfl) | (apply zam; rfl; rfl; rfl; rfl; exact zas rfl; (focus repeat' first | assumption); (first | rfl | assumption)) | (apply zeC; rfl; rfl; rfl; rfl) | fail))
  refine zbb (fun k : Nat => [(9, .int .i64 (k : Nat)), (8, .int .i64 (G.n : Nat)), (0, .pointer (some ⟨s, 0, none⟩))])
    (fun k h' => k ≤ G.n ∧ Ext h h') (fun k => G.n - k) ?_ 0 ?_ ?_
  · rintro k h' ⟨hk, hx⟩ ih
    by_cases hlt : k < G.n
    · (repeat' (first | apply zan | apply zac | (apply O_at; rfl) | (apply zag; rfl) | apply zah | (apply zbc; rfl) | (apply zaG; rfl) | apply zaq | apply zav | apply zaN | ((first | apply zae | apply zad | apply zbm); rfl; rfl; rfl; rfl) | (apply zbq; rfl; rfl; rfl; rfl; rfl; omega) | (apply zcb; rfl; rfl; rfl; rfl; rfl; (unfold fit; omega)) | (apply zaf; rfl; rfl; rfl; rfl; rfl; rfl; exact yes (zea hK (hS'.ext (by (focus repeat' first | exact Ext.refl _ | assumption | (refine Ext.trans ?_ (by assumption))))) hp hlt hn) (hA k hlt); (rintro _ _ ⟨rfl, _⟩)) | fail))
      exact za1 (ih (k + 1) _ (by omega) ⟨hlt, by (focus repeat' first | exact Ext.refl _ | assumption | (refine Ext.trans ?_ (by assumption)))⟩) (by (focus repeat' first | rfl | exact trivial | apply And.intro))
    · (repeat' (first | apply zan | apply zac | (apply O_at; rfl) | (apply zag; rfl) | apply zah | (apply zaG; rfl) | apply zbk | apply zbl | apply za5 | apply za6 | apply zar | (apply zbE; rfl; rfl; rfl; rfl; rfl; omega) | fail))
      exact ⟨.inl rfl, _, rfl, hx⟩
  · exact ⟨Nat.zero_le _, Ext.refl _⟩
  · (focus repeat' first | rfl | exact trivial | apply And.intro)
theorem zhz (hK : NoK K) {G : Pg} {L : List Ent} {s bn bs r : Nat} {h : Heap} (hS : StL G L s bn bs r h) (hp : 2 ≤ G.people ∧ G.people ≤ 6) (hn : G.n ≤ 1000) (hA : ¬ AllP G L) :
    CallP Tryz.prog K 112 #[.pointer (some ⟨s, 0, none⟩)] h fewCh (Ext h) := by
  have hS' := hS
  obtain ⟨f, ⟨box, nums, sets, hrd, nl, sl⟩, hf⟩ := hS
  refine bodyP (N := 19) Tryz.func112 rfl (hK _ _ _ rfl) rfl rfl ?_
  unfold stC at box
  (repeat' (first | apply zan | apply zac | (apply O_at; rfl) | (apply zag; rfl) | apply zah | apply zaq | ((first | apply zae | apply zad | apply zbm); rfl; rfl; rfl; rfl) | (apply P_fa; rfl; rfl; rfl; rfl; exact zaw rfl; (first | exact Nat.zero_add _ | exact Nat.add_zero _ | rfl)) | (apply zbe; rfl; rfl; rfl; rfl; rfl; rfl; exact zau rfl) | (apply zam; rfl; rfl; rfl; rfl; exact zas rfl; (focus repeat' first | assumption); (first | rfl | assumption)) | (apply zeC; rfl; rfl; rfl; rfl) | fail))
  refine zbb (fun k : Nat => [(9, .int .i64 (k : Nat)), (8, .int .i64 (G.n : Nat)), (0, .pointer (some ⟨s, 0, none⟩))])
    (fun k h' => k ≤ G.n ∧ Ext h h' ∧ ∀ j, j < k → PassP G L j) (fun k => G.n - k) ?_ 0 ?_ ?_
  · rintro k h' ⟨hk, hx, hj⟩ ih
    by_cases hlt : k < G.n
    · (repeat' (first | apply zan | apply zac | (apply O_at; rfl) | (apply zag; rfl) | apply zah | (apply zbc; rfl) | (apply zaG; rfl) | apply zaq | apply zav | apply zaN | ((first | apply zae | apply zad | apply zbm); rfl; rfl; rfl; rfl) | (apply zbq; rfl; rfl; rfl; rfl; rfl; omega) | (apply zcb; rfl; rfl; rfl; rfl; rfl; (unfold fit; omega)) | (apply zaf; rfl; rfl; rfl; rfl; rfl; rfl; exact zea hK (hS'.ext (by (focus repeat' first | exact Ext.refl _ | assumption | (refine Ext.trans ?_ (by assumption))))) hp hlt hn; (rintro _ _ (⟨rfl, _, _⟩ | ⟨rfl, _, _⟩))) | fail))
      · rename_i w x2
        refine za1 (ih (k + 1) _ (by omega) ⟨hlt, by (focus repeat' first | exact Ext.refl _ | assumption | (refine Ext.trans ?_ (by assumption))), fun j hj' => ?_⟩) (by (focus repeat' first | rfl | exact trivial | apply And.intro))
        by_cases hjk : j = k
        · subst hjk; exact w
        · exact hj j (by omega)
      · apply zdo; rfl; rfl; rfl; rfl; exact fill149
        (repeat' (first | (apply O_at; rfl) | fail))
        apply P_iface; rfl; rfl; rfl; rfl; kernel_rfl
        (repeat' (first | (apply O_at; rfl) | fail))
        apply P_panic; rfl; rfl; rfl
        repeat' first | apply C_panS | apply C_panL | apply C_panB
        refine zar ⟨rfl, ?_⟩
        (focus repeat' first | exact Ext.refl _ | assumption | (refine Ext.trans ?_ (by assumption)))
    · exact absurd (fun j q => hj j (by omega)) hA
  · exact ⟨Nat.zero_le _, Ext.refl _, fun j q => by omega⟩
  · (focus repeat' first | rfl | exact trivial | apply And.intro)
theorem zfg (hK : NoK K) {G : Pg} {L : List Ent} {s bn bs r : Nat} {h : Heap} (hS : StL G L s bn bs r h) (hp : 2 ≤ G.people ∧ G.people ≤ 6) (hn : G.n ≤ 1000) :
    CallW Tryz.prog K 72 #[.pointer (some ⟨s, 0, none⟩)] h (IfB (AllP G L) h) := by
  apply zjL 1 (N := 6) Tryz.func72; rfl; exact hK _ _ _ rfl; rfl; rfl; rfl; rfl; rfl; rfl; rfl; rfl
  (repeat' (first | apply zan | apply zac | (apply O_at; rfl) | (apply zag; rfl) | apply zah | apply zav | apply zar | (apply zbi; rfl; rfl; rfl; rfl; exact zak rfl; rfl; rfl) | fail))
  refine .inr ⟨rfl, rfl, ?_⟩
  by_cases hA : AllP G L
  · (repeat' (first | apply zan | apply zac | (apply O_at; rfl) | (apply zae; rfl; rfl; rfl; rfl) | fail))
    apply zaf; rfl; rfl; rfl; rfl; rfl; rfl; exact zgu hK (hS.ext (by (focus repeat' first | exact Ext.refl _ | assumption | apply Ext.push | (refine Ext.trans ?_ (by assumption)) | (refine Ext.ofBut ?_ (by assumption) (by first | exact Nat.le_refl _ | omega))))) hp hn hA
    intro _ h5 x5
    (repeat' (first | apply zan | apply zac | (apply O_at; rfl) | (apply zag; rfl) | apply zah | apply zay | apply zar | (apply zfT; rfl; rfl; rfl; rfl; (focus repeat' first | exact zaa | assumption | (apply Ext.get; assumption)); exact zak rfl; rfl; (first | rfl | exact zaj _); rfl; (intro _ _ _)) | fail))
    rename_i h3 g3 x3
    obtain ⟨h6, hD, x6⟩ := few_fin (K := K) g3
    exact ⟨.returning, .returning, h6, rfl, hD, rfl, _, ze1 rfl (read1 (zas rfl) (x6.get g3) rfl) rfl, .inl ⟨rfl, hA, (Ext.ofBut (by (focus repeat' first | exact Ext.refl _ | assumption | apply Ext.push | (refine Ext.trans ?_ (by assumption)) | (refine Ext.ofBut ?_ (by assumption) (by first | exact Nat.le_refl _ | omega)))) x3 (Nat.le_refl _)).trans x6⟩⟩
  · (repeat' (first | apply zan | apply zac | (apply O_at; rfl) | (apply zae; rfl; rfl; rfl; rfl) | fail))
    apply P_callP; rfl; rfl; rfl; rfl; rfl; exact zhz hK (hS.ext (by (focus repeat' first | exact Ext.refl _ | assumption | apply Ext.push | (refine Ext.trans ?_ (by assumption)) | (refine Ext.ofBut ?_ (by assumption) (by first | exact Nat.le_refl _ | omega))))) hp hn hA
    intro h7 x7
    repeat' first | apply C_panS | apply C_panL | apply C_panB
    refine zar ?_
    obtain ⟨h5, hD, q2, e5⟩ := few_pan (K := K) (x7.get zaa) (((Ext.refl h).push _).trans x7) (Nat.le_refl _)
    exact ⟨_, _, h5, rfl, hD, rfl, _, ze1 rfl (read1 (zas rfl) q2 rfl) rfl, .inr ⟨rfl, hA, e5⟩⟩
end Go.AX.Sa

namespace Go.AX.Sa
open Go.Proofs
set_option maxRecDepth 100000
variable {K : Known}
/-! What the layer returns. -/
def IsE (l : List Int) (h : Heap) (v : Value) (h1 : Heap) : Prop := ∃ p cap, v = .tuple #[.slice p l.length cap, .int .i64 0] ∧ Rd h1 p (ints l) ∧ Ext h h1
def errL : Value := .tuple #[.slice none 0 0, .int .i64 2]
theorem zb2 (hK : NoK K) {G : Pg} {h : Heap} (hT : PgAt G h) (hP : PgP G) :
    CallW Tryz.prog K 61 #[pgV G, .slice none 0 0] h (fun v h1 => ∃ s bn bs r, v = .pointer (some ⟨s, 0, none⟩) ∧ StL G (logL G) s bn bs r h1 ∧ Ext h h1) := by
  refine (after_ok (ps := []) (q := none) (kq := 0) hK hT hP (.inl rfl) (Nat.zero_le _) (fun k q => by simp at q)).mono ?_
  rintro _ h1 ⟨s, bn, bs, r, rfl, S, _, _, x⟩
  have e : logP G [] = logL G := by simp [logP]
  rw [e] at S
  exact ⟨s, bn, bs, r, rfl, S, x⟩
section
variable {G : Pg} {h : Heap}
theorem zjd (hK : NoK K) (hT : PgAt G h) (hs : ShortP G) (hP : PgP G) : CallW Tryz.prog K 19 #[pgV G] h (IsE (setsL G (logL G)) h) := by
  refine body (N := 12) Tryz.func19 rfl (hK _ _ _ rfl) rfl rfl ?_
  (repeat' (first | apply zan | apply zac | (apply O_at; rfl) | (apply zag; rfl) | apply zah | (apply zaG; rfl) | apply zav | ((first | apply zad | apply zbm); rfl; rfl; rfl; rfl) | (apply zaD; rfl; rfl; rfl; rfl; exact zaO rfl; (focus repeat' first | exact zaa | assumption | (apply Ext.get; assumption)); (first | exact Nat.le_of_ble_eq_true rfl | (simp; done) | (simp; omega)); rfl) | (apply zaI; rfl; rfl; rfl; rfl; exact zak rfl; rfl; rfl) | (apply zaf; rfl; rfl; rfl; rfl; rfl; rfl; exact yes (zbZ hK (hT.ext (by (focus repeat' first | exact Ext.refl _ | assumption | apply Ext.push | (refine Ext.trans ?_ (by assumption))))) hs) hP; (rintro _ _ ⟨rfl, _⟩)) | fail))
  apply zaf; rfl; rfl; rfl; rfl; rfl; rfl; exact zb2 hK (hT.ext (by (focus repeat' first | exact Ext.refl _ | assumption | apply Ext.push | (refine Ext.trans ?_ (by assumption))))) hP
  rintro _ h2 ⟨s, bn, bs, r, rfl, ⟨f, ⟨box, nums, sets, hrd, nl, sl⟩, hf⟩, x⟩
  unfold stC at box
  (repeat' (first | (apply O_at; rfl) | (apply zag; rfl) | apply zah | apply zay | apply zar | ((first | apply zad | apply zbm); rfl; rfl; rfl; rfl) | (apply P_fa; rfl; rfl; rfl; rfl; exact zaw rfl; (first | exact Nat.zero_add _ | exact Nat.add_zero _ | rfl)) | (apply zam; rfl; rfl; rfl; rfl; exact zas rfl; (focus repeat' first | exact zaa | assumption | (apply Ext.get; assumption)); (first | rfl | assumption)) | (apply zeC; rfl; rfl; rfl; rfl) | fail))
  exact ⟨.inr rfl, _, rfl, some ⟨bs, 0, none⟩, unk, by rw [zdF]; rfl, .inr ⟨bs, _, _, rfl, sets⟩, by (focus repeat' first | exact Ext.refl _ | assumption | apply Ext.push | (refine Ext.trans ?_ (by assumption)))⟩
theorem ze4 (hK : NoK K) (hT : PgAt G h) (hs : ShortP G) (hP : PgP G) : CallW Tryz.prog K 33 #[pgV G] h (IsE (passL G (logL G)) h) := by
  refine body (N := 10) Tryz.func33 rfl (hK _ _ _ rfl) rfl rfl ?_
  have hn := hP.n
  (repeat' (first | (apply zan) | (apply zac) | (apply O_at; rfl) | (apply zag; rfl) | (apply zah) | (apply zaG; rfl) | (apply zav) | (apply zad; rfl; rfl; rfl; rfl) | (apply zbm; rfl; rfl; rfl; rfl) | (apply zaD; rfl; rfl; rfl; rfl; exact zaO rfl; (focus repeat' first | exact zaa | assumption | apply zab | (apply Ext.get; assumption) | (apply ExtBut.get; assumption; (first | assumption | omega | (simp only [Heap.push]; omega)))); (first | exact Nat.le_of_ble_eq_true rfl | (rw [zfu]; omega) | (rw [zaV]; omega) | (simp; done) | (simp; omega) | (rw [zaP]; omega) | (rw [zaj]; omega)); (first | exact zbg (by omega) | exact zbB (by omega) | exact za4 (by omega) | rfl)) | (apply zaI; rfl; rfl; rfl; rfl; exact zak rfl; rfl; rfl) | (apply zaf; rfl; rfl; rfl; rfl; rfl; rfl; exact yes (zbZ hK (hT.ext (by (focus repeat' first | exact Ext.refl _ | assumption | apply Ext.push | (refine Ext.trans ?_ (by assumption)) | (refine Ext.set ?_ (Nat.le_succ _) (zab zaa) _) | (refine Ext.ofBut ?_ (by assumption) (by first | exact Nat.le_refl _ | omega))))) hs) hP; (rintro _ _ ⟨rfl, _⟩)) | fail))
  apply zaf; rfl; rfl; rfl; rfl; rfl; rfl; exact zb2 hK (hT.ext (by (focus repeat' first | exact Ext.refl _ | assumption | apply Ext.push | (refine Ext.trans ?_ (by assumption)) | (refine Ext.set ?_ (Nat.le_succ _) (zab zaa) _) | (refine Ext.ofBut ?_ (by assumption) (by first | exact Nat.le_refl _ | omega))))) hP
  rintro _ h2 ⟨s, bn, bs, r, rfl, S, x⟩
  (repeat' (first | (apply O_at; rfl) | (apply zag; rfl) | (apply zah) | (apply zay) | (apply zar) | (apply zad; rfl; rfl; rfl; rfl) | (apply zaf; rfl; rfl; rfl; rfl; rfl; rfl; exact zjp hK (S.ext (by (focus repeat' first | exact Ext.refl _ | assumption | apply Ext.push | (refine Ext.trans ?_ (by assumption)) | (refine Ext.set ?_ (Nat.le_succ _) (zab zaa) _) | (refine Ext.ofBut ?_ (by assumption) (by first | exact Nat.le_refl _ | omega))))) hP.people (by omega); (rintro _ _ ⟨_, _, rfl, _, _⟩)) | fail))
  exact ⟨.inr rfl, _, rfl, _, _, rfl, by assumption, by (focus repeat' first | exact Ext.refl _ | assumption | apply Ext.push | (refine Ext.trans ?_ (by assumption)) | (refine Ext.set ?_ (Nat.le_succ _) (zab zaa) _) | (refine Ext.ofBut ?_ (by assumption) (by first | exact Nat.le_refl _ | omega)))⟩
theorem pass_yes (hK : NoK K) (hT : PgAt G h) (hs : ShortP G) (hP : PgP G) (hA : AllP G (logL G)) : CallW Tryz.prog K 34 #[pgV G] h (IsV (.tuple #[.bool true, .int .i64 0]) h) := by
  refine body (N := 10) Tryz.func34 rfl (hK _ _ _ rfl) rfl rfl ?_
  have hn := hP.n
  (repeat' (first | apply zan | apply zac | (apply O_at; rfl) | (apply zag; rfl) | apply zah | (apply zaG; rfl) | apply zav | ((first | apply zad | apply zbm); rfl; rfl; rfl; rfl) | (apply zaD; rfl; rfl; rfl; rfl; exact zaO rfl; (focus repeat' first | exact zaa | assumption | (apply Ext.get; assumption)); (first | exact Nat.le_of_ble_eq_true rfl | (simp; done) | (simp; omega)); rfl) | (apply zaI; rfl; rfl; rfl; rfl; exact zak rfl; rfl; rfl) | (apply zaf; rfl; rfl; rfl; rfl; rfl; rfl; exact yes (zbZ hK (hT.ext (by (focus repeat' first | exact Ext.refl _ | assumption | apply Ext.push | (refine Ext.trans ?_ (by assumption))))) hs) hP; (rintro _ _ ⟨rfl, _⟩)) | fail))
  apply zaf; rfl; rfl; rfl; rfl; rfl; rfl; exact zb2 hK (hT.ext (by (focus repeat' first | exact Ext.refl _ | assumption | apply Ext.push | (refine Ext.trans ?_ (by assumption))))) hP
  rintro _ h2 ⟨s, bn, bs, r, rfl, S, x⟩
  (repeat' (first | (apply O_at; rfl) | (apply zag; rfl) | apply zah | apply zay | apply zar | ((first | apply zad | apply zbm); rfl; rfl; rfl; rfl) | (apply zaf; rfl; rfl; rfl; rfl; rfl; rfl; exact yes (zfg hK (S.ext (by (focus repeat' first | exact Ext.refl _ | assumption | apply Ext.push | (refine Ext.trans ?_ (by assumption))))) hP.people (by omega)) hA; (rintro _ _ ⟨rfl, _⟩)) | fail))
  exact ⟨.inr rfl, _, rfl, rfl, by (focus repeat' first | exact Ext.refl _ | assumption | apply Ext.push | (refine Ext.trans ?_ (by assumption)))⟩
theorem pass_not (hK : NoK K) (hT : PgAt G h) (hs : ShortP G) (hP : PgP G) (hA : ¬ AllP G (logL G)) : CallW Tryz.prog K 34 #[pgV G] h (IsV (.tuple #[.bool false, .int .i64 0]) h) := by
  refine body (N := 10) Tryz.func34 rfl (hK _ _ _ rfl) rfl rfl ?_
  have hn := hP.n
  (repeat' (first | apply zan | apply zac | (apply O_at; rfl) | (apply zag; rfl) | apply zah | (apply zaG; rfl) | apply zav | ((first | apply zad | apply zbm); rfl; rfl; rfl; rfl) | (apply zaD; rfl; rfl; rfl; rfl; exact zaO rfl; (focus repeat' first | exact zaa | assumption | (apply Ext.get; assumption)); (first | exact Nat.le_of_ble_eq_true rfl | (simp; done) | (simp; omega)); rfl) | (apply zaI; rfl; rfl; rfl; rfl; exact zak rfl; rfl; rfl) | (apply zaf; rfl; rfl; rfl; rfl; rfl; rfl; exact yes (zbZ hK (hT.ext (by (focus repeat' first | exact Ext.refl _ | assumption | apply Ext.push | (refine Ext.trans ?_ (by assumption))))) hs) hP; (rintro _ _ ⟨rfl, _⟩)) | fail))
  apply zaf; rfl; rfl; rfl; rfl; rfl; rfl; exact zb2 hK (hT.ext (by (focus repeat' first | exact Ext.refl _ | assumption | apply Ext.push | (refine Ext.trans ?_ (by assumption))))) hP
  rintro _ h2 ⟨s, bn, bs, r, rfl, S, x⟩
  (repeat' (first | (apply O_at; rfl) | (apply zag; rfl) | apply zah | apply zay | apply zar | ((first | apply zad | apply zbm); rfl; rfl; rfl; rfl) | (apply zaf; rfl; rfl; rfl; rfl; rfl; rfl; exact no (zfg hK (S.ext (by (focus repeat' first | exact Ext.refl _ | assumption | apply Ext.push | (refine Ext.trans ?_ (by assumption))))) hP.people (by omega)) hA; (rintro _ _ ⟨rfl, _⟩)) | fail))
  exact ⟨.inr rfl, _, rfl, rfl, by (focus repeat' first | exact Ext.refl _ | assumption | apply Ext.push | (refine Ext.trans ?_ (by assumption)))⟩
theorem zhk (hK : NoK K) (hT : PgAt G h) (hs : ShortP G) (hP : PgP G) {j : Nat} {jj : Int} (hjj : jj = (j : Nat)) (hj : j < G.n) : CallW Tryz.prog K 27 #[pgV G, .int .i64 jj] h (IsE (rdA G (logL G) j) h) := by
  refine body (N := 19) Tryz.func27 rfl (hK _ _ _ rfl) rfl rfl ?_
  have hn := hP.n
  (repeat' (first | (apply zan) | (apply zac) | (apply O_at; rfl) | (apply zag; rfl) | (apply zah) | (apply zaG; rfl) | (apply zav) | (apply zae; rfl; rfl; rfl; rfl) | (apply zad; rfl; rfl; rfl; rfl) | (apply za2; rfl; rfl; rfl; rfl; rfl; rfl) | (apply zbm; rfl; rfl; rfl; rfl) | (apply zaD; rfl; rfl; rfl; rfl; exact zaO rfl; (focus repeat' first | exact zaa | assumption | apply zab | (apply Ext.get; assumption) | (apply ExtBut.get; assumption; (first | assumption | omega | (simp only [Heap.push]; omega)))); (first | exact Nat.le_of_ble_eq_true rfl | (rw [zfu]; omega) | (rw [zaV]; omega) | (simp; done) | (simp; omega) | (rw [zaP]; omega) | (rw [zaj]; omega)); (first | exact zbg (by omega) | exact zbB (by omega) | exact za4 (by omega) | rfl)) | (apply zaI; rfl; rfl; rfl; rfl; exact zak rfl; rfl; rfl) | (apply zaf; rfl; rfl; rfl; rfl; rfl; rfl; exact yes (zbZ hK (hT.ext (by (focus repeat' first | exact Ext.refl _ | assumption | apply Ext.push | (refine Ext.trans ?_ (by assumption)) | (refine Ext.set ?_ (Nat.le_succ _) (zab zaa) _) | (refine Ext.ofBut ?_ (by assumption) (by first | exact Nat.le_refl _ | omega))))) hs) hP; (rintro _ _ ⟨rfl, _⟩)) | (apply zaf; rfl; rfl; rfl; rfl; rfl; rfl; exact yes (zk6 hK (by omega)) (by unfold LinP; omega); (rintro _ _ ⟨rfl, _⟩)) | fail))
  apply zaf; rfl; rfl; rfl; rfl; rfl; rfl; exact zb2 hK (hT.ext (by (focus repeat' first | exact Ext.refl _ | assumption | apply Ext.push | (refine Ext.trans ?_ (by assumption)) | (refine Ext.set ?_ (Nat.le_succ _) (zab zaa) _) | (refine Ext.ofBut ?_ (by assumption) (by first | exact Nat.le_refl _ | omega))))) hP
  rintro _ h2 ⟨s, bn, bs, r, rfl, S, x⟩
  (repeat' (first | (apply O_at; rfl) | (apply zag; rfl) | (apply zah) | (apply zay) | (apply zar) | (apply zae; rfl; rfl; rfl; rfl) | (apply zad; rfl; rfl; rfl; rfl) | (apply zaf; rfl; rfl; rfl; rfl; rfl; rfl; exact zdc hK (S.ext (by (focus repeat' first | exact Ext.refl _ | assumption | apply Ext.push | (refine Ext.trans ?_ (by assumption)) | (refine Ext.set ?_ (Nat.le_succ _) (zab zaa) _) | (refine Ext.ofBut ?_ (by assumption) (by first | exact Nat.le_refl _ | omega))))) hP.people hj (by omega) hjj; (rintro _ _ ⟨_, _, rfl, _, _⟩)) | fail))
  exact ⟨.inr rfl, _, rfl, _, _, rfl, by assumption, by (focus repeat' first | exact Ext.refl _ | assumption | apply Ext.push | (refine Ext.trans ?_ (by assumption)) | (refine Ext.set ?_ (Nat.le_succ _) (zab zaa) _) | (refine Ext.ofBut ?_ (by assumption) (by first | exact Nat.le_refl _ | omega)))⟩
theorem zhf (G : Pg) (L : List Ent) (k : Nat) : ((List.range (k + 1)).map fun j => max 0 (2 - ((rdA G L j).length : Int))) = ((List.range k).map fun j => max 0 (2 - ((rdA G L j).length : Int))) ++ [max 0 (2 - ((rdA G L k).length : Int))] := by simp [List.range_succ]
theorem zkl (hK : NoK K) (hT : PgAt G h) (hs : ShortP G) (hP : PgP G) : CallW Tryz.prog K 28 #[pgV G] h (IsE (shortL G (logL G)) h) := by
  refine body (N := 29) Tryz.func28 rfl (hK _ _ _ rfl) rfl rfl ?_
  have hn := hP.n
  (repeat' (first | (apply zan) | (apply zac) | (apply O_at; rfl) | (apply zag; rfl) | (apply zah) | (apply zaG; rfl) | (apply zav) | (apply zad; rfl; rfl; rfl; rfl) | (apply zbm; rfl; rfl; rfl; rfl) | (apply zaD; rfl; rfl; rfl; rfl; exact zaO rfl; (focus repeat' first | exact zaa | assumption | apply zab | (apply Ext.get; assumption) | (apply ExtBut.get; assumption; (first | assumption | omega | (simp only [Heap.push]; omega)))); (first | exact Nat.le_of_ble_eq_true rfl | (rw [zfu]; omega) | (rw [zaV]; omega) | (simp; done) | (simp; omega) | (rw [zaP]; omega) | (rw [zaj]; omega)); (first | exact zbg (by omega) | exact zbB (by omega) | exact za4 (by omega) | rfl)) | (apply zaI; rfl; rfl; rfl; rfl; exact zak rfl; rfl; rfl) | (apply zaf; rfl; rfl; rfl; rfl; rfl; rfl; exact yes (zbZ hK (hT.ext (by (focus repeat' first | exact Ext.refl _ | assumption | apply Ext.push | (refine Ext.trans ?_ (by assumption)) | (refine Ext.set ?_ (Nat.le_succ _) (zab zaa) _) | (refine Ext.ofBut ?_ (by assumption) (by first | exact Nat.le_refl _ | omega))))) hs) hP; (rintro _ _ ⟨rfl, _⟩)) | fail))
  apply zaf; rfl; rfl; rfl; rfl; rfl; rfl; exact zb2 hK (hT.ext (by (focus repeat' first | exact Ext.refl _ | assumption | apply Ext.push | (refine Ext.trans ?_ (by assumption)) | (refine Ext.set ?_ (Nat.le_succ _) (zab zaa) _) | (refine Ext.ofBut ?_ (by assumption) (by first | exact Nat.le_refl _ | omega))))) hP
  rintro _ h2 ⟨s, bn, bs, r, rfl, S, x⟩
  (repeat' (first | (apply zan) | (apply zac) | (apply O_at; rfl) | (apply zag; rfl) | (apply zah) | (apply zaq) | (apply zae; rfl; rfl; rfl; rfl) | (apply zad; rfl; rfl; rfl; rfl) | (apply P_fa; rfl; rfl; rfl; rfl; exact zaw rfl; (first | exact Nat.zero_add _ | exact Nat.add_zero _ | rfl)) | (apply zbe; rfl; rfl; rfl; rfl; rfl; rfl; exact zau rfl) | (apply zam; rfl; rfl; rfl; rfl; exact zas rfl; (focus repeat' first | exact zaa | assumption | apply zab | (apply Ext.get; assumption) | (apply ExtBut.get; assumption; (first | assumption | omega | (simp only [Heap.push]; omega)))); (first | exact zal (by omega) | exact rows_get (by omega) | exact cops_par (by omega) | exact zdO (by omega) | exact spans_lo (by omega) | exact spans_hi (by omega) | rfl | assumption)) | fail))
  refine zbb (fun a : Nat × Value => [(15, .int .i64 (a.1 : Nat)), (14, .int .i64 (G.n : Nat)), (4, a.2), (5, .pointer (some ⟨s, 0, none⟩)), (1, .pointer (some ⟨h.n, 0, none⟩))])
    (fun a h' => a.1 ≤ G.n ∧ Ext h2 h' ∧ OutI 3 h2 h' a.2 ((List.range a.1).map fun j => max 0 (2 - ((rdA G (logL G) j).length : Int)))) (fun a => G.n - a.1) ?_ (0, .slice none 0 0) ?_ ?_
  · rintro ⟨k, v⟩ h' ⟨hk, hx, ho⟩ ih
    dsimp only at hk hx ho ih ⊢
    by_cases hlt : k < G.n
    · have hl := zdI G.people.toNat (logL G) (k : Nat) (setA G (logL G) k)
      have hpp := hP.people
      have hl' : (rdA G (logL G) k).length ≤ 1000 := by unfold rdA; omega
      (repeat' (first | (apply zan) | (apply zac) | (apply O_at; rfl) | (apply zag; rfl) | (apply zah) | (apply zbc; rfl) | (apply zaq) | (apply zav) | (apply zaN) | (apply zae; rfl; rfl; rfl; rfl) | (apply zad; rfl; rfl; rfl; rfl) | (apply zbe; rfl; rfl; rfl; rfl; rfl; rfl; exact zau rfl) | (apply zbq; rfl; rfl; rfl; rfl; rfl; omega) | (apply zcb; rfl; rfl; rfl; rfl; rfl; (unfold fit; omega)) | (apply zeB; rfl; rfl; rfl; rfl; rfl; (unfold fit; omega)) | (apply zfV; rfl; rfl; rfl; rfl; rfl; rfl; rfl; exact zeT rfl) | (apply zlN; rfl; rfl; rfl; rfl; rfl; rfl; rfl; rfl; exact zeT rfl; exact zau rfl; (focus repeat' first | exact zaa | assumption | apply zab | (apply Ext.get; assumption) | (apply ExtBut.get; assumption; (first | assumption | omega | (simp only [Heap.push]; omega)))); (apply OutI.ext; assumption; (focus repeat' first | exact Ext.refl _ | assumption | apply Ext.push | (refine Ext.trans ?_ (by assumption)) | (refine Ext.set ?_ (Nat.le_succ _) (zab zaa) _) | (refine Ext.ofBut ?_ (by assumption) (by first | exact Nat.le_refl _ | omega)))); (focus repeat' first | exact Ext.refl _ | assumption | apply Ext.push | (refine Ext.trans ?_ (by assumption)) | (refine Ext.set ?_ (Nat.le_succ _) (zab zaa) _) | (refine Ext.ofBut ?_ (by assumption) (by first | exact Nat.le_refl _ | omega))); (first | omega | (simp; omega)); (intro _ _ _ _)) | (apply zjP; rfl; rfl; rfl; rfl; rfl; rfl) | (apply zaf; rfl; rfl; rfl; rfl; rfl; rfl; exact zdc hK (S.ext (by (focus repeat' first | exact Ext.refl _ | assumption | apply Ext.push | (refine Ext.trans ?_ (by assumption)) | (refine Ext.set ?_ (Nat.le_succ _) (zab zaa) _) | (refine Ext.ofBut ?_ (by assumption) (by first | exact Nat.le_refl _ | omega))))) hP.people hlt (by omega) rfl; (rintro _ _ ⟨_, _, rfl, _, _⟩)) | fail))
      rename_i p3 c3 r3 x3 v4 h4 o4 x4
      refine za1 (ih (k + 1, v4) _ (by dsimp only; omega) ⟨hlt, x4, ?_⟩) (by (focus repeat' first | rfl | exact trivial | apply And.intro))
      rw [zhf]
      exact o4
    · obtain rfl : k = G.n := by omega
      (repeat' (first | (apply zan) | (apply zac) | (apply O_at; rfl) | (apply zag; rfl) | (apply zah) | (apply zaG; rfl) | (apply zbk) | (apply zay) | (apply zbl) | (apply za5) | (apply za6) | (apply zar) | (apply zae; rfl; rfl; rfl; rfl) | (apply zad; rfl; rfl; rfl; rfl) | (apply zbE; rfl; rfl; rfl; rfl; rfl; omega) | fail))
      obtain ⟨p5, c5, rfl, r5, x5⟩ := ho.isL hx
      exact ⟨.inr rfl, _, rfl, _, _, rfl, r5, by (focus repeat' first | exact Ext.refl _ | assumption | apply Ext.push | (refine Ext.trans ?_ (by assumption)) | (refine Ext.set ?_ (Nat.le_succ _) (zab zaa) _) | (refine Ext.ofBut ?_ (by assumption) (by first | exact Nat.le_refl _ | omega)))⟩
  · exact ⟨Nat.zero_le _, Ext.refl _, .inl ⟨rfl, rfl⟩⟩
  · (focus repeat' first | rfl | exact trivial | apply And.intro)
end
end Go.AX.Sa

namespace Go.AX.Sa
open Go.Proofs
set_option maxRecDepth 100000
variable {K : Known}
abbrev TrueB : Value → Heap → Prop := fun v _ => v = .bool true
end Go.AX.Sa

namespace Go.AX.Sa
open Go.Proofs
set_option maxRecDepth 100000
variable {K : Known}
theorem zkj (G : Pg) (L : List Ent) : (shortL G L).length = G.n := by simp [shortL]
theorem lin_nat {n : Nat} {q : Int} (h : LinP n q) : ∃ j : Nat, q = (j : Nat) ∧ j < n := by
  unfold LinP at h
  exact ⟨q.toNat, by omega, by omega⟩
end Go.AX.Sa

namespace Go.AX.Sa
open Go.Proofs
set_option maxRecDepth 100000
variable {K : Known}
end Go.AX.Sa

namespace Go.AX.Sa
open Go.Proofs
set_option maxRecDepth 100000
variable {K : Known}
/-! Two readers. -/
theorem zkC {k : Nat} {L M : List Ent} {j s : Int} (h : ∀ q, hrdF L (j, q) = true → hrdF M (j, q) = true) : (rdrs k L j s).length ≤ (rdrs k M j s).length := by
  unfold rdrs
  rw [← List.countP_eq_length_filter, ← List.countP_eq_length_filter]
  refine List.countP_mono_left fun q _ hq => ?_
  simp only [Bool.and_eq_true, decide_eq_true_eq] at hq ⊢
  exact ⟨h q hq.1, hq.2⟩
theorem set_with {G : Pg} {b k : Nat} {x : Cop} {j : Nat} (hx : x.par = 1) : setA (withG G b k x) (logL (withG G b k x)) j = setA G (logL G) j := by
  unfold setA
  rw [zin, zdY]
  unfold setS
  rw [if_neg (by simp [ent]; omega)]
  rfl
theorem zkJ {G : Pg} {b k : Nat} {x : Cop} {j : Nat} (hx : x.par = 1) (hp : PassP G (logL G) j) : PassP (withG G b k x) (logL (withG G b k x)) j := by
  unfold PassP rdA at *
  rw [set_with hx]
  refine Nat.le_trans hp (zkC fun q hq => ?_)
  rw [zin, zc1]
  unfold hrdS
  rw [if_neg]
  · by_cases u : reads (ent x) (j : Nat) ∧ inPair (ent x) q
    · rw [if_pos u]
    · rw [if_neg u]; exact hq
  · rintro (u | u)
    · have := u.1; simp only [ent] at this; omega
    · have := u.1; simp only [ent] at this; omega
theorem zfA {G : Pg} {L : List Ent} {j : Nat} (hj : j < G.n) : (j : Int) ∈ passL G L ↔ PassP G L j := by
  unfold passL
  rw [filL_mem]
  constructor
  · rintro ⟨i, _, h, p⟩
    have : j = i := by omega
    subst this; exact p
  · exact fun p => ⟨j, hj, rfl, p⟩
theorem zkk {G : Pg} {L : List Ent} {j : Nat} (h : j < G.n) : (shortL G L).getD j 0 = max 0 (2 - ((rdA G L j).length : Int)) := by simp [shortL, List.getD_eq_getElem?_getD, h]
set_option maxHeartbeats 2000000 in
theorem zhm (hK : NoK K) (hKn : Kn K) {G : Pg} {c : Cop} {a0 : Int} {h : Heap} (hT : PgAt G h) (hc : RowIn c.r h) (hsp : SpotN G) : CallW Tryz.prog K 8 #[pgV G, enV c, .int .i64 a0] h TrueB := by
  obtain ⟨par, q, k, t⟩ := c
  have hc' := hc
  obtain ⟨rd, hcb, _⟩ := hc'
  dsimp only [enV] at rd hcb ⊢
  refine body (N := 177) Tryz.func8 rfl (hK _ _ _ rfl) rfl rfl ?_
  by_cases hR : RoomP G ⟨par, ⟨q, k, t⟩⟩
  · have hR' := hR
    obtain ⟨hs, hP, hc6, hl, hE⟩ := hR'
    have hn := hP.n
    have hpp := hP.people
    by_cases hL : LinP G.n a0
    · by_cases hk : par = 1
      · subst hk
        obtain ⟨j, rfl, hj⟩ := lin_nat hL
        have l1 : (passL G (logL G)).length ≤ G.n := zfK _ _
        have l2 := zdI G.people.toNat (logL G) (j : Nat) (setA G (logL G) j)
        have l3 := zkj G (logL G)
        have l4 := zdF G (logL G)
        have hl8 : G.c.length ≤ 1000 := by omega
        have hsh := zkk (L := logL G) hj
        have hns : (setsL G (logL G)).getD j 0 ∉ rdA G (logL G) j := by rw [zdG hj]; exact fun u => (rdrs_mem.1 u).2.2 rfl
        have h2 : (rdA G (logL G) j).length ≤ G.people.toNat := l2
        have hpl : ∀ b k' , (passL (withG G b k' ⟨1, ⟨q, k, t⟩⟩) (logL (withG G b k' ⟨1, ⟨q, k, t⟩⟩))).length ≤ G.n := fun _ _ => zfK _ _
        obtain ⟨hA, e5⟩ | ⟨hA, e5⟩ : (AllP G (logL G) ∧ (passL G (logL G)).length = G.n) ∨ (¬ AllP G (logL G) ∧ (passL G (logL G)).length ≠ G.n) := by
          by_cases hA : AllP G (logL G)
          · exact .inl ⟨hA, filL_all.2 hA⟩
          · exact .inr ⟨hA, fun u => hA (filL_all.1 u)⟩
        all_goals
          obtain ⟨hw, e6, e7⟩ | ⟨hw, e6⟩ : ((j : Int) ∈ passL G (logL G) ∧ 2 ≤ (rdA G (logL G) j).length ∧ ∀ b k', ((j : Nat) : Int) ∈ passL (withG G b k' ⟨1, ⟨q, k, t⟩⟩) (logL (withG G b k' ⟨1, ⟨q, k, t⟩⟩))) ∨ ((j : Int) ∉ passL G (logL G) ∧ ¬ 2 ≤ (rdA G (logL G) j).length) := by
            by_cases hw : PassP G (logL G) j
            · exact .inl ⟨(zfA hj).2 hw, hw, fun b k' => (zfA (G := withG G b k' ⟨1, ⟨q, k, t⟩⟩) hj).2 (zkJ rfl hw)⟩
            · exact .inr ⟨fun u => hw ((zfA hj).1 u), hw⟩
        all_goals
          (repeat' (first | apply zan | apply zac | (apply O_at; rfl) | (apply zag; rfl) | apply zah | (apply zbc; rfl) | (apply zaG; rfl) | apply zav | apply zay | apply zbd | apply zar | (apply zbj; rfl; rfl; rfl) | ((first | apply zae | apply zad | apply zbm); rfl; rfl; rfl; rfl) | (apply P_fa; rfl; rfl; rfl; rfl; exact zaw rfl; (first | exact Nat.zero_add _ | exact Nat.add_zero _ | rfl)) | (apply zbe; rfl; rfl; rfl; rfl; rfl; rfl; exact zau rfl) | (apply za2; rfl; rfl; rfl; rfl; rfl; rfl) | (apply zbK; rfl; rfl; rfl; rfl; rfl) | (apply zeE; rfl; rfl; rfl; rfl; rfl; omega) | (apply zgX; rfl; rfl; rfl; rfl; rfl; omega) | (apply zgW; rfl; rfl; rfl; rfl; rfl; omega) | (apply zb4; rfl; rfl; rfl; rfl; rfl; omega) | (apply zb3; rfl; rfl; rfl; rfl; rfl; omega) | (apply zfj; rfl; rfl; rfl; rfl; rfl; omega) | (apply zfi; rfl; rfl; rfl; rfl; rfl; omega) | (apply zeB; rfl; rfl; rfl; rfl; rfl; (unfold fit; omega)) | (apply zcp; rfl; rfl; rfl; rfl; rfl; exact zau rfl; exact zak rfl; (first | assumption | rfl | exact (Int.toNat_of_nonneg (by omega)).symm); omega) | (apply zam; rfl; rfl; rfl; rfl; exact zas rfl; (focus repeat' first | exact zaa | assumption | apply zab | (apply Ext.get; assumption)); (first | exact zal (by omega) | rfl | assumption)) | (apply zaD; rfl; rfl; rfl; rfl; exact zaO rfl; (focus repeat' first | exact zaa | assumption | apply zab | (apply Ext.get; assumption)); (first | exact Nat.le_of_ble_eq_true rfl | (simp; done) | (simp; omega) | (rw [zaj]; omega)); rfl) | (apply zgU; rfl; rfl; rfl; rfl; rfl; rfl) | (apply zaI; rfl; rfl; rfl; rfl; exact zak rfl; rfl; rfl) | (apply zjP; rfl; rfl; rfl; rfl; rfl; rfl) | (apply zaf; rfl; rfl; rfl; rfl; rfl; rfl; exact yes (zfv (x := ⟨1, ⟨q, k, t⟩⟩) hK (hT.ext (by (focus repeat' first | exact Ext.refl _ | assumption | apply Ext.push | (refine Ext.trans ?_ (by assumption))))) (hc.ext (by (focus repeat' first | exact Ext.refl _ | assumption | apply Ext.push | (refine Ext.trans ?_ (by assumption)))))) hR; (rintro _ _ ⟨rfl, _⟩)) | (apply zaf; rfl; rfl; rfl; rfl; rfl; rfl; exact yes (zcr hK (by omega)) hL; (rintro _ _ ⟨rfl, _⟩)) | (apply zaf; rfl; rfl; rfl; rfl; rfl; rfl; exact ze4 hK (hT.ext (by (focus repeat' first | exact Ext.refl _ | assumption | apply Ext.push | (refine Ext.trans ?_ (by assumption))))) hs hP; (rintro _ _ ⟨_, _, rfl, _, _⟩)) | (apply zaf; rfl; rfl; rfl; rfl; rfl; rfl; exact pass_yes hK (hT.ext (by (focus repeat' first | exact Ext.refl _ | assumption | apply Ext.push | (refine Ext.trans ?_ (by assumption))))) hs hP hA; (rintro _ _ ⟨rfl, _⟩)) | (apply zaf; rfl; rfl; rfl; rfl; rfl; rfl; exact pass_not hK (hT.ext (by (focus repeat' first | exact Ext.refl _ | assumption | apply Ext.push | (refine Ext.trans ?_ (by assumption))))) hs hP hA; (rintro _ _ ⟨rfl, _⟩)) | (apply zaf; rfl; rfl; rfl; rfl; rfl; rfl; exact zhk hK (hT.ext (by (focus repeat' first | exact Ext.refl _ | assumption | apply Ext.push | (refine Ext.trans ?_ (by assumption))))) hs hP rfl hj; (rintro _ _ ⟨_, _, rfl, _, _⟩)) | (apply zaf; rfl; rfl; rfl; rfl; rfl; rfl; exact zkl hK (hT.ext (by (focus repeat' first | exact Ext.refl _ | assumption | apply Ext.push | (refine Ext.trans ?_ (by assumption))))) hs hP; (rintro _ _ ⟨_, _, rfl, _, _⟩)) | (apply zaf; rfl; rfl; rfl; rfl; rfl; rfl; exact zjd hK (hT.ext (by (focus repeat' first | exact Ext.refl _ | assumption | apply Ext.push | (refine Ext.trans ?_ (by assumption))))) hs hP; (rintro _ _ ⟨_, _, rfl, _, _⟩)) | (apply zaf; rfl; rfl; rfl; rfl; rfl; rfl; exact with_ok (x := ⟨1, ⟨q, k, t⟩⟩) hK (hT.ext (by (focus repeat' first | exact Ext.refl _ | assumption | apply Ext.push | (refine Ext.trans ?_ (by assumption))))) (hc.ext (by (focus repeat' first | exact Ext.refl _ | assumption | apply Ext.push | (refine Ext.trans ?_ (by assumption))))) hl8 hsp; (rintro _ _ ⟨_, _, rfl, _, _⟩)) | fail))
          rename_i h1 x1 h2' x2 h3 p3 c3 r3 x3 h4 x4 h5 p5 c5 r5 x5 h6 p6 c6 r6 x6 h7 p7 c7 r7 x7 h8 b8 k8 T8 x8
          have l9 := hpl b8 k8
          apply zaf; rfl; rfl; rfl; rfl; rfl; rfl
          exact ze4 hK (T8.ext (by (focus repeat' first | exact Ext.refl _ | assumption | apply Ext.push | (refine Ext.trans ?_ (by assumption))))) (zjc hs hP hc6 hl) (pgP_with hP hE hl)
          rintro _ h9 ⟨p9, c9, rfl, r9, x9⟩
          obtain ⟨d6, t6, o6, rfl, g6⟩ := r6.at (by rw [zaj]; omega)
          obtain ⟨d7, t7, o7, rfl, g7⟩ := r7.at (by rw [zaj]; omega)
          (repeat' (first | apply zan | apply zac | (apply O_at; rfl) | (apply zag; rfl) | apply zah | (apply zbc; rfl) | (apply zaG; rfl) | apply zav | apply zay | apply zbd | apply zar | (apply zbj; rfl; rfl; rfl) | ((first | apply zae | apply zad | apply zbm); rfl; rfl; rfl; rfl) | (apply P_fa; rfl; rfl; rfl; rfl; exact zaw rfl; (first | exact Nat.zero_add _ | exact Nat.add_zero _ | rfl)) | (apply zbe; rfl; rfl; rfl; rfl; rfl; rfl; exact zau rfl) | (apply za2; rfl; rfl; rfl; rfl; rfl; rfl) | (apply zbK; rfl; rfl; rfl; rfl; rfl) | (apply zeE; rfl; rfl; rfl; rfl; rfl; omega) | (apply zgX; rfl; rfl; rfl; rfl; rfl; omega) | (apply zgW; rfl; rfl; rfl; rfl; rfl; omega) | (apply zb4; rfl; rfl; rfl; rfl; rfl; omega) | (apply zb3; rfl; rfl; rfl; rfl; rfl; omega) | (apply zfj; rfl; rfl; rfl; rfl; rfl; omega) | (apply zfi; rfl; rfl; rfl; rfl; rfl; omega) | (apply zeB; rfl; rfl; rfl; rfl; rfl; (unfold fit; omega)) | (apply zcp; rfl; rfl; rfl; rfl; rfl; exact zau rfl; exact zak rfl; (first | assumption | rfl | exact (Int.toNat_of_nonneg (by omega)).symm); omega) | (apply zam; rfl; rfl; rfl; rfl; exact zas rfl; (focus repeat' first | exact zaa | assumption | apply zab | (apply Ext.get; assumption)); (first | exact zal (by omega) | rfl | assumption)) | (apply zaD; rfl; rfl; rfl; rfl; exact zaO rfl; (focus repeat' first | exact zaa | assumption | apply zab | (apply Ext.get; assumption)); (first | exact Nat.le_of_ble_eq_true rfl | (simp; done) | (simp; omega) | (rw [zaj]; omega)); rfl) | (apply zgU; rfl; rfl; rfl; rfl; rfl; rfl) | (apply zaI; rfl; rfl; rfl; rfl; exact zak rfl; rfl; rfl) | (apply zjP; rfl; rfl; rfl; rfl; rfl; rfl) | (apply zaf; rfl; rfl; rfl; rfl; rfl; rfl; exact yes (zcX hK (by omega) (r3.ext (by (focus repeat' first | exact Ext.refl _ | assumption | apply Ext.push | (refine Ext.trans ?_ (by assumption)))))) hw; (rintro _ _ ⟨rfl, _⟩)) | (apply zaf; rfl; rfl; rfl; rfl; rfl; rfl; exact no (zcX hK (by omega) (r3.ext (by (focus repeat' first | exact Ext.refl _ | assumption | apply Ext.push | (refine Ext.trans ?_ (by assumption)))))) hw; (rintro _ _ ⟨rfl, _⟩)) | (apply zaf; rfl; rfl; rfl; rfl; rfl; rfl; exact no (zcX hK (by omega) (r5.ext (by (focus repeat' first | exact Ext.refl _ | assumption | apply Ext.push | (refine Ext.trans ?_ (by assumption)))))) hns; (rintro _ _ ⟨rfl, _⟩)) | (apply zaf; rfl; rfl; rfl; rfl; rfl; rfl; exact yes (zcX hK (by omega) (r9.ext (by (focus repeat' first | exact Ext.refl _ | assumption | apply Ext.push | (refine Ext.trans ?_ (by assumption)))))) (e7 b8 k8); (rintro _ _ ⟨rfl, _⟩)) | (apply zaf; rfl; rfl; rfl; rfl; rfl; rfl; exact zcZ hKn; (rintro _ _ ⟨rfl, _⟩)) | fail))
          exact ⟨.inr rfl, _, rfl, rfl⟩
      · (repeat' (first | apply zan | apply zac | (apply O_at; rfl) | (apply zag; rfl) | apply zah | (apply zbc; rfl) | (apply zaG; rfl) | apply zav | apply zay | apply zbd | apply zar | (apply zbj; rfl; rfl; rfl) | ((first | apply zae | apply zad | apply zbm); rfl; rfl; rfl; rfl) | (apply P_fa; rfl; rfl; rfl; rfl; exact zaw rfl; (first | exact Nat.zero_add _ | exact Nat.add_zero _ | rfl)) | (apply zbe; rfl; rfl; rfl; rfl; rfl; rfl; exact zau rfl) | (apply za2; rfl; rfl; rfl; rfl; rfl; rfl) | (apply zbK; rfl; rfl; rfl; rfl; rfl) | (apply zeE; rfl; rfl; rfl; rfl; rfl; omega) | (apply zgX; rfl; rfl; rfl; rfl; rfl; omega) | (apply zgW; rfl; rfl; rfl; rfl; rfl; omega) | (apply zb4; rfl; rfl; rfl; rfl; rfl; omega) | (apply zb3; rfl; rfl; rfl; rfl; rfl; omega) | (apply zfj; rfl; rfl; rfl; rfl; rfl; omega) | (apply zfi; rfl; rfl; rfl; rfl; rfl; omega) | (apply zeB; rfl; rfl; rfl; rfl; rfl; (unfold fit; omega)) | (apply zcp; rfl; rfl; rfl; rfl; rfl; exact zau rfl; exact zak rfl; (first | assumption | rfl | exact (Int.toNat_of_nonneg (by omega)).symm); omega) | (apply zam; rfl; rfl; rfl; rfl; exact zas rfl; (focus repeat' first | exact zaa | assumption | apply zab | (apply Ext.get; assumption)); (first | exact zal (by omega) | rfl | assumption)) | (apply zaD; rfl; rfl; rfl; rfl; exact zaO rfl; (focus repeat' first | exact zaa | assumption | apply zab | (apply Ext.get; assumption)); (first | exact Nat.le_of_ble_eq_true rfl | (simp; done) | (simp; omega) | (rw [zaj]; omega)); rfl) | (apply zgU; rfl; rfl; rfl; rfl; rfl; rfl) | (apply zaI; rfl; rfl; rfl; rfl; exact zak rfl; rfl; rfl) | (apply zjP; rfl; rfl; rfl; rfl; rfl; rfl) | (apply zaf; rfl; rfl; rfl; rfl; rfl; rfl; exact yes (zfv (x := ⟨par, ⟨q, k, t⟩⟩) hK (hT.ext (by (focus repeat' first | exact Ext.refl _ | assumption | apply Ext.push | (refine Ext.trans ?_ (by assumption))))) (hc.ext (by (focus repeat' first | exact Ext.refl _ | assumption | apply Ext.push | (refine Ext.trans ?_ (by assumption)))))) hR; (rintro _ _ ⟨rfl, _⟩)) | (apply zaf; rfl; rfl; rfl; rfl; rfl; rfl; exact yes (zcr hK (by omega)) hL; (rintro _ _ ⟨rfl, _⟩)) | (apply zaf; rfl; rfl; rfl; rfl; rfl; rfl; exact zcZ hKn; (rintro _ _ ⟨rfl, _⟩)) | fail))
        exact ⟨.inr rfl, _, rfl, rfl⟩
    · (repeat' (first | apply zan | apply zac | (apply O_at; rfl) | (apply zag; rfl) | apply zah | (apply zbc; rfl) | (apply zaG; rfl) | apply zav | apply zay | apply zbd | apply zar | (apply zbj; rfl; rfl; rfl) | ((first | apply zae | apply zad | apply zbm); rfl; rfl; rfl; rfl) | (apply P_fa; rfl; rfl; rfl; rfl; exact zaw rfl; (first | exact Nat.zero_add _ | exact Nat.add_zero _ | rfl)) | (apply zbe; rfl; rfl; rfl; rfl; rfl; rfl; exact zau rfl) | (apply za2; rfl; rfl; rfl; rfl; rfl; rfl) | (apply zbK; rfl; rfl; rfl; rfl; rfl) | (apply zeE; rfl; rfl; rfl; rfl; rfl; omega) | (apply zgX; rfl; rfl; rfl; rfl; rfl; omega) | (apply zgW; rfl; rfl; rfl; rfl; rfl; omega) | (apply zb4; rfl; rfl; rfl; rfl; rfl; omega) | (apply zb3; rfl; rfl; rfl; rfl; rfl; omega) | (apply zfj; rfl; rfl; rfl; rfl; rfl; omega) | (apply zfi; rfl; rfl; rfl; rfl; rfl; omega) | (apply zeB; rfl; rfl; rfl; rfl; rfl; (unfold fit; omega)) | (apply zcp; rfl; rfl; rfl; rfl; rfl; exact zau rfl; exact zak rfl; (first | assumption | rfl | exact (Int.toNat_of_nonneg (by omega)).symm); omega) | (apply zam; rfl; rfl; rfl; rfl; exact zas rfl; (focus repeat' first | exact zaa | assumption | apply zab | (apply Ext.get; assumption)); (first | exact zal (by omega) | rfl | assumption)) | (apply zaD; rfl; rfl; rfl; rfl; exact zaO rfl; (focus repeat' first | exact zaa | assumption | apply zab | (apply Ext.get; assumption)); (first | exact Nat.le_of_ble_eq_true rfl | (simp; done) | (simp; omega) | (rw [zaj]; omega)); rfl) | (apply zgU; rfl; rfl; rfl; rfl; rfl; rfl) | (apply zaI; rfl; rfl; rfl; rfl; exact zak rfl; rfl; rfl) | (apply zjP; rfl; rfl; rfl; rfl; rfl; rfl) | (apply zaf; rfl; rfl; rfl; rfl; rfl; rfl; exact yes (zfv (x := ⟨par, ⟨q, k, t⟩⟩) hK (hT.ext (by (focus repeat' first | exact Ext.refl _ | assumption | apply Ext.push | (refine Ext.trans ?_ (by assumption))))) (hc.ext (by (focus repeat' first | exact Ext.refl _ | assumption | apply Ext.push | (refine Ext.trans ?_ (by assumption)))))) hR; (rintro _ _ ⟨rfl, _⟩)) | (apply zaf; rfl; rfl; rfl; rfl; rfl; rfl; exact no (zcr hK (by omega)) hL; (rintro _ _ ⟨rfl, _⟩)) | (apply zaf; rfl; rfl; rfl; rfl; rfl; rfl; exact zcZ hKn; (rintro _ _ ⟨rfl, _⟩)) | fail))
      exact ⟨.inr rfl, _, rfl, rfl⟩
  · (repeat' (first | apply zan | apply zac | (apply O_at; rfl) | (apply zag; rfl) | apply zah | (apply zbc; rfl) | (apply zaG; rfl) | apply zav | apply zay | apply zbd | apply zar | (apply zbj; rfl; rfl; rfl) | ((first | apply zae | apply zad | apply zbm); rfl; rfl; rfl; rfl) | (apply P_fa; rfl; rfl; rfl; rfl; exact zaw rfl; (first | exact Nat.zero_add _ | exact Nat.add_zero _ | rfl)) | (apply zbe; rfl; rfl; rfl; rfl; rfl; rfl; exact zau rfl) | (apply za2; rfl; rfl; rfl; rfl; rfl; rfl) | (apply zbK; rfl; rfl; rfl; rfl; rfl) | (apply zeE; rfl; rfl; rfl; rfl; rfl; omega) | (apply zgX; rfl; rfl; rfl; rfl; rfl; omega) | (apply zgW; rfl; rfl; rfl; rfl; rfl; omega) | (apply zb4; rfl; rfl; rfl; rfl; rfl; omega) | (apply zb3; rfl; rfl; rfl; rfl; rfl; omega) | (apply zfj; rfl; rfl; rfl; rfl; rfl; omega) | (apply zfi; rfl; rfl; rfl; rfl; rfl; omega) | (apply zeB; rfl; rfl; rfl; rfl; rfl; (unfold fit; omega)) | (apply zcp; rfl; rfl; rfl; rfl; rfl; exact zau rfl; exact zak rfl; (first | assumption | rfl | exact (Int.toNat_of_nonneg (by omega)).symm); omega) | (apply zam; rfl; rfl; rfl; rfl; exact zas rfl; (focus repeat' first | exact zaa | assumption | apply zab | (apply Ext.get; assumption)); (first | exact zal (by omega) | rfl | assumption)) | (apply zaD; rfl; rfl; rfl; rfl; exact zaO rfl; (focus repeat' first | exact zaa | assumption | apply zab | (apply Ext.get; assumption)); (first | exact Nat.le_of_ble_eq_true rfl | (simp; done) | (simp; omega) | (rw [zaj]; omega)); rfl) | (apply zgU; rfl; rfl; rfl; rfl; rfl; rfl) | (apply zaI; rfl; rfl; rfl; rfl; exact zak rfl; rfl; rfl) | (apply zjP; rfl; rfl; rfl; rfl; rfl; rfl) | (apply zaf; rfl; rfl; rfl; rfl; rfl; rfl; exact no (zfv (x := ⟨par, ⟨q, k, t⟩⟩) hK (hT.ext (by (focus repeat' first | exact Ext.refl _ | assumption | apply Ext.push | (refine Ext.trans ?_ (by assumption))))) (hc.ext (by (focus repeat' first | exact Ext.refl _ | assumption | apply Ext.push | (refine Ext.trans ?_ (by assumption)))))) hR; (rintro _ _ ⟨rfl, _⟩)) | (apply zaf; rfl; rfl; rfl; rfl; rfl; rfl; exact zcZ hKn; (rintro _ _ ⟨rfl, _⟩)) | fail))
    exact ⟨.inr rfl, _, rfl, rfl⟩
end Go.AX.Sa
