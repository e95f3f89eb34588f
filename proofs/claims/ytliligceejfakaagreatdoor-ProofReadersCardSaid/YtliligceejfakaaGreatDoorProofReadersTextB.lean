/- The law ProofReaders at the reading: what the functions that it calls answer (2). -/
import Derived.Test.YtliligceejfakaaGreatDoorProofReadersTextA
namespace Go.AX.Sa
open Go.Proofs
set_option maxRecDepth 100000
variable {K : Known}
/-! What stands, line by line: the specification. -/
theorem zfh (hK : NoK K) {c : Cop} {people : Int} {n : Nat} {j : Int} {h : Heap} (hc : RowIn c.r h) (hP : EntP people n (ent c)) :
    CallW Tryz.prog K 109 #[enV c, .int .i64 j] h (IfB (changes (ent c) j) h) := by
  obtain ⟨rd, hcb, _⟩ := hc
  obtain ⟨par, q, k, t⟩ := c
  dsimp only [enV, ent] at rd hcb hP ⊢
  refine body (N := 29) Tryz.func109 rfl (hK _ _ _ rfl) rfl rfl ?_
  rcases ent0 hP with h1 | h1 | h1
  · dsimp only at h1
    subst h1
    (repeat' (first | apply zam | apply zac | (apply O_at; rfl) | (apply zaj; rfl) | apply zak | apply zaA | apply zau | (apply zbn; rfl; rfl; rfl) | ((first | apply zaf | apply zad); rfl; rfl; rfl; rfl) | (apply P_fa; rfl; rfl; rfl; rfl; exact zaw rfl; (first | exact Nat.zero_add _ | exact Nat.add_zero _ | rfl)) | (apply zaR; rfl; rfl; rfl; rfl; rfl; rfl) | (apply zb4; rfl; rfl; rfl; rfl; rfl; omega) | (apply zah; rfl; rfl; rfl; rfl; exact zar rfl; (focus repeat' first | exact zaa | assumption | apply zab); (first | exact zae (by omega) | rfl | assumption)) | (apply zaM; rfl; rfl; rfl; rfl; exact zai rfl; rfl; rfl) | fail))
    exact ⟨.inr rfl, _, rfl, .inr ⟨rfl, by unfold changes; simp, by (focus repeat' first | exact Ext.refl _ | assumption | apply Ext.push)⟩⟩
  · dsimp only at h1
    subst h1
    have z := ent2.1 hP
    obtain ⟨b, e, own, rfl, hg⟩ := rd.at (by rw [zag]; omega)
    (repeat' (first | apply zam | apply zac | (apply O_at; rfl) | (apply zaj; rfl) | apply zak | apply zaA | apply zau | (apply zbn; rfl; rfl; rfl) | ((first | apply zaf | apply zad); rfl; rfl; rfl; rfl) | (apply P_fa; rfl; rfl; rfl; rfl; exact zaw rfl; (first | exact Nat.zero_add _ | exact Nat.add_zero _ | rfl)) | (apply zaR; rfl; rfl; rfl; rfl; rfl; rfl) | (apply zb4; rfl; rfl; rfl; rfl; rfl; omega) | (apply zbM; rfl; rfl; rfl; rfl; rfl; omega) | (apply zhN; rfl; rfl; rfl; rfl; rfl; all_goals intro _) | (apply zcz; rfl; rfl; rfl; rfl; rfl; exact zas rfl; exact zai rfl; (first | assumption | exact zq0 | exact zq1 | rfl | exact (Int.toNat_of_nonneg (by omega)).symm); omega) | (apply zah; rfl; rfl; rfl; rfl; exact zar rfl; (focus repeat' first | exact zaa | assumption | apply zab); (first | exact zae (by omega) | rfl | assumption)) | (apply zaM; rfl; rfl; rfl; rfl; exact zai rfl; rfl; rfl) | fail))
    · rename_i w
      exact ⟨.inr rfl, _, rfl, .inl ⟨rfl, .inl ⟨rfl, w⟩, by (focus repeat' first | exact Ext.refl _ | assumption | apply Ext.push)⟩⟩
    · rename_i w
      exact ⟨.inr rfl, _, rfl, .inr ⟨rfl, by unfold changes; simpa using w, by (focus repeat' first | exact Ext.refl _ | assumption | apply Ext.push)⟩⟩
  · dsimp only at h1
    subst h1
    have z := ent3.1 hP
    obtain ⟨b, e, own, rfl, hg⟩ := rd.at (by rw [zag]; omega)
    (repeat' (first | apply zam | apply zac | (apply O_at; rfl) | (apply zaj; rfl) | apply zak | apply zaA | apply zau | (apply zbn; rfl; rfl; rfl) | ((first | apply zaf | apply zad); rfl; rfl; rfl; rfl) | (apply P_fa; rfl; rfl; rfl; rfl; exact zaw rfl; (first | exact Nat.zero_add _ | exact Nat.add_zero _ | rfl)) | (apply zaR; rfl; rfl; rfl; rfl; rfl; rfl) | (apply zb4; rfl; rfl; rfl; rfl; rfl; omega) | (apply zbM; rfl; rfl; rfl; rfl; rfl; omega) | (apply zhN; rfl; rfl; rfl; rfl; rfl; all_goals intro _) | (apply zcz; rfl; rfl; rfl; rfl; rfl; exact zas rfl; exact zai rfl; (first | assumption | exact zq0 | exact zq1 | rfl | exact (Int.toNat_of_nonneg (by omega)).symm); omega) | (apply zah; rfl; rfl; rfl; rfl; exact zar rfl; (focus repeat' first | exact zaa | assumption | apply zab); (first | exact zae (by omega) | rfl | assumption)) | (apply zaM; rfl; rfl; rfl; rfl; exact zai rfl; rfl; rfl) | fail))
    · rename_i w
      exact ⟨.inr rfl, _, rfl, .inl ⟨rfl, .inr ⟨rfl, w⟩, by (focus repeat' first | exact Ext.refl _ | assumption | apply Ext.push)⟩⟩
    · rename_i w
      exact ⟨.inr rfl, _, rfl, .inr ⟨rfl, by unfold changes; simpa using w, by (focus repeat' first | exact Ext.refl _ | assumption | apply Ext.push)⟩⟩
theorem zdZ (hK : NoK K) {c : Cop} {people : Int} {n : Nat} {j : Int} {h : Heap} (hc : RowIn c.r h) (hP : EntP people n (ent c)) :
    CallW Tryz.prog K 69 #[enV c, .int .i64 j] h (IfB (reads (ent c) j) h) := by
  obtain ⟨rd, hcb, _⟩ := hc
  obtain ⟨par, q, k, t⟩ := c
  dsimp only [enV, ent] at rd hcb hP ⊢
  refine body (N := 20) Tryz.func69 rfl (hK _ _ _ rfl) rfl rfl ?_
  by_cases h1 : par = 1
  · subst h1
    have z := ent1.1 hP
    obtain ⟨b, e, own, rfl, hg⟩ := rd.at (by rw [zag]; omega)
    (repeat' (first | apply zam | apply zac | (apply O_at; rfl) | (apply N_at; rfl) | (apply zaj; rfl) | apply zak | (apply zbf; exact zay (by decide +kernel)) | apply zaA | (apply zbH; rfl; refine .inr ?_; (focus repeat' first | exact trivial | exact Keeps.nil _ _ | apply And.intro | rfl | (apply Keeps.cons; iterate 2 (focus repeat' first | exact zaa | assumption | apply zab | (apply Ext.get; assumption))))) | apply zau | ((first | apply zad | apply zaN | apply zaV); rfl; rfl; rfl; rfl) | (apply zaM; rfl; rfl; rfl; rfl; exact zai rfl; rfl; rfl) | (apply M_fa; rfl; rfl; rfl; rfl; exact zaw rfl; (first | exact Nat.zero_add _ | exact Nat.add_zero _ | rfl)) | (apply zbU; rfl; rfl; rfl; rfl; rfl; rfl) | (apply zgH; rfl; rfl; rfl; rfl; rfl; omega) | (apply zc7; rfl; rfl; rfl; rfl; rfl; exact zas rfl; exact zai rfl; (first | assumption | exact zq2 | exact zq3 | rfl | exact (Int.toNat_of_nonneg (by omega)).symm); omega) | (((apply zbx; rfl; rfl; rfl; rfl; exact zar rfl); (focus repeat' first | exact zaa | assumption | apply zab | (apply Ext.get; assumption)); (first | exact zae (by omega) | rfl | assumption)); (first | assumption | exact zaI _ _ | exact zbu _ _ _ | rfl | (focus simp [same, same.all2]; done)); (first | rfl | assumption | exact hwv _ | (focus apply zbt; (focus repeat' first | exact zaa | assumption | apply zab | (apply Ext.get; assumption)); done) | (simp [within]; omega))) | (apply zaO; rfl; rfl; rfl; rfl; rfl; rfl; rfl; exact zjb hK; (rintro _ _ (⟨rfl, _, _⟩ | ⟨rfl, _, _⟩))) | fail))
    · rename_i w _
      exact ⟨.inr rfl, _, rfl, .inl ⟨rfl, ⟨rfl, w⟩, by (focus repeat' first | exact Ext.refl _ | assumption | apply Ext.push | (refine Ext.trans ?_ (by assumption)))⟩⟩
    · rename_i w _
      exact ⟨.inr rfl, _, rfl, .inr ⟨rfl, fun q => w q.2, by (focus repeat' first | exact Ext.refl _ | assumption | apply Ext.push | (refine Ext.trans ?_ (by assumption)))⟩⟩
  · (repeat' (first | apply zam | apply zac | (apply O_at; rfl) | (apply N_at; rfl) | (apply zaj; rfl) | apply zak | (apply zbf; exact zay (by decide +kernel)) | apply zaA | (apply zbH; rfl; refine .inr ?_; (focus repeat' first | exact trivial | exact Keeps.nil _ _ | apply And.intro | rfl | (apply Keeps.cons; iterate 2 (focus repeat' first | exact zaa | assumption | apply zab | (apply Ext.get; assumption))))) | apply zau | ((first | apply zad | apply zaN | apply zaV); rfl; rfl; rfl; rfl) | (apply zaM; rfl; rfl; rfl; rfl; exact zai rfl; rfl; rfl) | (apply zcA; rfl; rfl; rfl; rfl) | (apply zcp; rfl; rfl; rfl; rfl) | (apply M_fa; rfl; rfl; rfl; rfl; exact zaw rfl; (first | exact Nat.zero_add _ | exact Nat.add_zero _ | rfl)) | (apply zbU; rfl; rfl; rfl; rfl; rfl; rfl) | (apply zgI; rfl; rfl; rfl; rfl; rfl; omega) | (((first | (apply zbs; rfl; rfl; rfl; rfl; exact zar rfl; exact zaQ (by decide +kernel)) | (apply zbx; rfl; rfl; rfl; rfl; exact zar rfl)); (focus repeat' first | exact zaa | assumption | apply zab | (apply Ext.get; assumption)); (first | exact zae (by omega) | rfl | assumption)); (first | assumption | exact zaI _ _ | exact zbu _ _ _ | rfl | (focus simp [same, same.all2]; done)); (first | rfl | assumption | exact hwv _ | (focus apply zbt; (focus repeat' first | exact zaa | assumption | apply zab | (apply Ext.get; assumption)); done) | (simp [within]; omega))) | fail))
    exact ⟨.inr rfl, _, rfl, .inr ⟨rfl, fun q => h1 q.1, by (focus repeat' first | exact Ext.refl _ | assumption | apply Ext.push | (refine Ext.trans ?_ (by assumption)))⟩⟩
theorem zjY {G : Pg} {k : Nat} {j a : Int} (h : k < G.c.length) : setF ((logL G).take (k + 1)) j a = setS j (setF ((logL G).take k) j a) (ent (G.c.getD k cop0)) := by
  have e : (logL G).take (k + 1) = (logL G).take k ++ [ent (G.c.getD k cop0)] := by
    rw [List.take_add_one, zcV h]; rfl
  rw [e, zdV]
theorem zfX (hK : NoK K) {G : Pg} {j : Nat} (hP : PgP G) (hj : j < G.n) : ∀ (k : Nat) (kk : Int) (h : Heap), kk = (k : Nat) → PgAt G h → k ≤ G.c.length →
    CallW Tryz.prog K 66 #[pgV G, .int .i64 (j : Nat), .int .i64 kk] h (IsV (.int .i64 (setF ((logL G).take k) (j : Nat) (setr G j))) h) := by
  intro k
  induction k with
  | zero =>
    intro kk h hkk hT _
    subst hkk
    have hnn := hP.n
    obtain ⟨people, pl, kl, n, l, p, kc, c⟩ := G
    obtain ⟨len, rl, rc, each, hbl, hpb⟩ := hT
    dsimp only [pgV] at len rl hnn hj ⊢
    obtain ⟨b, e, own, rfl, hg⟩ := rl.at (by rw [zag]; omega)
    refine body (N := 42) Tryz.func66 rfl (hK _ _ _ rfl) rfl rfl ?_
    (repeat' (first | apply zam | apply zac | (apply O_at; rfl) | (apply zaj; rfl) | apply zak | (apply za4; rfl) | apply zaA | apply za5 | apply zau | ((first | apply zaf | apply zad); rfl; rfl; rfl; rfl) | (apply P_fa; rfl; rfl; rfl; rfl; exact zaw rfl; (first | exact Nat.zero_add _ | exact Nat.add_zero _ | rfl)) | (apply zbM; rfl; rfl; rfl; rfl; rfl; omega) | (apply zbT; rfl; rfl; rfl; rfl; rfl; exact zas rfl; exact zai rfl; (first | assumption | exact zq0 | exact zq1 | rfl | exact (Int.toNat_of_nonneg (by omega)).symm); omega) | (apply zah; rfl; rfl; rfl; rfl; exact zar rfl; (focus repeat' first | exact zaa | assumption | apply zab); (first | exact zae (by omega) | rfl | assumption)) | (apply zaM; rfl; rfl; rfl; rfl; exact zai rfl; rfl; rfl) | fail))
    exact ⟨.inr rfl, _, rfl, rfl, by (focus repeat' first | exact Ext.refl _ | assumption | apply Ext.push | (refine Ext.trans ?_ (by assumption)))⟩
  | succ k ih =>
    intro kk h hkk hT hk
    subst hkk
    have hT' := hT
    have hnn := hP.n
    have hcc := hP.c
    have eP := hP.ent k hk
    rw [zjY hk]
    obtain ⟨people, pl, kl, n, l, p, kc, c⟩ := G
    obtain ⟨len, rl, rc, each, hbl, hpb⟩ := hT
    dsimp only at len rl rc each hnn hj hcc hk eP ih ⊢
    obtain ⟨b, e, own, rfl, hg⟩ := rc.at (by rw [zat]; omega)
    have eR := each k hk
    have hk1 : ((k + 1 : Nat) : Int) - 1 = (k : Nat) := by omega
    refine body (N := 42) Tryz.func66 rfl (hK _ _ _ rfl) rfl rfl ?_
    dsimp only [pgV]
    by_cases h2 : (c.getD k cop0).par = 2
    · have z : (c.getD k cop0).r.s.length = 3 := by
        have w := eP
        unfold ent at w
        rw [h2] at w
        exact (ent2.1 w).1
      obtain ⟨b2, e2, own2, hq2, hg2⟩ := eR.rd.at (by rw [zag]; omega)
      (repeat' (first | apply zam | apply zac | (apply O_at; rfl) | (apply zaj; rfl) | apply zak | (apply zaK; rfl) | apply zax | ((first | apply zaf | apply zad); rfl; rfl; rfl; rfl) | (apply P_fa; rfl; rfl; rfl; rfl; exact zaw rfl; (first | exact Nat.zero_add _ | exact Nat.add_zero _ | rfl)) | (apply zb4; rfl; rfl; rfl; rfl; rfl; omega) | (apply zbM; rfl; rfl; rfl; rfl; rfl; omega) | (apply zeL; rfl; rfl; rfl; rfl; rfl; (unfold fit; omega)) | (apply zbT; rfl; rfl; rfl; rfl; rfl; exact zas rfl; exact zai rfl; (first | assumption | exact zq0 | exact zq1 | rfl | exact (Int.toNat_of_nonneg (by omega)).symm); omega) | (apply zah; rfl; rfl; rfl; rfl; exact zar rfl; (focus repeat' first | exact zaa | assumption | apply zab); (first | exact zae (by omega) | rfl | assumption)) | (apply zaz; rfl; rfl; rfl; rfl; exact zaT rfl; (focus repeat' first | exact zaa | assumption | apply zab); (first | exact Nat.le_of_ble_eq_true rfl | (rw [zat]; omega) | (simp; done) | (simp; omega) | (rw [zag]; omega)); (first | exact zav (by omega) | rfl)) | (apply zaD; rfl; rfl; rfl; rfl; exact zai rfl; rfl; rfl; rfl) | (apply zaM; rfl; rfl; rfl; rfl; exact zai rfl; rfl; rfl) | (apply zbi; rfl; rfl; rfl; rfl; exact zai rfl; rfl; rfl) | fail))
      rw [hq2]
      (repeat' (first | apply zam | apply zac | (apply O_at; rfl) | (apply zaj; rfl) | apply zak | (apply za4; rfl) | (apply zaK; rfl) | apply zax | apply zaA | apply za5 | apply zau | ((first | apply zaf | apply zad); rfl; rfl; rfl; rfl) | (apply P_fa; rfl; rfl; rfl; rfl; exact zaw rfl; (first | exact Nat.zero_add _ | exact Nat.add_zero _ | rfl)) | (apply zaR; rfl; rfl; rfl; rfl; rfl; rfl) | (apply zhN; rfl; rfl; rfl; rfl; rfl; all_goals intro _) | (apply zeL; rfl; rfl; rfl; rfl; rfl; (unfold fit; omega)) | (apply zcz; rfl; rfl; rfl; rfl; rfl; exact zas rfl; exact zai rfl; (first | assumption | exact zq0 | exact zq1 | rfl | exact (Int.toNat_of_nonneg (by omega)).symm); omega) | (apply zah; rfl; rfl; rfl; rfl; exact zar rfl; (focus repeat' first | exact zaa | assumption | apply zab); (first | exact zae (by omega) | rfl | assumption)) | (apply zaz; rfl; rfl; rfl; rfl; exact zaT rfl; (focus repeat' first | exact zaa | assumption | apply zab); (first | exact Nat.le_of_ble_eq_true rfl | (rw [zat]; omega) | (simp; done) | (simp; omega) | (rw [zag]; omega)); (first | exact zav (by omega) | rfl)) | (apply zal; rfl; rfl; rfl; rfl; rfl; rfl; exact ih _ _ (by omega) (hT'.ext (by (focus repeat' first | exact Ext.refl _ | assumption | apply Ext.push | (refine Ext.trans ?_ (by assumption))))) (by omega); (rintro _ _ ⟨rfl, _⟩)) | fail))
      · rename_i w
        refine ⟨.inr rfl, _, rfl, ?_, by (focus repeat' first | exact Ext.refl _ | assumption | apply Ext.push | (refine Ext.trans ?_ (by assumption)))⟩
        rw [setS, if_pos ⟨h2, w⟩]; rfl
      · rename_i w _ _
        refine ⟨.inr rfl, _, rfl, ?_, by (focus repeat' first | exact Ext.refl _ | assumption | apply Ext.push | (refine Ext.trans ?_ (by assumption)))⟩
        rw [setS, if_neg (fun y => w y.2)]; rfl
    · (repeat' (first | apply zam | apply zac | (apply O_at; rfl) | (apply zaj; rfl) | apply zak | (apply zaK; rfl) | apply zax | apply zaA | apply zau | (apply zbn; rfl; rfl; rfl) | ((first | apply zaf | apply zad); rfl; rfl; rfl; rfl) | (apply P_fa; rfl; rfl; rfl; rfl; exact zaw rfl; (first | exact Nat.zero_add _ | exact Nat.add_zero _ | rfl)) | (apply zaR; rfl; rfl; rfl; rfl; rfl; rfl) | (apply zb4; rfl; rfl; rfl; rfl; rfl; omega) | (apply zeL; rfl; rfl; rfl; rfl; rfl; (unfold fit; omega)) | (apply zbT; rfl; rfl; rfl; rfl; rfl; exact zas rfl; exact zai rfl; (first | assumption | exact zq0 | exact zq1 | rfl | exact (Int.toNat_of_nonneg (by omega)).symm); omega) | (apply zah; rfl; rfl; rfl; rfl; exact zar rfl; (focus repeat' first | exact zaa | assumption | apply zab); (first | exact zae (by omega) | rfl | assumption)) | (apply zaz; rfl; rfl; rfl; rfl; exact zaT rfl; (focus repeat' first | exact zaa | assumption | apply zab); (first | exact Nat.le_of_ble_eq_true rfl | (rw [zat]; omega) | (simp; done) | (simp; omega) | (rw [zag]; omega)); (first | exact zav (by omega) | rfl)) | (apply zaD; rfl; rfl; rfl; rfl; exact zai rfl; rfl; rfl; rfl) | (apply zaM; rfl; rfl; rfl; rfl; exact zai rfl; rfl; rfl) | (apply zbi; rfl; rfl; rfl; rfl; exact zai rfl; rfl; rfl) | (apply zal; rfl; rfl; rfl; rfl; rfl; rfl; exact ih _ _ (by omega) (hT'.ext (by (focus repeat' first | exact Ext.refl _ | assumption | apply Ext.push | (refine Ext.trans ?_ (by assumption))))) (by omega); (rintro _ _ ⟨rfl, _⟩)) | fail))
      refine ⟨.inr rfl, _, rfl, ?_, by (focus repeat' first | exact Ext.refl _ | assumption | apply Ext.push | (refine Ext.trans ?_ (by assumption)))⟩
      rw [setS, if_neg (fun y => h2 y.1)]; rfl
theorem zg1 (hK : NoK K) {l m : List Int} {p q : Option Addr} {cap cap' : Nat} {h : Heap} (hn : l.length ≤ 1000) (_hm : m.length ≤ 1000) (hr : Rd h p (ints l)) (hq : Rd h q (ints m)) :
    CallW Tryz.prog K 21 #[.slice p l.length cap, .slice q m.length cap'] h (IfB (l = m) h) := by
  refine body (N := 26) Tryz.func21 rfl (hK _ _ _ rfl) rfl rfl ?_
  by_cases hl : l.length = m.length
  · (repeat' (first | apply zam | apply zac | (apply O_at; rfl) | (apply zaj; rfl) | apply zak | (apply zaK; rfl) | apply zaq | apply zax | ((first | apply zaf | apply zad | apply zaN); rfl; rfl; rfl; rfl) | (apply zbe; rfl; rfl; rfl; rfl; rfl; rfl; exact zas rfl) | (apply ziw; rfl; rfl; rfl; rfl; rfl; omega) | fail))
    refine zbb (fun k : Nat => [(0, .slice p l.length cap), (1, .slice q m.length cap'), (5, .int .i64 (k : Nat))])
      (fun k h' => k ≤ l.length ∧ Ext h h' ∧ ∀ j, j < k → l.getD j 0 = m.getD j 0) (fun k => l.length - k) ?_ 0 ?_ ?_
    · intro k h' ⟨hk, hx, hj⟩ ih
      by_cases hlt : k < l.length
      · obtain ⟨b, e, own', rfl, hg⟩ := hr.at (by rw [zag]; omega)
        obtain ⟨b2, e2, own2, rfl, hg2⟩ := hq.at (by rw [zag]; omega)
        (repeat' (first | apply zam | apply zac | (apply O_at; rfl) | (apply N_at; rfl) | (apply zaj; rfl) | apply zak | (apply za4; rfl) | (apply zaK; rfl) | (apply zbf; exact zay (by decide +kernel)) | apply zaq | apply zax | apply zaA | (apply zbH; rfl; exact (.inl (Nat.le_refl 1))) | apply za5 | apply zdw | apply zca | apply zaB | apply zau | ((first | apply zaf | apply zad | apply zaN); rfl; rfl; rfl; rfl) | (apply zbe; rfl; rfl; rfl; rfl; rfl; rfl; exact zas rfl) | (apply zbo; rfl; rfl; rfl; rfl; rfl; omega) | (apply zbN; rfl; rfl; rfl; rfl; rfl; (unfold fit; omega)) | (apply M_neq; rfl; rfl; rfl; rfl; rfl; all_goals intro _) | (apply zc7; rfl; rfl; rfl; rfl; rfl; exact zas rfl; exact zai rfl; (first | assumption | rfl | exact (Int.toNat_of_nonneg (by omega)).symm); omega) | (((apply zbs; rfl; rfl; rfl; rfl; exact zar rfl; exact zaQ (by decide +kernel)); (focus repeat' first | assumption | (apply Ext.get; assumption)); (first | exact zae (by omega) | rfl | assumption)); (first | assumption | exact zaI _ _ | rfl | (focus simp [same, same.all2]; done)); (first | rfl | assumption | exact hwv _ | (simp [within]; omega))) | fail))
        · rename_i w
          exact ⟨.inr rfl, _, rfl, .inr ⟨rfl, fun z => w (by rw [z]), by (focus repeat' first | exact Ext.refl _ | assumption)⟩⟩
        · rename_i w
          refine zaH (ih (k + 1) _ ?_ ⟨hlt, ?_, fun j hj' => ?_⟩) ?_
          · omega
          · (focus repeat' first | exact Ext.refl _ | assumption)
          · by_cases hjk : j = k
            · subst hjk; exact w
            · exact hj j (by omega)
          · (focus repeat' first | rfl | exact trivial | apply And.intro)
      · (repeat' (first | apply zam | apply zac | (apply O_at; rfl) | (apply zaj; rfl) | apply zak | (apply zaK; rfl) | apply zbj | apply zaA | apply zbk | apply zaZ | apply za0 | apply zau | ((first | apply zaf | apply zad | apply zaN); rfl; rfl; rfl; rfl) | (apply zbe; rfl; rfl; rfl; rfl; rfl; rfl; exact zas rfl) | (apply zbr; rfl; rfl; rfl; rfl; rfl; omega) | fail))
        refine ⟨.inr rfl, _, rfl, .inl ⟨rfl, ?_, by (focus repeat' first | exact Ext.refl _ | assumption)⟩⟩
        apply List.ext_getElem hl
        intro j h1 h2
        have := hj j (by omega)
        simpa [h1, h2] using this
    · exact ⟨Nat.zero_le _, Ext.refl _, fun j hj => by omega⟩
    · (focus repeat' first | rfl | exact trivial | apply And.intro)
  · (repeat' (first | apply zam | apply zac | (apply O_at; rfl) | (apply zaj; rfl) | apply zak | (apply za4; rfl) | apply zaA | apply za5 | apply zau | ((first | apply zaf | apply zad | apply zaN); rfl; rfl; rfl; rfl) | (apply zbe; rfl; rfl; rfl; rfl; rfl; rfl; exact zas rfl) | (apply P_neqT; rfl; rfl; rfl; rfl; rfl; omega) | fail))
    exact ⟨.inr rfl, _, rfl, .inr ⟨rfl, fun q => hl (by rw [q]), by (focus repeat' first | exact Ext.refl _ | assumption)⟩⟩
theorem zfi (hK : NoK K) {G : Pg} {j : Int} {i : Nat} {h : Heap} (hT : PgAt G h) (hP : PgP G) (hi : i ≤ G.c.length) :
    CallW Tryz.prog K 70 #[pgV G, .int .i64 j, .int .i64 (i : Nat)] h (IfB (∃ k, i ≤ k ∧ k < G.c.length ∧ changes (ent (G.c.getD k cop0)) j) h) := by
  have hcc := hP.c
  have hE := hP.ent
  obtain ⟨people, pl, kl, n, l, p, kc, c⟩ := G
  obtain ⟨len, rl, rc, each, hbl, hpb⟩ := hT
  dsimp only [pgV] at len rl rc each hbl hpb hcc hE hi ⊢
  refine body (N := 23) Tryz.func70 rfl (hK _ _ _ rfl) rfl rfl ?_
  (repeat' (first | apply zam | apply zac | (apply O_at; rfl) | (apply zaj; rfl) | apply zak | apply zaq | ((first | apply zaf | apply zad); rfl; rfl; rfl; rfl) | (apply zaM; rfl; rfl; rfl; rfl; exact zai rfl; rfl; rfl) | fail))
  refine zbb (fun k : Nat => [(7, .int .i64 (k : Nat)), (3, .pointer (some ⟨h.n, 0, none⟩)), (1, .int .i64 j)])
    (fun k h' => i ≤ k ∧ k ≤ c.length ∧ Ext (h.push (.cells [.int .i64 people, .slice pl n kl, .slice p c.length kc] 25 true)) h' ∧ ∀ k', i ≤ k' → k' < k → ¬ changes (ent (c.getD k' cop0)) j) (fun k => c.length - k) ?_ i ?_ ?_
  · rintro k h' ⟨hik, hk, hx, hj⟩ ih
    have g0 := hx.get zaa
    by_cases hlt : k < c.length
    · obtain ⟨b, e, own, rfl, hg⟩ := rc.at (by rw [zat]; omega)
      have hg' := hx.get (zab hg)
      have eR := each k hlt
      (repeat' (first | apply zam | apply zac | (apply O_at; rfl) | (apply zaj; rfl) | apply zak | (apply za4; rfl) | (apply zaK; rfl) | apply zaq | apply zax | apply zaA | apply za5 | apply zdw | apply zca | apply zaB | apply zau | ((first | apply zaf | apply zad); rfl; rfl; rfl; rfl) | (apply P_fa; rfl; rfl; rfl; rfl; exact zaw rfl; (first | exact Nat.zero_add _ | exact Nat.add_zero _ | rfl)) | (apply zbe; rfl; rfl; rfl; rfl; rfl; rfl; exact zas rfl) | (apply zbo; rfl; rfl; rfl; rfl; rfl; omega) | (apply zbN; rfl; rfl; rfl; rfl; rfl; (unfold fit; omega)) | (apply zbT; rfl; rfl; rfl; rfl; rfl; exact zas rfl; exact zai rfl; (first | assumption | rfl | exact (Int.toNat_of_nonneg (by omega)).symm); omega) | (apply zah; rfl; rfl; rfl; rfl; exact zar rfl; (focus repeat' first | exact zaa | assumption | apply zab | (apply Ext.get; assumption)); (first | rfl | assumption)) | (apply zaz; rfl; rfl; rfl; rfl; exact zaT rfl; (focus repeat' first | exact zaa | assumption | apply zab | (apply Ext.get; assumption)); (first | exact Nat.le_of_ble_eq_true rfl | (rw [zat]; omega) | (simp; done) | (simp; omega)); (first | exact zav (by omega) | rfl)) | (apply zal; rfl; rfl; rfl; rfl; rfl; rfl; exact zfh hK (c := c.getD k cop0) (eR.ext (by (focus repeat' first | exact Ext.refl _ | assumption | apply Ext.push | (refine Ext.trans ?_ (by assumption))))) (hE k hlt); (rintro _ _ (⟨rfl, _, _⟩ | ⟨rfl, _, _⟩))) | fail))
      · rename_i w _
        exact ⟨.inr rfl, _, rfl, .inl ⟨rfl, ⟨k, hik, hlt, w⟩, by (focus repeat' first | exact Ext.refl _ | assumption | apply Ext.push | (refine Ext.trans ?_ (by assumption)))⟩⟩
      · rename_i w _
        refine zaH (ih (k + 1) _ (by omega) ⟨by omega, hlt, by (focus repeat' first | exact Ext.refl _ | assumption | apply Ext.push | (refine Ext.trans ?_ (by assumption))), fun k' h1 h2 => ?_⟩) (by (focus repeat' first | rfl | exact trivial | apply And.intro))
        by_cases hkk : k' = k
        · subst hkk; exact w
        · exact hj k' h1 (by omega)
    · (repeat' (first | apply zam | apply zac | (apply O_at; rfl) | (apply zaj; rfl) | apply zak | (apply zaK; rfl) | apply zbj | apply zaA | apply zbk | apply zaZ | apply za0 | apply zau | ((first | apply zaf | apply zad); rfl; rfl; rfl; rfl) | (apply P_fa; rfl; rfl; rfl; rfl; exact zaw rfl; (first | exact Nat.zero_add _ | exact Nat.add_zero _ | rfl)) | (apply zbe; rfl; rfl; rfl; rfl; rfl; rfl; exact zas rfl) | (apply zbr; rfl; rfl; rfl; rfl; rfl; omega) | (apply zah; rfl; rfl; rfl; rfl; exact zar rfl; (focus repeat' first | exact zaa | assumption | apply zab | (apply Ext.get; assumption)); (first | rfl | assumption)) | fail))
      exact ⟨.inr rfl, _, rfl, .inr ⟨rfl, fun ⟨k', a, b, d⟩ => hj k' a (by omega) d, by (focus repeat' first | exact Ext.refl _ | assumption | apply Ext.push | (refine Ext.trans ?_ (by assumption)))⟩⟩
  · exact ⟨Nat.le_refl _, hi, by (focus repeat' first | exact Ext.refl _ | assumption | apply Ext.push | (refine Ext.trans ?_ (by assumption))), fun k' a b => by omega⟩
  · (focus repeat' first | rfl | exact trivial | apply And.intro)
end Go.AX.Sa

namespace Go.AX.Sa
open Go.Proofs
set_option maxRecDepth 100000
variable {K : Known}
theorem logL_all (G : Pg) : (logL G).take G.c.length = logL G := List.take_of_length_le (by rw [zfr]; exact Nat.le_refl _)
def HeardTo (G : Pg) (j q : Int) (i : Nat) : Prop := ∃ i', i' < i ∧ (reads (ent (G.c.getD i' cop0)) j ∧ inPair (ent (G.c.getD i' cop0)) q) ∧ ¬ ∃ k, i' ≤ k ∧ k < G.c.length ∧ changes (ent (G.c.getD k cop0)) j
theorem zkK {G : Pg} {j q : Int} : HeardTo G j q G.c.length ↔ hrdF (logL G) (j, q) = true := by
  rw [hrdF_iff]
  unfold HeardTo Heard
  constructor
  · rintro ⟨i, hi, ⟨h1, h2⟩, h3⟩
    refine ⟨i, _, zcV hi, h1, h2, fun k e' hk he hc => ?_⟩
    have hk2 := (List.getElem?_eq_some_iff.1 he).1
    rw [zfr] at hk2
    rw [zcV hk2] at he
    cases he
    exact h3 ⟨k, hk, hk2, hc⟩
  · rintro ⟨i, e, he, h1, h2, h3⟩
    have hi := (List.getElem?_eq_some_iff.1 he).1
    rw [zfr] at hi
    rw [zcV hi] at he
    cases he
    exact ⟨i, hi, ⟨h1, h2⟩, fun ⟨k, a, b, d⟩ => h3 k _ a (zcV b) d⟩
set_option maxHeartbeats 1000000 in
theorem zcP (hK : NoK K) {G : Pg} {j : Nat} {h : Heap} (hT : PgAt G h) (hP : PgP G) (hj : j < G.n) : CallW Tryz.prog K 30 #[pgV G, .int .i64 (j : Nat)] h (IsL (rdA G (logL G) j) h) := by
  have hnn := hP.n
  have hcc := hP.c
  have hpp := hP.people
  have hT' := hT
  have hP' := hP
  have hE := hP.ent
  unfold rdA
  have hset : ∀ {h1 : Heap}, Ext h h1 → CallW Tryz.prog K 66 #[pgV G, .int .i64 (j : Nat), .int .i64 (G.c.length : Nat)] h1 (IsV (.int .i64 (setA G (logL G) j)) h1) := fun q => by
    have := zfX hK hP hj G.c.length _ _ rfl (hT.ext q) (Nat.le_refl _)
    rw [logL_all] at this
    exact this
  have hchg : ∀ {h1 : Heap} {i : Nat}, Ext h h1 → i < G.c.length → CallW Tryz.prog K 70 #[pgV G, .int .i64 (j : Nat), .int .i64 (i : Nat)] h1 (IfB (∃ k, i ≤ k ∧ k < G.c.length ∧ changes (ent (G.c.getD k cop0)) (j : Nat)) h1) := fun q w => zfi hK (hT.ext q) hP (by omega)
  obtain ⟨people, pl, kl, n, l, p, kc, c⟩ := G
  obtain ⟨len, rl, rc, each, hbl, hpb⟩ := hT
  dsimp only [pgV] at len rl rc each hbl hpb hnn hcc hpp hE hset hchg hj ⊢
  obtain ⟨m, rfl⟩ : ∃ m : Nat, people = m := ⟨people.toNat, by omega⟩
  refine body (N := 73) Tryz.func30 rfl (hK _ _ _ rfl) rfl rfl ?_
  (repeat' (first | apply zam | apply zac | (apply O_at; rfl) | (apply zaj; rfl) | apply zak | apply zaq | ((first | apply zaf | apply zad | apply zbl); rfl; rfl; rfl; rfl) | (apply zaM; rfl; rfl; rfl; rfl; exact zai rfl; rfl; rfl) | fail))
  refine zbb (fun a : Nat × Value => [(6, .int .i64 (a.1 : Nat)), (5, a.2), (2, .pointer (some ⟨h.n, 0, none⟩)), (1, .int .i64 (j : Nat))])
    (fun a h' => a.1 ≤ m ∧ Ext (h.push (.cells [.int .i64 (m : Nat), .slice pl n kl, .slice p c.length kc] 25 true)) h' ∧ OutI 3 (h.push (.cells [.int .i64 (m : Nat), .slice pl n kl, .slice p c.length kc] 25 true)) h' a.2 (rdrs a.1 (logL ⟨(m : Nat), pl, kl, n, l, p, kc, c⟩) (j : Nat) (setA ⟨(m : Nat), pl, kl, n, l, p, kc, c⟩ (logL ⟨(m : Nat), pl, kl, n, l, p, kc, c⟩) j))) (fun a => m - a.1) ?_ (0, .slice none 0 0) ?_ ?_
  · rintro ⟨k, v⟩ h' ⟨hk, hx, ho⟩ ih
    dsimp only at hk hx ho ih ⊢
    have g0 := hx.get zaa
    by_cases hlt : k < m
    · (repeat' (first | apply zam | apply zac | (apply O_at; rfl) | (apply zaj; rfl) | apply zak | (apply za4; rfl) | apply zaq | apply zax | ((first | apply zaf | apply zad | apply zbl); rfl; rfl; rfl; rfl) | (apply P_fa; rfl; rfl; rfl; rfl; exact zaw rfl; (first | exact Nat.zero_add _ | exact Nat.add_zero _ | rfl)) | (apply zbo; rfl; rfl; rfl; rfl; rfl; omega) | (apply zah; rfl; rfl; rfl; rfl; exact zar rfl; (focus repeat' first | exact zaa | assumption | apply zab | (apply Ext.get; assumption)); (first | exact zae (by omega) | rfl | assumption)) | fail))
      refine zbb (fun a : Nat × Bool => [(8, .int .i64 (a.1 : Nat)), (7, .bool a.2), (6, .int .i64 (k : Nat)), (5, v), (2, .pointer (some ⟨h.n, 0, none⟩)), (1, .int .i64 (j : Nat))])
        (fun a h2 => a.1 ≤ c.length ∧ Ext h' h2 ∧ (a.2 = true ↔ HeardTo ⟨(m : Nat), pl, kl, n, l, p, kc, c⟩ (j : Nat) (k : Nat) a.1)) (fun a => c.length - a.1) ?_ (0, false) ?_ ?_
      · rintro ⟨i, met⟩ h2 ⟨hi, hx2, hm⟩ ih2
        dsimp only at hi hx2 hm ih2 ⊢
        have g2 := hx2.get g0
        by_cases hlt2 : i < c.length
        · obtain ⟨b, e, own, rfl, hg⟩ := rc.at (by rw [zat]; omega)
          have hg' := hx2.get (hx.get (zab hg))
          have eR := each i hlt2
          have eP := hE i hlt2
          have hsucc : ∀ {Q : Prop}, (Q ↔ ((reads (ent (c.getD i cop0)) (j : Nat) ∧ inPair (ent (c.getD i cop0)) (k : Nat)) ∧ ¬ ∃ k, i ≤ k ∧ k < c.length ∧ changes (ent (c.getD k cop0)) (j : Nat))) → (HeardTo ⟨(m : Nat), pl, kl, n, l, some ⟨b, 0, none⟩, kc, c⟩ (j : Nat) (k : Nat) (i + 1) ↔ HeardTo ⟨(m : Nat), pl, kl, n, l, some ⟨b, 0, none⟩, kc, c⟩ (j : Nat) (k : Nat) i ∨ Q) := by
            intro Q hQ
            unfold HeardTo
            constructor
            · rintro ⟨i', a, b⟩
              by_cases q : i' = i
              · subst q; exact .inr (hQ.2 b)
              · exact .inl ⟨i', by omega, b⟩
            · rintro (⟨i', a, b⟩ | q)
              · exact ⟨i', by omega, b⟩
              · exact ⟨i, by omega, hQ.1 q⟩
          cases met with
          | true =>
            (repeat' (first | apply zam | apply zac | (apply O_at; rfl) | (apply zaj; rfl) | apply zak | (apply za4; rfl) | apply zaq | apply zax | apply zaB | (apply zbn; rfl; rfl; rfl) | ((first | apply zaf | apply zad | apply zbl); rfl; rfl; rfl; rfl) | (apply P_fa; rfl; rfl; rfl; rfl; exact zaw rfl; (first | exact Nat.zero_add _ | exact Nat.add_zero _ | rfl)) | (apply zbe; rfl; rfl; rfl; rfl; rfl; rfl; exact zas rfl) | (apply zaR; rfl; rfl; rfl; rfl; rfl; rfl) | (apply zbo; rfl; rfl; rfl; rfl; rfl; omega) | (apply zbN; rfl; rfl; rfl; rfl; rfl; (unfold fit; omega)) | (apply zbT; rfl; rfl; rfl; rfl; rfl; exact zas rfl; exact zai rfl; (first | assumption | exact zq0 | exact zq1 | rfl | exact (Int.toNat_of_nonneg (by omega)).symm); omega) | (apply zah; rfl; rfl; rfl; rfl; exact zar rfl; (focus repeat' first | exact zaa | assumption | apply zab | (apply Ext.get; assumption)); (first | exact zae (by omega) | rfl | assumption)) | (apply zaz; rfl; rfl; rfl; rfl; exact zaT rfl; (focus repeat' first | exact zaa | assumption | apply zab | (apply Ext.get; assumption)); (first | exact Nat.le_of_ble_eq_true rfl | (rw [zat]; omega) | (simp; done) | (simp; omega) | (rw [zag]; omega)); (first | exact zav (by omega) | rfl)) | (apply zaD; rfl; rfl; rfl; rfl; exact zai rfl; rfl; rfl; rfl) | (apply zbi; rfl; rfl; rfl; rfl; exact zai rfl; rfl; rfl) | fail))
            refine zaH (ih2 (i + 1, true) _ (by dsimp only; omega) ⟨hlt2, by (focus repeat' first | exact Ext.refl _ | assumption | apply Ext.push | (refine Ext.trans ?_ (by assumption))), ⟨fun _ => (hsucc Iff.rfl).2 (.inl (hm.1 rfl)), fun _ => rfl⟩⟩) (by (focus repeat' first | rfl | exact trivial | apply And.intro))
          | false =>
            have hm' : ¬ HeardTo ⟨(m : Nat), pl, kl, n, l, some ⟨b, 0, none⟩, kc, c⟩ (j : Nat) (k : Nat) i := fun q => absurd (hm.2 q) Bool.false_ne_true
            have no' : ¬ ((reads (ent (c.getD i cop0)) (j : Nat) ∧ inPair (ent (c.getD i cop0)) (k : Nat)) ∧ ¬ ∃ k, i ≤ k ∧ k < c.length ∧ changes (ent (c.getD k cop0)) (j : Nat)) → ¬ HeardTo ⟨(m : Nat), pl, kl, n, l, some ⟨b, 0, none⟩, kc, c⟩ (j : Nat) (k : Nat) (i + 1) := fun q w => ((hsucc Iff.rfl).1 w).elim hm' q
            by_cases hr : reads (ent (c.getD i cop0)) (j : Nat)
            · have z : (c.getD i cop0).r.s.length = 4 := by
                have w := eP
                have h1 := hr.1
                unfold ent at w h1
                dsimp only at h1
                rw [h1] at w
                exact (ent1.1 w).1
              obtain ⟨b2, e2, own2, hq2, hg2⟩ := eR.rd.at (by rw [zag]; omega)
              have hpr : inPair (ent (c.getD i cop0)) (k : Nat) ↔ ((c.getD i cop0).r.s.getD 0 0 = (k : Nat) ∨ (c.getD i cop0).r.s.getD 1 0 = (k : Nat)) := Iff.rfl
              (repeat' (first | apply zam | apply zac | (apply O_at; rfl) | (apply zaj; rfl) | apply zak | (apply za4; rfl) | apply zaq | apply zax | ((first | apply zaf | apply zad | apply zbl); rfl; rfl; rfl; rfl) | (apply P_fa; rfl; rfl; rfl; rfl; exact zaw rfl; (first | exact Nat.zero_add _ | exact Nat.add_zero _ | rfl)) | (apply zbe; rfl; rfl; rfl; rfl; rfl; rfl; exact zas rfl) | (apply zbo; rfl; rfl; rfl; rfl; rfl; omega) | (apply zbT; rfl; rfl; rfl; rfl; rfl; exact zas rfl; exact zai rfl; (first | assumption | exact zq0 | exact zq1 | rfl | exact (Int.toNat_of_nonneg (by omega)).symm); omega) | (apply zah; rfl; rfl; rfl; rfl; exact zar rfl; (focus repeat' first | exact zaa | assumption | apply zab | (apply Ext.get; assumption)); (first | exact zae (by omega) | rfl | assumption)) | (apply zaz; rfl; rfl; rfl; rfl; exact zaT rfl; (focus repeat' first | exact zaa | assumption | apply zab | (apply Ext.get; assumption)); (first | exact Nat.le_of_ble_eq_true rfl | (rw [zat]; omega) | (simp; done) | (simp; omega) | (rw [zag]; omega)); (first | exact zav (by omega) | rfl)) | (apply zaD; rfl; rfl; rfl; rfl; exact zai rfl; rfl; rfl; rfl) | (apply zbi; rfl; rfl; rfl; rfl; exact zai rfl; rfl; rfl) | (apply zal; rfl; rfl; rfl; rfl; rfl; rfl; exact yes (zdZ hK (c := c.getD i cop0) (eR.ext (by (focus repeat' first | exact Ext.refl _ | assumption | apply Ext.push | (refine Ext.trans ?_ (by assumption))))) eP) hr; (rintro _ _ ⟨rfl, _⟩)) | fail))
              rw [hq2]
              (repeat' (first | apply zac | (apply O_at; rfl) | (apply zaj; rfl) | apply zak | apply zaB | (apply zbn; rfl; rfl; rfl) | ((first | apply zaf | apply zad | apply zbl); rfl; rfl; rfl; rfl) | (apply P_fa; rfl; rfl; rfl; rfl; exact zaw rfl; (first | exact Nat.zero_add _ | exact Nat.add_zero _ | rfl)) | (apply zaR; rfl; rfl; rfl; rfl; rfl; rfl) | (apply zhN; rfl; rfl; rfl; rfl; rfl; all_goals intro _) | (apply zbN; rfl; rfl; rfl; rfl; rfl; (unfold fit; omega)) | (apply zcz; rfl; rfl; rfl; rfl; rfl; exact zas rfl; exact zai rfl; (first | assumption | exact zq0 | exact zq1 | rfl | exact (Int.toNat_of_nonneg (by omega)).symm); omega) | (apply zah; rfl; rfl; rfl; rfl; exact zar rfl; (focus repeat' first | exact zaa | assumption | apply zab | (apply Ext.get; assumption)); (first | exact zae (by omega) | rfl | assumption)) | (apply zaz; rfl; rfl; rfl; rfl; exact zaT rfl; (focus repeat' first | exact zaa | assumption | apply zab | (apply Ext.get; assumption)); (first | exact Nat.le_of_ble_eq_true rfl | (rw [zat]; omega) | (simp; done) | (simp; omega) | (rw [zag]; omega)); (first | exact zav (by omega) | rfl)) | (apply zal; rfl; rfl; rfl; rfl; rfl; rfl; exact hchg (by (focus repeat' first | exact Ext.refl _ | assumption | apply Ext.push | (refine Ext.trans ?_ (by assumption)))) hlt2; (rintro _ _ (⟨rfl, _, _⟩ | ⟨rfl, _, _⟩))) | fail))
              rotate_left 2
              · rw [hq2]
                (repeat' (first | apply zac | (apply O_at; rfl) | (apply zaj; rfl) | apply zak | apply zaB | (apply zbn; rfl; rfl; rfl) | ((first | apply zaf | apply zad | apply zbl); rfl; rfl; rfl; rfl) | (apply zaR; rfl; rfl; rfl; rfl; rfl; rfl) | (apply zhN; rfl; rfl; rfl; rfl; rfl; all_goals intro _) | (apply zbN; rfl; rfl; rfl; rfl; rfl; (unfold fit; omega)) | (apply zcz; rfl; rfl; rfl; rfl; rfl; exact zas rfl; exact zai rfl; (first | assumption | exact zq0 | exact zq1 | rfl | exact (Int.toNat_of_nonneg (by omega)).symm); omega) | (apply zah; rfl; rfl; rfl; rfl; exact zar rfl; (focus repeat' first | exact zaa | assumption | apply zab | (apply Ext.get; assumption)); (first | exact zae (by omega) | rfl | assumption)) | (apply zaz; rfl; rfl; rfl; rfl; exact zaT rfl; (focus repeat' first | exact zaa | assumption | apply zab | (apply Ext.get; assumption)); (first | exact Nat.le_of_ble_eq_true rfl | (rw [zat]; omega) | (simp; done) | (simp; omega) | (rw [zag]; omega)); (first | exact zav (by omega) | rfl)) | (apply zal; rfl; rfl; rfl; rfl; rfl; rfl; exact hchg (by (focus repeat' first | exact Ext.refl _ | assumption | apply Ext.push | (refine Ext.trans ?_ (by assumption)))) hlt2; (rintro _ _ (⟨rfl, _, _⟩ | ⟨rfl, _, _⟩))) | fail))
                all_goals first
                  | exact zaH (ih2 (i + 1, true) _ (by dsimp only; omega) ⟨hlt2, by (focus repeat' first | exact Ext.refl _ | assumption | apply Ext.push | (refine Ext.trans ?_ (by assumption))), ⟨fun _ => (hsucc Iff.rfl).2 (.inr ⟨⟨hr, hpr.2 (by omega)⟩, by assumption⟩), fun _ => rfl⟩⟩) (by (focus repeat' first | rfl | exact trivial | apply And.intro))
                  | exact zaH (ih2 (i + 1, false) _ (by dsimp only; omega) ⟨hlt2, by (focus repeat' first | exact Ext.refl _ | assumption | apply Ext.push | (refine Ext.trans ?_ (by assumption))), ⟨fun q => absurd q Bool.false_ne_true, fun q => absurd q (no' fun w => w.2 (by assumption))⟩⟩) (by (focus repeat' first | rfl | exact trivial | apply And.intro))
                  | exact zaH (ih2 (i + 1, false) _ (by dsimp only; omega) ⟨hlt2, by (focus repeat' first | exact Ext.refl _ | assumption | apply Ext.push | (refine Ext.trans ?_ (by assumption))), ⟨fun q => absurd q Bool.false_ne_true, fun q => absurd q (no' fun w => by have := hpr.1 w.1.2; omega)⟩⟩) (by (focus repeat' first | rfl | exact trivial | apply And.intro))
              all_goals first
                | exact zaH (ih2 (i + 1, true) _ (by dsimp only; omega) ⟨hlt2, by (focus repeat' first | exact Ext.refl _ | assumption | apply Ext.push | (refine Ext.trans ?_ (by assumption))), ⟨fun _ => (hsucc Iff.rfl).2 (.inr ⟨⟨hr, hpr.2 (by omega)⟩, by assumption⟩), fun _ => rfl⟩⟩) (by (focus repeat' first | rfl | exact trivial | apply And.intro))
                | exact zaH (ih2 (i + 1, false) _ (by dsimp only; omega) ⟨hlt2, by (focus repeat' first | exact Ext.refl _ | assumption | apply Ext.push | (refine Ext.trans ?_ (by assumption))), ⟨fun q => absurd q Bool.false_ne_true, fun q => absurd q (no' fun w => w.2 (by assumption))⟩⟩) (by (focus repeat' first | rfl | exact trivial | apply And.intro))
            · (repeat' (first | apply zam | apply zac | (apply O_at; rfl) | (apply zaj; rfl) | apply zak | (apply za4; rfl) | apply zaq | apply zax | apply zaB | (apply zbn; rfl; rfl; rfl) | ((first | apply zaf | apply zad | apply zbl); rfl; rfl; rfl; rfl) | (apply P_fa; rfl; rfl; rfl; rfl; exact zaw rfl; (first | exact Nat.zero_add _ | exact Nat.add_zero _ | rfl)) | (apply zbe; rfl; rfl; rfl; rfl; rfl; rfl; exact zas rfl) | (apply zaR; rfl; rfl; rfl; rfl; rfl; rfl) | (apply zbo; rfl; rfl; rfl; rfl; rfl; omega) | (apply zbN; rfl; rfl; rfl; rfl; rfl; (unfold fit; omega)) | (apply zbT; rfl; rfl; rfl; rfl; rfl; exact zas rfl; exact zai rfl; (first | assumption | exact zq0 | exact zq1 | rfl | exact (Int.toNat_of_nonneg (by omega)).symm); omega) | (apply zah; rfl; rfl; rfl; rfl; exact zar rfl; (focus repeat' first | exact zaa | assumption | apply zab | (apply Ext.get; assumption)); (first | exact zae (by omega) | rfl | assumption)) | (apply zaz; rfl; rfl; rfl; rfl; exact zaT rfl; (focus repeat' first | exact zaa | assumption | apply zab | (apply Ext.get; assumption)); (first | exact Nat.le_of_ble_eq_true rfl | (rw [zat]; omega) | (simp; done) | (simp; omega) | (rw [zag]; omega)); (first | exact zav (by omega) | rfl)) | (apply zaD; rfl; rfl; rfl; rfl; exact zai rfl; rfl; rfl; rfl) | (apply zbi; rfl; rfl; rfl; rfl; exact zai rfl; rfl; rfl) | (apply zal; rfl; rfl; rfl; rfl; rfl; rfl; exact no (zdZ hK (c := c.getD i cop0) (eR.ext (by (focus repeat' first | exact Ext.refl _ | assumption | apply Ext.push | (refine Ext.trans ?_ (by assumption))))) eP) hr; (rintro _ _ ⟨rfl, _⟩)) | fail))
              refine zaH (ih2 (i + 1, false) _ (by dsimp only; omega) ⟨hlt2, by (focus repeat' first | exact Ext.refl _ | assumption | apply Ext.push | (refine Ext.trans ?_ (by assumption))), ⟨fun q => absurd q Bool.false_ne_true, fun q => absurd q (no' fun w => hr w.1.1)⟩⟩) (by (focus repeat' first | rfl | exact trivial | apply And.intro))
        · obtain rfl : i = c.length := by omega
          rw [zkK (G := ⟨(m : Nat), pl, kl, n, l, p, kc, c⟩)] at hm
          have hl := zcQ k (logL ⟨(m : Nat), pl, kl, n, l, p, kc, c⟩) (j : Nat) (setA ⟨(m : Nat), pl, kl, n, l, p, kc, c⟩ (logL ⟨(m : Nat), pl, kl, n, l, p, kc, c⟩) j)
          have x02 : Ext (h.push (.cells [.int .i64 (m : Nat), .slice pl n kl, .slice p c.length kc] 25 true)) h2 := hx.trans hx2
          have ho2 := ho.ext hx2
          cases met with
          | true =>
            (repeat' (first | apply zam | apply zac | (apply O_at; rfl) | (apply zaj; rfl) | apply zak | (apply za4; rfl) | (apply zaK; rfl) | apply zax | apply zbj | apply zbk | apply zaZ | apply za0 | apply zaB | ((first | apply zaf | apply zad | apply zbl); rfl; rfl; rfl; rfl) | (apply P_fa; rfl; rfl; rfl; rfl; exact zaw rfl; (first | exact Nat.zero_add _ | exact Nat.add_zero _ | rfl)) | (apply zbe; rfl; rfl; rfl; rfl; rfl; rfl; exact zas rfl) | (apply zaR; rfl; rfl; rfl; rfl; rfl; rfl) | (apply zbr; rfl; rfl; rfl; rfl; rfl; omega) | (apply zlk; rfl; rfl; rfl; rfl; rfl; all_goals intro _) | (apply zbN; rfl; rfl; rfl; rfl; rfl; (unfold fit; omega)) | (apply zah; rfl; rfl; rfl; rfl; exact zar rfl; (focus repeat' first | exact zaa | assumption | apply zab | (apply Ext.get; assumption)); (first | exact zae (by omega) | rfl | assumption)) | (apply zaz; rfl; rfl; rfl; rfl; exact zaT rfl; (focus repeat' first | exact zaa | assumption | apply zab | (apply Ext.get; assumption)); (first | exact Nat.le_of_ble_eq_true rfl | (rw [zat]; omega) | (simp; done) | (simp; omega) | (rw [zag]; omega)); (first | exact zav (by omega) | rfl)) | (apply zdM; rfl; rfl; rfl; rfl; rfl; rfl; rfl; exact zdy rfl) | (apply ziz; rfl; rfl; rfl; rfl; rfl; rfl; rfl; rfl; exact zdy rfl; exact zas rfl; (focus repeat' first | exact zaa | assumption | apply zab | (apply Ext.get; assumption)); (apply OutI.ext; assumption; (focus repeat' first | exact Ext.refl _ | assumption | apply Ext.push | (refine Ext.trans ?_ (by assumption)))); (focus repeat' first | exact Ext.refl _ | assumption | apply Ext.push | (refine Ext.trans ?_ (by assumption))); (first | omega | (simp; omega)); (intro _ _ _ _)) | (apply zal; rfl; rfl; rfl; rfl; rfl; rfl; exact hset (by (focus repeat' first | exact Ext.refl _ | assumption | apply Ext.push | (refine Ext.trans ?_ (by assumption)))); (rintro _ _ ⟨rfl, _⟩)) | fail))
            · rename_i x3 w v4 h4 o4 x4
              refine zaH (ih (k + 1, v4) _ (by dsimp only; omega) ⟨hlt, x4, ?_⟩) (by (focus repeat' first | rfl | exact trivial | apply And.intro))
              rw [zb2, if_pos ⟨hm.1 rfl, w⟩]
              exact o4
            · rename_i x3 w
              refine zaH (ih (k + 1, v) _ (by dsimp only; omega) ⟨hlt, x02.trans x3, ?_⟩) (by (focus repeat' first | rfl | exact trivial | apply And.intro))
              rw [zb2, if_neg (fun q => q.2 (by omega)), List.append_nil]
              exact ho2.ext x3
          | false =>
            (repeat' (first | apply zam | apply zac | (apply O_at; rfl) | (apply zaj; rfl) | apply zak | (apply zaK; rfl) | apply zax | apply zbj | apply zbk | apply zaZ | apply za0 | apply zaB | (apply zbn; rfl; rfl; rfl) | ((first | apply zaf | apply zad | apply zbl); rfl; rfl; rfl; rfl) | (apply P_fa; rfl; rfl; rfl; rfl; exact zaw rfl; (first | exact Nat.zero_add _ | exact Nat.add_zero _ | rfl)) | (apply zbe; rfl; rfl; rfl; rfl; rfl; rfl; exact zas rfl) | (apply zaR; rfl; rfl; rfl; rfl; rfl; rfl) | (apply zbr; rfl; rfl; rfl; rfl; rfl; omega) | (apply zbN; rfl; rfl; rfl; rfl; rfl; (unfold fit; omega)) | (apply zah; rfl; rfl; rfl; rfl; exact zar rfl; (focus repeat' first | exact zaa | assumption | apply zab | (apply Ext.get; assumption)); (first | exact zae (by omega) | rfl | assumption)) | fail))
            refine zaH (ih (k + 1, v) _ (by dsimp only; omega) ⟨hlt, x02, ?_⟩) (by (focus repeat' first | rfl | exact trivial | apply And.intro))
            rw [zb2, if_neg (fun q => absurd (hm.2 q.1) Bool.false_ne_true), List.append_nil]
            exact ho2
      · exact ⟨Nat.zero_le _, Ext.refl _, ⟨fun q => absurd q Bool.false_ne_true, fun ⟨i', a, _⟩ => absurd a (Nat.not_lt_zero _)⟩⟩
      · (focus repeat' first | rfl | exact trivial | apply And.intro)
    · obtain rfl : k = m := by omega
      (repeat' (first | apply zam | apply zac | (apply O_at; rfl) | (apply zaj; rfl) | apply zak | (apply zaK; rfl) | apply zbj | apply zaA | apply zbk | apply zaZ | apply za0 | apply zau | ((first | apply zaf | apply zad | apply zbl); rfl; rfl; rfl; rfl) | (apply P_fa; rfl; rfl; rfl; rfl; exact zaw rfl; (first | exact Nat.zero_add _ | exact Nat.add_zero _ | rfl)) | (apply zbr; rfl; rfl; rfl; rfl; rfl; omega) | (apply zah; rfl; rfl; rfl; rfl; exact zar rfl; (focus repeat' first | exact zaa | assumption | apply zab | (apply Ext.get; assumption)); (first | exact zae (by omega) | rfl | assumption)) | fail))
      obtain ⟨p5, c5, rfl, r5, x5⟩ := ho.isL hx
      exact ⟨.inr rfl, _, rfl, _, _, rfl, r5, by (focus repeat' first | exact Ext.refl _ | assumption | apply Ext.push | (refine Ext.trans ?_ (by assumption)))⟩
  · exact ⟨Nat.zero_le _, Ext.refl _, .inl ⟨rfl, rfl⟩⟩
  · (focus repeat' first | rfl | exact trivial | apply And.intro)
end Go.AX.Sa

namespace Go.AX.Sa
open Go.Proofs
set_option maxRecDepth 100000
variable {K : Known}
theorem zdY (hK : NoK K) {G : Pg} {h : Heap} (hT : PgAt G h) (hP : PgP G) : CallW Tryz.prog K 29 #[pgV G] h (IsL (shortL G (logL G)) h) := by
  have hnn := hP.n
  have hcc := hP.c
  have hpp := hP.people
  have hb1 := hT.bl
  have hb2 := hT.bg
  refine body (N := 22) Tryz.func29 rfl (hK _ _ _ rfl) rfl rfl ?_
  unfold pgV
  (repeat' (first | apply zam | apply zac | (apply O_at; rfl) | (apply zaj; rfl) | apply zak | apply zaq | ((first | apply zaf | apply zad); rfl; rfl; rfl; rfl) | (apply zaM; rfl; rfl; rfl; rfl; exact zai rfl; rfl; rfl) | fail))
  refine zbb (fun a : Nat × Value => [(4, .int .i64 (a.1 : Nat)), (3, a.2), (1, .pointer (some ⟨h.n, 0, none⟩))])
    (fun a h' => a.1 ≤ G.n ∧ Ext (h.push (.cells (pgC G) 25 true)) h' ∧ OutI 3 (h.push (.cells (pgC G) 25 true)) h' a.2 ((List.range a.1).map fun j => max 0 (2 - ((rdA G (logL G) j).length : Int)))) (fun a => G.n - a.1) ?_ (0, .slice none 0 0) ?_ ?_
  · rintro ⟨k, v⟩ h' ⟨hk, hx, ho⟩ ih
    dsimp only at hk hx ho ih ⊢
    have g0 := hx.get zaa
    unfold pgC at g0
    by_cases hlt : k < G.n
    · have hcall := fun (h1 : Heap) (q : Ext h h1) => zcP hK (hT.ext q) hP hlt
      unfold pgV at hcall
      have hl := zcQ G.people.toNat (logL G) (k : Nat) (setA G (logL G) k)
      have hl' : (rdA G (logL G) k).length ≤ 1000 := by unfold rdA; omega
      (repeat' (first | apply zam | apply zac | (apply O_at; rfl) | (apply zaj; rfl) | apply zak | (apply za4; rfl) | apply zaq | apply zax | apply zaB | ((first | apply zaf | apply zad); rfl; rfl; rfl; rfl) | (apply P_fa; rfl; rfl; rfl; rfl; exact zaw rfl; (first | exact Nat.zero_add _ | exact Nat.add_zero _ | rfl)) | (apply zbe; rfl; rfl; rfl; rfl; rfl; rfl; exact zas rfl) | (apply zbo; rfl; rfl; rfl; rfl; rfl; omega) | (apply zbN; rfl; rfl; rfl; rfl; rfl; (unfold fit; omega)) | (apply zeL; rfl; rfl; rfl; rfl; rfl; (unfold fit; omega)) | (apply zah; rfl; rfl; rfl; rfl; exact zar rfl; (focus repeat' first | exact zaa | assumption | (apply Ext.get; assumption)); (first | rfl | assumption)) | (apply zaz; rfl; rfl; rfl; rfl; exact zaT rfl; (focus repeat' first | exact zaa | assumption | (apply Ext.get; assumption)); (first | exact Nat.le_of_ble_eq_true rfl | (simp; done) | (simp; omega)); rfl) | (apply zdM; rfl; rfl; rfl; rfl; rfl; rfl; rfl; exact zdy rfl) | (apply ziz; rfl; rfl; rfl; rfl; rfl; rfl; rfl; rfl; exact zdy rfl; exact zas rfl; (focus repeat' first | exact zaa | assumption | (apply Ext.get; assumption)); (apply OutI.ext; assumption; (focus repeat' first | exact Ext.refl _ | assumption | apply Ext.push | (refine Ext.trans ?_ (by assumption)))); (focus repeat' first | exact Ext.refl _ | assumption | apply Ext.push | (refine Ext.trans ?_ (by assumption))); (first | omega | (simp; omega)); (intro _ _ _ _)) | (apply P_max; rfl; rfl; rfl; rfl; rfl; rfl) | (apply zal; rfl; rfl; rfl; rfl; rfl; rfl; exact hcall _ (by (focus repeat' first | exact Ext.refl _ | assumption | apply Ext.push | (refine Ext.trans ?_ (by assumption)))); (rintro _ _ ⟨_, _, rfl, _, _⟩)) | fail))
      rename_i p3 c3 r3 x3 v4 h4 o4 x4
      refine zaH (ih (k + 1, v4) _ (by dsimp only; omega) ⟨hlt, x4, ?_⟩) (by (focus repeat' first | rfl | exact trivial | apply And.intro))
      simp only [List.range_succ, List.map_append, List.map_cons, List.map_nil]
      exact o4
    · obtain rfl : k = G.n := by omega
      (repeat' (first | apply zam | apply zac | (apply O_at; rfl) | (apply zaj; rfl) | apply zak | (apply zaK; rfl) | apply zbj | apply zaA | apply zbk | apply zaZ | apply za0 | apply zau | ((first | apply zaf | apply zad); rfl; rfl; rfl; rfl) | (apply P_fa; rfl; rfl; rfl; rfl; exact zaw rfl; (first | exact Nat.zero_add _ | exact Nat.add_zero _ | rfl)) | (apply zbe; rfl; rfl; rfl; rfl; rfl; rfl; exact zas rfl) | (apply zbr; rfl; rfl; rfl; rfl; rfl; omega) | (apply zah; rfl; rfl; rfl; rfl; exact zar rfl; (focus repeat' first | exact zaa | assumption | (apply Ext.get; assumption)); (first | rfl | assumption)) | fail))
      obtain ⟨p5, c5, rfl, r5, x5⟩ := ho.isL hx
      exact ⟨.inr rfl, _, rfl, _, _, rfl, r5, by (focus repeat' first | exact Ext.refl _ | assumption | apply Ext.push | (refine Ext.trans ?_ (by assumption)))⟩
  · exact ⟨Nat.zero_le _, Ext.refl _, .inl ⟨rfl, rfl⟩⟩
  · (focus repeat' first | rfl | exact trivial | apply And.intro)
end Go.AX.Sa

namespace Go.AX.Sa
open Go.Proofs
set_option maxRecDepth 100000
variable {K : Known}
/-! What stands, in memory. -/
def stC (G : Pg) (bn bs r : Nat) : List Value := [.int .i64 G.people, .slice G.pl G.n G.kl, .slice G.pg G.c.length G.kg, .slice (some ⟨bn, 0, none⟩) G.n unk, .slice (some ⟨bs, 0, none⟩) G.n unk, .map (some r)]
structure Ne4 (s bn bs r : Nat) : Prop where
  sn : s ≠ bn
  ss : s ≠ bs
  sr : s ≠ r
  ns : bn ≠ bs
  nr : bn ≠ r
  sr' : bs ≠ r
structure StB (G : Pg) (N S : List Int) (f : Int × Int → Bool) (s bn bs r : Nat) (h : Heap) : Prop where
  box : h.get? s = some (.cells (stC G bn bs r) 87 true)
  nums : h.get? bn = some (.cells (ints N) 3 true)
  sets : h.get? bs = some (.cells (ints S) 3 true)
  hrd : MapB h r f
  nl : N.length = G.n
  sl : S.length = G.n
/-- All but these three blocks stays. -/
structure Keep3 (bn bs r : Nat) (h h1 : Heap) : Prop where
  n : h.n ≤ h1.n
  get : ∀ b x, b ≠ bn → b ≠ bs → b ≠ r → h.get? b = some x → h1.get? b = some x
theorem Keep3.refl (bn bs r : Nat) (h : Heap) : Keep3 bn bs r h h := ⟨Nat.le_refl _, fun _ _ _ _ _ g => g⟩
theorem Keep3.trans {bn bs r : Nat} {h h1 h2 : Heap} (a : Keep3 bn bs r h h1) (b : Keep3 bn bs r h1 h2) : Keep3 bn bs r h h2 :=
  ⟨Nat.le_trans a.n b.n, fun c x p q w g => b.get c x p q w (a.get c x p q w g)⟩
theorem Keep3.ofN {bn bs r : Nat} {h h1 : Heap} (x : ExtBut bn h h1) : Keep3 bn bs r h h1 := ⟨x.n, fun _ _ p _ _ g => x.get p g⟩
theorem Keep3.ofR {bn bs r : Nat} {h h1 : Heap} (x : ExtBut r h h1) : Keep3 bn bs r h h1 := ⟨x.n, fun _ _ _ _ p g => x.get p g⟩
theorem Keep3.of {bn bs r : Nat} {h h1 : Heap} (x : Ext h h1) : Keep3 bn bs r h h1 := ⟨x.n, fun _ _ _ _ _ g => x.get g⟩
theorem Keep3.ext {bn bs r : Nat} {h0 h h1 : Heap} (k : Keep3 bn bs r h h1) (e : Ext h0 h) (a : h0.n ≤ bn) (b : h0.n ≤ bs) (c : h0.n ≤ r) : Ext h0 h1 :=
  ⟨Nat.le_trans e.n k.n, fun d x g => k.get d x (by have := Heap.get_lt g; omega) (by have := Heap.get_lt g; omega) (by have := Heap.get_lt g; omega) (e.get g)⟩
theorem StB.ext {G : Pg} {N S : List Int} {f : Int × Int → Bool} {s bn bs r : Nat} {h h1 : Heap} (x : StB G N S f s bn bs r h) (e : Ext h h1) : StB G N S f s bn bs r h1 := ⟨e.get x.box, e.get x.nums, e.get x.sets, x.hrd.ext e, x.nl, x.sl⟩
theorem StB.ne {G : Pg} {N S : List Int} {f : Int × Int → Bool} {s bn bs r : Nat} {h : Heap} (x : StB G N S f s bn bs r h) (hns : bn ≠ bs) : Ne4 s bn bs r := by
  obtain ⟨es, c, l, hm, _⟩ := x.hrd
  have b := x.box
  have n := x.nums
  have t := x.sets
  refine ⟨fun q => ?_, fun q => ?_, fun q => ?_, hns, fun q => ?_, fun q => ?_⟩
  · subst q; rw [b] at n; injection n with n; injection n with n _ _; simp only [stC, ints] at n; rcases N with _ | ⟨_, _ | ⟨_, _⟩⟩ <;> simp at n
  · subst q; rw [b] at t; injection t with n; injection n with n _ _; simp only [stC, ints] at n; rcases S with _ | ⟨_, _ | ⟨_, _⟩⟩ <;> simp at n
  · subst q; rw [b] at hm; cases hm
  · subst q; rw [n] at hm; cases hm
  · subst q; rw [t] at hm; cases hm
def keepCh (f : Int × Int → Bool) (j : Int) (k : Int) : Int × Int → Bool := fun q => if q.1 = j ∧ 0 ≤ q.2 ∧ q.2 < k then false else f q
theorem zhq (f : Int × Int → Bool) (j : Int) (k : Nat) (q : Int × Int) : (if q = (j, (k : Int)) then false else keepCh f j k q) = keepCh f j (k + 1 : Nat) q := by
  unfold keepCh
  obtain ⟨a, b⟩ := q
  simp only [Prod.mk.injEq]
  by_cases h1 : a = j ∧ b = k
  · rw [if_pos h1, if_pos (by omega)]
  · rw [if_neg h1]
    by_cases h2 : a = j ∧ 0 ≤ b ∧ b < (k : Int)
    · rw [if_pos h2, if_pos (by omega)]
    · rw [if_neg h2, if_neg (by omega)]
theorem zgz (hK : NoK K) {G : Pg} {N S : List Int} {f : Int × Int → Bool} {s bn bs r : Nat} {j : Nat} {jj v : Int} {h : Heap} (hS : StB G N S f s bn bs r h) (hns : bn ≠ bs) (hp : 2 ≤ G.people ∧ G.people ≤ 6) (hjj : jj = (j : Nat)) (hj : j < G.n) (hn : G.n ≤ 1000) :
    CallW Tryz.prog K 146 #[.pointer (some ⟨s, 0, none⟩), .int .i64 jj, .int .i64 v] h (fun _ h1 => StB G (N.set j v) S (keepCh f j G.people) s bn bs r h1 ∧ Keep3 bn bs r h h1) := by
  subst hjj
  obtain ⟨n1, n2, n3, n4, n5, n6⟩ := hS.ne hns
  obtain ⟨box, nums, sets, hrd, nl, sl⟩ := hS
  obtain ⟨people, pl, kl, n, l, p, kc, c⟩ := G
  dsimp only at hp hj hn nl sl ⊢
  refine body (N := 30) Tryz.func146 rfl (hK _ _ _ rfl) rfl rfl ?_
  obtain ⟨m, rfl⟩ : ∃ m : Nat, people = m := ⟨people.toNat, by omega⟩
  have hj' : j < N.length := by omega
  (repeat' (first | apply zam | apply zac | (apply O_at; rfl) | (apply zaj; rfl) | apply zak | apply zaq | ((first | apply zaf | apply zad); rfl; rfl; rfl; rfl) | (apply P_fa; rfl; rfl; rfl; rfl; exact zaw rfl; (first | exact Nat.zero_add _ | exact Nat.add_zero _ | rfl)) | (apply zcz; rfl; rfl; rfl; rfl; rfl; exact zas rfl; exact zai rfl; (first | assumption | rfl | exact (Int.toNat_of_nonneg (by omega)).symm); omega) | (apply zah; rfl; rfl; rfl; rfl; exact zar rfl; (focus repeat' first | assumption | (apply ExtBut.get; assumption; (first | assumption | omega | (simp only [Heap.push]; omega)))); (first | rfl | assumption)) | (apply ziv; rfl; rfl; rfl; rfl; (focus repeat' first | assumption | (apply ExtBut.get; assumption; (first | assumption | omega | (simp only [Heap.push]; omega)))); exact zai rfl; (first | omega | (focus simp; done)); (intro _ _ _)) | (apply zhL; rfl; rfl; rfl; rfl) | fail))
  rename_i h1 g1 x1
  refine zbb (fun k : Nat => [(19, .int .i64 (k : Nat)), (18, .int .i64 (m : Nat)), (0, .pointer (some ⟨s, 0, none⟩)), (1, .int .i64 (j : Nat))])
    (fun k h' => k ≤ m ∧ h'.get? s = some (.cells (stC ⟨(m : Nat), pl, kl, n, l, p, kc, c⟩ bn bs r) 87 true) ∧ h'.get? bn = some (.cells (ints (N.set j v)) 3 true) ∧ h'.get? bs = some (.cells (ints S) 3 true) ∧ MapB h' r (keepCh f (j : Nat) (k : Nat)) ∧ Keep3 bn bs r h h') (fun k => m - k) ?_ 0 ?_ ?_
  · intro k h' ⟨hk, q1, q2, q3, q4, q5⟩ ih
    by_cases hlt : k < m
    · (repeat' (first | apply zam | apply zac | (apply O_at; rfl) | (apply zaj; rfl) | apply zak | (apply za4; rfl) | apply zaq | apply zax | apply zaB | ((first | apply zaf | apply zad); rfl; rfl; rfl; rfl) | (apply P_fa; rfl; rfl; rfl; rfl; exact zaw rfl; (first | exact Nat.zero_add _ | exact Nat.add_zero _ | rfl)) | (apply zbo; rfl; rfl; rfl; rfl; rfl; omega) | (apply zbN; rfl; rfl; rfl; rfl; rfl; (unfold fit; omega)) | (apply zah; rfl; rfl; rfl; rfl; exact zar rfl; (focus repeat' first | assumption | (apply ExtBut.get; assumption; (first | assumption | omega | (simp only [Heap.push]; omega)))); (first | rfl | assumption)) | (apply zdj; rfl; rfl; rfl; rfl) | (apply zhL; rfl; rfl; rfl; rfl) | (apply zjt; rfl; rfl; rfl; rfl; rfl; rfl; exact mapB85; (first | assumption); (intro _ _ _)) | fail))
      rename_i h2 m2 x2
      exact zaH (ih (k + 1) _ (by omega) ⟨hlt, x2.get n3 q1, x2.get n5 q2, x2.get n6 q3, m2.to (zhq f _ k), q5.trans (.ofR x2)⟩) (by (focus repeat' first | rfl | exact trivial | apply And.intro))
    · (repeat' (first | apply zam | apply zac | (apply O_at; rfl) | (apply zaj; rfl) | apply zak | (apply zaK; rfl) | apply zbj | apply zbk | apply zaZ | apply za0 | apply zau | (apply zbr; rfl; rfl; rfl; rfl; rfl; omega) | fail))
      obtain rfl : k = m := by omega
      exact ⟨.inl rfl, _, rfl, ⟨q1, q2, q3, q4, by simpa using nl, sl⟩, q5⟩
  · exact ⟨Nat.zero_le _, x1.get n1 box, g1, x1.get (fun q => n4 q.symm) sets, (hrd.but x1 (fun q => n5 q.symm)).to (fun q => by unfold keepCh; rw [if_neg (by omega)]), .ofN x1⟩
  · (focus repeat' first | rfl | exact trivial | apply And.intro)
/-- A line is set anew. -/
theorem mend_ok (hK : NoK K) {G : Pg} {N S : List Int} {f : Int × Int → Bool} {s bn bs r : Nat} {c : Cop} {j : Nat} {h : Heap} (hS : StB G N S f s bn bs r h) (hns : bn ≠ bs) (hp : 2 ≤ G.people ∧ G.people ≤ 6) (hn : G.n ≤ 1000) (hc : RowIn c.r h) (hl : c.r.s.length = 3) (hj : c.r.s.getD 1 0 = (j : Nat)) (hjn : j < G.n) :
    CallW Tryz.prog K 132 #[.pointer (some ⟨s, 0, none⟩), enV c] h (fun _ h1 => StB G (N.set j (c.r.s.getD 2 0)) (S.set j (c.r.s.getD 0 0)) (keepCh f j G.people) s bn bs r h1 ∧ Keep3 bn bs r h h1) := by
  obtain ⟨n1, n2, n3, n4, n5, n6⟩ := hS.ne hns
  have hS' := hS
  obtain ⟨box, nums, sets, hrd, nl, sl⟩ := hS
  obtain ⟨rd, hcb, _⟩ := hc
  obtain ⟨par, q, k, t⟩ := c
  dsimp only [enV] at rd hcb hl hj ⊢
  obtain ⟨b, e, own, rfl, hg⟩ := rd.at (by rw [zag]; omega)
  refine body (N := 30) Tryz.func132 rfl (hK _ _ _ rfl) rfl rfl ?_
  have hjs : j < S.length := by omega
  (repeat' (first | apply zam | apply zac | (apply O_at; rfl) | (apply N_at; rfl) | (apply zaj; rfl) | apply zak | (apply zbf; exact zay (by decide +kernel)) | (apply zbH; rfl; exact (.inl (Nat.le_refl 1))) | ((first | apply zaf | apply zaV); rfl; rfl; rfl; rfl) | ((first | apply P_fa | apply M_fa); rfl; rfl; rfl; rfl; exact zaw rfl; (first | exact Nat.zero_add _ | exact Nat.add_zero _ | rfl)) | ((first | apply zcz | apply zc7); rfl; rfl; rfl; rfl; rfl; exact zas rfl; exact zai rfl; (first | assumption | exact zq0 | exact zq1 | exact zq2 | rfl | exact (Int.toNat_of_nonneg (by omega)).symm); omega) | (apply zah; rfl; rfl; rfl; rfl; exact zar rfl; (focus repeat' first | exact zaa | assumption | apply zab | (apply ExtBut.get; assumption; (first | assumption | omega | (simp only [Heap.push]; omega)))); (first | exact zae (by omega) | rfl | assumption)) | (apply ziv; rfl; rfl; rfl; rfl; (focus repeat' first | exact zaa | assumption | apply zab | (apply ExtBut.get; assumption; (first | assumption | omega | (simp only [Heap.push]; omega)))); exact zai rfl; (first | omega | (focus simp; done)); (intro _ _ _)) | (apply zhL; rfl; rfl; rfl; rfl) | (apply zaM; rfl; rfl; rfl; rfl; exact zai rfl; rfl; rfl) | (((apply zbs; rfl; rfl; rfl; rfl; exact zar rfl; exact zaQ (by decide +kernel)); (focus repeat' first | exact zaa | assumption | apply zab | (apply ExtBut.get; assumption; (first | assumption | omega | (simp only [Heap.push]; omega)))); (first | exact zae (by omega) | rfl | assumption)); (first | assumption | exact zaI _ _ | exact zbu _ _ _ | rfl | (focus simp [same, same.all2]; done)); (first | rfl | assumption | exact hwv _ | (focus apply zbt; (focus repeat' first | exact zaa | assumption | apply zab | (apply ExtBut.get; assumption; (first | assumption | omega | (simp only [Heap.push]; omega)))); done) | (simp [within]; omega))) | fail))
  rename_i h1 g1 x1
  have sb := Heap.get_lt box
  have k1 : Keep3 bn bs r h h1 := ⟨Nat.le_trans (Nat.le_succ _) x1.n, fun c y _ w _ g => x1.get w (zab g)⟩
  have hS1 : StB G N (S.set j (t.getD 0 0)) f s bn bs r h1 := ⟨x1.get n2 (zab box), x1.get n4 (zab nums), g1, (hrd.ext ((Ext.refl h).push _)).but x1 (fun q => n6 q.symm), nl, by simpa using sl⟩
  apply zal; rfl; rfl; rfl; rfl; rfl; rfl; exact zgz hK hS1 hns hp hj hjn hn
  rintro _ h2 ⟨hS2, k2⟩
  (repeat' (first | (apply zaj; rfl) | apply zau | fail))
  exact ⟨.inl rfl, _, rfl, hS2, k1.trans k2⟩
/-- A figure falls out. -/
theorem fall_ok (hK : NoK K) {G : Pg} {N S : List Int} {f : Int × Int → Bool} {s bn bs r : Nat} {c : Cop} {j : Nat} {h : Heap} (hS : StB G N S f s bn bs r h) (hns : bn ≠ bs) (hp : 2 ≤ G.people ∧ G.people ≤ 6) (hn : G.n ≤ 1000) (hc : RowIn c.r h) (hl : c.r.s.length = 1) (hj : c.r.s.getD 0 0 = (j : Nat)) (hjn : j < G.n) (hN : NumP (N.getD j 0)) :
    CallW Tryz.prog K 133 #[.pointer (some ⟨s, 0, none⟩), enV c] h (fun _ h1 => StB G (N.set j ((N.getD j 0).tdiv 10)) S (keepCh f j G.people) s bn bs r h1 ∧ Keep3 bn bs r h h1) := by
  obtain ⟨n1, n2, n3, n4, n5, n6⟩ := hS.ne hns
  have hS' := hS.ext ((Ext.refl h).push (.cells (enV c).cells.toList 37 true))
  obtain ⟨box, nums, sets, hrd, nl, sl⟩ := hS
  obtain ⟨rd, hcb, _⟩ := hc
  obtain ⟨par, q, k, t⟩ := c
  dsimp only [enV] at rd hcb hl hj hS' ⊢
  obtain ⟨b, e, own, rfl, hg⟩ := rd.at (by rw [zag]; omega)
  refine body (N := 20) Tryz.func133 rfl (hK _ _ _ rfl) rfl rfl ?_
  have hjs : j < N.length := by omega
  have hq : fit ((N.getD j 0).tdiv 10) := by have := zeN hN; unfold NumP at this; unfold fit; omega
  (repeat' (first | apply zam | apply zac | (apply O_at; rfl) | (apply zaj; rfl) | apply zak | ((first | apply zaf | apply zad); rfl; rfl; rfl; rfl) | (apply P_fa; rfl; rfl; rfl; rfl; exact zaw rfl; (first | exact Nat.zero_add _ | exact Nat.add_zero _ | rfl)) | (apply zcz; rfl; rfl; rfl; rfl; rfl; exact zas rfl; exact zai rfl; (first | assumption | exact zq0 | rfl | exact (Int.toNat_of_nonneg (by omega)).symm); omega) | (apply zah; rfl; rfl; rfl; rfl; exact zar rfl; (focus repeat' first | exact zaa | assumption | apply zab); (first | exact zae (by omega) | rfl | assumption)) | (apply zhL; rfl; rfl; rfl; rfl) | (apply zaM; rfl; rfl; rfl; rfl; exact zai rfl; rfl; rfl) | fail))
  apply P_quo; rfl; rfl; rfl; rfl; rfl; decide; exact hq
  (repeat' (first | (apply O_at; rfl) | fail))
  apply zal; rfl; rfl; rfl; rfl; rfl; rfl; exact zgz hK hS' hns hp hj hjn hn
  rintro _ h2 ⟨hS2, k2⟩
  (repeat' (first | (apply zaj; rfl) | apply zau | fail))
  exact ⟨.inl rfl, _, rfl, hS2, (Keep3.of ((Ext.refl h).push _)).trans k2⟩
end Go.AX.Sa

namespace Go.AX.Sa
open Go.Proofs
set_option maxRecDepth 100000
variable {K : Known}

/-! The numbers of a span. -/
def rng (a : Int) (k : Nat) : List Int := (List.range k).map fun i => a + (i : Nat)
theorem rng_succ (a : Int) (k : Nat) : rng a (k + 1) = rng a k ++ [a + (k : Nat)] := by simp [rng, List.range_succ]
def spanL (p : Int × Int) : List Int := rng p.1 (p.2 - p.1 + 1).toNat
theorem zj9 (a : Int) : ∀ (n k : Nat), k < n → ∃ rest, rng a k ++ (a + (k : Nat)) :: rest = rng a n := by
  intro n k h
  refine ⟨(rng a n).drop (k + 1), ?_⟩
  have hl : (rng a n).length = n := by simp [rng]
  have ht : (rng a n).take k = rng a k := by
    simp only [rng, ← List.map_take, List.take_range, Nat.min_eq_left (Nat.le_of_lt h)]
  have hg : (rng a n)[k]'(by omega) = a + (k : Nat) := by simp [rng]
  rw [← ht, ← hg, List.getElem_cons_drop, List.take_append_drop]
def ValI (n : Int) (v : Value) (_ : Heap) : Prop := v = .int .i64 n

theorem zhl (hK : NoK K) {bs : Nat} {p : Int × Int} {e : TypeId} {own : Bool} {h0 : Heap} (hp : -1000000 ≤ p.1 ∧ p.2 ≤ 1000000 ∧ p.1 ≤ p.2 + 1) (hb0 : h0.get? bs = some (.cells [.int .i64 p.1, .int .i64 p.2] e own)) :
    Iter Tryz.prog K 134 #[] #[.pointer (some ⟨bs, 0, none⟩)] h0 ValI (spanL p) (fun b => b = bs) := by
  refine ⟨fun b q => by subst q; exact Heap.get_lt hb0, fun h l I C hn _ hk hc hI hX => ?_⟩
  have hb := hk bs _ rfl hb0
  have hC : ¬ C bs := hX bs rfl
  show CallW Tryz.prog K 134 #[.func (.yield l) #[] #[], .pointer (some ⟨bs, 0, none⟩)] h _
  refine body (N := 17) Tryz.func134 rfl (hK _ _ _ rfl) rfl rfl ?_
  (repeat' (first | apply zam | apply zac | (apply O_at; rfl) | (apply zaj; rfl) | apply zak | apply zaq | ((first | apply zaf | apply zad); rfl; rfl; rfl; rfl) | (apply P_fa; rfl; rfl; rfl; rfl; exact zaw rfl; (first | exact Nat.zero_add _ | exact Nat.add_zero _ | rfl)) | (apply zah; rfl; rfl; rfl; rfl; exact zar rfl; (focus repeat' first | assumption); (first | rfl | assumption)) | fail))
  refine zbb (fun k : Nat => [(3, .int .i64 (p.1 + (k : Nat))), (0, .func (.yield l) #[] #[]), (1, .pointer (some ⟨bs, 0, none⟩))])
    (fun k h' => k ≤ (p.2 - p.1 + 1).toNat ∧ After I (rng p.1 k) C h h') (fun k => (p.2 - p.1 + 1).toNat - k) ?_ 0 ?_ ?_
  · intro k h' ⟨hk1, C1, hi, hm, hkk, hn1⟩ ih
    have hb' := hkk bs _ hC hb
    by_cases hlt : p.1 + (k : Nat) ≤ p.2
    · (repeat' (first | apply zam | apply zac | (apply O_at; rfl) | (apply zaj; rfl) | apply zak | (apply zaK; rfl) | apply zbj | apply zbk | apply zaZ | apply za0 | apply zau | (apply zbn; rfl; rfl; rfl) | ((first | apply zaf | apply zad); rfl; rfl; rfl; rfl) | (apply P_fa; rfl; rfl; rfl; rfl; exact zaw rfl; (first | exact Nat.zero_add _ | exact Nat.add_zero _ | rfl)) | (apply zaR; rfl; rfl; rfl; rfl; rfl; rfl) | (apply zfF; rfl; rfl; rfl; rfl; rfl; all_goals intro _) | (apply zah; rfl; rfl; rfl; rfl; exact zar rfl; (focus repeat' first | assumption); (first | rfl | assumption)) | fail))
      · apply P_yield; rfl; rfl; rfl; rfl; rfl
        · exact hc.round _ _ C1 h' _ (zj9 p.1 _ k (by omega)) rfl hi hn1 (fun b x q g => by subst q; rw [hb] at g; cases g; exact hb')
        rintro _ h2 ⟨rfl, ha⟩
        (repeat' (first | apply zam | apply zac | (apply O_at; rfl) | (apply zaj; rfl) | apply zak | (apply za4; rfl) | apply zaq | apply zax | apply zaB | ((first | apply zaf | apply zad); rfl; rfl; rfl; rfl) | (apply zaR; rfl; rfl; rfl; rfl; rfl; rfl) | (apply zbN; rfl; rfl; rfl; rfl; rfl; (unfold fit; omega)) | fail))
        refine zaH (ih (k + 1) _ ?_ ⟨by omega, ?_⟩) ?_
        · omega
        · rw [rng_succ]; exact ha.join hm hkk hn1
        · refine ⟨?_, rfl, rfl, trivial⟩
          show some (Value.int .i64 (p.1 + (k : Nat) + 1)) = _
          congr 2
          omega
      · omega
    · (repeat' (first | apply zam | apply zac | (apply O_at; rfl) | (apply zaj; rfl) | apply zak | (apply zaK; rfl) | apply zbj | apply zbk | apply zaZ | apply za0 | apply zau | (apply zbn; rfl; rfl; rfl) | ((first | apply zaf | apply zad); rfl; rfl; rfl; rfl) | (apply P_fa; rfl; rfl; rfl; rfl; exact zaw rfl; (first | exact Nat.zero_add _ | exact Nat.add_zero _ | rfl)) | (apply zaR; rfl; rfl; rfl; rfl; rfl; rfl) | (apply zfF; rfl; rfl; rfl; rfl; rfl; all_goals intro _) | (apply zah; rfl; rfl; rfl; rfl; exact zar rfl; (focus repeat' first | assumption); (first | rfl | assumption)) | fail))
      · omega
      · refine ⟨.inl rfl, _, rfl, ?_⟩
        have e : k = (p.2 - p.1 + 1).toNat := by omega
        subst e
        exact ⟨C1, hi, hm, hkk, hn1⟩
  · exact ⟨Nat.zero_le _, C, hI, fun b q => Or.inl q, fun b x _ g => g, Nat.le_refl _⟩
  · refine ⟨?_, rfl, rfl, trivial⟩
    show some (Value.int .i64 p.1) = _
    congr 2
    omega

theorem zeU (hK : NoK K) {p : Int × Int} {h : Heap} (hp : -1000000 ≤ p.1 ∧ p.2 ≤ 1000000 ∧ p.1 ≤ p.2 + 1) :
    CallW Tryz.prog K 115 #[.agg #[.int .i64 p.1, .int .i64 p.2]] h fun v h1 => Ext h h1 ∧ ∃ bs, v = .func (.func 134) #[] #[.pointer (some ⟨bs, 0, none⟩)] ∧ h.n ≤ bs ∧ Iter Tryz.prog K 134 #[] #[.pointer (some ⟨bs, 0, none⟩)] h1 ValI (spanL p) (fun b => b = bs) := by
  refine body (N := 4) Tryz.func115 rfl (hK _ _ _ rfl) rfl rfl ?_
  (repeat' (first | apply zam | apply zac | (apply O_at; rfl) | (apply zaj; rfl) | apply zak | apply zaA | apply zau | (apply zad; rfl; rfl; rfl; rfl) | (apply zjs; rfl; rfl; rfl; rfl; rfl) | (apply zaM; rfl; rfl; rfl; rfl; exact zai rfl; rfl; rfl) | fail))
  refine ⟨.inr rfl, _, rfl, by (focus repeat' first | exact Ext.refl _ | assumption | apply Ext.push), h.n, rfl, Nat.le_refl _, zhl hK hp zaa⟩
/-- The lines that an entry reads. -/
def rdL (e : Ent) : List Int := if e.1 = 1 then spanL (e.2.getD 2 0, e.2.getD 3 0) else []
theorem rdL_mem {e : Ent} {j : Int} : j ∈ rdL e ↔ reads e j := by
  unfold rdL reads
  by_cases h : e.1 = 1
  · rw [if_pos h]
    unfold spanL rng
    simp only [List.mem_map, List.mem_range]
    constructor
    · rintro ⟨i, hi, rfl⟩; exact ⟨h, by omega, by omega⟩
    · rintro ⟨_, h1, h2⟩; exact ⟨(j - e.2.getD 2 0).toNat, by omega, by omega⟩
  · rw [if_neg h]; simp [h]
theorem zfY (hK : NoK K) {c : Cop} {people : Int} {n : Nat} {h : Heap} (hc : RowIn c.r h) (hP : EntP people n (ent c)) (hn : n ≤ 1000) :
    CallW Tryz.prog K 80 #[enV c] h fun v h1 => Ext h h1 ∧ ∃ bs, v = .func (.func 134) #[] #[.pointer (some ⟨bs, 0, none⟩)] ∧ h.n ≤ bs ∧ Iter Tryz.prog K 134 #[] #[.pointer (some ⟨bs, 0, none⟩)] h1 ValI (rdL (ent c)) (fun b => b = bs) := by
  obtain ⟨rd, hcb, _⟩ := hc
  obtain ⟨par, q, k, t⟩ := c
  dsimp only [enV, ent] at rd hcb hP ⊢
  refine body (N := 18) Tryz.func80 rfl (hK _ _ _ rfl) rfl rfl ?_
  by_cases h1 : par = 1
  · subst h1
    have z := ent1.1 hP
    obtain ⟨b, e, own, rfl, hg⟩ := rd.at (by rw [zag]; omega)
    (repeat' (first | apply zam | apply zac | (apply O_at; rfl) | (apply N_at; rfl) | (apply zaj; rfl) | apply zak | (apply zaK; rfl) | (apply zbf; exact zay (by decide +kernel)) | apply zax | ((first | apply zad | apply zaV); rfl; rfl; rfl; rfl) | ((first | apply P_fa | apply M_fa); rfl; rfl; rfl; rfl; exact zaw rfl; (first | exact Nat.zero_add _ | exact Nat.add_zero _ | rfl)) | (apply ziw; rfl; rfl; rfl; rfl; rfl; omega) | (apply zah; rfl; rfl; rfl; rfl; exact zar rfl; (focus repeat' first | exact zaa | assumption | apply zab); (first | exact zae (by omega) | rfl | assumption)) | (apply zaM; rfl; rfl; rfl; rfl; exact zai rfl; rfl; rfl) | (apply zc7; rfl; rfl; rfl; rfl; rfl; exact zas rfl; exact zai rfl; (first | assumption | exact zq2 | exact zq3 | rfl | exact (Int.toNat_of_nonneg (by omega)).symm); omega) | (((apply zbs; rfl; rfl; rfl; rfl; exact zar rfl; exact zaQ (by decide +kernel)); (focus repeat' first | exact zaa | assumption | apply zab); (first | exact zae (by omega) | rfl | assumption)); (first | assumption | exact zaI _ _ | exact zbu _ _ _ | rfl | (focus simp [same, same.all2]; done)); (first | rfl | assumption | exact hwv _ | (focus apply zbt; (focus repeat' first | exact zaa | assumption | apply zab); done) | (simp [within]; omega))) | (apply zjx; rfl; rfl; rfl; rfl) | fail))
    apply zaO; rfl; rfl; rfl; rfl; rfl; rfl; rfl; exact zeU hK (p := (t.getD 2 0, t.getD 3 0)) ⟨by dsimp only; omega, by dsimp only; omega, by dsimp only; omega⟩
    rintro _ h2 ⟨hx2, bs, rfl, hbs, hit⟩
    (repeat' (first | (apply N_at; rfl) | apply zak | apply zaA | (apply zbH; rfl; refine .inr ?_; (focus repeat' first | exact trivial | apply And.intro | rfl)) | apply zau | ((first | apply zad | apply zaV); rfl; rfl; rfl; rfl) | fail))
    exact ⟨.inr rfl, _, rfl, by (focus repeat' first | exact Ext.refl _ | assumption | apply Ext.push | (refine Ext.trans ?_ (by assumption))), bs, rfl, Nat.le_trans (Nat.le_succ _) hbs, hit⟩
  · (repeat' (first | apply zam | apply zac | (apply O_at; rfl) | (apply zaj; rfl) | apply zak | (apply za4; rfl) | ((first | apply zad | apply zaV); rfl; rfl; rfl; rfl) | ((first | apply P_fa | apply M_fa); rfl; rfl; rfl; rfl; exact zaw rfl; (first | exact Nat.zero_add _ | exact Nat.add_zero _ | rfl)) | (apply P_neqT; rfl; rfl; rfl; rfl; rfl; omega) | (apply zah; rfl; rfl; rfl; rfl; exact zar rfl; (focus repeat' first | exact zaa | assumption | apply zab); (first | exact zae (by omega) | rfl | assumption)) | (apply zcw; rfl; rfl; rfl; rfl) | (apply zaM; rfl; rfl; rfl; rfl; exact zai rfl; rfl; rfl) | fail))
    apply zal; rfl; rfl; rfl; rfl; rfl; rfl; exact zeU hK (p := (0, -1)) ⟨by decide, by decide, by decide⟩
    rintro _ h2 ⟨hx2, bs, rfl, hbs, hit⟩
    (repeat' (first | (apply O_at; rfl) | (apply zaj; rfl) | apply zak | apply zaA | apply za5 | apply zau | ((first | apply zad | apply zaV); rfl; rfl; rfl; rfl) | fail))
    have e0 : rdL (par, t) = spanL (0, -1) := by unfold rdL; rw [if_neg h1]; rfl
    rw [e0]
    exact ⟨.inr rfl, _, rfl, by (focus repeat' first | exact Ext.refl _ | assumption | apply Ext.push | (refine Ext.trans ?_ (by assumption))), bs, rfl, Nat.le_trans (Nat.le_succ _) hbs, hit⟩
end Go.AX.Sa

namespace Go.AX.Sa
open Go.Proofs
set_option maxRecDepth 100000
variable {K : Known}
def readF (f : Int × Int → Bool) (e : Ent) (seen : List Int) : Int × Int → Bool := fun q => if q.1 ∈ seen ∧ inPair e q.2 then true else f q
theorem read_ok (hK : NoK K) {G : Pg} {N S : List Int} {f : Int × Int → Bool} {s bn bs r : Nat} {c : Cop} {h : Heap} (hS : StB G N S f s bn bs r h) (hns : bn ≠ bs) (hn : G.n ≤ 1000) (hc : RowIn c.r h) (hP : EntP G.people G.n (ent c)) (h1 : c.par = 1) :
    CallW Tryz.prog K 131 #[.pointer (some ⟨s, 0, none⟩), enV c] h (fun _ h1 => StB G N S (readF f (ent c) (rdL (ent c))) s bn bs r h1 ∧ Keep3 bn bs r h h1) := by
  obtain ⟨n1, n2, n3, n4, n5, n6⟩ := hS.ne hns
  obtain ⟨box, nums, sets, hrd, nl, sl⟩ := hS
  have hc' := hc
  obtain ⟨rd, hcb, hcc⟩ := hc
  obtain ⟨par, q, k, t⟩ := c
  dsimp only at h1
  subst h1
  dsimp only [enV, ent] at rd hcb hcc hP ⊢
  have z := ent1.1 hP
  have hcap := hcc (by omega)
  obtain ⟨b, e, own, rfl, hg⟩ := rd.at (by rw [zag]; omega)
  have hr := hrd.lt
  have hsl := Heap.get_lt box
  have hbl := Heap.get_lt hg
  have nb : b ≠ r := by
    obtain ⟨_, _, _, hm, _⟩ := hrd
    intro q; subst q; rw [hg] at hm; cases hm
  refine zhI (N := 26) 2 Tryz.func131 rfl (hK _ _ _ rfl) rfl rfl (by rfl) (by rfl) ?_
  (repeat' (first | apply zam | apply zac | (apply O_at; rfl) | (apply zaj; rfl) | apply zak | (apply zaz; rfl; rfl; rfl; rfl; exact zaT rfl; (focus repeat' first | exact zaa | assumption | apply zab | (apply Ext.get; assumption) | (apply ExtBut.get; assumption; (first | assumption | omega | (simp only [Heap.push]; omega)))); (first | exact Nat.le_of_ble_eq_true rfl | (simp; done) | (simp; omega) | (rw [zag]; omega)); rfl) | (apply zaM; rfl; rfl; rfl; rfl; exact zai rfl; rfl; rfl) | fail))
  apply zal; rfl; rfl; rfl; rfl; rfl; rfl; exact zfY hK (c := ⟨1, ⟨some ⟨b, 0, none⟩, k, t⟩⟩) (hc'.ext (by (focus repeat' first | exact Ext.refl _ | assumption | apply Ext.push | (refine Ext.trans ?_ (by assumption))))) hP hn
  rintro _ h2 ⟨hx2, bz, rfl, hbz, hit⟩
  (repeat' (first | (apply zaj; rfl) | apply zak | apply zax | apply zau | fail))
  refine .inr ⟨rfl, 134, #[], #[.pointer (some ⟨bz, 0, none⟩)], rfl, rfl, fun tm l hb hE hle hxb hbn hlb hdb => ?_⟩
  have hx : Ext h h2 := ((Ext.refl h).push _ |>.push _).trans hx2
  have p0 := hx2.get (zab (zaa (h := h) (b := .cells (Value.pointer (some ⟨s, 0, none⟩)).cells.toList 88 true)))
  have p1 := hx2.get (zaa (h := h.push (.cells (Value.pointer (some ⟨s, 0, none⟩)).cells.toList 88 true)) (b := .cells (Value.agg #[.int .i64 1, .slice (some ⟨b, 0, none⟩) t.length k]).cells.toList 37 true))
  have hn2 : h.n + 2 ≤ h2.n := hx2.n
  have hbz' : h.n + 2 ≤ bz := hbz
  refine (Iter.loop hit (hb := hb) (fun b x _ g => hxb.get g) hxb.n (by omega)
    (fun (seen : List Int) D h' => (∀ b, D b ↔ b = r) ∧ MapB h' r (readF f (1, t) seen)) (fun b => b = r)
    (fun seen D a b ⟨f, m⟩ k n => ⟨f, m.keep fun q g => k r q ((f r).2 rfl) g⟩) (fun seen D a ⟨f, m⟩ b q => by rw [(f b).1 q]; exact m.lt) ?_ ?_ ?_).mono ?_
  · exact ⟨fun b => Iff.rfl, (hrd.ext (hx.trans hxb)).to fun q => by unfold readF; rw [if_neg (by simp)]⟩
  · intro b q w; omega
  · intro seen a D1 h' v _ hv ⟨hD, hm⟩ hD1 hkeep hn'
    have hl2 := hkeep l _ (by omega) hlb
    unfold ValI at hv
    subst hv
    refine round_of (N := 26) hl2 rfl (EnvOK.param hE rfl) ?_
    (repeat' (first | apply zac | (apply O_at; rfl) | (apply zaj; rfl) | apply zau | ((first | apply zaf | apply zad); rfl; rfl; rfl; rfl) | fail))
    refine ⟨rfl, hl2, fun Bz hs hsl' hsk hsn => ?_⟩
    have old : ∀ {b : Nat} {x : Blk}, b ≠ r → h2.get? b = some x → hs.get? b = some x := fun q g =>
      hsk _ _ (by have := Heap.get_lt g; omega) (hkeep _ _ q (hxb.get g))
    have q0 := old (by omega) p0
    have q1 := old (by show h.n + 1 ≠ r; omega) p1
    have q2 := old (by omega) (hx.get hg)
    have q3 := old n3 (hx.get box)
    have q4 : MapB hs r (readF f (1, t) seen) := hm.keep fun q g => hsk _ _ (by omega) g
    (repeat' (first | apply zam | apply zac | (apply O_at; rfl) | (apply zaj; rfl) | apply zak | apply zaq | ((first | apply zaf | apply zad); rfl; rfl; rfl; rfl) | (apply P_fa; rfl; rfl; rfl; rfl; exact zaw rfl; (first | exact Nat.zero_add _ | exact Nat.add_zero _ | rfl)) | (apply zbe; rfl; rfl; rfl; rfl; rfl; rfl; exact zas rfl) | (apply zah; rfl; rfl; rfl; rfl; exact zar rfl; (focus repeat' first | exact zaa | assumption | apply zab | (apply Ext.get; assumption) | (apply ExtBut.get; assumption; (first | assumption | omega | (simp only [Heap.push]; omega)))); (first | exact zae (by omega) | rfl | assumption)) | (apply zlj; rfl; rfl; rfl; rfl; rfl; exact zas rfl; exact zai rfl; (first | assumption | exact zq2 | rfl | exact (Int.toNat_of_nonneg (by omega)).symm); omega; omega; omega; (intro _)) | fail))
    rename_i cap'
    refine zbb (fun i : Nat => [(14, .int .i64 (i : Nat)), (13, .int .i64 2), (12, .slice (some ⟨b, 0, none⟩) 2 cap'), (4, .int .i64 a), (2, .pointer (some ⟨h.n, 0, none⟩))])
      (fun i h' => i ≤ 2 ∧ MapB h' r (fun q => if q.1 = a ∧ ((0 < i ∧ t.getD 0 0 = q.2) ∨ (1 < i ∧ t.getD 1 0 = q.2)) then true else readF f (1, t) seen q) ∧ ExtBut r hs h') (fun i => 2 - i) ?_ 0 ?_ ?_
    · intro i h3 ⟨hi, hm3, hx3⟩ ih
      have w0 := hx3.get (by omega) q0
      have w2 := hx3.get nb q2
      have w3 := hx3.get n3 q3
      by_cases hlt : i < 2
      · have hil : i < t.length := by omega
        (repeat' (first | apply zam | apply zac | (apply O_at; rfl) | (apply zaj; rfl) | apply zak | (apply za4; rfl) | apply zaq | apply zax | apply zaB | ((first | apply zaf | apply zad); rfl; rfl; rfl; rfl) | (apply P_fa; rfl; rfl; rfl; rfl; exact zaw rfl; (first | exact Nat.zero_add _ | exact Nat.add_zero _ | rfl)) | (apply zbo; rfl; rfl; rfl; rfl; rfl; omega) | (apply zbN; rfl; rfl; rfl; rfl; rfl; (unfold fit; omega)) | (apply zcz; rfl; rfl; rfl; rfl; rfl; exact zas rfl; exact zai rfl; (first | assumption | exact zq2 | rfl | exact (Int.toNat_of_nonneg (by omega)).symm); omega) | (apply zah; rfl; rfl; rfl; rfl; exact zar rfl; (focus repeat' first | exact zaa | assumption | apply zab | (apply Ext.get; assumption) | (apply ExtBut.get; assumption; (first | assumption | omega | (simp only [Heap.push]; omega)))); (first | exact zae (by omega) | rfl | assumption)) | (apply zdj; rfl; rfl; rfl; rfl) | (apply zhL; rfl; rfl; rfl; rfl) | (apply zgG; rfl; rfl; rfl; rfl; rfl; exact mapB85; (first | assumption | (apply MapB.ext; assumption; (focus repeat' first | exact Ext.refl _ | assumption | apply Ext.push | (refine Ext.trans ?_ (by assumption))))); (intro _ _ _)) | fail))
        rename_i h4 m4 x4
        refine zaH (ih (i + 1) _ (by omega) ⟨by omega, m4.to fun q => ?_, hx3.trans x4⟩) (by (focus repeat' first | rfl | exact trivial | apply And.intro))
        obtain ⟨y1, y2⟩ := q
        simp only [Prod.mk.injEq]
        rcases (show i = 0 ∨ i = 1 by omega) with rfl | rfl
        · by_cases e1 : y1 = a ∧ y2 = t.getD 0 0
          · rw [if_pos e1, if_pos ⟨e1.1, .inl ⟨by omega, e1.2.symm⟩⟩]
          · rw [if_neg e1, if_neg (by omega), if_neg (by omega)]
        · by_cases e1 : y1 = a ∧ y2 = t.getD 1 0
          · rw [if_pos e1, if_pos ⟨e1.1, .inr ⟨by omega, e1.2.symm⟩⟩]
          · rw [if_neg e1]
            by_cases e2 : y1 = a ∧ ((0 < 1 ∧ t.getD 0 0 = y2) ∨ (1 < 1 ∧ t.getD 1 0 = y2))
            · rw [if_pos e2, if_pos ⟨e2.1, .inl ⟨by omega, by omega⟩⟩]
            · rw [if_neg e2, if_neg (by omega)]
      · obtain rfl : i = 2 := by omega
        (repeat' (first | apply zam | apply zac | (apply O_at; rfl) | (apply zaj; rfl) | apply zak | (apply zaK; rfl) | apply zbj | apply zbk | apply zaZ | apply za0 | apply zaB | apply zau | (apply zbr; rfl; rfl; rfl; rfl; rfl; omega) | fail))
        refine ⟨rfl, hx3.get (by omega) hsl', fun hf hfl hfk hfn => ⟨D1, ⟨hD, ?_⟩, fun b q => .inl q, fun y x w g => ?_, ?_⟩⟩
        · refine (hm3.keep fun q g => hfk _ _ (by omega) g).to fun q => ?_
          unfold readF inPair
          dsimp only
          simp only [List.mem_append, List.mem_singleton]
          by_cases e1 : q.1 = a ∧ ((0 < 2 ∧ t.getD 0 0 = q.2) ∨ (1 < 2 ∧ t.getD 1 0 = q.2))
          · rw [if_pos e1, if_pos ⟨.inr e1.1, by omega⟩]
          · rw [if_neg e1]
            by_cases e2 : q.1 ∈ seen ∧ (t.getD 0 0 = q.2 ∨ t.getD 1 0 = q.2)
            · rw [if_pos e2, if_pos ⟨.inl e2.1, e2.2⟩]
            · rw [if_neg e2, if_neg]
              rintro ⟨y | y, w⟩
              · exact e2 ⟨y, w⟩
              · exact e1 ⟨y, by omega⟩
        · have hyr : y ≠ r := fun q => w ((hD y).2 q)
          by_cases hyl : y = l
          · subst hyl
            rw [hl2] at g
            cases g
            exact hfl
          · exact hfk _ _ hyl (hx3.get hyr (hsk _ _ hyl g))
        · have := hx3.n; omega
    · exact ⟨Nat.zero_le _, q4.to fun q => by rw [if_neg (by omega)], ExtBut.refl _ _⟩
    · (focus repeat' first | rfl | exact trivial | apply And.intro)
  · rintro _ h3 ⟨D3, ⟨hD3, hm3⟩, _, hk3, hn3⟩
    refine ⟨hk3 l _ (by omega) hlb, fun h4 hk4 hn4 => ?_⟩
    (repeat' (first | apply zax | apply zau | fail))
    have al : ∀ {h5 : Heap}, (∀ b x, b ≠ h2.n → h4.get? b = some x → h5.get? b = some x) → ∀ b x, b ≠ r → h.get? b = some x → h5.get? b = some x := fun hk5 b x q g =>
      hk5 _ _ (by have := Heap.get_lt g; omega) (hk4 _ _ (by have := Heap.get_lt g; omega) (hk3 _ _ q (hxb.get (hx.get g))))
    refine ⟨.inl rfl, hk4 _ _ (by omega) (hk3 _ _ (by omega) hdb), fun h5 hk5 hn5 => ⟨_, rfl, ⟨al hk5 _ _ n3 box, al hk5 _ _ n5 nums, al hk5 _ _ n6 sets, hm3.keep fun q g => hk5 _ _ (by omega) (hk4 _ _ (by omega) g), nl, sl⟩, ?_, fun b x _ _ w g => al hk5 b x w g⟩⟩
    omega
end Go.AX.Sa

namespace Go.AX.Sa
open Go.Proofs
set_option maxRecDepth 100000
variable {K : Known}
/-- What an entry makes of what stands. -/
structure StL (G : Pg) (L : List Ent) (s bn bs r : Nat) (h : Heap) : Prop where
  st : ∃ f, StB G (numsL G L) (setsL G L) f s bn bs r h ∧ ∀ q : Int × Int, 0 ≤ q.2 → q.2 < G.people → f q = hrdF L q
theorem zil (hK : NoK K) {G : Pg} {L : List Ent} {s bn bs r : Nat} {c : Cop} {h : Heap} (hS : StL G L s bn bs r h) (hns : bn ≠ bs) (hp : 2 ≤ G.people ∧ G.people ≤ 6) (hn : G.n ≤ 1000) (hc : RowIn c.r h) (hP : EntP G.people G.n (ent c)) (hN : ∀ j, j < G.n → NumP (numA G L j)) :
    CallW Tryz.prog K 105 #[.pointer (some ⟨s, 0, none⟩), enV c] h (fun _ h1 => StL G (L ++ [ent c]) s bn bs r h1 ∧ Keep3 bn bs r h h1) := by
  obtain ⟨f, hS, hf⟩ := hS
  have hcb := hc.b
  have hP' := hP
  obtain ⟨par, ⟨q, k, t⟩⟩ := c
  dsimp only [enV, ent] at hP hcb ⊢
  refine body (N := 14) Tryz.func105 rfl (hK _ _ _ rfl) rfl rfl ?_
  rcases ent0 hP with h1 | h1 | h1
  · dsimp only at h1
    subst h1
    (repeat' (first | apply zam | apply zac | (apply O_at; rfl) | (apply N_at; rfl) | (apply zaj; rfl) | apply zak | (apply zbf; exact zay (by decide +kernel)) | (apply zaD; rfl; rfl; rfl; rfl; exact zai rfl; rfl; rfl; rfl) | (apply zdk; rfl; rfl; rfl; rfl) | (apply zaM; rfl; rfl; rfl; rfl; exact zai rfl; rfl; rfl) | (apply zbi; rfl; rfl; rfl; rfl; exact zai rfl; rfl; rfl) | (apply zaN; rfl; rfl; rfl; rfl) | (apply M_fa; rfl; rfl; rfl; rfl; exact zaw rfl; (first | exact Nat.zero_add _ | exact Nat.add_zero _ | rfl)) | (apply M_sub; rfl; rfl; rfl; rfl; rfl; (unfold fit; omega)) | ((first | ((apply zbs; rfl; rfl; rfl; rfl; exact zar rfl; exact zaQ (by decide +kernel)); (focus repeat' first | exact zaa | assumption | apply zab); (first | rfl | assumption)) | ((apply zdN; rfl; rfl; rfl; rfl; exact zaT rfl; exact zaQ (by decide +kernel)); (focus repeat' first | exact zaa | assumption | apply zab); (first | exact Nat.le_of_ble_eq_true rfl | (simp; done) | (simp; omega)); rfl)); (first | assumption | exact zaI _ _ | exact zdW _ _ _ _ | rfl | (focus simp [same, same.all2]; done)); (first | rfl | assumption | exact hwv _ | exact zbZ (by assumption) (by (focus repeat' first | exact Ext.refl _ | assumption | apply Ext.push)) | (simp [within]; omega))) | (apply zlq; rfl; rfl; rfl; rfl; rfl; exact ar_ok rfl; exact zai rfl; (first | assumption | exact zq0 | exact zq1 | exact zq2 | rfl | exact (Int.toNat_of_nonneg (by omega)).symm); omega) | fail))
    apply zaO; rfl; rfl; rfl; rfl; rfl; rfl; rfl; exact read_ok hK (c := ⟨1, ⟨q, k, t⟩⟩) (hS.ext (by (focus repeat' first | exact Ext.refl _ | assumption | apply Ext.push))) hns hn (hc.ext (by (focus repeat' first | exact Ext.refl _ | assumption | apply Ext.push))) hP' rfl
    rintro _ h2 ⟨S2, k2⟩
    (repeat' (first | (apply zbH; rfl; refine .inr ?_; (focus repeat' first | exact trivial | apply And.intro | rfl)) | apply zau | fail))
    refine ⟨.inl rfl, _, rfl, ⟨_, by rw [zkx rfl, zeQ (by simp)]; exact S2, fun y y0 y1 => ?_⟩, (Keep3.of (by (focus repeat' first | exact Ext.refl _ | assumption | apply Ext.push))).trans k2⟩
    rw [zcY, hrdS, if_neg (fun u => u.elim (fun w => absurd w.1 (by simp)) fun w => absurd w.1 (by simp))]
    unfold readF
    rw [hf y y0 y1]
    simp only [rdL_mem, ent]
  · dsimp only at h1
    subst h1
    have z := ent2.1 hP
    obtain ⟨j, hj⟩ : ∃ j : Nat, t.getD 1 0 = (j : Nat) := ⟨(t.getD 1 0).toNat, by omega⟩
    have hjn : j < G.n := by omega
    (repeat' (first | apply zam | apply zac | (apply O_at; rfl) | (apply N_at; rfl) | (apply zaj; rfl) | apply zak | (apply zbf; exact zay (by decide +kernel)) | (apply zaD; rfl; rfl; rfl; rfl; exact zai rfl; rfl; rfl; rfl) | (apply zdk; rfl; rfl; rfl; rfl) | (apply zaM; rfl; rfl; rfl; rfl; exact zai rfl; rfl; rfl) | (apply zbi; rfl; rfl; rfl; rfl; exact zai rfl; rfl; rfl) | (apply zaN; rfl; rfl; rfl; rfl) | (apply M_fa; rfl; rfl; rfl; rfl; exact zaw rfl; (first | exact Nat.zero_add _ | exact Nat.add_zero _ | rfl)) | (apply M_sub; rfl; rfl; rfl; rfl; rfl; (unfold fit; omega)) | ((first | ((apply zbs; rfl; rfl; rfl; rfl; exact zar rfl; exact zaQ (by decide +kernel)); (focus repeat' first | exact zaa | assumption | apply zab); (first | rfl | assumption)) | ((apply zdN; rfl; rfl; rfl; rfl; exact zaT rfl; exact zaQ (by decide +kernel)); (focus repeat' first | exact zaa | assumption | apply zab); (first | exact Nat.le_of_ble_eq_true rfl | (simp; done) | (simp; omega)); rfl)); (first | assumption | exact zaI _ _ | exact zdW _ _ _ _ | rfl | (focus simp [same, same.all2]; done)); (first | rfl | assumption | exact hwv _ | exact zbZ (by assumption) (by (focus repeat' first | exact Ext.refl _ | assumption | apply Ext.push)) | (simp [within]; omega))) | (apply zlq; rfl; rfl; rfl; rfl; rfl; exact ar_ok rfl; exact zai rfl; (first | assumption | exact zq0 | exact zq1 | exact zq2 | rfl | exact (Int.toNat_of_nonneg (by omega)).symm); omega) | fail))
    apply zaO; rfl; rfl; rfl; rfl; rfl; rfl; rfl; exact mend_ok hK (c := ⟨2, ⟨q, k, t⟩⟩) (hS.ext (by (focus repeat' first | exact Ext.refl _ | assumption | apply Ext.push))) hns hp hn (hc.ext (by (focus repeat' first | exact Ext.refl _ | assumption | apply Ext.push))) z.1 hj hjn
    rintro _ h2 ⟨S2, k2⟩
    (repeat' (first | (apply zbH; rfl; refine .inr ?_; (focus repeat' first | exact trivial | apply And.intro | rfl)) | apply zau | fail))
    refine ⟨.inl rfl, _, rfl, ⟨_, by rw [zky (e := (2, t)) rfl hj hjn, zjW (e := (2, t)) rfl hj hjn]; exact S2, fun y y0 y1 => ?_⟩, (Keep3.of (by (focus repeat' first | exact Ext.refl _ | assumption | apply Ext.push))).trans k2⟩
    rw [zcY, hrdS]
    unfold keepCh
    by_cases hy : y.1 = (j : Nat)
    · rw [if_pos ⟨hy, y0, y1⟩, if_pos (.inl ⟨rfl, hj.trans hy.symm⟩)]
    · rw [if_neg (fun w => hy w.1), if_neg (fun u => u.elim (fun w => hy (w.2.symm.trans hj)) fun w => absurd w.1 (by simp)), if_neg (fun w => absurd w.1.1 (by simp))]
      exact hf y y0 y1
  · dsimp only at h1
    subst h1
    have z := ent3.1 hP
    obtain ⟨j, hj⟩ : ∃ j : Nat, t.getD 0 0 = (j : Nat) := ⟨(t.getD 0 0).toNat, by omega⟩
    have hjn : j < G.n := by omega
    (repeat' (first | apply zam | apply zac | (apply O_at; rfl) | (apply N_at; rfl) | (apply zaj; rfl) | apply zak | (apply zbf; exact zay (by decide +kernel)) | (apply zaD; rfl; rfl; rfl; rfl; exact zai rfl; rfl; rfl; rfl) | (apply zdk; rfl; rfl; rfl; rfl) | (apply zaM; rfl; rfl; rfl; rfl; exact zai rfl; rfl; rfl) | (apply zbi; rfl; rfl; rfl; rfl; exact zai rfl; rfl; rfl) | (apply zaN; rfl; rfl; rfl; rfl) | (apply M_fa; rfl; rfl; rfl; rfl; exact zaw rfl; (first | exact Nat.zero_add _ | exact Nat.add_zero _ | rfl)) | (apply M_sub; rfl; rfl; rfl; rfl; rfl; (unfold fit; omega)) | ((first | ((apply zbs; rfl; rfl; rfl; rfl; exact zar rfl; exact zaQ (by decide +kernel)); (focus repeat' first | exact zaa | assumption | apply zab); (first | rfl | assumption)) | ((apply zdN; rfl; rfl; rfl; rfl; exact zaT rfl; exact zaQ (by decide +kernel)); (focus repeat' first | exact zaa | assumption | apply zab); (first | exact Nat.le_of_ble_eq_true rfl | (simp; done) | (simp; omega)); rfl)); (first | assumption | exact zaI _ _ | exact zdW _ _ _ _ | rfl | (focus simp [same, same.all2]; done)); (first | rfl | assumption | exact hwv _ | exact zbZ (by assumption) (by (focus repeat' first | exact Ext.refl _ | assumption | apply Ext.push)) | (simp [within]; omega))) | (apply zlq; rfl; rfl; rfl; rfl; rfl; exact ar_ok rfl; exact zai rfl; (first | assumption | exact zq0 | exact zq1 | exact zq2 | rfl | exact (Int.toNat_of_nonneg (by omega)).symm); omega) | fail))
    apply zaO; rfl; rfl; rfl; rfl; rfl; rfl; rfl; exact fall_ok hK (c := ⟨3, ⟨q, k, t⟩⟩) (hS.ext (by (focus repeat' first | exact Ext.refl _ | assumption | apply Ext.push))) hns hp hn (hc.ext (by (focus repeat' first | exact Ext.refl _ | assumption | apply Ext.push))) z.1 hj hjn (by rw [zcr hjn]; exact hN j hjn)
    rintro _ h2 ⟨S2, k2⟩
    rw [zcr hjn] at S2
    (repeat' (first | (apply zbH; rfl; refine .inr ?_; (focus repeat' first | exact trivial | apply And.intro | rfl)) | apply zau | fail))
    refine ⟨.inl rfl, _, rfl, ⟨_, by rw [zkz (e := (3, t)) rfl hj hjn, zeQ (by simp)]; exact S2, fun y y0 y1 => ?_⟩, (Keep3.of (by (focus repeat' first | exact Ext.refl _ | assumption | apply Ext.push))).trans k2⟩
    rw [zcY, hrdS]
    unfold keepCh
    by_cases hy : y.1 = (j : Nat)
    · rw [if_pos ⟨hy, y0, y1⟩, if_pos (.inr ⟨rfl, hj.trans hy.symm⟩)]
    · rw [if_neg (fun w => hy w.1), if_neg (fun u => u.elim (fun w => absurd w.1 (by simp)) fun w => hy (w.2.symm.trans hj)), if_neg (fun w => absurd w.1.1 (by simp))]
      exact hf y y0 y1
end Go.AX.Sa

namespace Go.AX.Sa
open Go.Proofs
set_option maxRecDepth 100000
/-! Lists that grow beside each other. -/
/-- The value reads as this list and lies in this block alone. -/
def Own (h : Heap) (v : Value) (l : List Int) (b : Nat) : Prop := (v = .slice none 0 0 ∧ l = []) ∨ (l ≠ [] ∧ v = .slice (some ⟨b, 0, none⟩) l.length unk ∧ h.get? b = some (.cells (ints l) 3 true))
theorem Own.ext {h h1 : Heap} {v : Value} {l : List Int} {b : Nat} (o : Own h v l b) (x : Ext h h1) : Own h1 v l b := o.imp id fun q => ⟨q.1, q.2.1, x.get q.2.2⟩
theorem Own.but {h h1 : Heap} {v : Value} {l : List Int} {b c : Nat} (o : Own h v l b) (x : ExtBut c h h1) (hne : b ≠ c) : Own h1 v l b := o.imp id fun q => ⟨q.1, q.2.1, x.get hne q.2.2⟩
/-- What stays when a list in this block grows. -/
structure KeptX (l : List Int) (b : Nat) (h h1 : Heap) : Prop where
  n : h1.n = h.n + 1
  get' : ∀ c y, (l = [] ∨ c ≠ b) → h.get? c = some y → h1.get? c = some y
theorem Own.kept {h h1 : Heap} {v : Value} {l l' : List Int} {b b' : Nat} (o : Own h v l b) (x : KeptX l' b' h h1) (hne : l' = [] ∨ b ≠ b') : Own h1 v l b := by
  rcases o with o | ⟨o0, o1, o2⟩
  · exact .inl o
  · rcases hne with hn | hn
    · exact .inr ⟨o0, o1, x.get' _ _ (.inl hn) o2⟩
    · exact .inr ⟨o0, o1, x.get' _ _ (.inr hn) o2⟩
theorem Own.one {h : Heap} {v : Value} {l : List Int} {b : Nat} (o : Own h v l b) : oneB v = true ∧ v.cells = #[v] := by
  rcases o with ⟨rfl, _⟩ | ⟨_, rfl, _⟩ <;> exact ⟨rfl, rfl⟩
theorem Own.same {h : Heap} {v : Value} {l : List Int} {b : Nat} (o : Own h v l b) : AX.same 20 v v = true := by
  rcases o with ⟨rfl, _⟩ | ⟨_, rfl, _⟩ <;> simp [AX.same]
theorem Own.within {h : Heap} {v : Value} {l : List Int} {b : Nat} (o : Own h v l b) {m : Nat} (hm : h.n ≤ m) : AX.within 20 m v = true := by
  rcases o with ⟨rfl, _⟩ | ⟨_, rfl, g⟩
  · rfl
  · have := Heap.get_lt g
    simp [AX.within]; omega
section
variable {P : Program} {K : Known} {x : Ctx} {N : Nat} {E : Env} {h : Heap} {ops : Array Oper} {F : Ex → Env → Heap → Prop} {i : Nat} {Hs : List Heap} {L : List Heap → Prop} {nw : List (Nat × Nat × Blk)}
variable {d : Nat} {ty : TypeId} {pos : String} {af : Array Edge} {g : Option (Nat × Bool)}
theorem own_app {ts : Array TypeId} {t t' e' : TypeId} {by_ cap bv : Nat} {e0 : TypeId} {own : Bool} {n : Int} {v : Value} {l : List Int} (h0' : ts[0]? = some t) (h1' : ts[1]? = some t') (hc : cell1 P t = some 3) (hc' : P.underlying t' = some (.slice e'))
    (hy : h.get? by_ = some (.cells [.int .i64 n] e0 own)) (ho : Own h v l bv) (hle : l.length ≤ 10000) : ∃ v' h1, appendB P h ts v (.slice (some ⟨by_, 0, none⟩) 1 cap) = some (v', h1) ∧ Own h1 v' (l ++ [n]) h.n ∧ KeptX l bv h h1 := by
  rcases ho with ⟨rfl, rfl⟩ | ⟨hne0, rfl, h2⟩
  · exact ⟨_, _, zlf h0' h1' hc hc' hy rfl (by omega) (by omega) rfl, .inr ⟨by simp, rfl, zaa⟩, ⟨rfl, fun _ _ _ g => zab g⟩⟩
  · refine ⟨_, _, zle h0' h1' hc hc' hy rfl (by omega) (by omega) rfl h2 (zag _), .inr ⟨by simp, by simp, ?_⟩, ⟨rfl, fun c y hne q => ?_⟩⟩
    · have : (h.set bv .dead).n = h.n := rfl
      rw [← this, show ints (l ++ [n]) = ints l ++ [Value.int .i64 n] from (AX.ints_app l [n]).symm]
      exact zaa
    · by_cases hb : c = bv
      · subst hb
        rcases hne with hn | hn
        · exact absurd hn hne0
        · exact absurd rfl hn
      · exact zab (zaU h2 hb q)
theorem appOwnM {args : Array Operand} {ts : Array TypeId} {t t' e' : TypeId} {a b : Operand} {by_ cap bv : Nat} {e0 : TypeId} {own : Bool} {n : Int} {v : Value} {l : List Int} (hN : Nat.blt d N = true) (hg : gval ops E g = some true) (hk : opsOK P ⟨some d, .call ⟨.builtin .append, args, ts⟩, ty, pos, af, g⟩ = true) (hargs : args.toList = [a, b])
    (ha : E.ev a = some v) (hb : E.ev b = some (.slice (some ⟨by_, 0, none⟩) 1 cap)) (h0' : ts[0]? = some t) (h1' : ts[1]? = some t') (hc : cell1 P t = some 3) (hc' : P.underlying t' = some (.slice e'))
    (hy : h.get? by_ = some (.cells [.int .i64 n] e0 own)) (ho : Own h v l bv) (hle : l.length ≤ 10000) (hnw : unseen (preds ops.toList) nw i = [])
    (k : ∀ v' h1, Own h1 v' (l ++ [n]) h.n → KeptX l bv h h1 → S1 P K x N ops F (i + 1) ((d, v') :: E) h1 (h1 :: Hs) L nw) : S2 P K x N ops F i ⟨some d, .call ⟨.builtin .append, args, ts⟩, ty, pos, af, g⟩ E h Hs L nw := by
  obtain ⟨v', h1, e, o, q⟩ := own_app (P := P) (e' := e') h0' h1' hc hc' hy ho hle
  exact M_append hN hg hk hargs ha hb e hnw (k v' h1 o q)
end
variable {K : Known}
def sets0 (G : Pg) (k : Nat) : List Int := (List.range k).map (sett G)
def setr0 (G : Pg) (k : Nat) : List Int := (List.range k).map (setr G)
theorem ziS (G : Pg) (k : Nat) : sets0 G (k + 1) = sets0 G k ++ [sett G k] := by simp [sets0, List.range_succ]
theorem ziT (G : Pg) (k : Nat) : setr0 G (k + 1) = setr0 G k ++ [setr G k] := by simp [setr0, List.range_succ]
theorem zdT (G : Pg) (k : Nat) : (sets0 G k).length = k := by simp [sets0]
theorem zdU (G : Pg) (k : Nat) : (setr0 G k).length = k := by simp [setr0]
theorem zld (hK : NoK K) {G : Pg} {h : Heap} (hT : PgAt G h) (hn : 0 < G.n ∧ G.n ≤ 1000) :
    CallW Tryz.prog K 104 #[pgV G] h (fun v h1 => ∃ s bn bs r, v = .pointer (some ⟨s, 0, none⟩) ∧ StL G [] s bn bs r h1 ∧ bn ≠ bs ∧ (h.n ≤ s ∧ h.n ≤ bn ∧ h.n ≤ bs ∧ h.n ≤ r) ∧ Ext h h1) := by
  obtain ⟨people, pl, kl, n, l, p, kc, c'⟩ := G
  obtain ⟨len, rl, rc, each, hbl, hpb⟩ := hT
  dsimp only [pgV] at len rl rc each hbl hpb hn ⊢
  obtain ⟨b, e, own, rfl, hg⟩ := rl.at (by rw [zag]; omega)
  have hbl' := Heap.get_lt hg
  refine body (N := 41) Tryz.func104 rfl (hK _ _ _ rfl) rfl rfl ?_
  (repeat' (first | apply zam | apply zac | (apply O_at; rfl) | (apply zaj; rfl) | apply zak | apply zaq | ((first | apply zaf | apply zad | apply zaN); rfl; rfl; rfl; rfl) | ((first | apply P_fa | apply M_fa); rfl; rfl; rfl; rfl; exact zaw rfl; (first | exact Nat.zero_add _ | exact Nat.add_zero _ | rfl)) | (apply zbe; rfl; rfl; rfl; rfl; rfl; rfl; exact zas rfl) | (apply zah; rfl; rfl; rfl; rfl; exact zar rfl; (focus repeat' first | exact zaa | assumption | apply zab | (apply Ext.get; assumption) | (apply ExtBut.get; assumption; (first | assumption | omega | (simp only [Heap.push]; omega)))); (first | rfl | assumption)) | (apply zaz; rfl; rfl; rfl; rfl; exact zaT rfl; (focus repeat' first | exact zaa | assumption | apply zab | (apply Ext.get; assumption) | (apply ExtBut.get; assumption; (first | assumption | omega | (simp only [Heap.push]; omega)))); (first | exact Nat.le_of_ble_eq_true rfl | (simp; done) | (simp; omega) | (rw [zag]; omega)); (first | exact zbm (by omega) | rfl)) | (apply zju; rfl; rfl; rfl; rfl) | (apply zaM; rfl; rfl; rfl; rfl; exact zai rfl; rfl; rfl) | (apply zjr; rfl; rfl; rfl; (intro _ _ _ _)) | fail))
  rename_i h1 m1 x1 e1
  have hs1 : h1.n = h.n + 2 := e1
  refine zbb (fun a : Nat × Value × Nat × Value × Nat => [(13, .int .i64 (a.1 : Nat)), (12, .int .i64 (n : Nat)), (11, .slice (some ⟨b, 0, none⟩) n kl), (3, .pointer (some ⟨h1.n, 0, none⟩)), (1, .pointer (some ⟨h.n, 0, none⟩))])
    (fun a h' => a.1 ≤ n ∧ Ext h h' ∧ h.n + 3 ≤ h'.n ∧ h'.get? h1.n = some (.cells [.int .i64 people, .slice (some ⟨b, 0, none⟩) n kl, .slice p c'.length kc, a.2.1, a.2.2.2.1, .map (some (h.n + 1))] 87 true) ∧
      Own h' a.2.1 (sets0 ⟨people, some ⟨b, 0, none⟩, kl, n, l, p, kc, c'⟩ a.1) a.2.2.1 ∧ Own h' a.2.2.2.1 (setr0 ⟨people, some ⟨b, 0, none⟩, kl, n, l, p, kc, c'⟩ a.1) a.2.2.2.2 ∧ MapB h' (h.n + 1) (fun _ => false) ∧
      (a.1 = 0 ∨ (a.2.2.1 ≠ a.2.2.2.2 ∧ h.n + 3 ≤ a.2.2.1 ∧ h.n + 3 ≤ a.2.2.2.2 ∧ a.2.2.1 < h'.n ∧ a.2.2.2.2 < h'.n))) (fun a => n - a.1) ?_ (0, (.slice none 0 0), 0, (.slice none 0 0), 0) ?_ ?_
  · rintro ⟨k, vN, bN, vS, bS⟩ h' ⟨hk, hx, hn1, g1, oN, oS, m, hd⟩ ih
    dsimp only at hk hx hn1 g1 oN oS m hd ih ⊢
    by_cases hlt : k < n
    · have hg' := hx.get hg
      have sN := oN.same
      have hwv : ∀ q, AX.within 20 (h'.push q).n vN = true := fun q => oN.within (Nat.le_succ _)
      (repeat' (first | apply zam | apply zac | (apply O_at; rfl) | (apply N_at; rfl) | (apply zaj; rfl) | apply zak | (apply za4; rfl) | (apply zbf; exact zay (by decide +kernel)) | apply zaq | apply zax | ((first | apply zaf | apply zad | apply zaN); rfl; rfl; rfl; rfl) | ((first | apply P_fa | apply M_fa); rfl; rfl; rfl; rfl; exact zaw rfl; (first | exact Nat.zero_add _ | exact Nat.add_zero _ | rfl)) | (apply zbo; rfl; rfl; rfl; rfl; rfl; omega) | (apply zbT; rfl; rfl; rfl; rfl; rfl; exact zas rfl; exact zai rfl; (first | assumption | rfl | exact (Int.toNat_of_nonneg (by omega)).symm); omega) | (apply zaz; rfl; rfl; rfl; rfl; exact zaT rfl; (focus repeat' first | exact zaa | assumption | apply zab | (apply Ext.get; assumption) | (apply ExtBut.get; assumption; (first | assumption | omega | (simp only [Heap.push]; omega)))); (first | exact Nat.le_of_ble_eq_true rfl | (simp; done) | (simp; omega) | (rw [zag]; omega)); (first | exact zbm (by omega) | rfl)) | (apply zaD; rfl; rfl; rfl; rfl; exact zai rfl; rfl; rfl; rfl) | (apply zbi; rfl; rfl; rfl; rfl; exact zai rfl; rfl; rfl) | (apply ziB; rfl; rfl; rfl; rfl; rfl; rfl; rfl; exact zdy rfl) | (((apply zbs; rfl; rfl; rfl; rfl; exact zar rfl; exact zaQ (by decide +kernel)); (focus repeat' first | exact zaa | assumption | apply zab | (apply Ext.get; assumption) | (apply ExtBut.get; assumption; (first | assumption | omega | (simp only [Heap.push]; omega)))); (first | rfl | assumption)); (first | assumption | exact zaI _ _ | rfl | (focus simp [same, same.all2]; done)); (first | rfl | assumption | exact hwv _ | (simp [within]; omega))) | (apply M_nil; rfl; rfl; rfl; rfl) | fail))
      apply appOwnM; rfl; rfl; rfl; rfl; rfl; rfl; rfl; rfl; exact zdy rfl; exact zas rfl; exact zaa; exact oN.ext (by (focus repeat' first | exact Ext.refl _ | assumption | apply Ext.push | (refine Ext.trans ?_ (by assumption)))); exact (by rw [zdT]; omega); rfl
      intro v2 h2 o2 k2
      have n2 : h2.n = h'.n + 3 := k2.n
      have nk : ∀ {c : Nat}, c < h.n + 3 → (sets0 ⟨people, some ⟨b, 0, none⟩, kl, n, l, p, kc, c'⟩ k = [] ∨ c ≠ bN) := fun hc => by
        rcases hd with rfl | hd
        · exact .inl rfl
        · exact .inr (by omega)
      have nS : sets0 ⟨people, some ⟨b, 0, none⟩, kl, n, l, p, kc, c'⟩ k = [] ∨ bS ≠ bN := by
        rcases hd with rfl | hd
        · exact .inl rfl
        · exact .inr (fun q => hd.1 q.symm)
      have old2 : ∀ {c y}, c < h.n + 3 → h'.get? c = some y → h2.get? c = some y := fun hc g => k2.get' _ _ (nk hc) (zab (zab g))
      have oS2 : Own h2 vS (setr0 ⟨people, some ⟨b, 0, none⟩, kl, n, l, p, kc, c'⟩ k) bS := (oS.ext (((Ext.refl h').push _).push _)).kept k2 nS
      have ln2 := k2.get' h'.n _ (by rcases hd with rfl | hd; exact .inl rfl; exact .inr (by omega)) (zab (zaa (h := h') (b := .cells (Value.agg #[.int .i64 (l.getD (k * 3) 0), .int .i64 (l.getD (k * 3 + 1) 0), .int .i64 (l.getD (k * 3 + 2) 0)]).cells.toList 92 true)))
      (repeat' (first | (apply N_at; rfl) | ((first | apply P_fa | apply M_fa); rfl; rfl; rfl; rfl; exact zaw rfl; (first | exact Nat.zero_add _ | exact Nat.add_zero _ | rfl)) | (apply M_nil; rfl; rfl; rfl; rfl) | fail))
      apply ziA (c' := [.int .i64 people, .slice (some ⟨b, 0, none⟩) n kl, .slice p c'.length kc, v2, vS, .map (some (h.n + 1))]); rfl; rfl; rfl; rfl; exact old2 (by omega) g1; exact zai rfl; (rw [o2.one.2]; rfl); exact Nat.le_of_ble_eq_true rfl; (rw [o2.one.2]; simp [o2.one.1]); (rw [o2.one.2]; rfl); rfl
      intro h3 g3 x3
      have n3 := x3.n
      have sS := oS.same
      have wS : AX.within 20 h3.n vS = true := oS2.within n3
      have ln3 := x3.get (show h'.n ≠ h1.n by omega) ln2
      (repeat' (first | (apply N_at; rfl) | apply zak | (apply zbf; exact zay (by decide +kernel)) | (apply zbH; rfl; refine .inr ?_; (focus repeat' first | exact trivial | apply And.intro | rfl | (refine (List.forall_mem_cons (p := fun hk => MapB hk _ _)).2 ?_) | exact List.forall_mem_nil _ | (apply MapB.ext; assumption; (focus repeat' first | exact Ext.refl _ | assumption | apply Ext.push | (refine Ext.trans ?_ (by assumption)))) | (apply MapB.but; assumption; assumption; omega))) | ((first | apply zaf | apply zad | apply zaN); rfl; rfl; rfl; rfl) | ((first | apply P_fa | apply M_fa); rfl; rfl; rfl; rfl; exact zaw rfl; (first | exact Nat.zero_add _ | exact Nat.add_zero _ | rfl)) | (apply ziB; rfl; rfl; rfl; rfl; rfl; rfl; rfl; exact zdy rfl) | (((apply zbs; rfl; rfl; rfl; rfl; exact zar rfl; exact zaQ (by decide +kernel)); (focus repeat' first | exact zaa | assumption | apply zab | (apply Ext.get; assumption) | (apply ExtBut.get; assumption; (first | assumption | omega | (simp only [Heap.push]; omega)))); (first | rfl | assumption)); (first | assumption | exact zaI _ _ | rfl | (focus simp [same, same.all2]; done)); (first | rfl | assumption | exact hwv _ | (simp [within]; omega))) | (apply M_nil; rfl; rfl; rfl; rfl) | fail))
      have oS3 : Own h3 vS (setr0 ⟨people, some ⟨b, 0, none⟩, kl, n, l, p, kc, c'⟩ k) bS := by
        rcases hd with rfl | hd
        · exact oS2.imp id fun q => absurd rfl q.1
        · exact oS2.but x3 (by omega)
      apply appOwnM; rfl; rfl; rfl; rfl; rfl; rfl; rfl; rfl; exact zdy rfl; exact zas rfl; exact zaa; exact oS3.ext (by (focus repeat' first | exact Ext.refl _ | assumption | apply Ext.push | (refine Ext.trans ?_ (by assumption)))); exact (by rw [zdU]; omega); rfl
      intro v4 h4 o4 k4
      have n4 : h4.n = h3.n + 1 + 1 := by have := k4.n; exact this
      have hS : ∀ {c : Nat}, c < h.n + 3 ∨ h'.n ≤ c → (setr0 ⟨people, some ⟨b, 0, none⟩, kl, n, l, p, kc, c'⟩ k = [] ∨ c ≠ bS) := fun hc => by
        rcases hd with rfl | hd
        · exact .inl rfl
        · exact .inr (by omega)
      have g4 := k4.get' _ _ (hS (c := h1.n) (.inl (by omega))) (zab g3)
      (repeat' (first | (apply N_at; rfl) | ((first | apply P_fa | apply M_fa); rfl; rfl; rfl; rfl; exact zaw rfl; (first | exact Nat.zero_add _ | exact Nat.add_zero _ | rfl)) | (apply M_nil; rfl; rfl; rfl; rfl) | fail))
      apply ziA (c' := [.int .i64 people, .slice (some ⟨b, 0, none⟩) n kl, .slice p c'.length kc, v2, v4, .map (some (h.n + 1))]); rfl; rfl; rfl; rfl; exact g4; exact zai rfl; (rw [o4.one.2]; rfl); exact Nat.le_of_ble_eq_true rfl; (rw [o4.one.2]; simp [o4.one.1]); (rw [o4.one.2]; rfl); rfl
      intro h5 g5 x5
      have n5 := x5.n
      (repeat' (first | apply zac | (apply O_at; rfl) | (apply zaj; rfl) | apply zak | (apply zbH; rfl; refine .inr ?_; (focus repeat' first | exact trivial | apply And.intro | rfl | (refine (List.forall_mem_cons (p := fun hk => MapB hk _ _)).2 ?_) | exact List.forall_mem_nil _ | (apply MapB.ext; assumption; (focus repeat' first | exact Ext.refl _ | assumption | apply Ext.push | (refine Ext.trans ?_ (by assumption)))) | (apply MapB.but; assumption; assumption; omega))) | apply zaB | ((first | apply zaf | apply zad | apply zaN); rfl; rfl; rfl; rfl) | (apply zbN; rfl; rfl; rfl; rfl; rfl; (unfold fit; omega)) | fail))
      have al : ∀ {c : Nat} {y : Blk}, c < h.n + 3 → c ≠ h1.n → h'.get? c = some y → h5.get? c = some y := fun hc hne g =>
        x5.get hne (k4.get' _ _ (hS (.inl hc)) (zab (x3.get hne (old2 hc g))))
      refine zaH (ih (k + 1, v2, h'.n + 2, v4, h3.n + 1) _ (by dsimp only; omega) ⟨hlt, ⟨?_, fun c y g => ?_⟩, by omega, g5, ?_, ?_, ?_, .inr ⟨by dsimp only; omega, by dsimp only; omega, by dsimp only; omega, by dsimp only; omega, by dsimp only; omega⟩⟩) (by (focus repeat' first | rfl | exact trivial | apply And.intro))
      · have := hx.n; omega
      · have := Heap.get_lt g
        exact al (by omega) (by omega) (hx.get g)
      · rw [ziS]
        have o2' : Own h2 v2 (sets0 ⟨people, some ⟨b, 0, none⟩, kl, n, l, p, kc, c'⟩ k ++ [sett ⟨people, some ⟨b, 0, none⟩, kl, n, l, p, kc, c'⟩ k]) (h'.n + 2) := o2
        have q3 : Own h3 v2 (sets0 ⟨people, some ⟨b, 0, none⟩, kl, n, l, p, kc, c'⟩ k ++ [sett ⟨people, some ⟨b, 0, none⟩, kl, n, l, p, kc, c'⟩ k]) (h'.n + 2) := o2'.but x3 (by omega)
        exact ((q3.ext ((Ext.refl h3).push _)).kept k4 (hS (.inr (by omega)))).but x5 (by omega)
      · rw [ziT]
        exact Own.but o4 x5 (by show h3.n + 1 ≠ h1.n; omega)
      · exact m.keep fun q g => al (by omega) (by omega) g
    · obtain rfl : k = n := by omega
      (repeat' (first | apply zam | apply zac | (apply O_at; rfl) | (apply zaj; rfl) | apply zak | (apply zaK; rfl) | apply zbj | apply zaA | apply zbk | apply zaZ | apply za0 | apply zau | ((first | apply zaf | apply zad | apply zaN); rfl; rfl; rfl; rfl) | (apply zbr; rfl; rfl; rfl; rfl; rfl; omega) | fail))
      rcases oN with ⟨_, q⟩ | ⟨_, rfl, oN⟩
      · have := congrArg List.length q; rw [zdT] at this; simp at this; omega
      rcases oS with ⟨_, q⟩ | ⟨_, rfl, oS⟩
      · have := congrArg List.length q; rw [zdU] at this; simp at this; omega
      rw [zdT] at g1
      rw [zdU] at g1
      refine ⟨.inr rfl, _, rfl, h1.n, bN, bS, h.n + 1, rfl, ⟨⟨fun _ => false, ⟨g1, oN, oS, m, by simp [numsL], by simp [setsL]⟩, fun _ _ _ => rfl⟩⟩, by omega, by omega, hx⟩
  · exact ⟨Nat.zero_le _, by (focus repeat' first | exact Ext.refl _ | assumption | apply Ext.push | (refine Ext.trans ?_ (by assumption))), by show h.n + 3 ≤ h1.n + 1; omega, by dsimp only; exact zaa, .inl ⟨rfl, rfl⟩, .inl ⟨rfl, rfl⟩, m1.ext (by (focus repeat' first | exact Ext.refl _ | assumption | apply Ext.push | (refine Ext.trans ?_ (by assumption)))), .inl rfl⟩
  · (focus repeat' first | rfl | exact trivial | apply And.intro)
end Go.AX.Sa
