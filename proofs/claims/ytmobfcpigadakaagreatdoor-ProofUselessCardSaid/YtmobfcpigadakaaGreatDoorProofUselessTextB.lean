/- The law ProofUseless at the reading: what the functions that it calls answer (2). -/
import Derived.Test.YtmobfcpigadakaaGreatDoorProofUselessTextA
import Derived.Test.YtmobfcpigadakaaGreatDoorAxY
namespace Go.AX.Sa
open Go.Proofs
set_option maxRecDepth 100000
variable {K : Known}
set_option maxHeartbeats 2000000 in
theorem zgM (hK : NoK K) {G : Pg} {c : Cop} {h : Heap} (hp : 2 ≤ G.people ∧ G.people ≤ 6) (hn : G.n ≤ 1000) (hbl : ∀ a, G.pl = some a → a.block < h.n) (hbg : ∀ a, G.pg = some a → a.block < h.n) (hc : RowIn c.r h) (hl : c.r.s.length ≤ 1000) :
    CallW Tryz.prog K 64 #[pgV G, enV c] h (IfB (EntP G.people G.n (ent c)) h) := by
  refine body (N := 88) Tryz.func64 rfl (hK _ _ _ rfl) rfl rfl ?_
  have hcb := hc.b
  have hp' := hp
  have hn' := hn
  obtain ⟨people, pl, kl, nl, l, pg, kg, cc⟩ := G
  obtain ⟨par, q, k, s⟩ := c
  dsimp only [pgV, enV, ent] at hp' hn' hbl hbg hcb hl hc ⊢
  obtain ⟨rd, _⟩ := hc
  dsimp only at rd
  have aA : ∀ {h' : Heap} {a b : Int}, CallW Tryz.prog K 108 #[.agg #[.int .i64 people, .slice pl nl kl, .slice pg cc.length kg], .int .i64 a, .int .i64 b] h' (IfB ((0 ≤ a ∧ a ≤ people - 1) ∧ (0 ≤ b ∧ b ≤ people - 1) ∧ a < b) h') := pair_ok (G := ⟨people, pl, kl, nl, l, pg, kg, cc⟩) hK hp
  have aP : ∀ {h' : Heap} {a : Int}, CallW Tryz.prog K 32 #[.agg #[.int .i64 people, .slice pl nl kl, .slice pg cc.length kg], .int .i64 a] h' (IfB (0 ≤ a ∧ a ≤ people - 1) h') := zdZ (G := ⟨people, pl, kl, nl, l, pg, kg, cc⟩) hK hp
  have aL : ∀ {h' : Heap} {a : Int}, CallW Tryz.prog K 25 #[.agg #[.int .i64 people, .slice pl nl kl, .slice pg cc.length kg], .int .i64 a] h' (IfB (0 ≤ a ∧ a ≤ (nl : Int) - 1) h') := ziC (G := ⟨people, pl, kl, nl, l, pg, kg, cc⟩) hK hn
  have aN : ∀ {h' : Heap} {a : Int}, CallW Tryz.prog K 63 #[.int .i64 a] h' (IfB (-999 ≤ a ∧ a ≤ 999) h') := zfV hK
  clear hp hn
  by_cases h1 : par = 1
  · subst h1
    by_cases h4 : s.length = 4
    · obtain ⟨b, e, own, rfl, hg⟩ := rd.at (by rw [zaf]; omega)
      clear rd
      rw [h4] at hl ⊢
      (repeat' (first | apply zat | apply zac | (apply O_at; rfl) | (apply N_at; rfl) | (apply zas; rfl) | apply zau | (apply zaG; rfl) | (apply zaF; rfl) | (apply za7; exact zaA (by decide +kernel)) | apply zao | apply zax | (apply zaQ; rfl; exact (.inl (Nat.le_refl 1))) | (apply zaQ; rfl; refine .inr ?_; (focus repeat' first | exact trivial | exact Keeps.nil _ _ | apply And.intro | rfl | (apply Keeps.cons; iterate 2 (focus repeat' first | exact zaa | assumption | apply zab | (apply Ext.get; assumption))))) | apply zaM | apply zav | ((first | apply zad | apply zbt | apply zbq); rfl; rfl; rfl; rfl) | ((first | apply P_fa | apply M_fa); rfl; rfl; rfl; rfl; exact zaL rfl; (first | exact Nat.zero_add _ | exact Nat.add_zero _ | rfl)) | (apply zbM; rfl; rfl; rfl; rfl; rfl; omega) | (apply zbE; rfl; rfl; rfl; rfl; rfl; omega) | (apply zak; rfl; rfl; rfl; rfl; exact zaq rfl; (focus repeat' first | exact zaa | assumption | apply zab | (apply Ext.get; assumption)); (first | exact zan (by omega) | rfl | assumption)) | (apply zaK; rfl; rfl; rfl; rfl; exact zae rfl; rfl; rfl) | (apply zbI; rfl; rfl; rfl; rfl) | (apply zbG; rfl; rfl; rfl; rfl) | (apply zhw; rfl; rfl; rfl; rfl; rfl; rfl; exact zai rfl) | (apply zbJ; rfl; rfl; rfl; rfl; rfl; rfl) | (apply zdd; rfl; rfl; rfl; rfl; rfl; omega) | (apply zdc; rfl; rfl; rfl; rfl; rfl; omega) | (apply zdC; rfl; rfl; rfl; rfl; rfl; all_goals intro _) | (apply zbD; rfl; rfl; rfl; rfl; rfl; exact zai rfl; exact zae rfl; (first | assumption | exact zq0 | exact zq1 | exact zq2 | exact zq3 | rfl | exact (Int.toNat_of_nonneg (by omega)).symm); omega) | ((first | ((apply za6; rfl; rfl; rfl; rfl; exact zaq rfl); (focus repeat' first | exact zaa | assumption | apply zab | (apply Ext.get; assumption)); (first | exact zan (by omega) | rfl | assumption)) | ((apply zbb; rfl; rfl; rfl; rfl; exact zaB rfl); (focus repeat' first | exact zaa | assumption | apply zab | (apply Ext.get; assumption)); (first | exact Nat.le_of_ble_eq_true rfl | (simp; done) | (simp; omega) | (rw [zaf]; omega)); rfl)); (first | assumption | exact zaC _ _ | exact zba _ _ _ _ _ _ _ | rfl | (focus simp [same, same.all2]; done)); (first | rfl | assumption | exact hwv _ | exact zaH (by assumption) (by assumption) (by (focus repeat' first | exact Ext.refl _ | assumption | apply Ext.push | (refine Ext.trans ?_ (by assumption)))) | (simp [within]; omega))) | (apply zbc; rfl; rfl; rfl; rfl; rfl; rfl; rfl; exact aA; (rintro _ _ (⟨rfl, _, _⟩ | ⟨rfl, _, _⟩))) | (apply zbc; rfl; rfl; rfl; rfl; rfl; rfl; rfl; exact aL; (rintro _ _ (⟨rfl, _, _⟩ | ⟨rfl, _, _⟩))) | fail))
      all_goals (refine ⟨.inr rfl, _, rfl, ?_⟩; first | exact .inl ⟨rfl, ent1.2 (by omega), by (focus repeat' first | exact Ext.refl _ | assumption | apply Ext.push | (refine Ext.trans ?_ (by assumption)))⟩ | exact .inr ⟨rfl, fun z => by have := ent1.1 z; omega, by (focus repeat' first | exact Ext.refl _ | assumption | apply Ext.push | (refine Ext.trans ?_ (by assumption)))⟩)
    · (repeat' (first | apply zat | apply zac | (apply O_at; rfl) | (apply N_at; rfl) | (apply zas; rfl) | apply zau | (apply zaG; rfl) | (apply zaF; rfl) | (apply za7; exact zaA (by decide +kernel)) | apply zao | apply zax | (apply zaQ; rfl; exact (.inl (Nat.le_refl 1))) | (apply zaQ; rfl; refine .inr ?_; (focus repeat' first | exact trivial | exact Keeps.nil _ _ | apply And.intro | rfl | (apply Keeps.cons; iterate 2 (focus repeat' first | exact zaa | assumption | apply zab | (apply Ext.get; assumption))))) | apply zaM | apply zav | ((first | apply zad | apply zbt | apply zbq); rfl; rfl; rfl; rfl) | ((first | apply P_fa | apply M_fa); rfl; rfl; rfl; rfl; exact zaL rfl; (first | exact Nat.zero_add _ | exact Nat.add_zero _ | rfl)) | (apply zbM; rfl; rfl; rfl; rfl; rfl; omega) | (apply zbE; rfl; rfl; rfl; rfl; rfl; omega) | (apply zak; rfl; rfl; rfl; rfl; exact zaq rfl; (focus repeat' first | exact zaa | assumption | apply zab | (apply Ext.get; assumption)); (first | exact zan (by omega) | rfl | assumption)) | (apply zaK; rfl; rfl; rfl; rfl; exact zae rfl; rfl; rfl) | (apply zbI; rfl; rfl; rfl; rfl) | (apply zbG; rfl; rfl; rfl; rfl) | (apply zhw; rfl; rfl; rfl; rfl; rfl; rfl; exact zai rfl) | (apply zbJ; rfl; rfl; rfl; rfl; rfl; rfl) | (apply zdd; rfl; rfl; rfl; rfl; rfl; omega) | (apply zdc; rfl; rfl; rfl; rfl; rfl; omega) | (apply zdC; rfl; rfl; rfl; rfl; rfl; all_goals intro _) | (apply zbD; rfl; rfl; rfl; rfl; rfl; exact zai rfl; exact zae rfl; (first | assumption | exact zq0 | exact zq1 | exact zq2 | exact zq3 | rfl | exact (Int.toNat_of_nonneg (by omega)).symm); omega) | ((first | ((apply za6; rfl; rfl; rfl; rfl; exact zaq rfl); (focus repeat' first | exact zaa | assumption | apply zab | (apply Ext.get; assumption)); (first | exact zan (by omega) | rfl | assumption)) | ((apply zbb; rfl; rfl; rfl; rfl; exact zaB rfl); (focus repeat' first | exact zaa | assumption | apply zab | (apply Ext.get; assumption)); (first | exact Nat.le_of_ble_eq_true rfl | (simp; done) | (simp; omega) | (rw [zaf]; omega)); rfl)); (first | assumption | exact zaC _ _ | exact zba _ _ _ _ _ _ _ | rfl | (focus simp [same, same.all2]; done)); (first | rfl | assumption | exact hwv _ | exact zaH (by assumption) (by assumption) (by (focus repeat' first | exact Ext.refl _ | assumption | apply Ext.push | (refine Ext.trans ?_ (by assumption)))) | (simp [within]; omega))) | fail))
      all_goals (refine ⟨.inr rfl, _, rfl, ?_⟩; first | exact .inr ⟨rfl, fun z => by have := ent1.1 z; omega, by (focus repeat' first | exact Ext.refl _ | assumption | apply Ext.push | (refine Ext.trans ?_ (by assumption)))⟩)
  by_cases h2 : par = 2
  · subst h2
    by_cases h4 : s.length = 3
    · obtain ⟨b, e, own, rfl, hg⟩ := rd.at (by rw [zaf]; omega)
      clear rd
      rw [h4] at hl ⊢
      (repeat' (first | apply zat | apply zac | (apply O_at; rfl) | (apply N_at; rfl) | (apply zas; rfl) | apply zau | (apply zaG; rfl) | (apply zaF; rfl) | (apply za7; exact zaA (by decide +kernel)) | apply zao | apply zax | (apply zaQ; rfl; exact (.inl (Nat.le_refl 1))) | (apply zaQ; rfl; refine .inr ?_; (focus repeat' first | exact trivial | exact Keeps.nil _ _ | apply And.intro | rfl | (apply Keeps.cons; iterate 2 (focus repeat' first | exact zaa | assumption | apply zab | (apply Ext.get; assumption))))) | apply zaM | apply zav | ((first | apply zad | apply zbt | apply zbq); rfl; rfl; rfl; rfl) | ((first | apply P_fa | apply M_fa); rfl; rfl; rfl; rfl; exact zaL rfl; (first | exact Nat.zero_add _ | exact Nat.add_zero _ | rfl)) | (apply zbM; rfl; rfl; rfl; rfl; rfl; omega) | (apply zbE; rfl; rfl; rfl; rfl; rfl; omega) | (apply zak; rfl; rfl; rfl; rfl; exact zaq rfl; (focus repeat' first | exact zaa | assumption | apply zab | (apply Ext.get; assumption)); (first | exact zan (by omega) | rfl | assumption)) | (apply zaK; rfl; rfl; rfl; rfl; exact zae rfl; rfl; rfl) | (apply zbI; rfl; rfl; rfl; rfl) | (apply zbG; rfl; rfl; rfl; rfl) | (apply zhw; rfl; rfl; rfl; rfl; rfl; rfl; exact zai rfl) | (apply zbJ; rfl; rfl; rfl; rfl; rfl; rfl) | (apply zdd; rfl; rfl; rfl; rfl; rfl; omega) | (apply zdc; rfl; rfl; rfl; rfl; rfl; omega) | (apply zdC; rfl; rfl; rfl; rfl; rfl; all_goals intro _) | (apply zbD; rfl; rfl; rfl; rfl; rfl; exact zai rfl; exact zae rfl; (first | assumption | exact zq0 | exact zq1 | exact zq2 | exact zq3 | rfl | exact (Int.toNat_of_nonneg (by omega)).symm); omega) | ((first | ((apply za6; rfl; rfl; rfl; rfl; exact zaq rfl); (focus repeat' first | exact zaa | assumption | apply zab | (apply Ext.get; assumption)); (first | exact zan (by omega) | rfl | assumption)) | ((apply zbb; rfl; rfl; rfl; rfl; exact zaB rfl); (focus repeat' first | exact zaa | assumption | apply zab | (apply Ext.get; assumption)); (first | exact Nat.le_of_ble_eq_true rfl | (simp; done) | (simp; omega) | (rw [zaf]; omega)); rfl)); (first | assumption | exact zaC _ _ | exact zba _ _ _ _ _ _ _ | rfl | (focus simp [same, same.all2]; done)); (first | rfl | assumption | exact hwv _ | exact zaH (by assumption) (by assumption) (by (focus repeat' first | exact Ext.refl _ | assumption | apply Ext.push | (refine Ext.trans ?_ (by assumption)))) | (simp [within]; omega))) | (apply zbc; rfl; rfl; rfl; rfl; rfl; rfl; rfl; exact aP; (rintro _ _ (⟨rfl, _, _⟩ | ⟨rfl, _, _⟩))) | (apply zbc; rfl; rfl; rfl; rfl; rfl; rfl; rfl; exact aL; (rintro _ _ (⟨rfl, _, _⟩ | ⟨rfl, _, _⟩))) | (apply zbc; rfl; rfl; rfl; rfl; rfl; rfl; rfl; exact aN; (rintro _ _ (⟨rfl, _, _⟩ | ⟨rfl, _, _⟩))) | fail))
      all_goals (refine ⟨.inr rfl, _, rfl, ?_⟩; first | exact .inl ⟨rfl, ent2.2 (by omega), by (focus repeat' first | exact Ext.refl _ | assumption | apply Ext.push | (refine Ext.trans ?_ (by assumption)))⟩ | exact .inr ⟨rfl, fun z => by have := ent2.1 z; omega, by (focus repeat' first | exact Ext.refl _ | assumption | apply Ext.push | (refine Ext.trans ?_ (by assumption)))⟩)
    · (repeat' (first | apply zat | apply zac | (apply O_at; rfl) | (apply N_at; rfl) | (apply zas; rfl) | apply zau | (apply zaG; rfl) | (apply zaF; rfl) | (apply za7; exact zaA (by decide +kernel)) | apply zao | apply zax | (apply zaQ; rfl; exact (.inl (Nat.le_refl 1))) | (apply zaQ; rfl; refine .inr ?_; (focus repeat' first | exact trivial | exact Keeps.nil _ _ | apply And.intro | rfl | (apply Keeps.cons; iterate 2 (focus repeat' first | exact zaa | assumption | apply zab | (apply Ext.get; assumption))))) | apply zaM | apply zav | ((first | apply zad | apply zbt | apply zbq); rfl; rfl; rfl; rfl) | ((first | apply P_fa | apply M_fa); rfl; rfl; rfl; rfl; exact zaL rfl; (first | exact Nat.zero_add _ | exact Nat.add_zero _ | rfl)) | (apply zbM; rfl; rfl; rfl; rfl; rfl; omega) | (apply zbE; rfl; rfl; rfl; rfl; rfl; omega) | (apply zak; rfl; rfl; rfl; rfl; exact zaq rfl; (focus repeat' first | exact zaa | assumption | apply zab | (apply Ext.get; assumption)); (first | exact zan (by omega) | rfl | assumption)) | (apply zaK; rfl; rfl; rfl; rfl; exact zae rfl; rfl; rfl) | (apply zbI; rfl; rfl; rfl; rfl) | (apply zbG; rfl; rfl; rfl; rfl) | (apply zhw; rfl; rfl; rfl; rfl; rfl; rfl; exact zai rfl) | (apply zbJ; rfl; rfl; rfl; rfl; rfl; rfl) | (apply zdd; rfl; rfl; rfl; rfl; rfl; omega) | (apply zdc; rfl; rfl; rfl; rfl; rfl; omega) | (apply zdC; rfl; rfl; rfl; rfl; rfl; all_goals intro _) | (apply zbD; rfl; rfl; rfl; rfl; rfl; exact zai rfl; exact zae rfl; (first | assumption | exact zq0 | exact zq1 | exact zq2 | exact zq3 | rfl | exact (Int.toNat_of_nonneg (by omega)).symm); omega) | ((first | ((apply za6; rfl; rfl; rfl; rfl; exact zaq rfl); (focus repeat' first | exact zaa | assumption | apply zab | (apply Ext.get; assumption)); (first | exact zan (by omega) | rfl | assumption)) | ((apply zbb; rfl; rfl; rfl; rfl; exact zaB rfl); (focus repeat' first | exact zaa | assumption | apply zab | (apply Ext.get; assumption)); (first | exact Nat.le_of_ble_eq_true rfl | (simp; done) | (simp; omega) | (rw [zaf]; omega)); rfl)); (first | assumption | exact zaC _ _ | exact zba _ _ _ _ _ _ _ | rfl | (focus simp [same, same.all2]; done)); (first | rfl | assumption | exact hwv _ | exact zaH (by assumption) (by assumption) (by (focus repeat' first | exact Ext.refl _ | assumption | apply Ext.push | (refine Ext.trans ?_ (by assumption)))) | (simp [within]; omega))) | fail))
      all_goals (refine ⟨.inr rfl, _, rfl, ?_⟩; first | exact .inr ⟨rfl, fun z => by have := ent2.1 z; omega, by (focus repeat' first | exact Ext.refl _ | assumption | apply Ext.push | (refine Ext.trans ?_ (by assumption)))⟩)
  by_cases h3 : par = 3
  · subst h3
    by_cases h4 : s.length = 1
    · obtain ⟨b, e, own, rfl, hg⟩ := rd.at (by rw [zaf]; omega)
      clear rd
      rw [h4] at hl ⊢
      (repeat' (first | apply zat | apply zac | (apply O_at; rfl) | (apply N_at; rfl) | (apply zas; rfl) | apply zau | (apply zaG; rfl) | (apply zaF; rfl) | (apply za7; exact zaA (by decide +kernel)) | apply zao | apply zax | (apply zaQ; rfl; exact (.inl (Nat.le_refl 1))) | (apply zaQ; rfl; refine .inr ?_; (focus repeat' first | exact trivial | exact Keeps.nil _ _ | apply And.intro | rfl | (apply Keeps.cons; iterate 2 (focus repeat' first | exact zaa | assumption | apply zab | (apply Ext.get; assumption))))) | apply zaM | apply zav | ((first | apply zad | apply zbt | apply zbq); rfl; rfl; rfl; rfl) | ((first | apply P_fa | apply M_fa); rfl; rfl; rfl; rfl; exact zaL rfl; (first | exact Nat.zero_add _ | exact Nat.add_zero _ | rfl)) | (apply zbM; rfl; rfl; rfl; rfl; rfl; omega) | (apply zbE; rfl; rfl; rfl; rfl; rfl; omega) | (apply zak; rfl; rfl; rfl; rfl; exact zaq rfl; (focus repeat' first | exact zaa | assumption | apply zab | (apply Ext.get; assumption)); (first | exact zan (by omega) | rfl | assumption)) | (apply zaK; rfl; rfl; rfl; rfl; exact zae rfl; rfl; rfl) | (apply zbI; rfl; rfl; rfl; rfl) | (apply zbG; rfl; rfl; rfl; rfl) | (apply zhw; rfl; rfl; rfl; rfl; rfl; rfl; exact zai rfl) | (apply zbJ; rfl; rfl; rfl; rfl; rfl; rfl) | (apply zdd; rfl; rfl; rfl; rfl; rfl; omega) | (apply zdc; rfl; rfl; rfl; rfl; rfl; omega) | (apply zdC; rfl; rfl; rfl; rfl; rfl; all_goals intro _) | (apply zbD; rfl; rfl; rfl; rfl; rfl; exact zai rfl; exact zae rfl; (first | assumption | exact zq0 | exact zq1 | exact zq2 | exact zq3 | rfl | exact (Int.toNat_of_nonneg (by omega)).symm); omega) | ((first | ((apply za6; rfl; rfl; rfl; rfl; exact zaq rfl); (focus repeat' first | exact zaa | assumption | apply zab | (apply Ext.get; assumption)); (first | exact zan (by omega) | rfl | assumption)) | ((apply zbb; rfl; rfl; rfl; rfl; exact zaB rfl); (focus repeat' first | exact zaa | assumption | apply zab | (apply Ext.get; assumption)); (first | exact Nat.le_of_ble_eq_true rfl | (simp; done) | (simp; omega) | (rw [zaf]; omega)); rfl)); (first | assumption | exact zaC _ _ | exact zba _ _ _ _ _ _ _ | rfl | (focus simp [same, same.all2]; done)); (first | rfl | assumption | exact hwv _ | exact zaH (by assumption) (by assumption) (by (focus repeat' first | exact Ext.refl _ | assumption | apply Ext.push | (refine Ext.trans ?_ (by assumption)))) | (simp [within]; omega))) | (apply zbc; rfl; rfl; rfl; rfl; rfl; rfl; rfl; exact aL; (rintro _ _ (⟨rfl, _, _⟩ | ⟨rfl, _, _⟩))) | fail))
      all_goals (refine ⟨.inr rfl, _, rfl, ?_⟩; first | exact .inl ⟨rfl, ent3.2 (by omega), by (focus repeat' first | exact Ext.refl _ | assumption | apply Ext.push | (refine Ext.trans ?_ (by assumption)))⟩ | exact .inr ⟨rfl, fun z => by have := ent3.1 z; omega, by (focus repeat' first | exact Ext.refl _ | assumption | apply Ext.push | (refine Ext.trans ?_ (by assumption)))⟩)
    · (repeat' (first | apply zat | apply zac | (apply O_at; rfl) | (apply N_at; rfl) | (apply zas; rfl) | apply zau | (apply zaG; rfl) | (apply zaF; rfl) | (apply za7; exact zaA (by decide +kernel)) | apply zao | apply zax | (apply zaQ; rfl; exact (.inl (Nat.le_refl 1))) | (apply zaQ; rfl; refine .inr ?_; (focus repeat' first | exact trivial | exact Keeps.nil _ _ | apply And.intro | rfl | (apply Keeps.cons; iterate 2 (focus repeat' first | exact zaa | assumption | apply zab | (apply Ext.get; assumption))))) | apply zaM | apply zav | ((first | apply zad | apply zbt | apply zbq); rfl; rfl; rfl; rfl) | ((first | apply P_fa | apply M_fa); rfl; rfl; rfl; rfl; exact zaL rfl; (first | exact Nat.zero_add _ | exact Nat.add_zero _ | rfl)) | (apply zbM; rfl; rfl; rfl; rfl; rfl; omega) | (apply zbE; rfl; rfl; rfl; rfl; rfl; omega) | (apply zak; rfl; rfl; rfl; rfl; exact zaq rfl; (focus repeat' first | exact zaa | assumption | apply zab | (apply Ext.get; assumption)); (first | exact zan (by omega) | rfl | assumption)) | (apply zaK; rfl; rfl; rfl; rfl; exact zae rfl; rfl; rfl) | (apply zbI; rfl; rfl; rfl; rfl) | (apply zbG; rfl; rfl; rfl; rfl) | (apply zhw; rfl; rfl; rfl; rfl; rfl; rfl; exact zai rfl) | (apply zbJ; rfl; rfl; rfl; rfl; rfl; rfl) | (apply zdd; rfl; rfl; rfl; rfl; rfl; omega) | (apply zdc; rfl; rfl; rfl; rfl; rfl; omega) | (apply zdC; rfl; rfl; rfl; rfl; rfl; all_goals intro _) | (apply zbD; rfl; rfl; rfl; rfl; rfl; exact zai rfl; exact zae rfl; (first | assumption | exact zq0 | exact zq1 | exact zq2 | exact zq3 | rfl | exact (Int.toNat_of_nonneg (by omega)).symm); omega) | ((first | ((apply za6; rfl; rfl; rfl; rfl; exact zaq rfl); (focus repeat' first | exact zaa | assumption | apply zab | (apply Ext.get; assumption)); (first | exact zan (by omega) | rfl | assumption)) | ((apply zbb; rfl; rfl; rfl; rfl; exact zaB rfl); (focus repeat' first | exact zaa | assumption | apply zab | (apply Ext.get; assumption)); (first | exact Nat.le_of_ble_eq_true rfl | (simp; done) | (simp; omega) | (rw [zaf]; omega)); rfl)); (first | assumption | exact zaC _ _ | exact zba _ _ _ _ _ _ _ | rfl | (focus simp [same, same.all2]; done)); (first | rfl | assumption | exact hwv _ | exact zaH (by assumption) (by assumption) (by (focus repeat' first | exact Ext.refl _ | assumption | apply Ext.push | (refine Ext.trans ?_ (by assumption)))) | (simp [within]; omega))) | fail))
      all_goals (refine ⟨.inr rfl, _, rfl, ?_⟩; first | exact .inr ⟨rfl, fun z => by have := ent3.1 z; omega, by (focus repeat' first | exact Ext.refl _ | assumption | apply Ext.push | (refine Ext.trans ?_ (by assumption)))⟩)
  · (repeat' (first | apply zat | apply zac | (apply O_at; rfl) | (apply N_at; rfl) | (apply zas; rfl) | apply zau | (apply zaG; rfl) | (apply zaF; rfl) | (apply za7; exact zaA (by decide +kernel)) | apply zao | apply zax | (apply zaQ; rfl; exact (.inl (Nat.le_refl 1))) | (apply zaQ; rfl; refine .inr ?_; (focus repeat' first | exact trivial | exact Keeps.nil _ _ | apply And.intro | rfl | (apply Keeps.cons; iterate 2 (focus repeat' first | exact zaa | assumption | apply zab | (apply Ext.get; assumption))))) | apply zaM | apply zav | ((first | apply zad | apply zbt | apply zbq); rfl; rfl; rfl; rfl) | ((first | apply P_fa | apply M_fa); rfl; rfl; rfl; rfl; exact zaL rfl; (first | exact Nat.zero_add _ | exact Nat.add_zero _ | rfl)) | (apply zbM; rfl; rfl; rfl; rfl; rfl; omega) | (apply zbE; rfl; rfl; rfl; rfl; rfl; omega) | (apply zak; rfl; rfl; rfl; rfl; exact zaq rfl; (focus repeat' first | exact zaa | assumption | apply zab | (apply Ext.get; assumption)); (first | exact zan (by omega) | rfl | assumption)) | (apply zaK; rfl; rfl; rfl; rfl; exact zae rfl; rfl; rfl) | (apply zbI; rfl; rfl; rfl; rfl) | (apply zbG; rfl; rfl; rfl; rfl) | (apply zhw; rfl; rfl; rfl; rfl; rfl; rfl; exact zai rfl) | (apply zbJ; rfl; rfl; rfl; rfl; rfl; rfl) | (apply zdd; rfl; rfl; rfl; rfl; rfl; omega) | (apply zdc; rfl; rfl; rfl; rfl; rfl; omega) | (apply zdC; rfl; rfl; rfl; rfl; rfl; all_goals intro _) | (apply zbD; rfl; rfl; rfl; rfl; rfl; exact zai rfl; exact zae rfl; (first | assumption | exact zq0 | exact zq1 | exact zq2 | exact zq3 | rfl | exact (Int.toNat_of_nonneg (by omega)).symm); omega) | ((first | ((apply za6; rfl; rfl; rfl; rfl; exact zaq rfl); (focus repeat' first | exact zaa | assumption | apply zab | (apply Ext.get; assumption)); (first | exact zan (by omega) | rfl | assumption)) | ((apply zbb; rfl; rfl; rfl; rfl; exact zaB rfl); (focus repeat' first | exact zaa | assumption | apply zab | (apply Ext.get; assumption)); (first | exact Nat.le_of_ble_eq_true rfl | (simp; done) | (simp; omega) | (rw [zaf]; omega)); rfl)); (first | assumption | exact zaC _ _ | exact zba _ _ _ _ _ _ _ | rfl | (focus simp [same, same.all2]; done)); (first | rfl | assumption | exact hwv _ | exact zaH (by assumption) (by assumption) (by (focus repeat' first | exact Ext.refl _ | assumption | apply Ext.push | (refine Ext.trans ?_ (by assumption)))) | (simp [within]; omega))) | fail))
    exact ⟨.inr rfl, _, rfl, .inr ⟨rfl, fun z => by have := ent0 z; dsimp only at this; omega, by (focus repeat' first | exact Ext.refl _ | assumption | apply Ext.push | (refine Ext.trans ?_ (by assumption)))⟩⟩
set_option maxHeartbeats 1000000 in
theorem zeG (hK : NoK K) {G : Pg} {h : Heap} (hT : PgAt G h) (hs : ShortP G) : CallW Tryz.prog K 20 #[pgV G] h (IfB (PgP G) h) := by
  have hT' := hT
  obtain ⟨people, pl, kl, nl, l, p, kc, c⟩ := G
  obtain ⟨len, rl, rc, each, hbl, hpb⟩ := hT
  obtain ⟨s1, s2, s3⟩ := hs
  dsimp only [pgV] at len rl rc each hbl hpb s1 s2 s3 ⊢
  refine body (N := 73) Tryz.func20 rfl (hK _ _ _ rfl) rfl rfl ?_
  by_cases h1 : (2 ≤ people ∧ people ≤ 6) ∧ (1 ≤ (nl : Int) ∧ (nl : Int) ≤ 6) ∧ c.length ≤ 10
  · (repeat' (first | apply zat | apply zac | (apply O_at; rfl) | (apply N_at; rfl) | (apply zas; rfl) | apply zau | (apply zaG; rfl) | (apply zaF; rfl) | (apply za7; exact zaA (by decide +kernel)) | apply zal | apply zao | apply zaz | apply zax | (apply zaQ; rfl; exact (.inl (Nat.le_refl 1))) | (apply zaQ; rfl; refine .inr ?_; (focus repeat' first | exact trivial | exact Keeps.nil _ _ | apply And.intro | rfl | (apply Keeps.cons; iterate 2 (focus repeat' first | exact zaa | assumption | apply zab | (apply Ext.get; assumption))))) | apply zaM | apply zbd | apply zaW | apply zaU | apply zaD | apply zaE | apply zag | apply zav | (apply za5; rfl; rfl; rfl) | ((first | apply zam | apply zad | apply zbh | apply zbt | apply zcO); rfl; rfl; rfl; rfl) | ((first | apply P_fa | apply M_fa); rfl; rfl; rfl; rfl; exact zaL rfl; (first | exact Nat.zero_add _ | exact Nat.add_zero _ | rfl)) | (apply zaS; rfl; rfl; rfl; rfl; rfl; rfl; exact zai rfl) | ((first | apply za0 | apply zbJ); rfl; rfl; rfl; rfl; rfl; rfl) | (apply zaJ; rfl; rfl; rfl; rfl; rfl; omega) | (apply zaI; rfl; rfl; rfl; rfl; rfl; omega) | (apply zcH; rfl; rfl; rfl; rfl; rfl; omega) | (apply zcy; rfl; rfl; rfl; rfl; rfl; all_goals intro _) | (apply zaT; rfl; rfl; rfl; rfl; rfl; (unfold fit; omega)) | (apply zak; rfl; rfl; rfl; rfl; exact zaq rfl; (focus repeat' first | exact zaa | assumption | apply zab | (apply Ext.get; assumption)); (first | exact zan (by omega) | rfl | assumption)) | (apply zaK; rfl; rfl; rfl; rfl; exact zae rfl; rfl; rfl) | (apply zbI; rfl; rfl; rfl; rfl) | (apply zbG; rfl; rfl; rfl; rfl) | (apply zeQ; rfl; rfl; rfl; rfl; rfl; exact zai rfl; exact zae rfl; (first | assumption | rfl | exact (Int.toNat_of_nonneg (by omega)).symm); omega) | ((first | ((first | (apply zbw; rfl; rfl; rfl; rfl; exact zaq rfl; exact za3 (by decide +kernel)) | (apply za6; rfl; rfl; rfl; rfl; exact zaq rfl)); (focus repeat' first | exact zaa | assumption | apply zab | (apply Ext.get; assumption)); (first | exact zan (by omega) | rfl | assumption)) | ((first | (apply zdb; rfl; rfl; rfl; rfl; exact zaB rfl; exact za3 (by decide +kernel)) | (apply zbb; rfl; rfl; rfl; rfl; exact zaB rfl)); (focus repeat' first | exact zaa | assumption | apply zab | (apply Ext.get; assumption)); (first | exact Nat.le_of_ble_eq_true rfl | (rw [zaj]; omega) | (simp; done) | (simp; omega) | (rw [zaf]; omega)); (first | exact zah (by omega) | rfl))); (first | assumption | exact zaC _ _ | exact zbs _ _ _ | exact zdf _ _ _ _ | exact zba _ _ _ _ _ _ _ | rfl | (focus simp [same, same.all2]; done)); (first | rfl | assumption | exact hwv _ | (focus apply zbr; (focus repeat' first | exact zaa | assumption | apply zab | (apply Ext.get; assumption)); done) | exact zbZ (by assumption) (by (focus repeat' first | exact Ext.refl _ | assumption | apply Ext.push | (refine Ext.trans ?_ (by assumption)))) | exact zaH (by assumption) (by assumption) (by (focus repeat' first | exact Ext.refl _ | assumption | apply Ext.push | (refine Ext.trans ?_ (by assumption)))) | (simp [within]; omega))) | ((first | (apply zaO; rfl; rfl; rfl; rfl; rfl; rfl) | (apply zbc; rfl; rfl; rfl; rfl; rfl; rfl; rfl)); exact yes (ziM hK) h1.1; (rintro _ _ ⟨rfl, _⟩)) | ((first | (apply zaO; rfl; rfl; rfl; rfl; rfl; rfl) | (apply zbc; rfl; rfl; rfl; rfl; rfl; rfl; rfl)); exact yes (ziM hK) h1.2.1; (rintro _ _ ⟨rfl, _⟩)) | fail))
    refine zbX (fun k : Nat => [(3, .int .i64 (k : Nat)), (1, .pointer (some ⟨h.n, 0, none⟩))])
      (fun k h' => k ≤ nl ∧ Ext (h.push (.cells [.int .i64 people, .slice pl nl kl, .slice p c.length kc] 25 true)) h' ∧ ∀ j, j < k → LineP ⟨people, pl, kl, nl, l, p, kc, c⟩ j) (fun k => nl - k) ?_ 0 ?_ ?_
    · intro k h' ⟨hk, hx, hj⟩ ih
      have hg3 := hx.get zaa
      by_cases hlt : k < nl
      · obtain ⟨b, e, own', rfl, hg⟩ := rl.at (by rw [zaf]; omega)
        have hg' := hx.get (zab hg)
        (repeat' (first | apply zat | apply zac | (apply O_at; rfl) | (apply N_at; rfl) | (apply zas; rfl) | apply zau | (apply zaG; rfl) | (apply zaF; rfl) | (apply za7; exact zaA (by decide +kernel)) | apply zal | apply zao | apply zaz | apply zax | (apply zaQ; rfl; exact (.inl (Nat.le_refl 1))) | (apply zaQ; rfl; refine .inr ?_; (focus repeat' first | exact trivial | exact Keeps.nil _ _ | apply And.intro | rfl | (apply Keeps.cons; iterate 2 (focus repeat' first | exact zaa | assumption | apply zab | (apply Ext.get; assumption))))) | apply zaM | apply zbd | apply zaW | apply zaU | apply zaD | apply zaE | apply zag | apply zav | (apply za5; rfl; rfl; rfl) | ((first | apply zam | apply zad | apply zbh | apply zbt | apply zcO); rfl; rfl; rfl; rfl) | ((first | apply P_fa | apply M_fa); rfl; rfl; rfl; rfl; exact zaL rfl; (first | exact Nat.zero_add _ | exact Nat.add_zero _ | rfl)) | (apply zaS; rfl; rfl; rfl; rfl; rfl; rfl; exact zai rfl) | ((first | apply za0 | apply zbJ); rfl; rfl; rfl; rfl; rfl; rfl) | (apply zaJ; rfl; rfl; rfl; rfl; rfl; omega) | (apply zaI; rfl; rfl; rfl; rfl; rfl; omega) | (apply zcH; rfl; rfl; rfl; rfl; rfl; omega) | (apply zcy; rfl; rfl; rfl; rfl; rfl; all_goals intro _) | (apply zaT; rfl; rfl; rfl; rfl; rfl; (unfold fit; omega)) | (apply zak; rfl; rfl; rfl; rfl; exact zaq rfl; (focus repeat' first | exact zaa | assumption | apply zab | (apply Ext.get; assumption)); (first | exact zan (by omega) | rfl | assumption)) | (apply zaK; rfl; rfl; rfl; rfl; exact zae rfl; rfl; rfl) | (apply zbI; rfl; rfl; rfl; rfl) | (apply zbG; rfl; rfl; rfl; rfl) | (apply zeQ; rfl; rfl; rfl; rfl; rfl; exact zai rfl; exact zae rfl; (first | assumption | rfl | exact (Int.toNat_of_nonneg (by omega)).symm); omega) | ((first | ((apply za6; rfl; rfl; rfl; rfl; exact zaq rfl); (focus repeat' first | exact zaa | assumption | apply zab | (apply Ext.get; assumption)); (first | exact zan (by omega) | rfl | assumption)) | ((apply zbb; rfl; rfl; rfl; rfl; exact zaB rfl); (focus repeat' first | exact zaa | assumption | apply zab | (apply Ext.get; assumption)); (first | exact Nat.le_of_ble_eq_true rfl | (rw [zaj]; omega) | (simp; done) | (simp; omega) | (rw [zaf]; omega)); (first | exact zah (by omega) | rfl))); (first | assumption | exact zaC _ _ | exact zbs _ _ _ | exact zdf _ _ _ _ | exact zba _ _ _ _ _ _ _ | rfl | (focus simp [same, same.all2]; done)); (first | rfl | assumption | exact hwv _ | (focus apply zbr; (focus repeat' first | exact zaa | assumption | apply zab | (apply Ext.get; assumption)); done) | exact zbZ (by assumption) (by (focus repeat' first | exact Ext.refl _ | assumption | apply Ext.push | (refine Ext.trans ?_ (by assumption)))) | exact zaH (by assumption) (by assumption) (by (focus repeat' first | exact Ext.refl _ | assumption | apply Ext.push | (refine Ext.trans ?_ (by assumption)))) | (simp [within]; omega))) | ((first | (apply zaO; rfl; rfl; rfl; rfl; rfl; rfl) | (apply zbc; rfl; rfl; rfl; rfl; rfl; rfl; rfl)); exact zdZ (G := ⟨people, some ⟨b, 0, none⟩, kl, nl, l, p, kc, c⟩) hK h1.1; (rintro _ _ (⟨rfl, _, _⟩ | ⟨rfl, _, _⟩))) | ((first | (apply zaO; rfl; rfl; rfl; rfl; rfl; rfl) | (apply zbc; rfl; rfl; rfl; rfl; rfl; rfl; rfl)); exact zfV hK; (rintro _ _ (⟨rfl, _, _⟩ | ⟨rfl, _, _⟩))) | fail))
        all_goals first
          | (refine zbF (ih (k + 1) _ (by omega) ⟨hlt, by (focus repeat' first | exact Ext.refl _ | assumption | apply Ext.push | (refine Ext.trans ?_ (by assumption))), fun j hj' => ?_⟩) (by (focus repeat' first | rfl | exact trivial | apply And.intro)); by_cases hjk : j = k <;> first | (subst hjk; exact ⟨by assumption, by assumption, by assumption⟩) | exact hj j (by omega))
          | exact ⟨.inr rfl, _, rfl, .inr ⟨rfl, fun q => by have := q.line k hlt; exact absurd this.1 (by assumption), by (focus repeat' first | exact Ext.refl _ | assumption | apply Ext.push | (refine Ext.trans ?_ (by assumption)))⟩⟩
          | exact ⟨.inr rfl, _, rfl, .inr ⟨rfl, fun q => by have := q.line k hlt; exact absurd this.2.1 (by assumption), by (focus repeat' first | exact Ext.refl _ | assumption | apply Ext.push | (refine Ext.trans ?_ (by assumption)))⟩⟩
          | exact ⟨.inr rfl, _, rfl, .inr ⟨rfl, fun q => by have := q.line k hlt; exact absurd this.2.2 (by assumption), by (focus repeat' first | exact Ext.refl _ | assumption | apply Ext.push | (refine Ext.trans ?_ (by assumption)))⟩⟩
      · (repeat' (first | apply zat | apply zac | (apply O_at; rfl) | (apply N_at; rfl) | (apply zas; rfl) | apply zau | (apply zaG; rfl) | (apply zaF; rfl) | (apply za7; exact zaA (by decide +kernel)) | apply zal | apply zao | apply zaz | apply zax | (apply zaQ; rfl; exact (.inl (Nat.le_refl 1))) | (apply zaQ; rfl; refine .inr ?_; (focus repeat' first | exact trivial | exact Keeps.nil _ _ | apply And.intro | rfl | (apply Keeps.cons; iterate 2 (focus repeat' first | exact zaa | assumption | apply zab | (apply Ext.get; assumption))))) | apply zaM | apply zbd | apply zaW | apply zaU | apply zaD | apply zaE | apply zag | apply zav | (apply za5; rfl; rfl; rfl) | ((first | apply zam | apply zad | apply zbh | apply zbt | apply zcO); rfl; rfl; rfl; rfl) | ((first | apply P_fa | apply M_fa); rfl; rfl; rfl; rfl; exact zaL rfl; (first | exact Nat.zero_add _ | exact Nat.add_zero _ | rfl)) | (apply zaS; rfl; rfl; rfl; rfl; rfl; rfl; exact zai rfl) | ((first | apply za0 | apply zbJ); rfl; rfl; rfl; rfl; rfl; rfl) | (apply zaJ; rfl; rfl; rfl; rfl; rfl; omega) | (apply zaI; rfl; rfl; rfl; rfl; rfl; omega) | (apply zcH; rfl; rfl; rfl; rfl; rfl; omega) | (apply zcy; rfl; rfl; rfl; rfl; rfl; all_goals intro _) | (apply zaT; rfl; rfl; rfl; rfl; rfl; (unfold fit; omega)) | (apply zak; rfl; rfl; rfl; rfl; exact zaq rfl; (focus repeat' first | exact zaa | assumption | apply zab | (apply Ext.get; assumption)); (first | exact zan (by omega) | rfl | assumption)) | (apply zaK; rfl; rfl; rfl; rfl; exact zae rfl; rfl; rfl) | (apply zbI; rfl; rfl; rfl; rfl) | (apply zbG; rfl; rfl; rfl; rfl) | (apply zeQ; rfl; rfl; rfl; rfl; rfl; exact zai rfl; exact zae rfl; (first | assumption | rfl | exact (Int.toNat_of_nonneg (by omega)).symm); omega) | ((first | ((first | (apply zbw; rfl; rfl; rfl; rfl; exact zaq rfl; exact za3 (by decide +kernel)) | (apply za6; rfl; rfl; rfl; rfl; exact zaq rfl)); (focus repeat' first | exact zaa | assumption | apply zab | (apply Ext.get; assumption)); (first | exact zan (by omega) | rfl | assumption)) | ((first | (apply zdb; rfl; rfl; rfl; rfl; exact zaB rfl; exact za3 (by decide +kernel)) | (apply zbb; rfl; rfl; rfl; rfl; exact zaB rfl)); (focus repeat' first | exact zaa | assumption | apply zab | (apply Ext.get; assumption)); (first | exact Nat.le_of_ble_eq_true rfl | (rw [zaj]; omega) | (simp; done) | (simp; omega) | (rw [zaf]; omega)); (first | exact zah (by omega) | rfl))); (first | assumption | exact zaC _ _ | exact zbs _ _ _ | exact zdf _ _ _ _ | exact zba _ _ _ _ _ _ _ | rfl | (focus simp [same, same.all2]; done)); (first | rfl | assumption | exact hwv _ | (focus apply zbr; (focus repeat' first | exact zaa | assumption | apply zab | (apply Ext.get; assumption)); done) | exact zbZ (by assumption) (by (focus repeat' first | exact Ext.refl _ | assumption | apply Ext.push | (refine Ext.trans ?_ (by assumption)))) | exact zaH (by assumption) (by assumption) (by (focus repeat' first | exact Ext.refl _ | assumption | apply Ext.push | (refine Ext.trans ?_ (by assumption)))) | (simp [within]; omega))) | fail))
        refine zbX (fun k : Nat => [(4, .int .i64 (k : Nat)), (1, .pointer (some ⟨h.n, 0, none⟩))])
          (fun k h' => k ≤ c.length ∧ Ext (h.push (.cells [.int .i64 people, .slice pl nl kl, .slice p c.length kc] 25 true)) h' ∧ ∀ j, j < k → EntP people nl (ent (c.getD j cop0))) (fun k => c.length - k) ?_ 0 ?_ ?_
        · intro k h2 ⟨hk2, hx2, hj2⟩ ih2
          have hg2 := hx2.get zaa
          by_cases hlt2 : k < c.length
          · obtain ⟨b, e, own', rfl, hg⟩ := rc.at (by rw [zaj]; omega)
            have hg' := hx2.get (zab hg)
            have eR := each k hlt2
            have eb := eR.b
            have eL := s3 k hlt2
            (repeat' (first | apply zat | apply zac | (apply O_at; rfl) | (apply N_at; rfl) | (apply zas; rfl) | apply zau | (apply zaG; rfl) | (apply zaF; rfl) | (apply za7; exact zaA (by decide +kernel)) | apply zal | apply zao | apply zaz | apply zax | (apply zaQ; rfl; exact (.inl (Nat.le_refl 1))) | (apply zaQ; rfl; refine .inr ?_; (focus repeat' first | exact trivial | exact Keeps.nil _ _ | apply And.intro | rfl | (apply Keeps.cons; iterate 2 (focus repeat' first | exact zaa | assumption | apply zab | (apply Ext.get; assumption))))) | apply zaM | apply zbd | apply zaW | apply zaU | apply zaD | apply zaE | apply zag | apply zav | (apply za5; rfl; rfl; rfl) | ((first | apply zam | apply zad | apply zbh | apply zbt | apply zcO); rfl; rfl; rfl; rfl) | ((first | apply P_fa | apply M_fa); rfl; rfl; rfl; rfl; exact zaL rfl; (first | exact Nat.zero_add _ | exact Nat.add_zero _ | rfl)) | (apply zaS; rfl; rfl; rfl; rfl; rfl; rfl; exact zai rfl) | ((first | apply za0 | apply zbJ); rfl; rfl; rfl; rfl; rfl; rfl) | (apply zaJ; rfl; rfl; rfl; rfl; rfl; omega) | (apply zaI; rfl; rfl; rfl; rfl; rfl; omega) | (apply zcH; rfl; rfl; rfl; rfl; rfl; omega) | (apply zcy; rfl; rfl; rfl; rfl; rfl; all_goals intro _) | (apply zaT; rfl; rfl; rfl; rfl; rfl; (unfold fit; omega)) | (apply zak; rfl; rfl; rfl; rfl; exact zaq rfl; (focus repeat' first | exact zaa | assumption | apply zab | (apply Ext.get; assumption)); (first | exact zan (by omega) | rfl | assumption)) | (apply zaK; rfl; rfl; rfl; rfl; exact zae rfl; rfl; rfl) | (apply zbI; rfl; rfl; rfl; rfl) | (apply zbG; rfl; rfl; rfl; rfl) | (apply zeQ; rfl; rfl; rfl; rfl; rfl; exact zai rfl; exact zae rfl; (first | assumption | rfl | exact (Int.toNat_of_nonneg (by omega)).symm); omega) | ((first | ((first | (apply zbw; rfl; rfl; rfl; rfl; exact zaq rfl; exact za3 (by decide +kernel)) | (apply za6; rfl; rfl; rfl; rfl; exact zaq rfl)); (focus repeat' first | exact zaa | assumption | apply zab | (apply Ext.get; assumption)); (first | exact zan (by omega) | rfl | assumption)) | ((first | (apply zdb; rfl; rfl; rfl; rfl; exact zaB rfl; exact za3 (by decide +kernel)) | (apply zbb; rfl; rfl; rfl; rfl; exact zaB rfl)); (focus repeat' first | exact zaa | assumption | apply zab | (apply Ext.get; assumption)); (first | exact Nat.le_of_ble_eq_true rfl | (rw [zaj]; omega) | (simp; done) | (simp; omega) | (rw [zaf]; omega)); (first | exact zah (by omega) | rfl))); (first | assumption | exact zaC _ _ | exact zbs _ _ _ | exact zdf _ _ _ _ | exact zba _ _ _ _ _ _ _ | rfl | (focus simp [same, same.all2]; done)); (first | rfl | assumption | exact hwv _ | (focus apply zbr; (focus repeat' first | exact zaa | assumption | apply zab | (apply Ext.get; assumption)); done) | exact zbZ (by assumption) (by (focus repeat' first | exact Ext.refl _ | assumption | apply Ext.push | (refine Ext.trans ?_ (by assumption)))) | exact zaH (by assumption) (by assumption) (by (focus repeat' first | exact Ext.refl _ | assumption | apply Ext.push | (refine Ext.trans ?_ (by assumption)))) | (simp [within]; omega))) | ((first | (apply zaO; rfl; rfl; rfl; rfl; rfl; rfl) | (apply zbc; rfl; rfl; rfl; rfl; rfl; rfl; rfl)); exact zgM (G := ⟨people, pl, kl, nl, l, some ⟨b, 0, none⟩, kc, c⟩) (c := c.getD k cop0) hK h1.1 (by dsimp only; omega) (hT'.ext (by (focus repeat' first | exact Ext.refl _ | assumption | apply Ext.push | (refine Ext.trans ?_ (by assumption))))).bl (hT'.ext (by (focus repeat' first | exact Ext.refl _ | assumption | apply Ext.push | (refine Ext.trans ?_ (by assumption))))).bg (eR.ext (by (focus repeat' first | exact Ext.refl _ | assumption | apply Ext.push | (refine Ext.trans ?_ (by assumption))))) (by omega); (rintro _ _ (⟨rfl, _, _⟩ | ⟨rfl, _, _⟩))) | fail))
            · refine zbF (ih2 (k + 1) _ (by omega) ⟨hlt2, by (focus repeat' first | exact Ext.refl _ | assumption | apply Ext.push | (refine Ext.trans ?_ (by assumption))), fun j hj' => ?_⟩) (by (focus repeat' first | rfl | exact trivial | apply And.intro))
              by_cases hjk : j = k
              · subst hjk; assumption
              · exact hj2 j (by omega)
            · exact ⟨.inr rfl, _, rfl, .inr ⟨rfl, fun q => absurd (q.ent k hlt2) (by assumption), by (focus repeat' first | exact Ext.refl _ | assumption | apply Ext.push | (refine Ext.trans ?_ (by assumption)))⟩⟩
          · (repeat' (first | apply zat | apply zac | (apply O_at; rfl) | (apply N_at; rfl) | (apply zas; rfl) | apply zau | (apply zaG; rfl) | (apply zaF; rfl) | (apply za7; exact zaA (by decide +kernel)) | apply zal | apply zao | apply zaz | apply zax | (apply zaQ; rfl; exact (.inl (Nat.le_refl 1))) | (apply zaQ; rfl; refine .inr ?_; (focus repeat' first | exact trivial | exact Keeps.nil _ _ | apply And.intro | rfl | (apply Keeps.cons; iterate 2 (focus repeat' first | exact zaa | assumption | apply zab | (apply Ext.get; assumption))))) | apply zaM | apply zbd | apply zaW | apply zaU | apply zaD | apply zaE | apply zag | apply zav | (apply za5; rfl; rfl; rfl) | ((first | apply zam | apply zad | apply zbh | apply zbt | apply zcO); rfl; rfl; rfl; rfl) | ((first | apply P_fa | apply M_fa); rfl; rfl; rfl; rfl; exact zaL rfl; (first | exact Nat.zero_add _ | exact Nat.add_zero _ | rfl)) | (apply zaS; rfl; rfl; rfl; rfl; rfl; rfl; exact zai rfl) | ((first | apply za0 | apply zbJ); rfl; rfl; rfl; rfl; rfl; rfl) | (apply zaJ; rfl; rfl; rfl; rfl; rfl; omega) | (apply zaI; rfl; rfl; rfl; rfl; rfl; omega) | (apply zcH; rfl; rfl; rfl; rfl; rfl; omega) | (apply zcy; rfl; rfl; rfl; rfl; rfl; all_goals intro _) | (apply zaT; rfl; rfl; rfl; rfl; rfl; (unfold fit; omega)) | (apply zak; rfl; rfl; rfl; rfl; exact zaq rfl; (focus repeat' first | exact zaa | assumption | apply zab | (apply Ext.get; assumption)); (first | exact zan (by omega) | rfl | assumption)) | (apply zaK; rfl; rfl; rfl; rfl; exact zae rfl; rfl; rfl) | (apply zbI; rfl; rfl; rfl; rfl) | (apply zbG; rfl; rfl; rfl; rfl) | (apply zeQ; rfl; rfl; rfl; rfl; rfl; exact zai rfl; exact zae rfl; (first | assumption | rfl | exact (Int.toNat_of_nonneg (by omega)).symm); omega) | ((first | ((first | (apply zbw; rfl; rfl; rfl; rfl; exact zaq rfl; exact za3 (by decide +kernel)) | (apply za6; rfl; rfl; rfl; rfl; exact zaq rfl)); (focus repeat' first | exact zaa | assumption | apply zab | (apply Ext.get; assumption)); (first | exact zan (by omega) | rfl | assumption)) | ((first | (apply zdb; rfl; rfl; rfl; rfl; exact zaB rfl; exact za3 (by decide +kernel)) | (apply zbb; rfl; rfl; rfl; rfl; exact zaB rfl)); (focus repeat' first | exact zaa | assumption | apply zab | (apply Ext.get; assumption)); (first | exact Nat.le_of_ble_eq_true rfl | (rw [zaj]; omega) | (simp; done) | (simp; omega) | (rw [zaf]; omega)); (first | exact zah (by omega) | rfl))); (first | assumption | exact zaC _ _ | exact zbs _ _ _ | exact zdf _ _ _ _ | exact zba _ _ _ _ _ _ _ | rfl | (focus simp [same, same.all2]; done)); (first | rfl | assumption | exact hwv _ | (focus apply zbr; (focus repeat' first | exact zaa | assumption | apply zab | (apply Ext.get; assumption)); done) | exact zbZ (by assumption) (by (focus repeat' first | exact Ext.refl _ | assumption | apply Ext.push | (refine Ext.trans ?_ (by assumption)))) | exact zaH (by assumption) (by assumption) (by (focus repeat' first | exact Ext.refl _ | assumption | apply Ext.push | (refine Ext.trans ?_ (by assumption)))) | (simp [within]; omega))) | fail))
            exact ⟨.inr rfl, _, rfl, .inl ⟨rfl, ⟨h1.1, h1.2.1, h1.2.2, fun j q => hj j (by dsimp only at q; omega), fun j q => hj2 j (by dsimp only at q; omega)⟩, by (focus repeat' first | exact Ext.refl _ | assumption | apply Ext.push | (refine Ext.trans ?_ (by assumption)))⟩⟩
        · exact ⟨Nat.zero_le _, by (focus repeat' first | exact Ext.refl _ | assumption | apply Ext.push | (refine Ext.trans ?_ (by assumption))), fun j q => by omega⟩
        · (focus repeat' first | rfl | exact trivial | apply And.intro)
    · exact ⟨Nat.zero_le _, by (focus repeat' first | exact Ext.refl _ | assumption | apply Ext.push | (refine Ext.trans ?_ (by assumption))), fun j hj => by omega⟩
    · (focus repeat' first | rfl | exact trivial | apply And.intro)
  · have hz : ¬ PgP ⟨people, pl, kl, nl, l, p, kc, c⟩ := fun q => h1 ⟨q.people, q.n, q.c⟩
    (repeat' (first | apply zat | apply zac | (apply O_at; rfl) | (apply N_at; rfl) | (apply zas; rfl) | apply zau | (apply zaG; rfl) | (apply zaF; rfl) | (apply za7; kernel_rfl) | apply zal | apply zao | apply zaz | apply zax | (apply zaQ; rfl; exact (.inl (Nat.le_refl 1))) | (apply zaQ; rfl; refine .inr ?_; (focus repeat' first | exact trivial | exact Keeps.nil _ _ | apply And.intro | rfl | (apply Keeps.cons; iterate 2 (focus repeat' first | exact zaa | assumption | apply zab | (apply Ext.get; assumption))))) | apply zaM | apply zbd | apply zaW | apply zaU | apply zaD | apply zaE | apply zag | apply zav | (apply za5; rfl; rfl; rfl) | ((first | apply zam | apply zad | apply zbh | apply zbt | apply zcO); rfl; rfl; rfl; rfl) | ((first | apply P_fa | apply M_fa); rfl; rfl; rfl; rfl; exact zaL rfl; (first | exact Nat.zero_add _ | exact Nat.add_zero _ | rfl)) | (apply zaS; rfl; rfl; rfl; rfl; rfl; rfl; exact zai rfl) | ((first | apply za0 | apply zbJ); rfl; rfl; rfl; rfl; rfl; rfl) | (apply zcy; rfl; rfl; rfl; rfl; rfl; all_goals intro _) | (apply zaT; rfl; rfl; rfl; rfl; rfl; (unfold fit; omega)) | (apply zak; rfl; rfl; rfl; rfl; exact zaq rfl; (focus repeat' first | exact zaa | assumption | apply zab | (apply Ext.get; assumption)); (first | exact zan (by omega) | rfl | assumption)) | (apply zaK; rfl; rfl; rfl; rfl; exact zae rfl; rfl; rfl) | (apply zbI; rfl; rfl; rfl; rfl) | (apply zbG; rfl; rfl; rfl; rfl) | (apply zeQ; rfl; rfl; rfl; rfl; rfl; exact zai rfl; exact zae rfl; (first | assumption | rfl | exact (Int.toNat_of_nonneg (by omega)).symm); omega) | ((first | ((first | (apply zbw; rfl; rfl; rfl; rfl; exact zaq rfl; decide +kernel) | (apply za6; rfl; rfl; rfl; rfl; exact zaq rfl)); (focus repeat' first | exact zaa | assumption | apply zab | (apply Ext.get; assumption)); (first | exact zan (by omega) | rfl | assumption)) | ((first | (apply zdb; rfl; rfl; rfl; rfl; exact zaB rfl; decide +kernel) | (apply zbb; rfl; rfl; rfl; rfl; exact zaB rfl)); (focus repeat' first | exact zaa | assumption | apply zab | (apply Ext.get; assumption)); (first | exact Nat.le_of_ble_eq_true rfl | (rw [zaj]; omega) | (simp; done) | (simp; omega) | (rw [zaf]; omega)); (first | exact zah (by omega) | rfl))); (first | assumption | exact zaC _ _ | exact zbs _ _ _ | exact zdf _ _ _ _ | exact zba _ _ _ _ _ _ _ | rfl | (focus simp [same, same.all2]; done)); (first | rfl | assumption | exact hwv _ | (focus apply zbr; (focus repeat' first | exact zaa | assumption | apply zab | (apply Ext.get; assumption)); done) | exact zbZ (by assumption) (by (focus repeat' first | exact Ext.refl _ | assumption | apply Ext.push | (refine Ext.trans ?_ (by assumption)))) | exact zaH (by assumption) (by assumption) (by (focus repeat' first | exact Ext.refl _ | assumption | apply Ext.push | (refine Ext.trans ?_ (by assumption)))) | (simp [within]; omega))) | ((first | (apply zaO; rfl; rfl; rfl; rfl; rfl; rfl) | (apply zbc; rfl; rfl; rfl; rfl; rfl; rfl; rfl)); exact ziM hK; (rintro _ _ (⟨rfl, _, _⟩ | ⟨rfl, _, _⟩))) | fail))
    all_goals first
      | exact ⟨.inr rfl, _, rfl, .inr ⟨rfl, hz, by (focus repeat' first | exact Ext.refl _ | assumption | apply Ext.push | (refine Ext.trans ?_ (by assumption)))⟩⟩
      | (exfalso; omega)
end Go.AX.Sa

namespace Go.AX.Sa
open Go.Proofs
set_option maxRecDepth 100000
variable {K : Known}
/-! What stands, in memory. -/
def stC (G : Pg) (bn bs r : Nat) : List Value := [.int .i64 G.people, .slice G.pl G.n G.kl, .slice G.pg G.c.length G.kg, .slice (some ⟨bn, 0, none⟩) G.n unk, .slice (some ⟨bs, 0, none⟩) G.n unk, .map (some r)]
structure Ne4 (s bn bs r : Nat) : Prop where
  sn : s ≠ bn
  ss : s ≠ bs
  sr : s ≠ r
  ns : bn ≠ bs
  nr : bn ≠ r
  sr' : bs ≠ r
structure StB (G : Pg) (N S : List Int) (f : Int × Int → Bool) (s bn bs r : Nat) (h : Heap) : Prop where
  box : h.get? s = some (.cells (stC G bn bs r) 87 true)
  nums : h.get? bn = some (.cells (ints N) 3 true)
  sets : h.get? bs = some (.cells (ints S) 3 true)
  hrd : MapB h r f
  nl : N.length = G.n
  sl : S.length = G.n
/-- All but these three blocks stays. -/
structure Keep3 (bn bs r : Nat) (h h1 : Heap) : Prop where
  n : h.n ≤ h1.n
  get : ∀ b x, b ≠ bn → b ≠ bs → b ≠ r → h.get? b = some x → h1.get? b = some x
theorem Keep3.refl (bn bs r : Nat) (h : Heap) : Keep3 bn bs r h h := ⟨Nat.le_refl _, fun _ _ _ _ _ g => g⟩
theorem Keep3.trans {bn bs r : Nat} {h h1 h2 : Heap} (a : Keep3 bn bs r h h1) (b : Keep3 bn bs r h1 h2) : Keep3 bn bs r h h2 :=
  ⟨Nat.le_trans a.n b.n, fun c x p q w g => b.get c x p q w (a.get c x p q w g)⟩
theorem Keep3.of {bn bs r : Nat} {h h1 : Heap} (x : Ext h h1) : Keep3 bn bs r h h1 := ⟨x.n, fun _ _ _ _ _ g => x.get g⟩
theorem Keep3.ext {bn bs r : Nat} {h0 h h1 : Heap} (k : Keep3 bn bs r h h1) (e : Ext h0 h) (a : h0.n ≤ bn) (b : h0.n ≤ bs) (c : h0.n ≤ r) : Ext h0 h1 :=
  ⟨Nat.le_trans e.n k.n, fun d x g => k.get d x (by have := Heap.get_lt g; omega) (by have := Heap.get_lt g; omega) (by have := Heap.get_lt g; omega) (e.get g)⟩
theorem StB.ext {G : Pg} {N S : List Int} {f : Int × Int → Bool} {s bn bs r : Nat} {h h1 : Heap} (x : StB G N S f s bn bs r h) (e : Ext h h1) : StB G N S f s bn bs r h1 := ⟨e.get x.box, e.get x.nums, e.get x.sets, x.hrd.ext e, x.nl, x.sl⟩
theorem StB.ne {G : Pg} {N S : List Int} {f : Int × Int → Bool} {s bn bs r : Nat} {h : Heap} (x : StB G N S f s bn bs r h) (hns : bn ≠ bs) : Ne4 s bn bs r := by
  obtain ⟨es, c, l, hm, _⟩ := x.hrd
  have b := x.box
  have n := x.nums
  have t := x.sets
  refine ⟨fun q => ?_, fun q => ?_, fun q => ?_, hns, fun q => ?_, fun q => ?_⟩
  · subst q; rw [b] at n; injection n with n; injection n with n _ _; simp only [stC, ints] at n; rcases N with _ | ⟨_, _ | ⟨_, _⟩⟩ <;> simp at n
  · subst q; rw [b] at t; injection t with n; injection n with n _ _; simp only [stC, ints] at n; rcases S with _ | ⟨_, _ | ⟨_, _⟩⟩ <;> simp at n
  · subst q; rw [b] at hm; cases hm
  · subst q; rw [n] at hm; cases hm
  · subst q; rw [t] at hm; cases hm
def keepCh (f : Int × Int → Bool) (j : Int) (k : Int) : Int × Int → Bool := fun q => if q.1 = j ∧ 0 ≤ q.2 ∧ q.2 < k then false else f q
end Go.AX.Sa

namespace Go.AX.Sa
open Go.Proofs
set_option maxRecDepth 100000
variable {K : Known}

/-! The numbers of a span. -/
def rng (a : Int) (k : Nat) : List Int := (List.range k).map fun i => a + (i : Nat)
def spanL (p : Int × Int) : List Int := rng p.1 (p.2 - p.1 + 1).toNat
def ValI (n : Int) (v : Value) (_ : Heap) : Prop := v = .int .i64 n

/-- The lines that an entry reads. -/
def rdL (e : Ent) : List Int := if e.1 = 1 then spanL (e.2.getD 2 0, e.2.getD 3 0) else []
end Go.AX.Sa

namespace Go.AX.Sa
open Go.Proofs
set_option maxRecDepth 100000
variable {K : Known}
def readF (f : Int × Int → Bool) (e : Ent) (seen : List Int) : Int × Int → Bool := fun q => if q.1 ∈ seen ∧ inPair e q.2 then true else f q
end Go.AX.Sa

namespace Go.AX.Sa
open Go.Proofs
set_option maxRecDepth 100000
variable {K : Known}
/-- What an entry makes of what stands. -/
structure StL (G : Pg) (L : List Ent) (s bn bs r : Nat) (h : Heap) : Prop where
  st : ∃ f, StB G (numsL G L) (setsL G L) f s bn bs r h ∧ ∀ q : Int × Int, 0 ≤ q.2 → q.2 < G.people → f q = hrdF L q
end Go.AX.Sa

namespace Go.AX.Sa
open Go.Proofs
set_option maxRecDepth 100000
/-! Lists that grow beside each other. -/
/-- The value reads as this list and lies in this block alone. -/
def Own (h : Heap) (v : Value) (l : List Int) (b : Nat) : Prop := (v = .slice none 0 0 ∧ l = []) ∨ (l ≠ [] ∧ v = .slice (some ⟨b, 0, none⟩) l.length unk ∧ h.get? b = some (.cells (ints l) 3 true))
theorem Own.ext {h h1 : Heap} {v : Value} {l : List Int} {b : Nat} (o : Own h v l b) (x : Ext h h1) : Own h1 v l b := o.imp id fun q => ⟨q.1, q.2.1, x.get q.2.2⟩
theorem Own.but {h h1 : Heap} {v : Value} {l : List Int} {b c : Nat} (o : Own h v l b) (x : ExtBut c h h1) (hne : b ≠ c) : Own h1 v l b := o.imp id fun q => ⟨q.1, q.2.1, x.get hne q.2.2⟩
/-- What stays when a list in this block grows. -/
structure KeptX (l : List Int) (b : Nat) (h h1 : Heap) : Prop where
  n : h1.n = h.n + 1
  get' : ∀ c y, (l = [] ∨ c ≠ b) → h.get? c = some y → h1.get? c = some y
theorem Own.kept {h h1 : Heap} {v : Value} {l l' : List Int} {b b' : Nat} (o : Own h v l b) (x : KeptX l' b' h h1) (hne : l' = [] ∨ b ≠ b') : Own h1 v l b := by
  rcases o with o | ⟨o0, o1, o2⟩
  · exact .inl o
  · rcases hne with hn | hn
    · exact .inr ⟨o0, o1, x.get' _ _ (.inl hn) o2⟩
    · exact .inr ⟨o0, o1, x.get' _ _ (.inr hn) o2⟩
theorem Own.one {h : Heap} {v : Value} {l : List Int} {b : Nat} (o : Own h v l b) : oneB v = true ∧ v.cells = #[v] := by
  rcases o with ⟨rfl, _⟩ | ⟨_, rfl, _⟩ <;> exact ⟨rfl, rfl⟩
theorem Own.same {h : Heap} {v : Value} {l : List Int} {b : Nat} (o : Own h v l b) : AX.same 20 v v = true := by
  rcases o with ⟨rfl, _⟩ | ⟨_, rfl, _⟩ <;> simp [AX.same]
theorem Own.within {h : Heap} {v : Value} {l : List Int} {b : Nat} (o : Own h v l b) {m : Nat} (hm : h.n ≤ m) : AX.within 20 m v = true := by
  rcases o with ⟨rfl, _⟩ | ⟨_, rfl, g⟩
  · rfl
  · have := Heap.get_lt g
    simp [AX.within]; omega
section
variable {P : Program} {K : Known} {x : Ctx} {N : Nat} {E : Env} {h : Heap} {ops : Array Oper} {F : Ex → Env → Heap → Prop} {i : Nat} {Hs : List Heap} {L : List Heap → Prop} {nw : List (Nat × Nat × Blk)}
variable {d : Nat} {ty : TypeId} {pos : String} {af : Array Edge} {g : Option (Nat × Bool)}
end
variable {K : Known}
def sets0 (G : Pg) (k : Nat) : List Int := (List.range k).map (sett G)
def setr0 (G : Pg) (k : Nat) : List Int := (List.range k).map (setr G)
end Go.AX.Sa

namespace Go.AX.Sa
open Go.Proofs
set_option maxRecDepth 100000
variable {K : Known}
def wholeE (G : Pg) (p : Int × Int) : Ent := (1, [p.1, p.2, 0, (G.n : Int) - 1])
def logP (G : Pg) (ps : List (Int × Int)) : List Ent := logL G ++ ps.map (wholeE G)
def PairsP (G : Pg) (ps : List (Int × Int)) : Prop := ∀ k, k < ps.length → PairP G (ps.getD k (0, 0)).1 (ps.getD k (0, 0)).2
end Go.AX.Sa

namespace Go.AX.Sa
open Go.Proofs
set_option maxRecDepth 100000
variable {K : Known}
theorem StL.ext {G : Pg} {L : List Ent} {s bn bs r : Nat} {h h1 : Heap} (x : StL G L s bn bs r h) (e : Ext h h1) : StL G L s bn bs r h1 := by
  obtain ⟨f, S, hf⟩ := x
  exact ⟨f, S.ext e, hf⟩
end Go.AX.Sa

namespace Go.AX.Sa
open Go.Proofs
set_option maxRecDepth 100000
variable {K : Known}
/-! Whether the page passes. -/
def fewV : Value := .iface 149 (.agg #[])
def fewCh : List PanicEntry := [⟨fewV, false, false⟩]
def AllP (G : Pg) (L : List Ent) : Prop := ∀ j, j < G.n → PassP G L j
end Go.AX.Sa

namespace Go.AX.Sa
open Go.Proofs
set_option maxRecDepth 100000
variable {K : Known}
/-! What the layer returns. -/
def IsE (l : List Int) (h : Heap) (v : Value) (h1 : Heap) : Prop := ∃ p cap, v = .tuple #[.slice p l.length cap, .int .i64 0] ∧ Rd h1 p (ints l) ∧ Ext h h1
def errL : Value := .tuple #[.slice none 0 0, .int .i64 2]
section
variable {G : Pg} {h : Heap}
end
end Go.AX.Sa

namespace Go.AX.Sa
open Go.Proofs
set_option maxRecDepth 100000
variable {K : Known}
/-! What stands, line by line: the specification. -/
theorem ze5 (hK : NoK K) {c : Cop} {people : Int} {n : Nat} {j : Int} {h : Heap} (hc : RowIn c.r h) (hP : EntP people n (ent c)) :
    CallW Tryz.prog K 109 #[enV c, .int .i64 j] h (IfB (changes (ent c) j) h) := by
  obtain ⟨rd, hcb, _⟩ := hc
  obtain ⟨par, q, k, t⟩ := c
  dsimp only [enV, ent] at rd hcb hP ⊢
  refine body (N := 29) Tryz.func109 rfl (hK _ _ _ rfl) rfl rfl ?_
  rcases ent0 hP with h1 | h1 | h1
  · dsimp only at h1
    subst h1
    (repeat' (first | apply zat | apply zac | (apply O_at; rfl) | (apply zas; rfl) | apply zau | apply zax | apply zav | (apply za5; rfl; rfl; rfl) | ((first | apply zam | apply zad); rfl; rfl; rfl; rfl) | (apply P_fa; rfl; rfl; rfl; rfl; exact zaL rfl; (first | exact Nat.zero_add _ | exact Nat.add_zero _ | rfl)) | (apply za0; rfl; rfl; rfl; rfl; rfl; rfl) | (apply zbM; rfl; rfl; rfl; rfl; rfl; omega) | (apply zbE; rfl; rfl; rfl; rfl; rfl; omega) | (apply zgn; rfl; rfl; rfl; rfl; rfl; all_goals intro _) | (apply zeO; rfl; rfl; rfl; rfl; rfl; exact zai rfl; exact zae rfl; (first | assumption | exact zq0 | exact zq1 | rfl | exact (Int.toNat_of_nonneg (by omega)).symm); omega) | (apply zak; rfl; rfl; rfl; rfl; exact zaq rfl; (focus repeat' first | exact zaa | assumption | apply zab); (first | exact zan (by omega) | rfl | assumption)) | (apply zaK; rfl; rfl; rfl; rfl; exact zae rfl; rfl; rfl) | fail))
    exact ⟨.inr rfl, _, rfl, .inr ⟨rfl, by unfold changes; simp, by (focus repeat' first | exact Ext.refl _ | assumption | apply Ext.push)⟩⟩
  · dsimp only at h1
    subst h1
    have z := ent2.1 hP
    obtain ⟨b, e, own, rfl, hg⟩ := rd.at (by rw [zaf]; omega)
    (repeat' (first | apply zat | apply zac | (apply O_at; rfl) | (apply zas; rfl) | apply zau | apply zax | apply zav | (apply za5; rfl; rfl; rfl) | ((first | apply zam | apply zad); rfl; rfl; rfl; rfl) | (apply P_fa; rfl; rfl; rfl; rfl; exact zaL rfl; (first | exact Nat.zero_add _ | exact Nat.add_zero _ | rfl)) | (apply za0; rfl; rfl; rfl; rfl; rfl; rfl) | (apply zbM; rfl; rfl; rfl; rfl; rfl; omega) | (apply zbE; rfl; rfl; rfl; rfl; rfl; omega) | (apply zgn; rfl; rfl; rfl; rfl; rfl; all_goals intro _) | (apply zeO; rfl; rfl; rfl; rfl; rfl; exact zai rfl; exact zae rfl; (first | assumption | exact zq0 | exact zq1 | rfl | exact (Int.toNat_of_nonneg (by omega)).symm); omega) | (apply zak; rfl; rfl; rfl; rfl; exact zaq rfl; (focus repeat' first | exact zaa | assumption | apply zab); (first | exact zan (by omega) | rfl | assumption)) | (apply zaK; rfl; rfl; rfl; rfl; exact zae rfl; rfl; rfl) | fail))
    · rename_i w
      exact ⟨.inr rfl, _, rfl, .inl ⟨rfl, .inl ⟨rfl, w⟩, by (focus repeat' first | exact Ext.refl _ | assumption | apply Ext.push)⟩⟩
    · rename_i w
      exact ⟨.inr rfl, _, rfl, .inr ⟨rfl, by unfold changes; simpa using w, by (focus repeat' first | exact Ext.refl _ | assumption | apply Ext.push)⟩⟩
  · dsimp only at h1
    subst h1
    have z := ent3.1 hP
    obtain ⟨b, e, own, rfl, hg⟩ := rd.at (by rw [zaf]; omega)
    (repeat' (first | apply zat | apply zac | (apply O_at; rfl) | (apply zas; rfl) | apply zau | apply zax | apply zav | (apply za5; rfl; rfl; rfl) | ((first | apply zam | apply zad); rfl; rfl; rfl; rfl) | (apply P_fa; rfl; rfl; rfl; rfl; exact zaL rfl; (first | exact Nat.zero_add _ | exact Nat.add_zero _ | rfl)) | (apply za0; rfl; rfl; rfl; rfl; rfl; rfl) | (apply zbM; rfl; rfl; rfl; rfl; rfl; omega) | (apply zbE; rfl; rfl; rfl; rfl; rfl; omega) | (apply zgn; rfl; rfl; rfl; rfl; rfl; all_goals intro _) | (apply zeO; rfl; rfl; rfl; rfl; rfl; exact zai rfl; exact zae rfl; (first | assumption | exact zq0 | exact zq1 | rfl | exact (Int.toNat_of_nonneg (by omega)).symm); omega) | (apply zak; rfl; rfl; rfl; rfl; exact zaq rfl; (focus repeat' first | exact zaa | assumption | apply zab); (first | exact zan (by omega) | rfl | assumption)) | (apply zaK; rfl; rfl; rfl; rfl; exact zae rfl; rfl; rfl) | fail))
    · rename_i w
      exact ⟨.inr rfl, _, rfl, .inl ⟨rfl, .inr ⟨rfl, w⟩, by (focus repeat' first | exact Ext.refl _ | assumption | apply Ext.push)⟩⟩
    · rename_i w
      exact ⟨.inr rfl, _, rfl, .inr ⟨rfl, by unfold changes; simpa using w, by (focus repeat' first | exact Ext.refl _ | assumption | apply Ext.push)⟩⟩
theorem zgL (hK : NoK K) {c : Cop} {people : Int} {n : Nat} {j : Int} {h : Heap} (hc : RowIn c.r h) (hP : EntP people n (ent c)) :
    CallW Tryz.prog K 69 #[enV c, .int .i64 j] h (IfB (reads (ent c) j) h) := by
  obtain ⟨rd, hcb, _⟩ := hc
  obtain ⟨par, q, k, t⟩ := c
  dsimp only [enV, ent] at rd hcb hP ⊢
  refine body (N := 20) Tryz.func69 rfl (hK _ _ _ rfl) rfl rfl ?_
  by_cases h1 : par = 1
  · subst h1
    have z := ent1.1 hP
    obtain ⟨b, e, own, rfl, hg⟩ := rd.at (by rw [zaf]; omega)
    (repeat' (first | apply zat | apply zac | (apply O_at; rfl) | (apply N_at; rfl) | (apply zas; rfl) | apply zau | (apply za7; exact zaA (by decide +kernel)) | apply zax | (apply zaQ; rfl; exact (.inl (Nat.le_refl 1))) | (apply zaQ; rfl; refine .inr ?_; (focus repeat' first | exact trivial | exact Keeps.nil _ _ | apply And.intro | rfl | (apply Keeps.cons; iterate 2 (focus repeat' first | exact zaa | assumption | apply zab | (apply Ext.get; assumption))))) | apply zav | ((first | apply zad | apply zbt | apply zbq); rfl; rfl; rfl; rfl) | (apply zaK; rfl; rfl; rfl; rfl; exact zae rfl; rfl; rfl) | (apply zbI; rfl; rfl; rfl; rfl) | (apply zbG; rfl; rfl; rfl; rfl) | (apply M_fa; rfl; rfl; rfl; rfl; exact zaL rfl; (first | exact Nat.zero_add _ | exact Nat.add_zero _ | rfl)) | (apply zbJ; rfl; rfl; rfl; rfl; rfl; rfl) | (apply zdd; rfl; rfl; rfl; rfl; rfl; omega) | (apply zdc; rfl; rfl; rfl; rfl; rfl; omega) | (apply zbD; rfl; rfl; rfl; rfl; rfl; exact zai rfl; exact zae rfl; (first | assumption | exact zq2 | exact zq3 | rfl | exact (Int.toNat_of_nonneg (by omega)).symm); omega) | (((apply za6; rfl; rfl; rfl; rfl; exact zaq rfl); (focus repeat' first | exact zaa | assumption | apply zab | (apply Ext.get; assumption)); (first | exact zan (by omega) | rfl | assumption)); (first | assumption | exact zaC _ _ | exact zbs _ _ _ | rfl | (focus simp [same, same.all2]; done)); (first | rfl | assumption | exact hwv _ | (focus apply zbr; (focus repeat' first | exact zaa | assumption | apply zab | (apply Ext.get; assumption)); done) | (simp [within]; omega))) | (apply zbc; rfl; rfl; rfl; rfl; rfl; rfl; rfl; exact ziM hK; (rintro _ _ (⟨rfl, _, _⟩ | ⟨rfl, _, _⟩))) | fail))
    · rename_i w _
      exact ⟨.inr rfl, _, rfl, .inl ⟨rfl, ⟨rfl, w⟩, by (focus repeat' first | exact Ext.refl _ | assumption | apply Ext.push | (refine Ext.trans ?_ (by assumption)))⟩⟩
    · rename_i w _
      exact ⟨.inr rfl, _, rfl, .inr ⟨rfl, fun q => w q.2, by (focus repeat' first | exact Ext.refl _ | assumption | apply Ext.push | (refine Ext.trans ?_ (by assumption)))⟩⟩
  · (repeat' (first | apply zat | apply zac | (apply O_at; rfl) | (apply N_at; rfl) | (apply zas; rfl) | apply zau | (apply za7; exact zaA (by decide +kernel)) | apply zax | (apply zaQ; rfl; exact (.inl (Nat.le_refl 1))) | (apply zaQ; rfl; refine .inr ?_; (focus repeat' first | exact trivial | exact Keeps.nil _ _ | apply And.intro | rfl | (apply Keeps.cons; iterate 2 (focus repeat' first | exact zaa | assumption | apply zab | (apply Ext.get; assumption))))) | apply zav | ((first | apply zad | apply zbt | apply zbq); rfl; rfl; rfl; rfl) | (apply zaK; rfl; rfl; rfl; rfl; exact zae rfl; rfl; rfl) | (apply zbI; rfl; rfl; rfl; rfl) | (apply zbG; rfl; rfl; rfl; rfl) | (apply M_fa; rfl; rfl; rfl; rfl; exact zaL rfl; (first | exact Nat.zero_add _ | exact Nat.add_zero _ | rfl)) | (apply zbJ; rfl; rfl; rfl; rfl; rfl; rfl) | (apply zdd; rfl; rfl; rfl; rfl; rfl; omega) | (apply zdc; rfl; rfl; rfl; rfl; rfl; omega) | (apply zbD; rfl; rfl; rfl; rfl; rfl; exact zai rfl; exact zae rfl; (first | assumption | exact zq2 | exact zq3 | rfl | exact (Int.toNat_of_nonneg (by omega)).symm); omega) | (((first | (apply zbw; rfl; rfl; rfl; rfl; exact zaq rfl; exact za3 (by decide +kernel)) | (apply za6; rfl; rfl; rfl; rfl; exact zaq rfl)); (focus repeat' first | exact zaa | assumption | apply zab | (apply Ext.get; assumption)); (first | exact zan (by omega) | rfl | assumption)); (first | assumption | exact zaC _ _ | exact zbs _ _ _ | rfl | (focus simp [same, same.all2]; done)); (first | rfl | assumption | exact hwv _ | (focus apply zbr; (focus repeat' first | exact zaa | assumption | apply zab | (apply Ext.get; assumption)); done) | (simp [within]; omega))) | fail))
    exact ⟨.inr rfl, _, rfl, .inr ⟨rfl, fun q => h1 q.1, by (focus repeat' first | exact Ext.refl _ | assumption | apply Ext.push | (refine Ext.trans ?_ (by assumption)))⟩⟩
theorem same_ok (hK : NoK K) {l m : List Int} {p q : Option Addr} {cap cap' : Nat} {h : Heap} (hn : l.length ≤ 1000) (_hm : m.length ≤ 1000) (hr : Rd h p (ints l)) (hq : Rd h q (ints m)) :
    CallW Tryz.prog K 21 #[.slice p l.length cap, .slice q m.length cap'] h (IfB (l = m) h) := by
  refine body (N := 26) Tryz.func21 rfl (hK _ _ _ rfl) rfl rfl ?_
  by_cases hl : l.length = m.length
  · (repeat' (first | apply zat | apply zac | (apply O_at; rfl) | (apply N_at; rfl) | (apply zas; rfl) | apply zau | (apply zaG; rfl) | (apply zaF; rfl) | (apply za7; exact zaA (by decide +kernel)) | apply zal | apply zao | apply zaz | apply zax | (apply zaQ; rfl; exact (.inl (Nat.le_refl 1))) | (apply zaQ; rfl; refine .inr ?_; (focus repeat' first | exact trivial | apply And.intro | rfl)) | apply zaM | apply zbd | apply zaW | apply zaU | apply zaD | apply zaE | apply zag | apply zav | ((first | apply zam | apply zad | apply zbt); rfl; rfl; rfl; rfl) | (apply zaS; rfl; rfl; rfl; rfl; rfl; rfl; exact zai rfl) | (apply zaJ; rfl; rfl; rfl; rfl; rfl; omega) | (apply zaI; rfl; rfl; rfl; rfl; rfl; omega) | (apply za4; rfl; rfl; rfl; rfl; rfl; omega) | (apply za9; rfl; rfl; rfl; rfl; rfl; omega) | (apply zaT; rfl; rfl; rfl; rfl; rfl; (unfold fit; omega)) | (apply M_neq; rfl; rfl; rfl; rfl; rfl; all_goals intro _) | (apply zbD; rfl; rfl; rfl; rfl; rfl; exact zai rfl; exact zae rfl; (first | assumption | rfl | exact (Int.toNat_of_nonneg (by omega)).symm); omega) | (((apply zbw; rfl; rfl; rfl; rfl; exact zaq rfl; exact za3 (by decide +kernel)); (focus repeat' first | assumption | (apply Ext.get; assumption)); (first | exact zan (by omega) | rfl | assumption)); (first | assumption | exact zaC _ _ | rfl | (focus simp [same, same.all2]; done)); (first | rfl | assumption | exact hwv _ | (simp [within]; omega))) | fail))
    refine zbX (fun k : Nat => [(0, .slice p l.length cap), (1, .slice q m.length cap'), (5, .int .i64 (k : Nat))])
      (fun k h' => k ≤ l.length ∧ Ext h h' ∧ ∀ j, j < k → l.getD j 0 = m.getD j 0) (fun k => l.length - k) ?_ 0 ?_ ?_
    · intro k h' ⟨hk, hx, hj⟩ ih
      by_cases hlt : k < l.length
      · obtain ⟨b, e, own', rfl, hg⟩ := hr.at (by rw [zaf]; omega)
        obtain ⟨b2, e2, own2, rfl, hg2⟩ := hq.at (by rw [zaf]; omega)
        (repeat' (first | apply zat | apply zac | (apply O_at; rfl) | (apply N_at; rfl) | (apply zas; rfl) | apply zau | (apply zaG; rfl) | (apply zaF; rfl) | (apply za7; exact zaA (by decide +kernel)) | apply zal | apply zao | apply zaz | apply zax | (apply zaQ; rfl; exact (.inl (Nat.le_refl 1))) | (apply zaQ; rfl; refine .inr ?_; (focus repeat' first | exact trivial | apply And.intro | rfl)) | apply zaM | apply zbd | apply zaW | apply zaU | apply zaD | apply zaE | apply zag | apply zav | ((first | apply zam | apply zad | apply zbt); rfl; rfl; rfl; rfl) | (apply zaS; rfl; rfl; rfl; rfl; rfl; rfl; exact zai rfl) | (apply zaJ; rfl; rfl; rfl; rfl; rfl; omega) | (apply zaI; rfl; rfl; rfl; rfl; rfl; omega) | (apply za4; rfl; rfl; rfl; rfl; rfl; omega) | (apply za9; rfl; rfl; rfl; rfl; rfl; omega) | (apply zaT; rfl; rfl; rfl; rfl; rfl; (unfold fit; omega)) | (apply M_neq; rfl; rfl; rfl; rfl; rfl; all_goals intro _) | (apply zbD; rfl; rfl; rfl; rfl; rfl; exact zai rfl; exact zae rfl; (first | assumption | rfl | exact (Int.toNat_of_nonneg (by omega)).symm); omega) | (((apply zbw; rfl; rfl; rfl; rfl; exact zaq rfl; exact za3 (by decide +kernel)); (focus repeat' first | assumption | (apply Ext.get; assumption)); (first | exact zan (by omega) | rfl | assumption)); (first | assumption | exact zaC _ _ | rfl | (focus simp [same, same.all2]; done)); (first | rfl | assumption | exact hwv _ | (simp [within]; omega))) | fail))
        · rename_i w
          exact ⟨.inr rfl, _, rfl, .inr ⟨rfl, fun z => w (by rw [z]), by (focus repeat' first | exact Ext.refl _ | assumption)⟩⟩
        · rename_i w
          refine zbF (ih (k + 1) _ ?_ ⟨hlt, ?_, fun j hj' => ?_⟩) ?_
          · omega
          · (focus repeat' first | exact Ext.refl _ | assumption)
          · by_cases hjk : j = k
            · subst hjk; exact w
            · exact hj j (by omega)
          · (focus repeat' first | rfl | exact trivial | apply And.intro)
      · (repeat' (first | apply zat | apply zac | (apply O_at; rfl) | (apply N_at; rfl) | (apply zas; rfl) | apply zau | (apply zaG; rfl) | (apply zaF; rfl) | (apply za7; exact zaA (by decide +kernel)) | apply zal | apply zao | apply zaz | apply zax | (apply zaQ; rfl; exact (.inl (Nat.le_refl 1))) | (apply zaQ; rfl; refine .inr ?_; (focus repeat' first | exact trivial | apply And.intro | rfl)) | apply zaM | apply zbd | apply zaW | apply zaU | apply zaD | apply zaE | apply zag | apply zav | ((first | apply zam | apply zad | apply zbt); rfl; rfl; rfl; rfl) | (apply zaS; rfl; rfl; rfl; rfl; rfl; rfl; exact zai rfl) | (apply zaJ; rfl; rfl; rfl; rfl; rfl; omega) | (apply zaI; rfl; rfl; rfl; rfl; rfl; omega) | (apply za4; rfl; rfl; rfl; rfl; rfl; omega) | (apply za9; rfl; rfl; rfl; rfl; rfl; omega) | (apply zaT; rfl; rfl; rfl; rfl; rfl; (unfold fit; omega)) | (apply M_neq; rfl; rfl; rfl; rfl; rfl; all_goals intro _) | (apply zbD; rfl; rfl; rfl; rfl; rfl; exact zai rfl; exact zae rfl; (first | assumption | rfl | exact (Int.toNat_of_nonneg (by omega)).symm); omega) | (((apply zbw; rfl; rfl; rfl; rfl; exact zaq rfl; exact za3 (by decide +kernel)); (focus repeat' first | assumption | (apply Ext.get; assumption)); (first | exact zan (by omega) | rfl | assumption)); (first | assumption | exact zaC _ _ | rfl | (focus simp [same, same.all2]; done)); (first | rfl | assumption | exact hwv _ | (simp [within]; omega))) | fail))
        refine ⟨.inr rfl, _, rfl, .inl ⟨rfl, ?_, by (focus repeat' first | exact Ext.refl _ | assumption)⟩⟩
        apply List.ext_getElem hl
        intro j h1 h2
        have := hj j (by omega)
        simpa [h1, h2] using this
    · exact ⟨Nat.zero_le _, Ext.refl _, fun j hj => by omega⟩
    · (focus repeat' first | rfl | exact trivial | apply And.intro)
  · (repeat' (first | apply zat | apply zac | (apply O_at; rfl) | (apply N_at; rfl) | (apply zas; rfl) | apply zau | (apply zaG; rfl) | (apply zaF; rfl) | (apply za7; exact zaA (by decide +kernel)) | apply zal | apply zao | apply zaz | apply zax | (apply zaQ; rfl; exact (.inl (Nat.le_refl 1))) | (apply zaQ; rfl; refine .inr ?_; (focus repeat' first | exact trivial | apply And.intro | rfl)) | apply zaM | apply zbd | apply zaW | apply zaU | apply zaD | apply zaE | apply zag | apply zav | ((first | apply zam | apply zad | apply zbt); rfl; rfl; rfl; rfl) | (apply zaS; rfl; rfl; rfl; rfl; rfl; rfl; exact zai rfl) | (apply zaJ; rfl; rfl; rfl; rfl; rfl; omega) | (apply zaI; rfl; rfl; rfl; rfl; rfl; omega) | (apply za4; rfl; rfl; rfl; rfl; rfl; omega) | (apply za9; rfl; rfl; rfl; rfl; rfl; omega) | (apply zaT; rfl; rfl; rfl; rfl; rfl; (unfold fit; omega)) | (apply M_neq; rfl; rfl; rfl; rfl; rfl; all_goals intro _) | (apply zbD; rfl; rfl; rfl; rfl; rfl; exact zai rfl; exact zae rfl; (first | assumption | rfl | exact (Int.toNat_of_nonneg (by omega)).symm); omega) | (((apply zbw; rfl; rfl; rfl; rfl; exact zaq rfl; exact za3 (by decide +kernel)); (focus repeat' first | assumption | (apply Ext.get; assumption)); (first | exact zan (by omega) | rfl | assumption)); (first | assumption | exact zaC _ _ | rfl | (focus simp [same, same.all2]; done)); (first | rfl | assumption | exact hwv _ | (simp [within]; omega))) | fail))
    exact ⟨.inr rfl, _, rfl, .inr ⟨rfl, fun q => hl (by rw [q]), by (focus repeat' first | exact Ext.refl _ | assumption)⟩⟩
theorem ze6 (hK : NoK K) {G : Pg} {j : Int} {i : Nat} {h : Heap} (hT : PgAt G h) (hP : PgP G) (hi : i ≤ G.c.length) :
    CallW Tryz.prog K 70 #[pgV G, .int .i64 j, .int .i64 (i : Nat)] h (IfB (∃ k, i ≤ k ∧ k < G.c.length ∧ changes (ent (G.c.getD k cop0)) j) h) := by
  have hcc := hP.c
  have hE := hP.ent
  obtain ⟨people, pl, kl, n, l, p, kc, c⟩ := G
  obtain ⟨len, rl, rc, each, hbl, hpb⟩ := hT
  dsimp only [pgV] at len rl rc each hbl hpb hcc hE hi ⊢
  refine body (N := 23) Tryz.func70 rfl (hK _ _ _ rfl) rfl rfl ?_
  (repeat' (first | apply zat | apply zac | (apply O_at; rfl) | (apply zas; rfl) | apply zau | (apply zaG; rfl) | (apply zaF; rfl) | apply zal | apply zao | apply zaz | apply zax | apply zaM | apply zbd | apply zaW | apply zaU | apply zaD | apply zaE | apply zag | apply zav | ((first | apply zam | apply zad); rfl; rfl; rfl; rfl) | (apply P_fa; rfl; rfl; rfl; rfl; exact zaL rfl; (first | exact Nat.zero_add _ | exact Nat.add_zero _ | rfl)) | (apply zaS; rfl; rfl; rfl; rfl; rfl; rfl; exact zai rfl) | (apply zaJ; rfl; rfl; rfl; rfl; rfl; omega) | (apply zaI; rfl; rfl; rfl; rfl; rfl; omega) | (apply zaT; rfl; rfl; rfl; rfl; rfl; (unfold fit; omega)) | (apply zaR; rfl; rfl; rfl; rfl; rfl; exact zai rfl; exact zae rfl; (first | assumption | rfl | exact (Int.toNat_of_nonneg (by omega)).symm); omega) | (apply zak; rfl; rfl; rfl; rfl; exact zaq rfl; (focus repeat' first | exact zaa | assumption | apply zab | (apply Ext.get; assumption)); (first | rfl | assumption)) | (apply zap; rfl; rfl; rfl; rfl; exact zaB rfl; (focus repeat' first | exact zaa | assumption | apply zab | (apply Ext.get; assumption)); (first | exact Nat.le_of_ble_eq_true rfl | (rw [zaj]; omega) | (simp; done) | (simp; omega)); (first | exact zah (by omega) | rfl)) | (apply zaK; rfl; rfl; rfl; rfl; exact zae rfl; rfl; rfl) | fail))
  refine zbX (fun k : Nat => [(7, .int .i64 (k : Nat)), (3, .pointer (some ⟨h.n, 0, none⟩)), (1, .int .i64 j)])
    (fun k h' => i ≤ k ∧ k ≤ c.length ∧ Ext (h.push (.cells [.int .i64 people, .slice pl n kl, .slice p c.length kc] 25 true)) h' ∧ ∀ k', i ≤ k' → k' < k → ¬ changes (ent (c.getD k' cop0)) j) (fun k => c.length - k) ?_ i ?_ ?_
  · rintro k h' ⟨hik, hk, hx, hj⟩ ih
    have g0 := hx.get zaa
    by_cases hlt : k < c.length
    · obtain ⟨b, e, own, rfl, hg⟩ := rc.at (by rw [zaj]; omega)
      have hg' := hx.get (zab hg)
      have eR := each k hlt
      (repeat' (first | apply zat | apply zac | (apply O_at; rfl) | (apply zas; rfl) | apply zau | (apply zaG; rfl) | (apply zaF; rfl) | apply zal | apply zao | apply zaz | apply zax | apply zaM | apply zbd | apply zaW | apply zaU | apply zaD | apply zaE | apply zag | apply zav | ((first | apply zam | apply zad); rfl; rfl; rfl; rfl) | (apply P_fa; rfl; rfl; rfl; rfl; exact zaL rfl; (first | exact Nat.zero_add _ | exact Nat.add_zero _ | rfl)) | (apply zaS; rfl; rfl; rfl; rfl; rfl; rfl; exact zai rfl) | (apply zaJ; rfl; rfl; rfl; rfl; rfl; omega) | (apply zaI; rfl; rfl; rfl; rfl; rfl; omega) | (apply zaT; rfl; rfl; rfl; rfl; rfl; (unfold fit; omega)) | (apply zaR; rfl; rfl; rfl; rfl; rfl; exact zai rfl; exact zae rfl; (first | assumption | rfl | exact (Int.toNat_of_nonneg (by omega)).symm); omega) | (apply zak; rfl; rfl; rfl; rfl; exact zaq rfl; (focus repeat' first | exact zaa | assumption | apply zab | (apply Ext.get; assumption)); (first | rfl | assumption)) | (apply zap; rfl; rfl; rfl; rfl; exact zaB rfl; (focus repeat' first | exact zaa | assumption | apply zab | (apply Ext.get; assumption)); (first | exact Nat.le_of_ble_eq_true rfl | (rw [zaj]; omega) | (simp; done) | (simp; omega)); (first | exact zah (by omega) | rfl)) | (apply zaK; rfl; rfl; rfl; rfl; exact zae rfl; rfl; rfl) | (apply zaO; rfl; rfl; rfl; rfl; rfl; rfl; exact ze5 hK (c := c.getD k cop0) (eR.ext (by (focus repeat' first | exact Ext.refl _ | assumption | apply Ext.push | (refine Ext.trans ?_ (by assumption))))) (hE k hlt); (rintro _ _ (⟨rfl, _, _⟩ | ⟨rfl, _, _⟩))) | fail))
      · rename_i w _
        exact ⟨.inr rfl, _, rfl, .inl ⟨rfl, ⟨k, hik, hlt, w⟩, by (focus repeat' first | exact Ext.refl _ | assumption | apply Ext.push | (refine Ext.trans ?_ (by assumption)))⟩⟩
      · rename_i w _
        refine zbF (ih (k + 1) _ (by omega) ⟨by omega, hlt, by (focus repeat' first | exact Ext.refl _ | assumption | apply Ext.push | (refine Ext.trans ?_ (by assumption))), fun k' h1 h2 => ?_⟩) (by (focus repeat' first | rfl | exact trivial | apply And.intro))
        by_cases hkk : k' = k
        · subst hkk; exact w
        · exact hj k' h1 (by omega)
    · (repeat' (first | apply zat | apply zac | (apply O_at; rfl) | (apply zas; rfl) | apply zau | (apply zaG; rfl) | (apply zaF; rfl) | apply zal | apply zao | apply zaz | apply zax | apply zaM | apply zbd | apply zaW | apply zaU | apply zaD | apply zaE | apply zag | apply zav | ((first | apply zam | apply zad); rfl; rfl; rfl; rfl) | (apply P_fa; rfl; rfl; rfl; rfl; exact zaL rfl; (first | exact Nat.zero_add _ | exact Nat.add_zero _ | rfl)) | (apply zaS; rfl; rfl; rfl; rfl; rfl; rfl; exact zai rfl) | (apply zaJ; rfl; rfl; rfl; rfl; rfl; omega) | (apply zaI; rfl; rfl; rfl; rfl; rfl; omega) | (apply zaT; rfl; rfl; rfl; rfl; rfl; (unfold fit; omega)) | (apply zaR; rfl; rfl; rfl; rfl; rfl; exact zai rfl; exact zae rfl; (first | assumption | rfl | exact (Int.toNat_of_nonneg (by omega)).symm); omega) | (apply zak; rfl; rfl; rfl; rfl; exact zaq rfl; (focus repeat' first | exact zaa | assumption | apply zab | (apply Ext.get; assumption)); (first | rfl | assumption)) | (apply zap; rfl; rfl; rfl; rfl; exact zaB rfl; (focus repeat' first | exact zaa | assumption | apply zab | (apply Ext.get; assumption)); (first | exact Nat.le_of_ble_eq_true rfl | (rw [zaj]; omega) | (simp; done) | (simp; omega)); (first | exact zah (by omega) | rfl)) | (apply zaK; rfl; rfl; rfl; rfl; exact zae rfl; rfl; rfl) | fail))
      exact ⟨.inr rfl, _, rfl, .inr ⟨rfl, fun ⟨k', a, b, d⟩ => hj k' a (by omega) d, by (focus repeat' first | exact Ext.refl _ | assumption | apply Ext.push | (refine Ext.trans ?_ (by assumption)))⟩⟩
  · exact ⟨Nat.le_refl _, hi, by (focus repeat' first | exact Ext.refl _ | assumption | apply Ext.push | (refine Ext.trans ?_ (by assumption))), fun k' a b => by omega⟩
  · (focus repeat' first | rfl | exact trivial | apply And.intro)
end Go.AX.Sa

namespace Go.AX.Sa
open Go.Proofs
set_option maxRecDepth 100000
variable {K : Known}
def HeardTo (G : Pg) (j q : Int) (i : Nat) : Prop := ∃ i', i' < i ∧ (reads (ent (G.c.getD i' cop0)) j ∧ inPair (ent (G.c.getD i' cop0)) q) ∧ ¬ ∃ k, i' ≤ k ∧ k < G.c.length ∧ changes (ent (G.c.getD k cop0)) j
end Go.AX.Sa

namespace Go.AX.Sa
open Go.Proofs
set_option maxRecDepth 100000
variable {K : Known}
end Go.AX.Sa

namespace Go.AX.Sa
open Go.Proofs
set_option maxRecDepth 100000
variable {K : Known}
abbrev TrueB : Value → Heap → Prop := fun v _ => v = .bool true
end Go.AX.Sa

namespace Go.AX.Sa
open Go.Proofs
set_option maxRecDepth 100000
variable {K : Known}
/-! Whether some entry changes a line: the program. -/
theorem zgP (hK : NoK K) {c : Cop} {people : Int} {n : Nat} {j : Int} {h : Heap} (hc : RowIn c.r h) (hP : EntP people n (ent c)) :
    CallW Tryz.prog K 118 #[enV c, .int .i64 j] h (IfB (changes (ent c) j) h) := by
  obtain ⟨rd, hcb, _⟩ := hc
  obtain ⟨par, q, k, t⟩ := c
  dsimp only [enV, ent] at rd hcb hP ⊢
  refine body (N := 23) Tryz.func118 rfl (hK _ _ _ rfl) rfl rfl ?_
  rcases ent0 hP with h1 | h1 | h1
  · dsimp only at h1
    subst h1
    (repeat' (first | apply zat | apply zac | (apply O_at; rfl) | (apply zas; rfl) | apply zau | (apply zaG; rfl) | (apply zaF; rfl) | apply zal | apply zao | apply zax | apply zaM | apply zaW | apply zag | apply zav | ((first | apply zam | apply zad); rfl; rfl; rfl; rfl) | (apply P_fa; rfl; rfl; rfl; rfl; exact zaL rfl; (first | exact Nat.zero_add _ | exact Nat.add_zero _ | rfl)) | (apply zbM; rfl; rfl; rfl; rfl; rfl; omega) | (apply zbE; rfl; rfl; rfl; rfl; rfl; omega) | (apply zgn; rfl; rfl; rfl; rfl; rfl; all_goals intro _) | (apply zeO; rfl; rfl; rfl; rfl; rfl; exact zai rfl; exact zae rfl; (first | assumption | exact zq0 | exact zq1 | rfl | exact (Int.toNat_of_nonneg (by omega)).symm); omega) | (apply zak; rfl; rfl; rfl; rfl; exact zaq rfl; (focus repeat' first | exact zaa | assumption | apply zab); (first | exact zan (by omega) | rfl | assumption)) | (apply zaK; rfl; rfl; rfl; rfl; exact zae rfl; rfl; rfl) | fail))
    exact ⟨.inr rfl, _, rfl, .inr ⟨rfl, by unfold changes; simp, by (focus repeat' first | exact Ext.refl _ | assumption | apply Ext.push)⟩⟩
  · dsimp only at h1
    subst h1
    have z := ent2.1 hP
    obtain ⟨b, e, own, rfl, hg⟩ := rd.at (by rw [zaf]; omega)
    (repeat' (first | apply zat | apply zac | (apply O_at; rfl) | (apply zas; rfl) | apply zau | (apply zaG; rfl) | (apply zaF; rfl) | apply zal | apply zao | apply zax | apply zaM | apply zaW | apply zag | apply zav | ((first | apply zam | apply zad); rfl; rfl; rfl; rfl) | (apply P_fa; rfl; rfl; rfl; rfl; exact zaL rfl; (first | exact Nat.zero_add _ | exact Nat.add_zero _ | rfl)) | (apply zbM; rfl; rfl; rfl; rfl; rfl; omega) | (apply zbE; rfl; rfl; rfl; rfl; rfl; omega) | (apply zgn; rfl; rfl; rfl; rfl; rfl; all_goals intro _) | (apply zeO; rfl; rfl; rfl; rfl; rfl; exact zai rfl; exact zae rfl; (first | assumption | exact zq0 | exact zq1 | rfl | exact (Int.toNat_of_nonneg (by omega)).symm); omega) | (apply zak; rfl; rfl; rfl; rfl; exact zaq rfl; (focus repeat' first | exact zaa | assumption | apply zab); (first | exact zan (by omega) | rfl | assumption)) | (apply zaK; rfl; rfl; rfl; rfl; exact zae rfl; rfl; rfl) | fail))
    · rename_i w
      exact ⟨.inr rfl, _, rfl, .inl ⟨rfl, .inl ⟨rfl, w⟩, by (focus repeat' first | exact Ext.refl _ | assumption | apply Ext.push)⟩⟩
    · rename_i w
      exact ⟨.inr rfl, _, rfl, .inr ⟨rfl, by unfold changes; simpa using w, by (focus repeat' first | exact Ext.refl _ | assumption | apply Ext.push)⟩⟩
  · dsimp only at h1
    subst h1
    have z := ent3.1 hP
    obtain ⟨b, e, own, rfl, hg⟩ := rd.at (by rw [zaf]; omega)
    (repeat' (first | apply zat | apply zac | (apply O_at; rfl) | (apply zas; rfl) | apply zau | (apply zaG; rfl) | (apply zaF; rfl) | apply zal | apply zao | apply zax | apply zaM | apply zaW | apply zag | apply zav | ((first | apply zam | apply zad); rfl; rfl; rfl; rfl) | (apply P_fa; rfl; rfl; rfl; rfl; exact zaL rfl; (first | exact Nat.zero_add _ | exact Nat.add_zero _ | rfl)) | (apply zbM; rfl; rfl; rfl; rfl; rfl; omega) | (apply zbE; rfl; rfl; rfl; rfl; rfl; omega) | (apply zgn; rfl; rfl; rfl; rfl; rfl; all_goals intro _) | (apply zeO; rfl; rfl; rfl; rfl; rfl; exact zai rfl; exact zae rfl; (first | assumption | exact zq0 | exact zq1 | rfl | exact (Int.toNat_of_nonneg (by omega)).symm); omega) | (apply zak; rfl; rfl; rfl; rfl; exact zaq rfl; (focus repeat' first | exact zaa | assumption | apply zab); (first | exact zan (by omega) | rfl | assumption)) | (apply zaK; rfl; rfl; rfl; rfl; exact zae rfl; rfl; rfl) | fail))
    · rename_i w
      exact ⟨.inr rfl, _, rfl, .inl ⟨rfl, .inr ⟨rfl, w⟩, by (focus repeat' first | exact Ext.refl _ | assumption | apply Ext.push)⟩⟩
    · rename_i w
      exact ⟨.inr rfl, _, rfl, .inr ⟨rfl, by unfold changes; simpa using w, by (focus repeat' first | exact Ext.refl _ | assumption | apply Ext.push)⟩⟩
theorem chg1_ok (hK : NoK K) {c : Cop} {people : Int} {n bl : Nat} {j : Int} {h : Heap} (hc : RowIn c.r h) (hP : EntP people n (ent c)) (hb : h.get? bl = some (.cells [.int .i64 j] 3 true)) :
    CallW Tryz.prog K 117 #[enV c, .pointer (some ⟨bl, 0, none⟩)] h (IfB (changes (ent c) j) h) := by
  have hc' := hc
  obtain ⟨rd, hcb, _⟩ := hc
  refine body (N := 7) Tryz.func117 rfl (hK _ _ _ rfl) rfl rfl ?_
  (repeat' (first | apply zat | apply zac | (apply O_at; rfl) | (apply zas; rfl) | apply zau | apply zax | apply zav | (apply zad; rfl; rfl; rfl; rfl) | (apply zak; rfl; rfl; rfl; rfl; exact zaq rfl; (focus repeat' first | exact zaa | assumption | apply zab); (first | rfl | assumption)) | (apply zap; rfl; rfl; rfl; rfl; exact zaB rfl; (focus repeat' first | exact zaa | assumption | apply zab); (first | exact Nat.le_of_ble_eq_true rfl | (simp; done) | (simp; omega)); rfl) | (apply zaK; rfl; rfl; rfl; rfl; exact zae rfl; rfl; rfl) | (apply zaO; rfl; rfl; rfl; rfl; rfl; rfl; exact zgP (c := c) hK (hc'.ext (by (focus repeat' first | exact Ext.refl _ | assumption | apply Ext.push | (refine Ext.trans ?_ (by assumption))))) hP; (rintro _ _ (⟨rfl, _, _⟩ | ⟨rfl, _, _⟩))) | fail))
  · rename_i w _
    exact ⟨.inr rfl, _, rfl, .inl ⟨rfl, w, by (focus repeat' first | exact Ext.refl _ | assumption | apply Ext.push | (refine Ext.trans ?_ (by assumption)))⟩⟩
  · rename_i w _
    exact ⟨.inr rfl, _, rfl, .inr ⟨rfl, w, by (focus repeat' first | exact Ext.refl _ | assumption | apply Ext.push | (refine Ext.trans ?_ (by assumption)))⟩⟩
/-- Where the first entry stands that changes a line; -1, if none does. -/
def ChgAt (c : List Cop) (o n : Nat) (j : Int) : Prop := ∃ i, i < n ∧ changes (ent (c.getD (o + i) cop0)) j
theorem index_ok (hK : NoK K) {c : List Cop} {b o n off cap bl : Nat} {e : TypeId} {own : Bool} {people : Int} {m : Nat} {j : Int} {h : Heap} (hg : h.get? b = some (.cells (copCells c) e own)) (hoff : 0 < n → off = o * 2) (hon : o + n ≤ c.length) (hn : n ≤ 1000)
    (hc : ∀ i, i < c.length → RowIn (c.getD i cop0).r h) (hP : ∀ i, i < c.length → EntP people m (ent (c.getD i cop0))) (hb : h.get? bl = some (.cells [.int .i64 j] 3 true)) :
    CallW Tryz.prog K 135 #[.slice (some ⟨b, off, none⟩) n cap, .func (.func 117) #[] #[.pointer (some ⟨bl, 0, none⟩)]] h
      (fun v h1 => ((∃ i : Nat, v = .int .i64 (i : Nat) ∧ ChgAt c o n j) ∨ (v = .int .i64 (-1) ∧ ¬ ChgAt c o n j)) ∧ Ext h h1) := by
  refine body (N := 19) Tryz.func135 rfl (hK _ _ _ rfl) rfl rfl ?_
  (repeat' (first | apply zat | apply zac | (apply O_at; rfl) | (apply zas; rfl) | apply zau | (apply zaG; rfl) | (apply zaF; rfl) | apply zal | apply zao | apply zaz | apply zax | apply zaM | apply zbd | apply zaW | apply zaU | apply zaD | apply zaE | apply zag | apply zav | ((first | apply zam | apply zad); rfl; rfl; rfl; rfl) | (apply zaS; rfl; rfl; rfl; rfl; rfl; rfl; exact zai rfl) | (apply zaJ; rfl; rfl; rfl; rfl; rfl; omega) | (apply zaI; rfl; rfl; rfl; rfl; rfl; omega) | (apply zaT; rfl; rfl; rfl; rfl; rfl; (unfold fit; omega)) | (apply zap; rfl; rfl; rfl; rfl; exact zaB rfl; (focus repeat' first | assumption | (apply Ext.get; assumption)); (first | exact Nat.le_of_ble_eq_true rfl | (rw [zaj]; omega) | (simp; done) | (simp; omega)); (first | exact zah (by omega) | rfl)) | fail))
  refine zbX (fun i : Nat => [(8, .int .i64 (i : Nat)), (7, .int .i64 (n : Nat)), (0, .slice (some ⟨b, off, none⟩) n cap), (1, .func (.func 117) #[] #[.pointer (some ⟨bl, 0, none⟩)])])
    (fun i h' => i ≤ n ∧ Ext h h' ∧ ∀ k, k < i → ¬ changes (ent (c.getD (o + k) cop0)) j) (fun i => n - i) ?_ 0 ?_ ?_
  · rintro i h' ⟨hi, hx, hno⟩ ih
    by_cases hlt : i < n
    · obtain rfl := hoff (by omega)
      have hg' := hx.get hg
      (repeat' (first | apply zat | apply zac | (apply O_at; rfl) | (apply zas; rfl) | apply zau | (apply zaG; rfl) | (apply zaF; rfl) | apply zal | apply zao | apply zaz | apply zax | apply zaM | apply zbd | apply zaW | apply zaU | apply zaD | apply zaE | apply zag | apply zav | ((first | apply zam | apply zad); rfl; rfl; rfl; rfl) | (apply zaS; rfl; rfl; rfl; rfl; rfl; rfl; exact zai rfl) | (apply zaJ; rfl; rfl; rfl; rfl; rfl; omega) | (apply zaI; rfl; rfl; rfl; rfl; rfl; omega) | (apply zaT; rfl; rfl; rfl; rfl; rfl; (unfold fit; omega)) | (apply zap; rfl; rfl; rfl; rfl; exact zaB rfl; (focus repeat' first | assumption | (apply Ext.get; assumption)); (first | exact Nat.le_of_ble_eq_true rfl | (rw [zaj]; omega) | (simp; done) | (simp; omega)); (first | exact zah (by omega) | rfl)) | fail))
      apply P_idxO; rfl; rfl; rfl; rfl; rfl; exact zai rfl; exact zae rfl; rfl; omega
      (repeat' (first | apply zat | apply zac | (apply O_at; rfl) | (apply zas; rfl) | apply zau | (apply zaG; rfl) | (apply zaF; rfl) | apply zal | apply zao | apply zaz | apply zax | apply zaM | apply zbd | apply zaW | apply zaU | apply zaD | apply zaE | apply zag | apply zav | ((first | apply zam | apply zad); rfl; rfl; rfl; rfl) | (apply zaS; rfl; rfl; rfl; rfl; rfl; rfl; exact zai rfl) | (apply zaJ; rfl; rfl; rfl; rfl; rfl; omega) | (apply zaI; rfl; rfl; rfl; rfl; rfl; omega) | (apply zaT; rfl; rfl; rfl; rfl; rfl; (unfold fit; omega)) | (apply zap; rfl; rfl; rfl; rfl; exact zaB rfl; (focus repeat' first | assumption | (apply Ext.get; assumption)); (first | exact Nat.le_of_ble_eq_true rfl | (rw [zaj]; omega) | (simp; done) | (simp; omega)); (first | exact zah (by omega) | rfl)) | fail))
      apply zaO; rfl; rfl; rfl; rfl; rfl; rfl
      exact chg1_ok (c := c.getD (o + i) cop0) hK ((hc _ (by omega)).ext hx) (hP _ (by omega)) (hx.get hb)
      rintro _ h2 (⟨rfl, w, x2⟩ | ⟨rfl, w, x2⟩)
      · (repeat' (first | apply zat | apply zac | (apply O_at; rfl) | (apply zas; rfl) | apply zau | (apply zaG; rfl) | (apply zaF; rfl) | apply zal | apply zao | apply zaz | apply zax | apply zaM | apply zbd | apply zaW | apply zaU | apply zaD | apply zaE | apply zag | apply zav | ((first | apply zam | apply zad); rfl; rfl; rfl; rfl) | (apply zaS; rfl; rfl; rfl; rfl; rfl; rfl; exact zai rfl) | (apply zaJ; rfl; rfl; rfl; rfl; rfl; omega) | (apply zaI; rfl; rfl; rfl; rfl; rfl; omega) | (apply zaT; rfl; rfl; rfl; rfl; rfl; (unfold fit; omega)) | (apply zap; rfl; rfl; rfl; rfl; exact zaB rfl; (focus repeat' first | assumption | (apply Ext.get; assumption)); (first | exact Nat.le_of_ble_eq_true rfl | (rw [zaj]; omega) | (simp; done) | (simp; omega)); (first | exact zah (by omega) | rfl)) | fail))
        exact ⟨.inr rfl, _, rfl, .inl ⟨i, rfl, i, hlt, w⟩, by (focus repeat' first | exact Ext.refl _ | assumption | (refine Ext.trans ?_ (by assumption)))⟩
      · (repeat' (first | apply zat | apply zac | (apply O_at; rfl) | (apply zas; rfl) | apply zau | (apply zaG; rfl) | (apply zaF; rfl) | apply zal | apply zao | apply zaz | apply zax | apply zaM | apply zbd | apply zaW | apply zaU | apply zaD | apply zaE | apply zag | apply zav | ((first | apply zam | apply zad); rfl; rfl; rfl; rfl) | (apply zaS; rfl; rfl; rfl; rfl; rfl; rfl; exact zai rfl) | (apply zaJ; rfl; rfl; rfl; rfl; rfl; omega) | (apply zaI; rfl; rfl; rfl; rfl; rfl; omega) | (apply zaT; rfl; rfl; rfl; rfl; rfl; (unfold fit; omega)) | (apply zap; rfl; rfl; rfl; rfl; exact zaB rfl; (focus repeat' first | assumption | (apply Ext.get; assumption)); (first | exact Nat.le_of_ble_eq_true rfl | (rw [zaj]; omega) | (simp; done) | (simp; omega)); (first | exact zah (by omega) | rfl)) | fail))
        refine zbF (ih (i + 1) _ (by omega) ⟨hlt, by (focus repeat' first | exact Ext.refl _ | assumption | (refine Ext.trans ?_ (by assumption))), fun k hk => ?_⟩) (by (focus repeat' first | rfl | exact trivial | apply And.intro))
        by_cases hki : k = i
        · subst hki; exact w
        · exact hno k (by omega)
    · (repeat' (first | apply zat | apply zac | (apply O_at; rfl) | (apply zas; rfl) | apply zau | (apply zaG; rfl) | (apply zaF; rfl) | apply zal | apply zao | apply zaz | apply zax | apply zaM | apply zbd | apply zaW | apply zaU | apply zaD | apply zaE | apply zag | apply zav | ((first | apply zam | apply zad); rfl; rfl; rfl; rfl) | (apply zaS; rfl; rfl; rfl; rfl; rfl; rfl; exact zai rfl) | (apply zaJ; rfl; rfl; rfl; rfl; rfl; omega) | (apply zaI; rfl; rfl; rfl; rfl; rfl; omega) | (apply zaT; rfl; rfl; rfl; rfl; rfl; (unfold fit; omega)) | (apply zap; rfl; rfl; rfl; rfl; exact zaB rfl; (focus repeat' first | assumption | (apply Ext.get; assumption)); (first | exact Nat.le_of_ble_eq_true rfl | (rw [zaj]; omega) | (simp; done) | (simp; omega)); (first | exact zah (by omega) | rfl)) | fail))
      exact ⟨.inr rfl, _, rfl, .inr ⟨rfl, fun ⟨k, hk, w⟩ => hno k (by omega) w⟩, by (focus repeat' first | exact Ext.refl _ | assumption | (refine Ext.trans ?_ (by assumption)))⟩
  · exact ⟨Nat.zero_le _, Ext.refl _, fun k hk => by omega⟩
  · (focus repeat' first | rfl | exact trivial | apply And.intro)
theorem zhj (hK : NoK K) {c : List Cop} {b o n off cap bl : Nat} {e : TypeId} {own : Bool} {people : Int} {m : Nat} {j : Int} {h : Heap} (hg : h.get? b = some (.cells (copCells c) e own)) (hoff : 0 < n → off = o * 2) (hon : o + n ≤ c.length) (hn : n ≤ 1000)
    (hc : ∀ i, i < c.length → RowIn (c.getD i cop0).r h) (hP : ∀ i, i < c.length → EntP people m (ent (c.getD i cop0))) (hb : h.get? bl = some (.cells [.int .i64 j] 3 true)) :
    CallW Tryz.prog K 116 #[.slice (some ⟨b, off, none⟩) n cap, .func (.func 117) #[] #[.pointer (some ⟨bl, 0, none⟩)]] h (IfB (ChgAt c o n j) h) := by
  refine body (N := 9) Tryz.func116 rfl (hK _ _ _ rfl) rfl rfl ?_
  (repeat' (first | apply zat | apply zac | (apply O_at; rfl) | (apply zas; rfl) | apply zau | apply zax | apply zav | ((first | apply zam | apply zad); rfl; rfl; rfl; rfl) | (apply zkF; rfl; rfl; rfl; rfl; rfl; omega) | (apply zkE; rfl; rfl; rfl; rfl; rfl; omega) | fail))
  apply zaO; rfl; rfl; rfl; rfl; rfl; rfl
  exact index_ok hK hg hoff hon hn hc hP hb
  rintro _ h1 ⟨⟨i, rfl, w⟩ | ⟨rfl, w⟩, x1⟩
  · (repeat' (first | apply zat | apply zac | (apply O_at; rfl) | (apply zas; rfl) | apply zau | apply zax | apply zav | ((first | apply zam | apply zad); rfl; rfl; rfl; rfl) | (apply zkF; rfl; rfl; rfl; rfl; rfl; omega) | (apply zkE; rfl; rfl; rfl; rfl; rfl; omega) | fail))
    exact ⟨.inr rfl, _, rfl, .inl ⟨rfl, w, x1⟩⟩
  · (repeat' (first | apply zat | apply zac | (apply O_at; rfl) | (apply zas; rfl) | apply zau | apply zax | apply zav | ((first | apply zam | apply zad); rfl; rfl; rfl; rfl) | (apply zkF; rfl; rfl; rfl; rfl; rfl; omega) | (apply zkE; rfl; rfl; rfl; rfl; rfl; omega) | fail))
    exact ⟨.inr rfl, _, rfl, .inr ⟨rfl, w, x1⟩⟩
theorem zf4 (hK : NoK K) {c : List Cop} {b o n off cap : Nat} {e : TypeId} {own : Bool} {people : Int} {m : Nat} {j : Int} {h : Heap} (hg : h.get? b = some (.cells (copCells c) e own)) (hoff : 0 < n → off = o * 2) (hon : o + n ≤ c.length) (hn : n ≤ 1000)
    (hc : ∀ i, i < c.length → RowIn (c.getD i cop0).r h) (hP : ∀ i, i < c.length → EntP people m (ent (c.getD i cop0))) :
    CallW Tryz.prog K 81 #[.slice (some ⟨b, off, none⟩) n cap, .int .i64 j] h (IfB (ChgAt c o n j) h) := by
  refine body (N := 8) Tryz.func81 rfl (hK _ _ _ rfl) rfl rfl ?_
  (repeat' (first | apply zat | apply zac | (apply O_at; rfl) | (apply zas; rfl) | apply zau | apply zax | apply zav | ((first | apply zam | apply zad); rfl; rfl; rfl; rfl) | (apply zcE; rfl; rfl; rfl; rfl; rfl) | (apply zaK; rfl; rfl; rfl; rfl; exact zae rfl; rfl; rfl) | fail))
  apply zaO; rfl; rfl; rfl; rfl; rfl; rfl
  exact zhj hK (zab hg) hoff hon hn (fun i hi => (hc i hi).ext (by (focus repeat' first | exact Ext.refl _ | assumption | apply Ext.push | (refine Ext.trans ?_ (by assumption))))) hP zaa
  rintro _ h1 (⟨rfl, w, x1⟩ | ⟨rfl, w, x1⟩)
  · (repeat' (first | apply zat | apply zac | (apply O_at; rfl) | (apply zas; rfl) | apply zau | apply zax | apply zav | ((first | apply zam | apply zad); rfl; rfl; rfl; rfl) | (apply zcE; rfl; rfl; rfl; rfl; rfl) | (apply zaK; rfl; rfl; rfl; rfl; exact zae rfl; rfl; rfl) | fail))
    exact ⟨.inr rfl, _, rfl, .inl ⟨rfl, w, by (focus repeat' first | exact Ext.refl _ | assumption | apply Ext.push | (refine Ext.trans ?_ (by assumption)))⟩⟩
  · (repeat' (first | apply zat | apply zac | (apply O_at; rfl) | (apply zas; rfl) | apply zau | apply zax | apply zav | ((first | apply zam | apply zad); rfl; rfl; rfl; rfl) | (apply zcE; rfl; rfl; rfl; rfl; rfl) | (apply zaK; rfl; rfl; rfl; rfl; exact zae rfl; rfl; rfl) | fail))
    exact ⟨.inr rfl, _, rfl, .inr ⟨rfl, w, by (focus repeat' first | exact Ext.refl _ | assumption | apply Ext.push | (refine Ext.trans ?_ (by assumption)))⟩⟩
end Go.AX.Sa

namespace Go.AX.Sa
open Go.Proofs
set_option maxRecDepth 100000
variable {K : Known}
/-! The numbers of a span, left early. -/
theorem zg0 (hK : NoK K) {bs l : Nat} {p : Int × Int} {e : TypeId} {own : Bool} {h : Heap} (hp : -1000000 ≤ p.1 ∧ p.2 ≤ 1000000 ∧ p.1 ≤ p.2 + 1) (I : Nat → Heap → Prop) (R : Heap → Prop)
    (hb : ∀ k h', I k h' → h'.get? bs = some (.cells [.int .i64 p.1, .int .i64 p.2] e own)) (h0 : I 0 h)
    (round : ∀ (k : Nat) h', p.1 + (k : Nat) ≤ p.2 → I k h' → RoundW Tryz.prog K l #[.int .i64 (p.1 + (k : Nat))] h' (fun r h1 => (r = .bool true ∧ I (k + 1) h1) ∨ (r = .bool false ∧ R h1))) :
    CallW Tryz.prog K 134 #[.func (.yield l) #[] #[], .pointer (some ⟨bs, 0, none⟩)] h (fun _ h1 => I (p.2 - p.1 + 1).toNat h1 ∨ R h1) := by
  have hb0 := hb 0 h h0
  refine body (N := 17) Tryz.func134 rfl (hK _ _ _ rfl) rfl rfl ?_
  (repeat' (first | apply zat | apply zac | (apply O_at; rfl) | (apply zas; rfl) | apply zau | (apply zaG; rfl) | (apply zaF; rfl) | apply zal | apply zao | apply zaz | apply zaU | apply zaD | apply zaE | apply zag | apply zav | (apply za5; rfl; rfl; rfl) | ((first | apply zam | apply zad); rfl; rfl; rfl; rfl) | (apply P_fa; rfl; rfl; rfl; rfl; exact zaL rfl; (first | exact Nat.zero_add _ | exact Nat.add_zero _ | rfl)) | (apply za0; rfl; rfl; rfl; rfl; rfl; rfl) | (apply zc8; rfl; rfl; rfl; rfl; rfl; all_goals intro _) | (apply zaT; rfl; rfl; rfl; rfl; rfl; (unfold fit; omega)) | (apply zak; rfl; rfl; rfl; rfl; exact zaq rfl; (focus repeat' first | assumption); (first | rfl | assumption)) | fail))
  refine zbX (fun k : Nat => [(3, .int .i64 (p.1 + (k : Nat))), (0, .func (.yield l) #[] #[]), (1, .pointer (some ⟨bs, 0, none⟩))])
    (fun k h' => k ≤ (p.2 - p.1 + 1).toNat ∧ I k h') (fun k => (p.2 - p.1 + 1).toNat - k) ?_ 0 ?_ ?_
  · intro k h' ⟨hk1, hi⟩ ih
    have hb' := hb k h' hi
    by_cases hlt : p.1 + (k : Nat) ≤ p.2
    · (repeat' (first | apply zat | apply zac | (apply O_at; rfl) | (apply zas; rfl) | apply zau | (apply zaG; rfl) | (apply zaF; rfl) | apply zal | apply zao | apply zaz | apply zaU | apply zaD | apply zaE | apply zag | apply zav | (apply za5; rfl; rfl; rfl) | ((first | apply zam | apply zad); rfl; rfl; rfl; rfl) | (apply P_fa; rfl; rfl; rfl; rfl; exact zaL rfl; (first | exact Nat.zero_add _ | exact Nat.add_zero _ | rfl)) | (apply za0; rfl; rfl; rfl; rfl; rfl; rfl) | (apply zc8; rfl; rfl; rfl; rfl; rfl; all_goals intro _) | (apply zaT; rfl; rfl; rfl; rfl; rfl; (unfold fit; omega)) | (apply zak; rfl; rfl; rfl; rfl; exact zaq rfl; (focus repeat' first | assumption); (first | rfl | assumption)) | fail))
      · apply P_yield; rfl; rfl; rfl; rfl; rfl
        · exact round k h' hlt hi
        rintro _ h2 (⟨rfl, ha⟩ | ⟨rfl, ha⟩)
        · (repeat' (first | apply zat | apply zac | (apply O_at; rfl) | (apply zas; rfl) | apply zau | (apply zaG; rfl) | (apply zaF; rfl) | apply zal | apply zao | apply zaz | apply zaU | apply zaD | apply zaE | apply zag | apply zav | (apply za5; rfl; rfl; rfl) | ((first | apply zam | apply zad); rfl; rfl; rfl; rfl) | (apply P_fa; rfl; rfl; rfl; rfl; exact zaL rfl; (first | exact Nat.zero_add _ | exact Nat.add_zero _ | rfl)) | (apply za0; rfl; rfl; rfl; rfl; rfl; rfl) | (apply zc8; rfl; rfl; rfl; rfl; rfl; all_goals intro _) | (apply zaT; rfl; rfl; rfl; rfl; rfl; (unfold fit; omega)) | (apply zak; rfl; rfl; rfl; rfl; exact zaq rfl; (focus repeat' first | assumption); (first | rfl | assumption)) | fail))
          refine zbF (ih (k + 1) _ ?_ ⟨by omega, ha⟩) ?_
          · omega
          · refine ⟨?_, rfl, rfl, trivial⟩
            show some (Value.int .i64 (p.1 + (k : Nat) + 1)) = _
            congr 2
            omega
        · (repeat' (first | apply zat | apply zac | (apply O_at; rfl) | (apply zas; rfl) | apply zau | (apply zaG; rfl) | (apply zaF; rfl) | apply zal | apply zao | apply zaz | apply zaU | apply zaD | apply zaE | apply zag | apply zav | (apply za5; rfl; rfl; rfl) | ((first | apply zam | apply zad); rfl; rfl; rfl; rfl) | (apply P_fa; rfl; rfl; rfl; rfl; exact zaL rfl; (first | exact Nat.zero_add _ | exact Nat.add_zero _ | rfl)) | (apply za0; rfl; rfl; rfl; rfl; rfl; rfl) | (apply zc8; rfl; rfl; rfl; rfl; rfl; all_goals intro _) | (apply zaT; rfl; rfl; rfl; rfl; rfl; (unfold fit; omega)) | (apply zak; rfl; rfl; rfl; rfl; exact zaq rfl; (focus repeat' first | assumption); (first | rfl | assumption)) | fail))
          exact ⟨.inl rfl, _, rfl, .inr ha⟩
      · omega
    · (repeat' (first | apply zat | apply zac | (apply O_at; rfl) | (apply zas; rfl) | apply zau | (apply zaG; rfl) | (apply zaF; rfl) | apply zal | apply zao | apply zaz | apply zaU | apply zaD | apply zaE | apply zag | apply zav | (apply za5; rfl; rfl; rfl) | ((first | apply zam | apply zad); rfl; rfl; rfl; rfl) | (apply P_fa; rfl; rfl; rfl; rfl; exact zaL rfl; (first | exact Nat.zero_add _ | exact Nat.add_zero _ | rfl)) | (apply za0; rfl; rfl; rfl; rfl; rfl; rfl) | (apply zc8; rfl; rfl; rfl; rfl; rfl; all_goals intro _) | (apply zaT; rfl; rfl; rfl; rfl; rfl; (unfold fit; omega)) | (apply zak; rfl; rfl; rfl; rfl; exact zaq rfl; (focus repeat' first | assumption); (first | rfl | assumption)) | fail))
      · omega
      · refine ⟨.inl rfl, _, rfl, .inl ?_⟩
        have e : k = (p.2 - p.1 + 1).toNat := by omega
        subst e
        exact hi
  · exact ⟨Nat.zero_le _, h0⟩
  · refine ⟨?_, rfl, rfl, trivial⟩
    show some (Value.int .i64 p.1) = _
    congr 2
    omega
end Go.AX.Sa
