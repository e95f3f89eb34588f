/- The law ProofNows at the reading: what the functions that it calls answer (2). -/
import Derived.Test.YtliligceejfakaaGreatDoorProofNowsTextA
namespace Go.AX.Sa
open Go.Proofs
set_option maxRecDepth 100000
variable {K : Known}
/-! What stands, line by line: the specification. -/
theorem zb4 (hK : NoK K) {c : Cop} {people : Int} {n : Nat} {j : Int} {h : Heap} (hc : RowIn c.r h) (hP : EntP people n (ent c)) :
    CallW Tryz.prog K 109 #[enV c, .int .i64 j] h (IfB (changes (ent c) j) h) := by
  obtain ⟨rd, hcb, _⟩ := hc
  obtain ⟨par, q, k, t⟩ := c
  dsimp only [enV, ent] at rd hcb hP ⊢
  refine body (N := 29) Tryz.func109 rfl (hK _ _ _ rfl) rfl rfl ?_
  rcases ent0 hP with h1 | h1 | h1
  · dsimp only at h1
    subst h1
    (repeat' (first | apply zap | apply zac | (apply O_at; rfl) | (apply zaj; rfl) | apply zak | apply zaw | apply zas | (apply zbM; rfl; rfl; rfl) | ((first | apply zaf | apply zad); rfl; rfl; rfl; rfl) | (apply P_fa; rfl; rfl; rfl; rfl; exact zau rfl; (first | exact Nat.zero_add _ | exact Nat.add_zero _ | rfl)) | (apply za9; rfl; rfl; rfl; rfl; rfl; rfl) | (apply zbE; rfl; rfl; rfl; rfl; rfl; omega) | (apply zai; rfl; rfl; rfl; rfl; exact zaq rfl; (focus repeat' first | exact zaa | assumption | apply zab); (first | exact zae (by omega) | rfl | assumption)) | (apply zaF; rfl; rfl; rfl; rfl; exact zah rfl; rfl; rfl) | fail))
    exact ⟨.inr rfl, _, rfl, .inr ⟨rfl, by unfold changes; simp, by (focus repeat' first | exact Ext.refl _ | assumption | apply Ext.push)⟩⟩
  · dsimp only at h1
    subst h1
    have z := ent2.1 hP
    obtain ⟨b, e, own, rfl, hg⟩ := rd.at (by rw [zag]; omega)
    (repeat' (first | apply zap | apply zac | (apply O_at; rfl) | (apply zaj; rfl) | apply zak | apply zaw | apply zas | (apply zbM; rfl; rfl; rfl) | ((first | apply zaf | apply zad); rfl; rfl; rfl; rfl) | (apply P_fa; rfl; rfl; rfl; rfl; exact zau rfl; (first | exact Nat.zero_add _ | exact Nat.add_zero _ | rfl)) | (apply za9; rfl; rfl; rfl; rfl; rfl; rfl) | (apply zbE; rfl; rfl; rfl; rfl; rfl; omega) | (apply zby; rfl; rfl; rfl; rfl; rfl; omega) | (apply zla; rfl; rfl; rfl; rfl; rfl; all_goals intro _) | (apply zdl; rfl; rfl; rfl; rfl; rfl; exact zat rfl; exact zah rfl; (first | assumption | exact zq0 | exact zq1 | rfl | exact (Int.toNat_of_nonneg (by omega)).symm); omega) | (apply zai; rfl; rfl; rfl; rfl; exact zaq rfl; (focus repeat' first | exact zaa | assumption | apply zab); (first | exact zae (by omega) | rfl | assumption)) | (apply zaF; rfl; rfl; rfl; rfl; exact zah rfl; rfl; rfl) | fail))
    · rename_i w
      exact ⟨.inr rfl, _, rfl, .inl ⟨rfl, .inl ⟨rfl, w⟩, by (focus repeat' first | exact Ext.refl _ | assumption | apply Ext.push)⟩⟩
    · rename_i w
      exact ⟨.inr rfl, _, rfl, .inr ⟨rfl, by unfold changes; simpa using w, by (focus repeat' first | exact Ext.refl _ | assumption | apply Ext.push)⟩⟩
  · dsimp only at h1
    subst h1
    have z := ent3.1 hP
    obtain ⟨b, e, own, rfl, hg⟩ := rd.at (by rw [zag]; omega)
    (repeat' (first | apply zap | apply zac | (apply O_at; rfl) | (apply zaj; rfl) | apply zak | apply zaw | apply zas | (apply zbM; rfl; rfl; rfl) | ((first | apply zaf | apply zad); rfl; rfl; rfl; rfl) | (apply P_fa; rfl; rfl; rfl; rfl; exact zau rfl; (first | exact Nat.zero_add _ | exact Nat.add_zero _ | rfl)) | (apply za9; rfl; rfl; rfl; rfl; rfl; rfl) | (apply zbE; rfl; rfl; rfl; rfl; rfl; omega) | (apply zby; rfl; rfl; rfl; rfl; rfl; omega) | (apply zla; rfl; rfl; rfl; rfl; rfl; all_goals intro _) | (apply zdl; rfl; rfl; rfl; rfl; rfl; exact zat rfl; exact zah rfl; (first | assumption | exact zq0 | exact zq1 | rfl | exact (Int.toNat_of_nonneg (by omega)).symm); omega) | (apply zai; rfl; rfl; rfl; rfl; exact zaq rfl; (focus repeat' first | exact zaa | assumption | apply zab); (first | exact zae (by omega) | rfl | assumption)) | (apply zaF; rfl; rfl; rfl; rfl; exact zah rfl; rfl; rfl) | fail))
    · rename_i w
      exact ⟨.inr rfl, _, rfl, .inl ⟨rfl, .inr ⟨rfl, w⟩, by (focus repeat' first | exact Ext.refl _ | assumption | apply Ext.push)⟩⟩
    · rename_i w
      exact ⟨.inr rfl, _, rfl, .inr ⟨rfl, by unfold changes; simpa using w, by (focus repeat' first | exact Ext.refl _ | assumption | apply Ext.push)⟩⟩
theorem zko {G : Pg} {k : Nat} {j a : Int} (h : k < G.c.length) : numF ((logL G).take (k + 1)) j a = numS j (numF ((logL G).take k) j a) (ent (G.c.getD k cop0)) := by
  have e : (logL G).take (k + 1) = (logL G).take k ++ [ent (G.c.getD k cop0)] := by
    rw [List.take_add_one, zhR h]; rfl
  rw [e, zcd]
theorem zjL {G : Pg} {k : Nat} {j a : Int} (h : k < G.c.length) : setF ((logL G).take (k + 1)) j a = setS j (setF ((logL G).take k) j a) (ent (G.c.getD k cop0)) := by
  have e : (logL G).take (k + 1) = (logL G).take k ++ [ent (G.c.getD k cop0)] := by
    rw [List.take_add_one, zhR h]; rfl
  rw [e, zdH]
theorem log_ent0 {G : Pg} (hP : PgP G) : ∀ e ∈ logL G, EntP G.people G.n e := by
  intro e he
  obtain ⟨c, hc, rfl⟩ := List.mem_map.1 he
  obtain ⟨j, hj⟩ := List.getElem?_of_mem hc
  have hl := (List.getElem?_eq_some_iff.1 hj).1
  have := hP.ent j hl
  simpa [List.getD_eq_getElem?_getD, hj] using this
theorem zfJ (hK : NoK K) {G : Pg} {j : Nat} (hP : PgP G) (hj : j < G.n) : ∀ (k : Nat) (kk : Int) (h : Heap), kk = (k : Nat) → PgAt G h → k ≤ G.c.length →
    CallW Tryz.prog K 65 #[pgV G, .int .i64 (j : Nat), .int .i64 kk] h (IsV (.int .i64 (numF ((logL G).take k) (j : Nat) (sett G j))) h) := by
  intro k
  induction k with
  | zero =>
    intro kk h hkk hT _
    subst hkk
    have hnn := hP.n
    obtain ⟨people, pl, kl, n, l, p, kc, c⟩ := G
    obtain ⟨len, rl, rc, each, hbl, hpb⟩ := hT
    dsimp only [pgV] at len rl hnn hj ⊢
    obtain ⟨b, e, own, rfl, hg⟩ := rl.at (by rw [zag]; omega)
    refine body (N := 44) Tryz.func65 rfl (hK _ _ _ rfl) rfl rfl ?_
    (repeat' (first | apply zap | apply zac | (apply O_at; rfl) | (apply zaj; rfl) | apply zak | (apply za4; rfl) | apply zaw | apply zaX | apply zas | ((first | apply zaf | apply zad | apply zbe); rfl; rfl; rfl; rfl) | (apply P_fa; rfl; rfl; rfl; rfl; exact zau rfl; (first | exact Nat.zero_add _ | exact Nat.add_zero _ | rfl)) | (apply zby; rfl; rfl; rfl; rfl; rfl; omega) | (apply zb6; rfl; rfl; rfl; rfl; rfl; exact zat rfl; exact zah rfl; (first | assumption | exact zq2 | rfl | exact (Int.toNat_of_nonneg (by omega)).symm); omega) | (apply zai; rfl; rfl; rfl; rfl; exact zaq rfl; (focus repeat' first | exact zaa | assumption | apply zab | (apply Ext.get; assumption)); (first | exact zae (by omega) | rfl | assumption)) | (apply zaF; rfl; rfl; rfl; rfl; exact zah rfl; rfl; rfl) | fail))
    exact ⟨.inr rfl, _, rfl, rfl, by (focus repeat' first | exact Ext.refl _ | assumption | apply Ext.push | (refine Ext.trans ?_ (by assumption)))⟩
  | succ k ih =>
    intro kk h hkk hT hk
    subst hkk
    have hT' := hT
    have hP' := hP
    have hnn := hP.n
    have hcc := hP.c
    have hsm := zeE (j := (j : Nat)) (hP.line j hj).2.2 ((logL G).take k) (fun e he => log_ent0 hP e (List.mem_of_mem_take he))
    have eP := hP.ent k hk
    rw [zko hk]
    obtain ⟨people, pl, kl, n, l, p, kc, c⟩ := G
    obtain ⟨len, rl, rc, each, hbl, hpb⟩ := hT
    dsimp only at len rl rc each hnn hj hcc hk eP ih hsm ⊢
    obtain ⟨b, e, own, rfl, hg⟩ := rc.at (by rw [zaE]; omega)
    have eR := each k hk
    have hk1 : ((k + 1 : Nat) : Int) - 1 = (k : Nat) := by omega
    have hq : fit ((numF ((logL ⟨people, pl, kl, n, l, some ⟨b, 0, none⟩, kc, c⟩).take k) (j : Nat) (sett ⟨people, pl, kl, n, l, some ⟨b, 0, none⟩, kc, c⟩ j)).tdiv 10) := by have := zc1 hsm; unfold NumP at this; unfold fit; omega
    refine body (N := 44) Tryz.func65 rfl (hK _ _ _ rfl) rfl rfl ?_
    dsimp only [pgV]
    (repeat' (first | apply zap | apply zac | (apply O_at; rfl) | (apply zaj; rfl) | apply zak | (apply zaM; rfl) | apply zax | ((first | apply zaf | apply zad | apply zbe); rfl; rfl; rfl; rfl) | (apply P_fa; rfl; rfl; rfl; rfl; exact zau rfl; (first | exact Nat.zero_add _ | exact Nat.add_zero _ | rfl)) | (apply zbE; rfl; rfl; rfl; rfl; rfl; omega) | (apply zev; rfl; rfl; rfl; rfl; rfl; (unfold fit; omega)) | (apply zb6; rfl; rfl; rfl; rfl; rfl; exact zat rfl; exact zah rfl; (first | assumption | exact zq2 | rfl | exact (Int.toNat_of_nonneg (by omega)).symm); omega) | (apply zai; rfl; rfl; rfl; rfl; exact zaq rfl; (focus repeat' first | exact zaa | assumption | apply zab | (apply Ext.get; assumption)); (first | exact zae (by omega) | rfl | assumption)) | (apply zaA; rfl; rfl; rfl; rfl; exact zaT rfl; (focus repeat' first | exact zaa | assumption | apply zab | (apply Ext.get; assumption)); (first | exact Nat.le_of_ble_eq_true rfl | (rw [zaE]; omega) | (simp; done) | (simp; omega) | (rw [zag]; omega)); (first | exact zaS (by omega) | rfl)) | (apply zaD; rfl; rfl; rfl; rfl; exact zah rfl; rfl; rfl; rfl) | (apply zaF; rfl; rfl; rfl; rfl; exact zah rfl; rfl; rfl) | (apply zbf; rfl; rfl; rfl; rfl; exact zah rfl; rfl; rfl) | fail))
    generalize hcd : c.getD k cop0 = C at *
    by_cases hch : changes (ent C) (j : Nat)
    · rcases hch with ⟨c1, c2⟩ | ⟨c1, c2⟩
      · have ec : changes (ent C) (j : Nat) := .inl ⟨c1, c2⟩
        obtain ⟨par, q, k1, t⟩ := C
        dsimp only [ent] at c1 c2 eP eR ec ⊢
        subst c1
        have z := ent2.1 eP
        obtain ⟨b2, e2, own2, rfl, hg2⟩ := eR.rd.at (by rw [zag]; dsimp only; omega)
        dsimp only at hg2
        (repeat' (first | apply zap | apply zac | (apply O_at; rfl) | (apply zaj; rfl) | apply zak | (apply za4; rfl) | (apply zaM; rfl) | apply zax | apply zaw | apply zaX | apply zas | ((first | apply zaf | apply zad | apply zbe); rfl; rfl; rfl; rfl) | (apply P_fa; rfl; rfl; rfl; rfl; exact zau rfl; (first | exact Nat.zero_add _ | exact Nat.add_zero _ | rfl)) | (apply zby; rfl; rfl; rfl; rfl; rfl; omega) | (apply zdl; rfl; rfl; rfl; rfl; rfl; exact zat rfl; exact zah rfl; (first | assumption | exact zq2 | rfl | exact (Int.toNat_of_nonneg (by omega)).symm); omega) | (apply zai; rfl; rfl; rfl; rfl; exact zaq rfl; (focus repeat' first | exact zaa | assumption | apply zab | (apply Ext.get; assumption)); (first | exact zae (by omega) | rfl | assumption)) | (apply zan; rfl; rfl; rfl; rfl; rfl; rfl; exact yes (zb4 hK (c := ⟨2, ⟨some ⟨b2, 0, none⟩, k1, t⟩⟩) (eR.ext (by (focus repeat' first | exact Ext.refl _ | assumption | apply Ext.push | (refine Ext.trans ?_ (by assumption))))) eP) ec; (rintro _ _ ⟨rfl, _⟩)) | fail))
        refine ⟨.inr rfl, _, rfl, ?_, by (focus repeat' first | exact Ext.refl _ | assumption | apply Ext.push | (refine Ext.trans ?_ (by assumption)))⟩
        rw [numS, if_pos ⟨rfl, c2⟩]; rfl
      · have ec : changes (ent C) (j : Nat) := .inr ⟨c1, c2⟩
        obtain ⟨par, q, k1, t⟩ := C
        dsimp only [ent] at c1 c2 eP eR ec ⊢
        subst c1
        (repeat' (first | apply zap | apply zac | (apply O_at; rfl) | (apply zaj; rfl) | apply zak | (apply zaM; rfl) | apply zax | ((first | apply zaf | apply zad | apply zbe); rfl; rfl; rfl; rfl) | (apply P_fa; rfl; rfl; rfl; rfl; exact zau rfl; (first | exact Nat.zero_add _ | exact Nat.add_zero _ | rfl)) | (apply zbE; rfl; rfl; rfl; rfl; rfl; omega) | (apply zev; rfl; rfl; rfl; rfl; rfl; (unfold fit; omega)) | (apply zai; rfl; rfl; rfl; rfl; exact zaq rfl; (focus repeat' first | exact zaa | assumption | apply zab | (apply Ext.get; assumption)); (first | exact zae (by omega) | rfl | assumption)) | (apply zaA; rfl; rfl; rfl; rfl; exact zaT rfl; (focus repeat' first | exact zaa | assumption | apply zab | (apply Ext.get; assumption)); (first | exact Nat.le_of_ble_eq_true rfl | (rw [zaE]; omega) | (simp; done) | (simp; omega) | (rw [zag]; omega)); (first | exact zaS (by omega) | rfl)) | (apply zan; rfl; rfl; rfl; rfl; rfl; rfl; exact yes (zb4 hK (c := ⟨3, ⟨q, k1, t⟩⟩) (eR.ext (by (focus repeat' first | exact Ext.refl _ | assumption | apply Ext.push | (refine Ext.trans ?_ (by assumption))))) eP) ec; (rintro _ _ ⟨rfl, _⟩)) | (apply zan; rfl; rfl; rfl; rfl; rfl; rfl; exact ih _ _ (by omega) (hT'.ext (by (focus repeat' first | exact Ext.refl _ | assumption | apply Ext.push | (refine Ext.trans ?_ (by assumption))))) (by omega); (rintro _ _ ⟨rfl, _⟩)) | fail))
        apply P_quo; rfl; rfl; rfl; rfl; rfl; decide; exact hq
        (repeat' (first | (apply O_at; rfl) | (apply zaj; rfl) | apply zak | apply zaw | apply zas | ((first | apply zaf | apply zad | apply zbe); rfl; rfl; rfl; rfl) | fail))
        refine ⟨.inr rfl, _, rfl, ?_, by (focus repeat' first | exact Ext.refl _ | assumption | apply Ext.push | (refine Ext.trans ?_ (by assumption)))⟩
        rw [numS, if_neg (by simp), if_pos ⟨rfl, c2⟩]; rfl
    · obtain ⟨par, q, k1, t⟩ := C
      dsimp only [ent] at hch eP eR ⊢
      (repeat' (first | apply zap | apply zac | (apply O_at; rfl) | (apply zaj; rfl) | apply zak | (apply za4; rfl) | apply zaw | apply zaX | apply zas | ((first | apply zaf | apply zad | apply zbe); rfl; rfl; rfl; rfl) | (apply zev; rfl; rfl; rfl; rfl; rfl; (unfold fit; omega)) | (apply zaA; rfl; rfl; rfl; rfl; exact zaT rfl; (focus repeat' first | exact zaa | assumption | apply zab | (apply Ext.get; assumption)); (first | exact Nat.le_of_ble_eq_true rfl | (rw [zaE]; omega) | (simp; done) | (simp; omega) | (rw [zag]; omega)); (first | exact zaS (by omega) | rfl)) | (apply zan; rfl; rfl; rfl; rfl; rfl; rfl; exact no (zb4 hK (c := ⟨par, ⟨q, k1, t⟩⟩) (eR.ext (by (focus repeat' first | exact Ext.refl _ | assumption | apply Ext.push | (refine Ext.trans ?_ (by assumption))))) eP) hch; (rintro _ _ ⟨rfl, _⟩)) | (apply zan; rfl; rfl; rfl; rfl; rfl; rfl; exact ih _ _ (by omega) (hT'.ext (by (focus repeat' first | exact Ext.refl _ | assumption | apply Ext.push | (refine Ext.trans ?_ (by assumption))))) (by omega); (rintro _ _ ⟨rfl, _⟩)) | fail))
      refine ⟨.inr rfl, _, rfl, ?_, by (focus repeat' first | exact Ext.refl _ | assumption | apply Ext.push | (refine Ext.trans ?_ (by assumption)))⟩
      rw [numS, if_neg (fun w => hch (.inl w)), if_neg (fun w => hch (.inr w))]; rfl
theorem zfI (hK : NoK K) {G : Pg} {j : Nat} (hP : PgP G) (hj : j < G.n) : ∀ (k : Nat) (kk : Int) (h : Heap), kk = (k : Nat) → PgAt G h → k ≤ G.c.length →
    CallW Tryz.prog K 66 #[pgV G, .int .i64 (j : Nat), .int .i64 kk] h (IsV (.int .i64 (setF ((logL G).take k) (j : Nat) (setr G j))) h) := by
  intro k
  induction k with
  | zero =>
    intro kk h hkk hT _
    subst hkk
    have hnn := hP.n
    obtain ⟨people, pl, kl, n, l, p, kc, c⟩ := G
    obtain ⟨len, rl, rc, each, hbl, hpb⟩ := hT
    dsimp only [pgV] at len rl hnn hj ⊢
    obtain ⟨b, e, own, rfl, hg⟩ := rl.at (by rw [zag]; omega)
    refine body (N := 42) Tryz.func66 rfl (hK _ _ _ rfl) rfl rfl ?_
    (repeat' (first | apply zap | apply zac | (apply O_at; rfl) | (apply zaj; rfl) | apply zak | (apply za4; rfl) | apply zaw | apply zaX | apply zas | ((first | apply zaf | apply zad); rfl; rfl; rfl; rfl) | (apply P_fa; rfl; rfl; rfl; rfl; exact zau rfl; (first | exact Nat.zero_add _ | exact Nat.add_zero _ | rfl)) | (apply zby; rfl; rfl; rfl; rfl; rfl; omega) | (apply zb6; rfl; rfl; rfl; rfl; rfl; exact zat rfl; exact zah rfl; (first | assumption | exact zq0 | exact zq1 | rfl | exact (Int.toNat_of_nonneg (by omega)).symm); omega) | (apply zai; rfl; rfl; rfl; rfl; exact zaq rfl; (focus repeat' first | exact zaa | assumption | apply zab); (first | exact zae (by omega) | rfl | assumption)) | (apply zaF; rfl; rfl; rfl; rfl; exact zah rfl; rfl; rfl) | fail))
    exact ⟨.inr rfl, _, rfl, rfl, by (focus repeat' first | exact Ext.refl _ | assumption | apply Ext.push | (refine Ext.trans ?_ (by assumption)))⟩
  | succ k ih =>
    intro kk h hkk hT hk
    subst hkk
    have hT' := hT
    have hnn := hP.n
    have hcc := hP.c
    have eP := hP.ent k hk
    rw [zjL hk]
    obtain ⟨people, pl, kl, n, l, p, kc, c⟩ := G
    obtain ⟨len, rl, rc, each, hbl, hpb⟩ := hT
    dsimp only at len rl rc each hnn hj hcc hk eP ih ⊢
    obtain ⟨b, e, own, rfl, hg⟩ := rc.at (by rw [zaE]; omega)
    have eR := each k hk
    have hk1 : ((k + 1 : Nat) : Int) - 1 = (k : Nat) := by omega
    refine body (N := 42) Tryz.func66 rfl (hK _ _ _ rfl) rfl rfl ?_
    dsimp only [pgV]
    by_cases h2 : (c.getD k cop0).par = 2
    · have z : (c.getD k cop0).r.s.length = 3 := by
        have w := eP
        unfold ent at w
        rw [h2] at w
        exact (ent2.1 w).1
      obtain ⟨b2, e2, own2, hq2, hg2⟩ := eR.rd.at (by rw [zag]; omega)
      (repeat' (first | apply zap | apply zac | (apply O_at; rfl) | (apply zaj; rfl) | apply zak | (apply zaM; rfl) | apply zax | ((first | apply zaf | apply zad); rfl; rfl; rfl; rfl) | (apply P_fa; rfl; rfl; rfl; rfl; exact zau rfl; (first | exact Nat.zero_add _ | exact Nat.add_zero _ | rfl)) | (apply zbE; rfl; rfl; rfl; rfl; rfl; omega) | (apply zby; rfl; rfl; rfl; rfl; rfl; omega) | (apply zev; rfl; rfl; rfl; rfl; rfl; (unfold fit; omega)) | (apply zb6; rfl; rfl; rfl; rfl; rfl; exact zat rfl; exact zah rfl; (first | assumption | exact zq0 | exact zq1 | rfl | exact (Int.toNat_of_nonneg (by omega)).symm); omega) | (apply zai; rfl; rfl; rfl; rfl; exact zaq rfl; (focus repeat' first | exact zaa | assumption | apply zab); (first | exact zae (by omega) | rfl | assumption)) | (apply zaA; rfl; rfl; rfl; rfl; exact zaT rfl; (focus repeat' first | exact zaa | assumption | apply zab); (first | exact Nat.le_of_ble_eq_true rfl | (rw [zaE]; omega) | (simp; done) | (simp; omega) | (rw [zag]; omega)); (first | exact zaS (by omega) | rfl)) | (apply zaD; rfl; rfl; rfl; rfl; exact zah rfl; rfl; rfl; rfl) | (apply zaF; rfl; rfl; rfl; rfl; exact zah rfl; rfl; rfl) | (apply zbf; rfl; rfl; rfl; rfl; exact zah rfl; rfl; rfl) | fail))
      rw [hq2]
      (repeat' (first | apply zap | apply zac | (apply O_at; rfl) | (apply zaj; rfl) | apply zak | (apply za4; rfl) | (apply zaM; rfl) | apply zax | apply zaw | apply zaX | apply zas | ((first | apply zaf | apply zad); rfl; rfl; rfl; rfl) | (apply P_fa; rfl; rfl; rfl; rfl; exact zau rfl; (first | exact Nat.zero_add _ | exact Nat.add_zero _ | rfl)) | (apply za9; rfl; rfl; rfl; rfl; rfl; rfl) | (apply zla; rfl; rfl; rfl; rfl; rfl; all_goals intro _) | (apply zev; rfl; rfl; rfl; rfl; rfl; (unfold fit; omega)) | (apply zdl; rfl; rfl; rfl; rfl; rfl; exact zat rfl; exact zah rfl; (first | assumption | exact zq0 | exact zq1 | rfl | exact (Int.toNat_of_nonneg (by omega)).symm); omega) | (apply zai; rfl; rfl; rfl; rfl; exact zaq rfl; (focus repeat' first | exact zaa | assumption | apply zab); (first | exact zae (by omega) | rfl | assumption)) | (apply zaA; rfl; rfl; rfl; rfl; exact zaT rfl; (focus repeat' first | exact zaa | assumption | apply zab); (first | exact Nat.le_of_ble_eq_true rfl | (rw [zaE]; omega) | (simp; done) | (simp; omega) | (rw [zag]; omega)); (first | exact zaS (by omega) | rfl)) | (apply zan; rfl; rfl; rfl; rfl; rfl; rfl; exact ih _ _ (by omega) (hT'.ext (by (focus repeat' first | exact Ext.refl _ | assumption | apply Ext.push | (refine Ext.trans ?_ (by assumption))))) (by omega); (rintro _ _ ⟨rfl, _⟩)) | fail))
      · rename_i w
        refine ⟨.inr rfl, _, rfl, ?_, by (focus repeat' first | exact Ext.refl _ | assumption | apply Ext.push | (refine Ext.trans ?_ (by assumption)))⟩
        rw [setS, if_pos ⟨h2, w⟩]; rfl
      · rename_i w _ _
        refine ⟨.inr rfl, _, rfl, ?_, by (focus repeat' first | exact Ext.refl _ | assumption | apply Ext.push | (refine Ext.trans ?_ (by assumption)))⟩
        rw [setS, if_neg (fun y => w y.2)]; rfl
    · (repeat' (first | apply zap | apply zac | (apply O_at; rfl) | (apply zaj; rfl) | apply zak | (apply zaM; rfl) | apply zax | apply zaw | apply zas | (apply zbM; rfl; rfl; rfl) | ((first | apply zaf | apply zad); rfl; rfl; rfl; rfl) | (apply P_fa; rfl; rfl; rfl; rfl; exact zau rfl; (first | exact Nat.zero_add _ | exact Nat.add_zero _ | rfl)) | (apply za9; rfl; rfl; rfl; rfl; rfl; rfl) | (apply zbE; rfl; rfl; rfl; rfl; rfl; omega) | (apply zev; rfl; rfl; rfl; rfl; rfl; (unfold fit; omega)) | (apply zb6; rfl; rfl; rfl; rfl; rfl; exact zat rfl; exact zah rfl; (first | assumption | exact zq0 | exact zq1 | rfl | exact (Int.toNat_of_nonneg (by omega)).symm); omega) | (apply zai; rfl; rfl; rfl; rfl; exact zaq rfl; (focus repeat' first | exact zaa | assumption | apply zab); (first | exact zae (by omega) | rfl | assumption)) | (apply zaA; rfl; rfl; rfl; rfl; exact zaT rfl; (focus repeat' first | exact zaa | assumption | apply zab); (first | exact Nat.le_of_ble_eq_true rfl | (rw [zaE]; omega) | (simp; done) | (simp; omega) | (rw [zag]; omega)); (first | exact zaS (by omega) | rfl)) | (apply zaD; rfl; rfl; rfl; rfl; exact zah rfl; rfl; rfl; rfl) | (apply zaF; rfl; rfl; rfl; rfl; exact zah rfl; rfl; rfl) | (apply zbf; rfl; rfl; rfl; rfl; exact zah rfl; rfl; rfl) | (apply zan; rfl; rfl; rfl; rfl; rfl; rfl; exact ih _ _ (by omega) (hT'.ext (by (focus repeat' first | exact Ext.refl _ | assumption | apply Ext.push | (refine Ext.trans ?_ (by assumption))))) (by omega); (rintro _ _ ⟨rfl, _⟩)) | fail))
      refine ⟨.inr rfl, _, rfl, ?_, by (focus repeat' first | exact Ext.refl _ | assumption | apply Ext.push | (refine Ext.trans ?_ (by assumption)))⟩
      rw [setS, if_neg (fun y => h2 y.1)]; rfl
theorem zjN (hK : NoK K) {l m : List Int} {p q : Option Addr} {cap cap' : Nat} {h : Heap} (hn : l.length ≤ 1000) (_hm : m.length ≤ 1000) (hr : Rd h p (ints l)) (hq : Rd h q (ints m)) :
    CallW Tryz.prog K 21 #[.slice p l.length cap, .slice q m.length cap'] h (IfB (l = m) h) := by
  refine body (N := 26) Tryz.func21 rfl (hK _ _ _ rfl) rfl rfl ?_
  by_cases hl : l.length = m.length
  · (repeat' (first | apply zap | apply zac | (apply O_at; rfl) | (apply zaj; rfl) | apply zak | (apply zaM; rfl) | apply zar | apply zax | ((first | apply zaf | apply zad | apply zaL); rfl; rfl; rfl; rfl) | (apply zbk; rfl; rfl; rfl; rfl; rfl; rfl; exact zat rfl) | (apply P_neqF; rfl; rfl; rfl; rfl; rfl; omega) | fail))
    refine zbg (fun k : Nat => [(0, .slice p l.length cap), (1, .slice q m.length cap'), (5, .int .i64 (k : Nat))])
      (fun k h' => k ≤ l.length ∧ Ext h h' ∧ ∀ j, j < k → l.getD j 0 = m.getD j 0) (fun k => l.length - k) ?_ 0 ?_ ?_
    · intro k h' ⟨hk, hx, hj⟩ ih
      by_cases hlt : k < l.length
      · obtain ⟨b, e, own', rfl, hg⟩ := hr.at (by rw [zag]; omega)
        obtain ⟨b2, e2, own2, rfl, hg2⟩ := hq.at (by rw [zag]; omega)
        (repeat' (first | apply zap | apply zac | (apply O_at; rfl) | (apply N_at; rfl) | (apply zaj; rfl) | apply zak | (apply za4; rfl) | (apply zaM; rfl) | (apply zbd; exact zav (by decide +kernel)) | apply zar | apply zax | apply zaw | (apply zbH; rfl; exact (.inl (Nat.le_refl 1))) | apply zaX | apply zei | apply zcm | apply zaZ | apply zas | ((first | apply zaf | apply zad | apply zaL); rfl; rfl; rfl; rfl) | (apply zbk; rfl; rfl; rfl; rfl; rfl; rfl; exact zat rfl) | (apply zbN; rfl; rfl; rfl; rfl; rfl; omega) | (apply zcE; rfl; rfl; rfl; rfl; rfl; (unfold fit; omega)) | (apply M_neq; rfl; rfl; rfl; rfl; rfl; all_goals intro _) | (apply zdm; rfl; rfl; rfl; rfl; rfl; exact zat rfl; exact zah rfl; (first | assumption | rfl | exact (Int.toNat_of_nonneg (by omega)).symm); omega) | (((apply zbu; rfl; rfl; rfl; rfl; exact zaq rfl; exact zaQ (by decide +kernel)); (focus repeat' first | assumption | (apply Ext.get; assumption)); (first | exact zae (by omega) | rfl | assumption)); (first | assumption | exact zaG _ _ | rfl | (focus simp [same, same.all2]; done)); (first | rfl | assumption | exact hwv _ | (simp [within]; omega))) | fail))
        · rename_i w
          exact ⟨.inr rfl, _, rfl, .inr ⟨rfl, fun z => w (by rw [z]), by (focus repeat' first | exact Ext.refl _ | assumption)⟩⟩
        · rename_i w
          refine zbh (ih (k + 1) _ ?_ ⟨hlt, ?_, fun j hj' => ?_⟩) ?_
          · omega
          · (focus repeat' first | exact Ext.refl _ | assumption)
          · by_cases hjk : j = k
            · subst hjk; exact w
            · exact hj j (by omega)
          · (focus repeat' first | rfl | exact trivial | apply And.intro)
      · (repeat' (first | apply zap | apply zac | (apply O_at; rfl) | (apply zaj; rfl) | apply zak | (apply zaM; rfl) | apply zbl | apply zaw | apply zbm | apply za7 | apply za8 | apply zas | ((first | apply zaf | apply zad | apply zaL); rfl; rfl; rfl; rfl) | (apply zbk; rfl; rfl; rfl; rfl; rfl; rfl; exact zat rfl) | (apply zbO; rfl; rfl; rfl; rfl; rfl; omega) | fail))
        refine ⟨.inr rfl, _, rfl, .inl ⟨rfl, ?_, by (focus repeat' first | exact Ext.refl _ | assumption)⟩⟩
        apply List.ext_getElem hl
        intro j h1 h2
        have := hj j (by omega)
        simpa [h1, h2] using this
    · exact ⟨Nat.zero_le _, Ext.refl _, fun j hj => by omega⟩
    · (focus repeat' first | rfl | exact trivial | apply And.intro)
  · (repeat' (first | apply zap | apply zac | (apply O_at; rfl) | (apply zaj; rfl) | apply zak | (apply za4; rfl) | apply zaw | apply zaX | apply zas | ((first | apply zaf | apply zad | apply zaL); rfl; rfl; rfl; rfl) | (apply zbk; rfl; rfl; rfl; rfl; rfl; rfl; exact zat rfl) | (apply P_neqT; rfl; rfl; rfl; rfl; rfl; omega) | fail))
    exact ⟨.inr rfl, _, rfl, .inr ⟨rfl, fun q => hl (by rw [q]), by (focus repeat' first | exact Ext.refl _ | assumption)⟩⟩
end Go.AX.Sa

namespace Go.AX.Sa
open Go.Proofs
set_option maxRecDepth 100000
variable {K : Known}
theorem ziU (G : Pg) (L : List Ent) (k : Nat) : (List.range (k + 1)).map (numA G L) = (List.range k).map (numA G L) ++ [numA G L k] := by simp [List.range_succ]
theorem ziG (G : Pg) (L : List Ent) (k : Nat) : (List.range (k + 1)).map (setA G L) = (List.range k).map (setA G L) ++ [setA G L k] := by simp [List.range_succ]
theorem zhS (G : Pg) : (logL G).take G.c.length = logL G := List.take_of_length_le (by rw [logL_len]; exact Nat.le_refl _)
theorem zj2 (hK : NoK K) {G : Pg} {h : Heap} (hT : PgAt G h) (hP : PgP G) : CallW Tryz.prog K 22 #[pgV G] h (IsL (numsL G (logL G)) h) := by
  have hnn := hP.n
  have hcc := hP.c
  have hb1 := hT.bl
  have hb2 := hT.bg
  refine body (N := 22) Tryz.func22 rfl (hK _ _ _ rfl) rfl rfl ?_
  unfold pgV
  (repeat' (first | apply zap | apply zac | (apply O_at; rfl) | (apply zaj; rfl) | apply zak | apply zar | ((first | apply zaf | apply zad); rfl; rfl; rfl; rfl) | (apply zaF; rfl; rfl; rfl; rfl; exact zah rfl; rfl; rfl) | fail))
  refine zbg (fun a : Nat × Value => [(4, .int .i64 (a.1 : Nat)), (3, a.2), (1, .pointer (some ⟨h.n, 0, none⟩))])
    (fun a h' => a.1 ≤ G.n ∧ Ext (h.push (.cells (pgC G) 25 true)) h' ∧ OutI 3 (h.push (.cells (pgC G) 25 true)) h' a.2 ((List.range a.1).map (numA G (logL G)))) (fun a => G.n - a.1) ?_ (0, .slice none 0 0) ?_ ?_
  · rintro ⟨k, v⟩ h' ⟨hk, hx, ho⟩ ih
    dsimp only at hk hx ho ih ⊢
    have g0 := hx.get zaa
    unfold pgC at g0
    by_cases hlt : k < G.n
    · have hcall := fun (h1 : Heap) (q : Ext h h1) => zfJ hK hP hlt G.c.length _ h1 rfl (hT.ext q) (Nat.le_refl _)
      unfold pgV at hcall
      (repeat' (first | apply zap | apply zac | (apply O_at; rfl) | (apply zaj; rfl) | apply zak | (apply za4; rfl) | apply zar | apply zax | apply zaZ | ((first | apply zaf | apply zad); rfl; rfl; rfl; rfl) | (apply P_fa; rfl; rfl; rfl; rfl; exact zau rfl; (first | exact Nat.zero_add _ | exact Nat.add_zero _ | rfl)) | (apply zbk; rfl; rfl; rfl; rfl; rfl; rfl; exact zat rfl) | (apply zbN; rfl; rfl; rfl; rfl; rfl; omega) | (apply zcE; rfl; rfl; rfl; rfl; rfl; (unfold fit; omega)) | (apply zai; rfl; rfl; rfl; rfl; exact zaq rfl; (focus repeat' first | exact zaa | assumption | (apply Ext.get; assumption)); (first | rfl | assumption)) | (apply zaA; rfl; rfl; rfl; rfl; exact zaT rfl; (focus repeat' first | exact zaa | assumption | (apply Ext.get; assumption)); (first | exact Nat.le_of_ble_eq_true rfl | (simp; done) | (simp; omega)); rfl) | (apply zih; rfl; rfl; rfl; rfl; rfl; rfl; rfl; exact zgn rfl) | (apply P_appI; rfl; rfl; rfl; rfl; rfl; rfl; rfl; rfl; exact zgn rfl; exact zat rfl; (focus repeat' first | exact zaa | assumption | (apply Ext.get; assumption)); (apply OutI.ext; assumption; (focus repeat' first | exact Ext.refl _ | assumption | apply Ext.push | (refine Ext.trans ?_ (by assumption)))); (focus repeat' first | exact Ext.refl _ | assumption | apply Ext.push | (refine Ext.trans ?_ (by assumption))); (first | omega | (simp; omega)); (intro _ _ _ _)) | (apply zan; rfl; rfl; rfl; rfl; rfl; rfl; exact hcall _ (by (focus repeat' first | exact Ext.refl _ | assumption | apply Ext.push | (refine Ext.trans ?_ (by assumption)))); (rintro _ _ ⟨rfl, _⟩)) | fail))
      rename_i x1 v2 h2 o2 x2
      refine zbh (ih (k + 1, v2) _ (by dsimp only; omega) ⟨hlt, x2, ?_⟩) (by (focus repeat' first | rfl | exact trivial | apply And.intro))
      rw [ziU]
      rw [zhS] at o2
      exact o2
    · obtain rfl : k = G.n := by omega
      (repeat' (first | apply zap | apply zac | (apply O_at; rfl) | (apply zaj; rfl) | apply zak | (apply zaM; rfl) | apply zbl | apply zaw | apply zbm | apply za7 | apply za8 | apply zas | ((first | apply zaf | apply zad); rfl; rfl; rfl; rfl) | (apply P_fa; rfl; rfl; rfl; rfl; exact zau rfl; (first | exact Nat.zero_add _ | exact Nat.add_zero _ | rfl)) | (apply zbk; rfl; rfl; rfl; rfl; rfl; rfl; exact zat rfl) | (apply zbO; rfl; rfl; rfl; rfl; rfl; omega) | (apply zai; rfl; rfl; rfl; rfl; exact zaq rfl; (focus repeat' first | exact zaa | assumption | (apply Ext.get; assumption)); (first | rfl | assumption)) | fail))
      obtain ⟨p5, c5, rfl, r5, x5⟩ := ho.isL hx
      exact ⟨.inr rfl, _, rfl, _, _, rfl, r5, by (focus repeat' first | exact Ext.refl _ | assumption | apply Ext.push | (refine Ext.trans ?_ (by assumption)))⟩
  · exact ⟨Nat.zero_le _, Ext.refl _, .inl ⟨rfl, rfl⟩⟩
  · (focus repeat' first | rfl | exact trivial | apply And.intro)
theorem ze4 (hK : NoK K) {G : Pg} {h : Heap} (hT : PgAt G h) (hP : PgP G) : CallW Tryz.prog K 23 #[pgV G] h (IsL (setsL G (logL G)) h) := by
  have hnn := hP.n
  have hcc := hP.c
  have hb1 := hT.bl
  have hb2 := hT.bg
  refine body (N := 22) Tryz.func23 rfl (hK _ _ _ rfl) rfl rfl ?_
  unfold pgV
  (repeat' (first | apply zap | apply zac | (apply O_at; rfl) | (apply zaj; rfl) | apply zak | apply zar | ((first | apply zaf | apply zad); rfl; rfl; rfl; rfl) | (apply zaF; rfl; rfl; rfl; rfl; exact zah rfl; rfl; rfl) | fail))
  refine zbg (fun a : Nat × Value => [(4, .int .i64 (a.1 : Nat)), (3, a.2), (1, .pointer (some ⟨h.n, 0, none⟩))])
    (fun a h' => a.1 ≤ G.n ∧ Ext (h.push (.cells (pgC G) 25 true)) h' ∧ OutI 3 (h.push (.cells (pgC G) 25 true)) h' a.2 ((List.range a.1).map (setA G (logL G)))) (fun a => G.n - a.1) ?_ (0, .slice none 0 0) ?_ ?_
  · rintro ⟨k, v⟩ h' ⟨hk, hx, ho⟩ ih
    dsimp only at hk hx ho ih ⊢
    have g0 := hx.get zaa
    unfold pgC at g0
    by_cases hlt : k < G.n
    · have hcall := fun (h1 : Heap) (q : Ext h h1) => zfI hK hP hlt G.c.length _ h1 rfl (hT.ext q) (Nat.le_refl _)
      unfold pgV at hcall
      (repeat' (first | apply zap | apply zac | (apply O_at; rfl) | (apply zaj; rfl) | apply zak | (apply za4; rfl) | apply zar | apply zax | apply zaZ | ((first | apply zaf | apply zad); rfl; rfl; rfl; rfl) | (apply P_fa; rfl; rfl; rfl; rfl; exact zau rfl; (first | exact Nat.zero_add _ | exact Nat.add_zero _ | rfl)) | (apply zbk; rfl; rfl; rfl; rfl; rfl; rfl; exact zat rfl) | (apply zbN; rfl; rfl; rfl; rfl; rfl; omega) | (apply zcE; rfl; rfl; rfl; rfl; rfl; (unfold fit; omega)) | (apply zai; rfl; rfl; rfl; rfl; exact zaq rfl; (focus repeat' first | exact zaa | assumption | (apply Ext.get; assumption)); (first | rfl | assumption)) | (apply zaA; rfl; rfl; rfl; rfl; exact zaT rfl; (focus repeat' first | exact zaa | assumption | (apply Ext.get; assumption)); (first | exact Nat.le_of_ble_eq_true rfl | (simp; done) | (simp; omega)); rfl) | (apply zih; rfl; rfl; rfl; rfl; rfl; rfl; rfl; exact zgn rfl) | (apply P_appI; rfl; rfl; rfl; rfl; rfl; rfl; rfl; rfl; exact zgn rfl; exact zat rfl; (focus repeat' first | exact zaa | assumption | (apply Ext.get; assumption)); (apply OutI.ext; assumption; (focus repeat' first | exact Ext.refl _ | assumption | apply Ext.push | (refine Ext.trans ?_ (by assumption)))); (focus repeat' first | exact Ext.refl _ | assumption | apply Ext.push | (refine Ext.trans ?_ (by assumption))); (first | omega | (simp; omega)); (intro _ _ _ _)) | (apply zan; rfl; rfl; rfl; rfl; rfl; rfl; exact hcall _ (by (focus repeat' first | exact Ext.refl _ | assumption | apply Ext.push | (refine Ext.trans ?_ (by assumption)))); (rintro _ _ ⟨rfl, _⟩)) | fail))
      rename_i x1 v2 h2 o2 x2
      refine zbh (ih (k + 1, v2) _ (by dsimp only; omega) ⟨hlt, x2, ?_⟩) (by (focus repeat' first | rfl | exact trivial | apply And.intro))
      rw [ziG]
      rw [zhS] at o2
      exact o2
    · obtain rfl : k = G.n := by omega
      (repeat' (first | apply zap | apply zac | (apply O_at; rfl) | (apply zaj; rfl) | apply zak | (apply zaM; rfl) | apply zbl | apply zaw | apply zbm | apply za7 | apply za8 | apply zas | ((first | apply zaf | apply zad); rfl; rfl; rfl; rfl) | (apply P_fa; rfl; rfl; rfl; rfl; exact zau rfl; (first | exact Nat.zero_add _ | exact Nat.add_zero _ | rfl)) | (apply zbk; rfl; rfl; rfl; rfl; rfl; rfl; exact zat rfl) | (apply zbO; rfl; rfl; rfl; rfl; rfl; omega) | (apply zai; rfl; rfl; rfl; rfl; exact zaq rfl; (focus repeat' first | exact zaa | assumption | (apply Ext.get; assumption)); (first | rfl | assumption)) | fail))
      obtain ⟨p5, c5, rfl, r5, x5⟩ := ho.isL hx
      exact ⟨.inr rfl, _, rfl, _, _, rfl, r5, by (focus repeat' first | exact Ext.refl _ | assumption | apply Ext.push | (refine Ext.trans ?_ (by assumption)))⟩
  · exact ⟨Nat.zero_le _, Ext.refl _, .inl ⟨rfl, rfl⟩⟩
  · (focus repeat' first | rfl | exact trivial | apply And.intro)
def HeardTo (G : Pg) (j q : Int) (i : Nat) : Prop := ∃ i', i' < i ∧ (reads (ent (G.c.getD i' cop0)) j ∧ inPair (ent (G.c.getD i' cop0)) q) ∧ ¬ ∃ k, i' ≤ k ∧ k < G.c.length ∧ changes (ent (G.c.getD k cop0)) j
end Go.AX.Sa

namespace Go.AX.Sa
open Go.Proofs
set_option maxRecDepth 100000
variable {K : Known}
end Go.AX.Sa

namespace Go.AX.Sa
open Go.Proofs
set_option maxRecDepth 100000
variable {K : Known}
/-! What stands, in memory. -/
def stC (G : Pg) (bn bs r : Nat) : List Value := [.int .i64 G.people, .slice G.pl G.n G.kl, .slice G.pg G.c.length G.kg, .slice (some ⟨bn, 0, none⟩) G.n unk, .slice (some ⟨bs, 0, none⟩) G.n unk, .map (some r)]
structure Ne4 (s bn bs r : Nat) : Prop where
  sn : s ≠ bn
  ss : s ≠ bs
  sr : s ≠ r
  ns : bn ≠ bs
  nr : bn ≠ r
  sr' : bs ≠ r
structure StB (G : Pg) (N S : List Int) (f : Int × Int → Bool) (s bn bs r : Nat) (h : Heap) : Prop where
  box : h.get? s = some (.cells (stC G bn bs r) 87 true)
  nums : h.get? bn = some (.cells (ints N) 3 true)
  sets : h.get? bs = some (.cells (ints S) 3 true)
  hrd : MapB h r f
  nl : N.length = G.n
  sl : S.length = G.n
/-- All but these three blocks stays. -/
structure Keep3 (bn bs r : Nat) (h h1 : Heap) : Prop where
  n : h.n ≤ h1.n
  get : ∀ b x, b ≠ bn → b ≠ bs → b ≠ r → h.get? b = some x → h1.get? b = some x
theorem Keep3.refl (bn bs r : Nat) (h : Heap) : Keep3 bn bs r h h := ⟨Nat.le_refl _, fun _ _ _ _ _ g => g⟩
theorem Keep3.trans {bn bs r : Nat} {h h1 h2 : Heap} (a : Keep3 bn bs r h h1) (b : Keep3 bn bs r h1 h2) : Keep3 bn bs r h h2 :=
  ⟨Nat.le_trans a.n b.n, fun c x p q w g => b.get c x p q w (a.get c x p q w g)⟩
theorem Keep3.ofN {bn bs r : Nat} {h h1 : Heap} (x : ExtBut bn h h1) : Keep3 bn bs r h h1 := ⟨x.n, fun _ _ p _ _ g => x.get p g⟩
theorem Keep3.ofR {bn bs r : Nat} {h h1 : Heap} (x : ExtBut r h h1) : Keep3 bn bs r h h1 := ⟨x.n, fun _ _ _ _ p g => x.get p g⟩
theorem Keep3.of {bn bs r : Nat} {h h1 : Heap} (x : Ext h h1) : Keep3 bn bs r h h1 := ⟨x.n, fun _ _ _ _ _ g => x.get g⟩
theorem Keep3.ext {bn bs r : Nat} {h0 h h1 : Heap} (k : Keep3 bn bs r h h1) (e : Ext h0 h) (a : h0.n ≤ bn) (b : h0.n ≤ bs) (c : h0.n ≤ r) : Ext h0 h1 :=
  ⟨Nat.le_trans e.n k.n, fun d x g => k.get d x (by have := Heap.get_lt g; omega) (by have := Heap.get_lt g; omega) (by have := Heap.get_lt g; omega) (e.get g)⟩
theorem StB.ext {G : Pg} {N S : List Int} {f : Int × Int → Bool} {s bn bs r : Nat} {h h1 : Heap} (x : StB G N S f s bn bs r h) (e : Ext h h1) : StB G N S f s bn bs r h1 := ⟨e.get x.box, e.get x.nums, e.get x.sets, x.hrd.ext e, x.nl, x.sl⟩
theorem StB.ne {G : Pg} {N S : List Int} {f : Int × Int → Bool} {s bn bs r : Nat} {h : Heap} (x : StB G N S f s bn bs r h) (hns : bn ≠ bs) : Ne4 s bn bs r := by
  obtain ⟨es, c, l, hm, _⟩ := x.hrd
  have b := x.box
  have n := x.nums
  have t := x.sets
  refine ⟨fun q => ?_, fun q => ?_, fun q => ?_, hns, fun q => ?_, fun q => ?_⟩
  · subst q; rw [b] at n; injection n with n; injection n with n _ _; simp only [stC, ints] at n; rcases N with _ | ⟨_, _ | ⟨_, _⟩⟩ <;> simp at n
  · subst q; rw [b] at t; injection t with n; injection n with n _ _; simp only [stC, ints] at n; rcases S with _ | ⟨_, _ | ⟨_, _⟩⟩ <;> simp at n
  · subst q; rw [b] at hm; cases hm
  · subst q; rw [n] at hm; cases hm
  · subst q; rw [t] at hm; cases hm
def keepCh (f : Int × Int → Bool) (j : Int) (k : Int) : Int × Int → Bool := fun q => if q.1 = j ∧ 0 ≤ q.2 ∧ q.2 < k then false else f q
theorem zg9 (f : Int × Int → Bool) (j : Int) (k : Nat) (q : Int × Int) : (if q = (j, (k : Int)) then false else keepCh f j k q) = keepCh f j (k + 1 : Nat) q := by
  unfold keepCh
  obtain ⟨a, b⟩ := q
  simp only [Prod.mk.injEq]
  by_cases h1 : a = j ∧ b = k
  · rw [if_pos h1, if_pos (by omega)]
  · rw [if_neg h1]
    by_cases h2 : a = j ∧ 0 ≤ b ∧ b < (k : Int)
    · rw [if_pos h2, if_pos (by omega)]
    · rw [if_neg h2, if_neg (by omega)]
theorem zgl (hK : NoK K) {G : Pg} {N S : List Int} {f : Int × Int → Bool} {s bn bs r : Nat} {j : Nat} {jj v : Int} {h : Heap} (hS : StB G N S f s bn bs r h) (hns : bn ≠ bs) (hp : 2 ≤ G.people ∧ G.people ≤ 6) (hjj : jj = (j : Nat)) (hj : j < G.n) (hn : G.n ≤ 1000) :
    CallW Tryz.prog K 146 #[.pointer (some ⟨s, 0, none⟩), .int .i64 jj, .int .i64 v] h (fun _ h1 => StB G (N.set j v) S (keepCh f j G.people) s bn bs r h1 ∧ Keep3 bn bs r h h1) := by
  subst hjj
  obtain ⟨n1, n2, n3, n4, n5, n6⟩ := hS.ne hns
  obtain ⟨box, nums, sets, hrd, nl, sl⟩ := hS
  obtain ⟨people, pl, kl, n, l, p, kc, c⟩ := G
  dsimp only at hp hj hn nl sl ⊢
  refine body (N := 30) Tryz.func146 rfl (hK _ _ _ rfl) rfl rfl ?_
  obtain ⟨m, rfl⟩ : ∃ m : Nat, people = m := ⟨people.toNat, by omega⟩
  have hj' : j < N.length := by omega
  (repeat' (first | apply zap | apply zac | (apply O_at; rfl) | (apply zaj; rfl) | apply zak | apply zar | ((first | apply zaf | apply zad); rfl; rfl; rfl; rfl) | (apply P_fa; rfl; rfl; rfl; rfl; exact zau rfl; (first | exact Nat.zero_add _ | exact Nat.add_zero _ | rfl)) | (apply zdl; rfl; rfl; rfl; rfl; rfl; exact zat rfl; exact zah rfl; (first | assumption | rfl | exact (Int.toNat_of_nonneg (by omega)).symm); omega) | (apply zai; rfl; rfl; rfl; rfl; exact zaq rfl; (focus repeat' first | assumption | (apply ExtBut.get; assumption; (first | assumption | omega | (simp only [Heap.push]; omega)))); (first | rfl | assumption)) | (apply zif; rfl; rfl; rfl; rfl; (focus repeat' first | assumption | (apply ExtBut.get; assumption; (first | assumption | omega | (simp only [Heap.push]; omega)))); exact zah rfl; (first | omega | (focus simp; done)); (intro _ _ _)) | (apply zhu; rfl; rfl; rfl; rfl) | fail))
  rename_i h1 g1 x1
  refine zbg (fun k : Nat => [(19, .int .i64 (k : Nat)), (18, .int .i64 (m : Nat)), (0, .pointer (some ⟨s, 0, none⟩)), (1, .int .i64 (j : Nat))])
    (fun k h' => k ≤ m ∧ h'.get? s = some (.cells (stC ⟨(m : Nat), pl, kl, n, l, p, kc, c⟩ bn bs r) 87 true) ∧ h'.get? bn = some (.cells (ints (N.set j v)) 3 true) ∧ h'.get? bs = some (.cells (ints S) 3 true) ∧ MapB h' r (keepCh f (j : Nat) (k : Nat)) ∧ Keep3 bn bs r h h') (fun k => m - k) ?_ 0 ?_ ?_
  · intro k h' ⟨hk, q1, q2, q3, q4, q5⟩ ih
    by_cases hlt : k < m
    · (repeat' (first | apply zap | apply zac | (apply O_at; rfl) | (apply zaj; rfl) | apply zak | (apply za4; rfl) | apply zar | apply zax | apply zaZ | ((first | apply zaf | apply zad); rfl; rfl; rfl; rfl) | (apply P_fa; rfl; rfl; rfl; rfl; exact zau rfl; (first | exact Nat.zero_add _ | exact Nat.add_zero _ | rfl)) | (apply zbN; rfl; rfl; rfl; rfl; rfl; omega) | (apply zcE; rfl; rfl; rfl; rfl; rfl; (unfold fit; omega)) | (apply zai; rfl; rfl; rfl; rfl; exact zaq rfl; (focus repeat' first | assumption | (apply ExtBut.get; assumption; (first | assumption | omega | (simp only [Heap.push]; omega)))); (first | rfl | assumption)) | (apply zeQ; rfl; rfl; rfl; rfl) | (apply zhu; rfl; rfl; rfl; rfl) | (apply zji; rfl; rfl; rfl; rfl; rfl; rfl; exact mapB85; (first | assumption); (intro _ _ _)) | fail))
      rename_i h2 m2 x2
      exact zbh (ih (k + 1) _ (by omega) ⟨hlt, x2.get n3 q1, x2.get n5 q2, x2.get n6 q3, m2.to (zg9 f _ k), q5.trans (.ofR x2)⟩) (by (focus repeat' first | rfl | exact trivial | apply And.intro))
    · (repeat' (first | apply zap | apply zac | (apply O_at; rfl) | (apply zaj; rfl) | apply zak | (apply zaM; rfl) | apply zbl | apply zbm | apply za7 | apply za8 | apply zas | (apply zbO; rfl; rfl; rfl; rfl; rfl; omega) | fail))
      obtain rfl : k = m := by omega
      exact ⟨.inl rfl, _, rfl, ⟨q1, q2, q3, q4, by simpa using nl, sl⟩, q5⟩
  · exact ⟨Nat.zero_le _, x1.get n1 box, g1, x1.get (fun q => n4 q.symm) sets, (hrd.but x1 (fun q => n5 q.symm)).to (fun q => by unfold keepCh; rw [if_neg (by omega)]), .ofN x1⟩
  · (focus repeat' first | rfl | exact trivial | apply And.intro)
/-- A line is set anew. -/
theorem mend_ok (hK : NoK K) {G : Pg} {N S : List Int} {f : Int × Int → Bool} {s bn bs r : Nat} {c : Cop} {j : Nat} {h : Heap} (hS : StB G N S f s bn bs r h) (hns : bn ≠ bs) (hp : 2 ≤ G.people ∧ G.people ≤ 6) (hn : G.n ≤ 1000) (hc : RowIn c.r h) (hl : c.r.s.length = 3) (hj : c.r.s.getD 1 0 = (j : Nat)) (hjn : j < G.n) :
    CallW Tryz.prog K 132 #[.pointer (some ⟨s, 0, none⟩), enV c] h (fun _ h1 => StB G (N.set j (c.r.s.getD 2 0)) (S.set j (c.r.s.getD 0 0)) (keepCh f j G.people) s bn bs r h1 ∧ Keep3 bn bs r h h1) := by
  obtain ⟨n1, n2, n3, n4, n5, n6⟩ := hS.ne hns
  have hS' := hS
  obtain ⟨box, nums, sets, hrd, nl, sl⟩ := hS
  obtain ⟨rd, hcb, _⟩ := hc
  obtain ⟨par, q, k, t⟩ := c
  dsimp only [enV] at rd hcb hl hj ⊢
  obtain ⟨b, e, own, rfl, hg⟩ := rd.at (by rw [zag]; omega)
  refine body (N := 30) Tryz.func132 rfl (hK _ _ _ rfl) rfl rfl ?_
  have hjs : j < S.length := by omega
  (repeat' (first | apply zap | apply zac | (apply O_at; rfl) | (apply N_at; rfl) | (apply zaj; rfl) | apply zak | (apply zbd; exact zav (by decide +kernel)) | (apply zbH; rfl; exact (.inl (Nat.le_refl 1))) | ((first | apply zaf | apply zaY); rfl; rfl; rfl; rfl) | ((first | apply P_fa | apply M_fa); rfl; rfl; rfl; rfl; exact zau rfl; (first | exact Nat.zero_add _ | exact Nat.add_zero _ | rfl)) | ((first | apply zdl | apply zdm); rfl; rfl; rfl; rfl; rfl; exact zat rfl; exact zah rfl; (first | assumption | exact zq0 | exact zq1 | exact zq2 | rfl | exact (Int.toNat_of_nonneg (by omega)).symm); omega) | (apply zai; rfl; rfl; rfl; rfl; exact zaq rfl; (focus repeat' first | exact zaa | assumption | apply zab | (apply ExtBut.get; assumption; (first | assumption | omega | (simp only [Heap.push]; omega)))); (first | exact zae (by omega) | rfl | assumption)) | (apply zif; rfl; rfl; rfl; rfl; (focus repeat' first | exact zaa | assumption | apply zab | (apply ExtBut.get; assumption; (first | assumption | omega | (simp only [Heap.push]; omega)))); exact zah rfl; (first | omega | (focus simp; done)); (intro _ _ _)) | (apply zhu; rfl; rfl; rfl; rfl) | (apply zaF; rfl; rfl; rfl; rfl; exact zah rfl; rfl; rfl) | (((apply zbu; rfl; rfl; rfl; rfl; exact zaq rfl; exact zaQ (by decide +kernel)); (focus repeat' first | exact zaa | assumption | apply zab | (apply ExtBut.get; assumption; (first | assumption | omega | (simp only [Heap.push]; omega)))); (first | exact zae (by omega) | rfl | assumption)); (first | assumption | exact zaG _ _ | exact zbX _ _ _ | rfl | (focus simp [same, same.all2]; done)); (first | rfl | assumption | exact hwv _ | (focus apply zbT; (focus repeat' first | exact zaa | assumption | apply zab | (apply ExtBut.get; assumption; (first | assumption | omega | (simp only [Heap.push]; omega)))); done) | (simp [within]; omega))) | fail))
  rename_i h1 g1 x1
  have sb := Heap.get_lt box
  have k1 : Keep3 bn bs r h h1 := ⟨Nat.le_trans (Nat.le_succ _) x1.n, fun c y _ w _ g => x1.get w (zab g)⟩
  have hS1 : StB G N (S.set j (t.getD 0 0)) f s bn bs r h1 := ⟨x1.get n2 (zab box), x1.get n4 (zab nums), g1, (hrd.ext ((Ext.refl h).push _)).but x1 (fun q => n6 q.symm), nl, by simpa using sl⟩
  apply zan; rfl; rfl; rfl; rfl; rfl; rfl; exact zgl hK hS1 hns hp hj hjn hn
  rintro _ h2 ⟨hS2, k2⟩
  (repeat' (first | (apply zaj; rfl) | apply zas | fail))
  exact ⟨.inl rfl, _, rfl, hS2, k1.trans k2⟩
/-- A figure falls out. -/
theorem fall_ok (hK : NoK K) {G : Pg} {N S : List Int} {f : Int × Int → Bool} {s bn bs r : Nat} {c : Cop} {j : Nat} {h : Heap} (hS : StB G N S f s bn bs r h) (hns : bn ≠ bs) (hp : 2 ≤ G.people ∧ G.people ≤ 6) (hn : G.n ≤ 1000) (hc : RowIn c.r h) (hl : c.r.s.length = 1) (hj : c.r.s.getD 0 0 = (j : Nat)) (hjn : j < G.n) (hN : NumP (N.getD j 0)) :
    CallW Tryz.prog K 133 #[.pointer (some ⟨s, 0, none⟩), enV c] h (fun _ h1 => StB G (N.set j ((N.getD j 0).tdiv 10)) S (keepCh f j G.people) s bn bs r h1 ∧ Keep3 bn bs r h h1) := by
  obtain ⟨n1, n2, n3, n4, n5, n6⟩ := hS.ne hns
  have hS' := hS.ext ((Ext.refl h).push (.cells (enV c).cells.toList 37 true))
  obtain ⟨box, nums, sets, hrd, nl, sl⟩ := hS
  obtain ⟨rd, hcb, _⟩ := hc
  obtain ⟨par, q, k, t⟩ := c
  dsimp only [enV] at rd hcb hl hj hS' ⊢
  obtain ⟨b, e, own, rfl, hg⟩ := rd.at (by rw [zag]; omega)
  refine body (N := 20) Tryz.func133 rfl (hK _ _ _ rfl) rfl rfl ?_
  have hjs : j < N.length := by omega
  have hq : fit ((N.getD j 0).tdiv 10) := by have := zc1 hN; unfold NumP at this; unfold fit; omega
  (repeat' (first | apply zap | apply zac | (apply O_at; rfl) | (apply zaj; rfl) | apply zak | ((first | apply zaf | apply zad); rfl; rfl; rfl; rfl) | (apply P_fa; rfl; rfl; rfl; rfl; exact zau rfl; (first | exact Nat.zero_add _ | exact Nat.add_zero _ | rfl)) | (apply zdl; rfl; rfl; rfl; rfl; rfl; exact zat rfl; exact zah rfl; (first | assumption | exact zq0 | rfl | exact (Int.toNat_of_nonneg (by omega)).symm); omega) | (apply zai; rfl; rfl; rfl; rfl; exact zaq rfl; (focus repeat' first | exact zaa | assumption | apply zab); (first | exact zae (by omega) | rfl | assumption)) | (apply zhu; rfl; rfl; rfl; rfl) | (apply zaF; rfl; rfl; rfl; rfl; exact zah rfl; rfl; rfl) | fail))
  apply P_quo; rfl; rfl; rfl; rfl; rfl; decide; exact hq
  (repeat' (first | (apply O_at; rfl) | fail))
  apply zan; rfl; rfl; rfl; rfl; rfl; rfl; exact zgl hK hS' hns hp hj hjn hn
  rintro _ h2 ⟨hS2, k2⟩
  (repeat' (first | (apply zaj; rfl) | apply zas | fail))
  exact ⟨.inl rfl, _, rfl, hS2, (Keep3.of ((Ext.refl h).push _)).trans k2⟩
end Go.AX.Sa

namespace Go.AX.Sa
open Go.Proofs
set_option maxRecDepth 100000
variable {K : Known}

/-! The numbers of a span. -/
def rng (a : Int) (k : Nat) : List Int := (List.range k).map fun i => a + (i : Nat)
theorem rng_succ (a : Int) (k : Nat) : rng a (k + 1) = rng a k ++ [a + (k : Nat)] := by simp [rng, List.range_succ]
def spanL (p : Int × Int) : List Int := rng p.1 (p.2 - p.1 + 1).toNat
theorem zjX (a : Int) : ∀ (n k : Nat), k < n → ∃ rest, rng a k ++ (a + (k : Nat)) :: rest = rng a n := by
  intro n k h
  refine ⟨(rng a n).drop (k + 1), ?_⟩
  have hl : (rng a n).length = n := by simp [rng]
  have ht : (rng a n).take k = rng a k := by
    simp only [rng, ← List.map_take, List.take_range, Nat.min_eq_left (Nat.le_of_lt h)]
  have hg : (rng a n)[k]'(by omega) = a + (k : Nat) := by simp [rng]
  rw [← ht, ← hg, List.getElem_cons_drop, List.take_append_drop]
def ValI (n : Int) (v : Value) (_ : Heap) : Prop := v = .int .i64 n

theorem zg4 (hK : NoK K) {bs : Nat} {p : Int × Int} {e : TypeId} {own : Bool} {h0 : Heap} (hp : -1000000 ≤ p.1 ∧ p.2 ≤ 1000000 ∧ p.1 ≤ p.2 + 1) (hb0 : h0.get? bs = some (.cells [.int .i64 p.1, .int .i64 p.2] e own)) :
    Iter Tryz.prog K 134 #[] #[.pointer (some ⟨bs, 0, none⟩)] h0 ValI (spanL p) (fun b => b = bs) := by
  refine ⟨fun b q => by subst q; exact Heap.get_lt hb0, fun h l I C hn _ hk hc hI hX => ?_⟩
  have hb := hk bs _ rfl hb0
  have hC : ¬ C bs := hX bs rfl
  show CallW Tryz.prog K 134 #[.func (.yield l) #[] #[], .pointer (some ⟨bs, 0, none⟩)] h _
  refine body (N := 17) Tryz.func134 rfl (hK _ _ _ rfl) rfl rfl ?_
  (repeat' (first | apply zap | apply zac | (apply O_at; rfl) | (apply zaj; rfl) | apply zak | apply zar | ((first | apply zaf | apply zad); rfl; rfl; rfl; rfl) | (apply P_fa; rfl; rfl; rfl; rfl; exact zau rfl; (first | exact Nat.zero_add _ | exact Nat.add_zero _ | rfl)) | (apply zai; rfl; rfl; rfl; rfl; exact zaq rfl; (focus repeat' first | assumption); (first | rfl | assumption)) | fail))
  refine zbg (fun k : Nat => [(3, .int .i64 (p.1 + (k : Nat))), (0, .func (.yield l) #[] #[]), (1, .pointer (some ⟨bs, 0, none⟩))])
    (fun k h' => k ≤ (p.2 - p.1 + 1).toNat ∧ After I (rng p.1 k) C h h') (fun k => (p.2 - p.1 + 1).toNat - k) ?_ 0 ?_ ?_
  · intro k h' ⟨hk1, C1, hi, hm, hkk, hn1⟩ ih
    have hb' := hkk bs _ hC hb
    by_cases hlt : p.1 + (k : Nat) ≤ p.2
    · (repeat' (first | apply zap | apply zac | (apply O_at; rfl) | (apply zaj; rfl) | apply zak | (apply zaM; rfl) | apply zbl | apply zbm | apply za7 | apply za8 | apply zas | (apply zbM; rfl; rfl; rfl) | ((first | apply zaf | apply zad); rfl; rfl; rfl; rfl) | (apply P_fa; rfl; rfl; rfl; rfl; exact zau rfl; (first | exact Nat.zero_add _ | exact Nat.add_zero _ | rfl)) | (apply za9; rfl; rfl; rfl; rfl; rfl; rfl) | (apply zfr; rfl; rfl; rfl; rfl; rfl; all_goals intro _) | (apply zai; rfl; rfl; rfl; rfl; exact zaq rfl; (focus repeat' first | assumption); (first | rfl | assumption)) | fail))
      · apply P_yield; rfl; rfl; rfl; rfl; rfl
        · exact hc.round _ _ C1 h' _ (zjX p.1 _ k (by omega)) rfl hi hn1 (fun b x q g => by subst q; rw [hb] at g; cases g; exact hb')
        rintro _ h2 ⟨rfl, ha⟩
        (repeat' (first | apply zap | apply zac | (apply O_at; rfl) | (apply zaj; rfl) | apply zak | (apply za4; rfl) | apply zar | apply zax | apply zaZ | ((first | apply zaf | apply zad); rfl; rfl; rfl; rfl) | (apply za9; rfl; rfl; rfl; rfl; rfl; rfl) | (apply zcE; rfl; rfl; rfl; rfl; rfl; (unfold fit; omega)) | fail))
        refine zbh (ih (k + 1) _ ?_ ⟨by omega, ?_⟩) ?_
        · omega
        · rw [rng_succ]; exact ha.join hm hkk hn1
        · refine ⟨?_, rfl, rfl, trivial⟩
          show some (Value.int .i64 (p.1 + (k : Nat) + 1)) = _
          congr 2
          omega
      · omega
    · (repeat' (first | apply zap | apply zac | (apply O_at; rfl) | (apply zaj; rfl) | apply zak | (apply zaM; rfl) | apply zbl | apply zbm | apply za7 | apply za8 | apply zas | (apply zbM; rfl; rfl; rfl) | ((first | apply zaf | apply zad); rfl; rfl; rfl; rfl) | (apply P_fa; rfl; rfl; rfl; rfl; exact zau rfl; (first | exact Nat.zero_add _ | exact Nat.add_zero _ | rfl)) | (apply za9; rfl; rfl; rfl; rfl; rfl; rfl) | (apply zfr; rfl; rfl; rfl; rfl; rfl; all_goals intro _) | (apply zai; rfl; rfl; rfl; rfl; exact zaq rfl; (focus repeat' first | assumption); (first | rfl | assumption)) | fail))
      · omega
      · refine ⟨.inl rfl, _, rfl, ?_⟩
        have e : k = (p.2 - p.1 + 1).toNat := by omega
        subst e
        exact ⟨C1, hi, hm, hkk, hn1⟩
  · exact ⟨Nat.zero_le _, C, hI, fun b q => Or.inl q, fun b x _ g => g, Nat.le_refl _⟩
  · refine ⟨?_, rfl, rfl, trivial⟩
    show some (Value.int .i64 p.1) = _
    congr 2
    omega

theorem zeD (hK : NoK K) {p : Int × Int} {h : Heap} (hp : -1000000 ≤ p.1 ∧ p.2 ≤ 1000000 ∧ p.1 ≤ p.2 + 1) :
    CallW Tryz.prog K 115 #[.agg #[.int .i64 p.1, .int .i64 p.2]] h fun v h1 => Ext h h1 ∧ ∃ bs, v = .func (.func 134) #[] #[.pointer (some ⟨bs, 0, none⟩)] ∧ h.n ≤ bs ∧ Iter Tryz.prog K 134 #[] #[.pointer (some ⟨bs, 0, none⟩)] h1 ValI (spanL p) (fun b => b = bs) := by
  refine body (N := 4) Tryz.func115 rfl (hK _ _ _ rfl) rfl rfl ?_
  (repeat' (first | apply zap | apply zac | (apply O_at; rfl) | (apply zaj; rfl) | apply zak | apply zaw | apply zas | (apply zad; rfl; rfl; rfl; rfl) | (apply zjh; rfl; rfl; rfl; rfl; rfl) | (apply zaF; rfl; rfl; rfl; rfl; exact zah rfl; rfl; rfl) | fail))
  refine ⟨.inr rfl, _, rfl, by (focus repeat' first | exact Ext.refl _ | assumption | apply Ext.push), h.n, rfl, Nat.le_refl _, zg4 hK hp zaa⟩
/-- The lines that an entry reads. -/
def rdL (e : Ent) : List Int := if e.1 = 1 then spanL (e.2.getD 2 0, e.2.getD 3 0) else []
theorem rdL_mem {e : Ent} {j : Int} : j ∈ rdL e ↔ reads e j := by
  unfold rdL reads
  by_cases h : e.1 = 1
  · rw [if_pos h]
    unfold spanL rng
    simp only [List.mem_map, List.mem_range]
    constructor
    · rintro ⟨i, hi, rfl⟩; exact ⟨h, by omega, by omega⟩
    · rintro ⟨_, h1, h2⟩; exact ⟨(j - e.2.getD 2 0).toNat, by omega, by omega⟩
  · rw [if_neg h]; simp [h]
theorem zfK (hK : NoK K) {c : Cop} {people : Int} {n : Nat} {h : Heap} (hc : RowIn c.r h) (hP : EntP people n (ent c)) (hn : n ≤ 1000) :
    CallW Tryz.prog K 80 #[enV c] h fun v h1 => Ext h h1 ∧ ∃ bs, v = .func (.func 134) #[] #[.pointer (some ⟨bs, 0, none⟩)] ∧ h.n ≤ bs ∧ Iter Tryz.prog K 134 #[] #[.pointer (some ⟨bs, 0, none⟩)] h1 ValI (rdL (ent c)) (fun b => b = bs) := by
  obtain ⟨rd, hcb, _⟩ := hc
  obtain ⟨par, q, k, t⟩ := c
  dsimp only [enV, ent] at rd hcb hP ⊢
  refine body (N := 18) Tryz.func80 rfl (hK _ _ _ rfl) rfl rfl ?_
  by_cases h1 : par = 1
  · subst h1
    have z := ent1.1 hP
    obtain ⟨b, e, own, rfl, hg⟩ := rd.at (by rw [zag]; omega)
    (repeat' (first | apply zap | apply zac | (apply O_at; rfl) | (apply N_at; rfl) | (apply zaj; rfl) | apply zak | (apply zaM; rfl) | (apply zbd; exact zav (by decide +kernel)) | apply zax | ((first | apply zad | apply zaY); rfl; rfl; rfl; rfl) | ((first | apply P_fa | apply M_fa); rfl; rfl; rfl; rfl; exact zau rfl; (first | exact Nat.zero_add _ | exact Nat.add_zero _ | rfl)) | (apply P_neqF; rfl; rfl; rfl; rfl; rfl; omega) | (apply zai; rfl; rfl; rfl; rfl; exact zaq rfl; (focus repeat' first | exact zaa | assumption | apply zab); (first | exact zae (by omega) | rfl | assumption)) | (apply zaF; rfl; rfl; rfl; rfl; exact zah rfl; rfl; rfl) | (apply zdm; rfl; rfl; rfl; rfl; rfl; exact zat rfl; exact zah rfl; (first | assumption | exact zq2 | exact zq3 | rfl | exact (Int.toNat_of_nonneg (by omega)).symm); omega) | (((apply zbu; rfl; rfl; rfl; rfl; exact zaq rfl; exact zaQ (by decide +kernel)); (focus repeat' first | exact zaa | assumption | apply zab); (first | exact zae (by omega) | rfl | assumption)); (first | assumption | exact zaG _ _ | exact zbX _ _ _ | rfl | (focus simp [same, same.all2]; done)); (first | rfl | assumption | exact hwv _ | (focus apply zbT; (focus repeat' first | exact zaa | assumption | apply zab); done) | (simp [within]; omega))) | (apply zjm; rfl; rfl; rfl; rfl) | fail))
    apply zaJ; rfl; rfl; rfl; rfl; rfl; rfl; rfl; exact zeD hK (p := (t.getD 2 0, t.getD 3 0)) ⟨by dsimp only; omega, by dsimp only; omega, by dsimp only; omega⟩
    rintro _ h2 ⟨hx2, bs, rfl, hbs, hit⟩
    (repeat' (first | (apply N_at; rfl) | apply zak | apply zaw | (apply zbH; rfl; refine .inr ?_; (focus repeat' first | exact trivial | apply And.intro | rfl)) | apply zas | ((first | apply zad | apply zaY); rfl; rfl; rfl; rfl) | fail))
    exact ⟨.inr rfl, _, rfl, by (focus repeat' first | exact Ext.refl _ | assumption | apply Ext.push | (refine Ext.trans ?_ (by assumption))), bs, rfl, Nat.le_trans (Nat.le_succ _) hbs, hit⟩
  · (repeat' (first | apply zap | apply zac | (apply O_at; rfl) | (apply zaj; rfl) | apply zak | (apply za4; rfl) | ((first | apply zad | apply zaY); rfl; rfl; rfl; rfl) | ((first | apply P_fa | apply M_fa); rfl; rfl; rfl; rfl; exact zau rfl; (first | exact Nat.zero_add _ | exact Nat.add_zero _ | rfl)) | (apply P_neqT; rfl; rfl; rfl; rfl; rfl; omega) | (apply zai; rfl; rfl; rfl; rfl; exact zaq rfl; (focus repeat' first | exact zaa | assumption | apply zab); (first | exact zae (by omega) | rfl | assumption)) | (apply zcv; rfl; rfl; rfl; rfl) | (apply zaF; rfl; rfl; rfl; rfl; exact zah rfl; rfl; rfl) | fail))
    apply zan; rfl; rfl; rfl; rfl; rfl; rfl; exact zeD hK (p := (0, -1)) ⟨by decide, by decide, by decide⟩
    rintro _ h2 ⟨hx2, bs, rfl, hbs, hit⟩
    (repeat' (first | (apply O_at; rfl) | (apply zaj; rfl) | apply zak | apply zaw | apply zaX | apply zas | ((first | apply zad | apply zaY); rfl; rfl; rfl; rfl) | fail))
    have e0 : rdL (par, t) = spanL (0, -1) := by unfold rdL; rw [if_neg h1]; rfl
    rw [e0]
    exact ⟨.inr rfl, _, rfl, by (focus repeat' first | exact Ext.refl _ | assumption | apply Ext.push | (refine Ext.trans ?_ (by assumption))), bs, rfl, Nat.le_trans (Nat.le_succ _) hbs, hit⟩
end Go.AX.Sa

namespace Go.AX.Sa
open Go.Proofs
set_option maxRecDepth 100000
variable {K : Known}
def readF (f : Int × Int → Bool) (e : Ent) (seen : List Int) : Int × Int → Bool := fun q => if q.1 ∈ seen ∧ inPair e q.2 then true else f q
theorem read_ok (hK : NoK K) {G : Pg} {N S : List Int} {f : Int × Int → Bool} {s bn bs r : Nat} {c : Cop} {h : Heap} (hS : StB G N S f s bn bs r h) (hns : bn ≠ bs) (hn : G.n ≤ 1000) (hc : RowIn c.r h) (hP : EntP G.people G.n (ent c)) (h1 : c.par = 1) :
    CallW Tryz.prog K 131 #[.pointer (some ⟨s, 0, none⟩), enV c] h (fun _ h1 => StB G N S (readF f (ent c) (rdL (ent c))) s bn bs r h1 ∧ Keep3 bn bs r h h1) := by
  obtain ⟨n1, n2, n3, n4, n5, n6⟩ := hS.ne hns
  obtain ⟨box, nums, sets, hrd, nl, sl⟩ := hS
  have hc' := hc
  obtain ⟨rd, hcb, hcc⟩ := hc
  obtain ⟨par, q, k, t⟩ := c
  dsimp only at h1
  subst h1
  dsimp only [enV, ent] at rd hcb hcc hP ⊢
  have z := ent1.1 hP
  have hcap := hcc (by omega)
  obtain ⟨b, e, own, rfl, hg⟩ := rd.at (by rw [zag]; omega)
  have hr := hrd.lt
  have hsl := Heap.get_lt box
  have hbl := Heap.get_lt hg
  have nb : b ≠ r := by
    obtain ⟨_, _, _, hm, _⟩ := hrd
    intro q; subst q; rw [hg] at hm; cases hm
  refine zhr (N := 26) 2 Tryz.func131 rfl (hK _ _ _ rfl) rfl rfl (by rfl) (by rfl) ?_
  (repeat' (first | apply zap | apply zac | (apply O_at; rfl) | (apply zaj; rfl) | apply zak | (apply zaA; rfl; rfl; rfl; rfl; exact zaT rfl; (focus repeat' first | exact zaa | assumption | apply zab | (apply Ext.get; assumption) | (apply ExtBut.get; assumption; (first | assumption | omega | (simp only [Heap.push]; omega)))); (first | exact Nat.le_of_ble_eq_true rfl | (simp; done) | (simp; omega) | (rw [zag]; omega)); rfl) | (apply zaF; rfl; rfl; rfl; rfl; exact zah rfl; rfl; rfl) | fail))
  apply zan; rfl; rfl; rfl; rfl; rfl; rfl; exact zfK hK (c := ⟨1, ⟨some ⟨b, 0, none⟩, k, t⟩⟩) (hc'.ext (by (focus repeat' first | exact Ext.refl _ | assumption | apply Ext.push | (refine Ext.trans ?_ (by assumption))))) hP hn
  rintro _ h2 ⟨hx2, bz, rfl, hbz, hit⟩
  (repeat' (first | (apply zaj; rfl) | apply zak | apply zax | apply zas | fail))
  refine .inr ⟨rfl, 134, #[], #[.pointer (some ⟨bz, 0, none⟩)], rfl, rfl, fun tm l hb hE hle hxb hbn hlb hdb => ?_⟩
  have hx : Ext h h2 := ((Ext.refl h).push _ |>.push _).trans hx2
  have p0 := hx2.get (zab (zaa (h := h) (b := .cells (Value.pointer (some ⟨s, 0, none⟩)).cells.toList 88 true)))
  have p1 := hx2.get (zaa (h := h.push (.cells (Value.pointer (some ⟨s, 0, none⟩)).cells.toList 88 true)) (b := .cells (Value.agg #[.int .i64 1, .slice (some ⟨b, 0, none⟩) t.length k]).cells.toList 37 true))
  have hn2 : h.n + 2 ≤ h2.n := hx2.n
  have hbz' : h.n + 2 ≤ bz := hbz
  refine (Iter.loop hit (hb := hb) (fun b x _ g => hxb.get g) hxb.n (by omega)
    (fun (seen : List Int) D h' => (∀ b, D b ↔ b = r) ∧ MapB h' r (readF f (1, t) seen)) (fun b => b = r)
    (fun seen D a b ⟨f, m⟩ k n => ⟨f, m.keep fun q g => k r q ((f r).2 rfl) g⟩) (fun seen D a ⟨f, m⟩ b q => by rw [(f b).1 q]; exact m.lt) ?_ ?_ ?_).mono ?_
  · exact ⟨fun b => Iff.rfl, (hrd.ext (hx.trans hxb)).to fun q => by unfold readF; rw [if_neg (by simp)]⟩
  · intro b q w; omega
  · intro seen a D1 h' v _ hv ⟨hD, hm⟩ hD1 hkeep hn'
    have hl2 := hkeep l _ (by omega) hlb
    unfold ValI at hv
    subst hv
    refine round_of (N := 26) hl2 rfl (EnvOK.param hE rfl) ?_
    (repeat' (first | apply zac | (apply O_at; rfl) | (apply zaj; rfl) | apply zas | ((first | apply zaf | apply zad); rfl; rfl; rfl; rfl) | fail))
    refine ⟨rfl, hl2, fun Bz hs hsl' hsk hsn => ?_⟩
    have old : ∀ {b : Nat} {x : Blk}, b ≠ r → h2.get? b = some x → hs.get? b = some x := fun q g =>
      hsk _ _ (by have := Heap.get_lt g; omega) (hkeep _ _ q (hxb.get g))
    have q0 := old (by omega) p0
    have q1 := old (by show h.n + 1 ≠ r; omega) p1
    have q2 := old (by omega) (hx.get hg)
    have q3 := old n3 (hx.get box)
    have q4 : MapB hs r (readF f (1, t) seen) := hm.keep fun q g => hsk _ _ (by omega) g
    (repeat' (first | apply zap | apply zac | (apply O_at; rfl) | (apply zaj; rfl) | apply zak | apply zar | ((first | apply zaf | apply zad); rfl; rfl; rfl; rfl) | (apply P_fa; rfl; rfl; rfl; rfl; exact zau rfl; (first | exact Nat.zero_add _ | exact Nat.add_zero _ | rfl)) | (apply zbk; rfl; rfl; rfl; rfl; rfl; rfl; exact zat rfl) | (apply zai; rfl; rfl; rfl; rfl; exact zaq rfl; (focus repeat' first | exact zaa | assumption | apply zab | (apply Ext.get; assumption) | (apply ExtBut.get; assumption; (first | assumption | omega | (simp only [Heap.push]; omega)))); (first | exact zae (by omega) | rfl | assumption)) | (apply zk8; rfl; rfl; rfl; rfl; rfl; exact zat rfl; exact zah rfl; (first | assumption | exact zq2 | rfl | exact (Int.toNat_of_nonneg (by omega)).symm); omega; omega; omega; (intro _)) | fail))
    rename_i cap'
    refine zbg (fun i : Nat => [(14, .int .i64 (i : Nat)), (13, .int .i64 2), (12, .slice (some ⟨b, 0, none⟩) 2 cap'), (4, .int .i64 a), (2, .pointer (some ⟨h.n, 0, none⟩))])
      (fun i h' => i ≤ 2 ∧ MapB h' r (fun q => if q.1 = a ∧ ((0 < i ∧ t.getD 0 0 = q.2) ∨ (1 < i ∧ t.getD 1 0 = q.2)) then true else readF f (1, t) seen q) ∧ ExtBut r hs h') (fun i => 2 - i) ?_ 0 ?_ ?_
    · intro i h3 ⟨hi, hm3, hx3⟩ ih
      have w0 := hx3.get (by omega) q0
      have w2 := hx3.get nb q2
      have w3 := hx3.get n3 q3
      by_cases hlt : i < 2
      · have hil : i < t.length := by omega
        (repeat' (first | apply zap | apply zac | (apply O_at; rfl) | (apply zaj; rfl) | apply zak | (apply za4; rfl) | apply zar | apply zax | apply zaZ | ((first | apply zaf | apply zad); rfl; rfl; rfl; rfl) | (apply P_fa; rfl; rfl; rfl; rfl; exact zau rfl; (first | exact Nat.zero_add _ | exact Nat.add_zero _ | rfl)) | (apply zbN; rfl; rfl; rfl; rfl; rfl; omega) | (apply zcE; rfl; rfl; rfl; rfl; rfl; (unfold fit; omega)) | (apply zdl; rfl; rfl; rfl; rfl; rfl; exact zat rfl; exact zah rfl; (first | assumption | exact zq2 | rfl | exact (Int.toNat_of_nonneg (by omega)).symm); omega) | (apply zai; rfl; rfl; rfl; rfl; exact zaq rfl; (focus repeat' first | exact zaa | assumption | apply zab | (apply Ext.get; assumption) | (apply ExtBut.get; assumption; (first | assumption | omega | (simp only [Heap.push]; omega)))); (first | exact zae (by omega) | rfl | assumption)) | (apply zeQ; rfl; rfl; rfl; rfl) | (apply zhu; rfl; rfl; rfl; rfl) | (apply zgt; rfl; rfl; rfl; rfl; rfl; exact mapB85; (first | assumption | (apply MapB.ext; assumption; (focus repeat' first | exact Ext.refl _ | assumption | apply Ext.push | (refine Ext.trans ?_ (by assumption))))); (intro _ _ _)) | fail))
        rename_i h4 m4 x4
        refine zbh (ih (i + 1) _ (by omega) ⟨by omega, m4.to fun q => ?_, hx3.trans x4⟩) (by (focus repeat' first | rfl | exact trivial | apply And.intro))
        obtain ⟨y1, y2⟩ := q
        simp only [Prod.mk.injEq]
        rcases (show i = 0 ∨ i = 1 by omega) with rfl | rfl
        · by_cases e1 : y1 = a ∧ y2 = t.getD 0 0
          · rw [if_pos e1, if_pos ⟨e1.1, .inl ⟨by omega, e1.2.symm⟩⟩]
          · rw [if_neg e1, if_neg (by omega), if_neg (by omega)]
        · by_cases e1 : y1 = a ∧ y2 = t.getD 1 0
          · rw [if_pos e1, if_pos ⟨e1.1, .inr ⟨by omega, e1.2.symm⟩⟩]
          · rw [if_neg e1]
            by_cases e2 : y1 = a ∧ ((0 < 1 ∧ t.getD 0 0 = y2) ∨ (1 < 1 ∧ t.getD 1 0 = y2))
            · rw [if_pos e2, if_pos ⟨e2.1, .inl ⟨by omega, by omega⟩⟩]
            · rw [if_neg e2, if_neg (by omega)]
      · obtain rfl : i = 2 := by omega
        (repeat' (first | apply zap | apply zac | (apply O_at; rfl) | (apply zaj; rfl) | apply zak | (apply zaM; rfl) | apply zbl | apply zbm | apply za7 | apply za8 | apply zaZ | apply zas | (apply zbO; rfl; rfl; rfl; rfl; rfl; omega) | fail))
        refine ⟨rfl, hx3.get (by omega) hsl', fun hf hfl hfk hfn => ⟨D1, ⟨hD, ?_⟩, fun b q => .inl q, fun y x w g => ?_, ?_⟩⟩
        · refine (hm3.keep fun q g => hfk _ _ (by omega) g).to fun q => ?_
          unfold readF inPair
          dsimp only
          simp only [List.mem_append, List.mem_singleton]
          by_cases e1 : q.1 = a ∧ ((0 < 2 ∧ t.getD 0 0 = q.2) ∨ (1 < 2 ∧ t.getD 1 0 = q.2))
          · rw [if_pos e1, if_pos ⟨.inr e1.1, by omega⟩]
          · rw [if_neg e1]
            by_cases e2 : q.1 ∈ seen ∧ (t.getD 0 0 = q.2 ∨ t.getD 1 0 = q.2)
            · rw [if_pos e2, if_pos ⟨.inl e2.1, e2.2⟩]
            · rw [if_neg e2, if_neg]
              rintro ⟨y | y, w⟩
              · exact e2 ⟨y, w⟩
              · exact e1 ⟨y, by omega⟩
        · have hyr : y ≠ r := fun q => w ((hD y).2 q)
          by_cases hyl : y = l
          · subst hyl
            rw [hl2] at g
            cases g
            exact hfl
          · exact hfk _ _ hyl (hx3.get hyr (hsk _ _ hyl g))
        · have := hx3.n; omega
    · exact ⟨Nat.zero_le _, q4.to fun q => by rw [if_neg (by omega)], ExtBut.refl _ _⟩
    · (focus repeat' first | rfl | exact trivial | apply And.intro)
  · rintro _ h3 ⟨D3, ⟨hD3, hm3⟩, _, hk3, hn3⟩
    refine ⟨hk3 l _ (by omega) hlb, fun h4 hk4 hn4 => ?_⟩
    (repeat' (first | apply zax | apply zas | fail))
    have al : ∀ {h5 : Heap}, (∀ b x, b ≠ h2.n → h4.get? b = some x → h5.get? b = some x) → ∀ b x, b ≠ r → h.get? b = some x → h5.get? b = some x := fun hk5 b x q g =>
      hk5 _ _ (by have := Heap.get_lt g; omega) (hk4 _ _ (by have := Heap.get_lt g; omega) (hk3 _ _ q (hxb.get (hx.get g))))
    refine ⟨.inl rfl, hk4 _ _ (by omega) (hk3 _ _ (by omega) hdb), fun h5 hk5 hn5 => ⟨_, rfl, ⟨al hk5 _ _ n3 box, al hk5 _ _ n5 nums, al hk5 _ _ n6 sets, hm3.keep fun q g => hk5 _ _ (by omega) (hk4 _ _ (by omega) g), nl, sl⟩, ?_, fun b x _ _ w g => al hk5 b x w g⟩⟩
    omega
end Go.AX.Sa

namespace Go.AX.Sa
open Go.Proofs
set_option maxRecDepth 100000
variable {K : Known}
/-- What an entry makes of what stands. -/
structure StL (G : Pg) (L : List Ent) (s bn bs r : Nat) (h : Heap) : Prop where
  st : ∃ f, StB G (numsL G L) (setsL G L) f s bn bs r h ∧ ∀ q : Int × Int, 0 ≤ q.2 → q.2 < G.people → f q = hrdF L q
theorem zh5 (hK : NoK K) {G : Pg} {L : List Ent} {s bn bs r : Nat} {c : Cop} {h : Heap} (hS : StL G L s bn bs r h) (hns : bn ≠ bs) (hp : 2 ≤ G.people ∧ G.people ≤ 6) (hn : G.n ≤ 1000) (hc : RowIn c.r h) (hP : EntP G.people G.n (ent c)) (hN : ∀ j, j < G.n → NumP (numA G L j)) :
    CallW Tryz.prog K 105 #[.pointer (some ⟨s, 0, none⟩), enV c] h (fun _ h1 => StL G (L ++ [ent c]) s bn bs r h1 ∧ Keep3 bn bs r h h1) := by
  obtain ⟨f, hS, hf⟩ := hS
  have hcb := hc.b
  have hP' := hP
  obtain ⟨par, ⟨q, k, t⟩⟩ := c
  dsimp only [enV, ent] at hP hcb ⊢
  refine body (N := 14) Tryz.func105 rfl (hK _ _ _ rfl) rfl rfl ?_
  rcases ent0 hP with h1 | h1 | h1
  · dsimp only at h1
    subst h1
    (repeat' (first | apply zap | apply zac | (apply O_at; rfl) | (apply N_at; rfl) | (apply zaj; rfl) | apply zak | (apply zbd; exact zav (by decide +kernel)) | (apply zaD; rfl; rfl; rfl; rfl; exact zah rfl; rfl; rfl; rfl) | (apply zc9; rfl; rfl; rfl; rfl) | (apply zaF; rfl; rfl; rfl; rfl; exact zah rfl; rfl; rfl) | (apply zbf; rfl; rfl; rfl; rfl; exact zah rfl; rfl; rfl) | (apply zaL; rfl; rfl; rfl; rfl) | (apply M_fa; rfl; rfl; rfl; rfl; exact zau rfl; (first | exact Nat.zero_add _ | exact Nat.add_zero _ | rfl)) | (apply M_sub; rfl; rfl; rfl; rfl; rfl; (unfold fit; omega)) | ((first | ((apply zbu; rfl; rfl; rfl; rfl; exact zaq rfl; exact zaQ (by decide +kernel)); (focus repeat' first | exact zaa | assumption | apply zab); (first | rfl | assumption)) | ((apply zdz; rfl; rfl; rfl; rfl; exact zaT rfl; exact zaQ (by decide +kernel)); (focus repeat' first | exact zaa | assumption | apply zab); (first | exact Nat.le_of_ble_eq_true rfl | (simp; done) | (simp; omega)); rfl)); (first | assumption | exact zaG _ _ | exact zdI _ _ _ _ | rfl | (focus simp [same, same.all2]; done)); (first | rfl | assumption | exact hwv _ | exact zbU (by assumption) (by (focus repeat' first | exact Ext.refl _ | assumption | apply Ext.push)) | (simp [within]; omega))) | (apply zle; rfl; rfl; rfl; rfl; rfl; exact ar_ok rfl; exact zah rfl; (first | assumption | exact zq0 | exact zq1 | exact zq2 | rfl | exact (Int.toNat_of_nonneg (by omega)).symm); omega) | fail))
    apply zaJ; rfl; rfl; rfl; rfl; rfl; rfl; rfl; exact read_ok hK (c := ⟨1, ⟨q, k, t⟩⟩) (hS.ext (by (focus repeat' first | exact Ext.refl _ | assumption | apply Ext.push))) hns hn (hc.ext (by (focus repeat' first | exact Ext.refl _ | assumption | apply Ext.push))) hP' rfl
    rintro _ h2 ⟨S2, k2⟩
    (repeat' (first | (apply zbH; rfl; refine .inr ?_; (focus repeat' first | exact trivial | apply And.intro | rfl)) | apply zas | fail))
    refine ⟨.inl rfl, _, rfl, ⟨_, by rw [zkl rfl, zez (by simp)]; exact S2, fun y y0 y1 => ?_⟩, (Keep3.of (by (focus repeat' first | exact Ext.refl _ | assumption | apply Ext.push))).trans k2⟩
    rw [zd1, hrdS, if_neg (fun u => u.elim (fun w => absurd w.1 (by simp)) fun w => absurd w.1 (by simp))]
    unfold readF
    rw [hf y y0 y1]
    simp only [rdL_mem, ent]
  · dsimp only at h1
    subst h1
    have z := ent2.1 hP
    obtain ⟨j, hj⟩ : ∃ j : Nat, t.getD 1 0 = (j : Nat) := ⟨(t.getD 1 0).toNat, by omega⟩
    have hjn : j < G.n := by omega
    (repeat' (first | apply zap | apply zac | (apply O_at; rfl) | (apply N_at; rfl) | (apply zaj; rfl) | apply zak | (apply zbd; exact zav (by decide +kernel)) | (apply zaD; rfl; rfl; rfl; rfl; exact zah rfl; rfl; rfl; rfl) | (apply zc9; rfl; rfl; rfl; rfl) | (apply zaF; rfl; rfl; rfl; rfl; exact zah rfl; rfl; rfl) | (apply zbf; rfl; rfl; rfl; rfl; exact zah rfl; rfl; rfl) | (apply zaL; rfl; rfl; rfl; rfl) | (apply M_fa; rfl; rfl; rfl; rfl; exact zau rfl; (first | exact Nat.zero_add _ | exact Nat.add_zero _ | rfl)) | (apply M_sub; rfl; rfl; rfl; rfl; rfl; (unfold fit; omega)) | ((first | ((apply zbu; rfl; rfl; rfl; rfl; exact zaq rfl; exact zaQ (by decide +kernel)); (focus repeat' first | exact zaa | assumption | apply zab); (first | rfl | assumption)) | ((apply zdz; rfl; rfl; rfl; rfl; exact zaT rfl; exact zaQ (by decide +kernel)); (focus repeat' first | exact zaa | assumption | apply zab); (first | exact Nat.le_of_ble_eq_true rfl | (simp; done) | (simp; omega)); rfl)); (first | assumption | exact zaG _ _ | exact zdI _ _ _ _ | rfl | (focus simp [same, same.all2]; done)); (first | rfl | assumption | exact hwv _ | exact zbU (by assumption) (by (focus repeat' first | exact Ext.refl _ | assumption | apply Ext.push)) | (simp [within]; omega))) | (apply zle; rfl; rfl; rfl; rfl; rfl; exact ar_ok rfl; exact zah rfl; (first | assumption | exact zq0 | exact zq1 | exact zq2 | rfl | exact (Int.toNat_of_nonneg (by omega)).symm); omega) | fail))
    apply zaJ; rfl; rfl; rfl; rfl; rfl; rfl; rfl; exact mend_ok hK (c := ⟨2, ⟨q, k, t⟩⟩) (hS.ext (by (focus repeat' first | exact Ext.refl _ | assumption | apply Ext.push))) hns hp hn (hc.ext (by (focus repeat' first | exact Ext.refl _ | assumption | apply Ext.push))) z.1 hj hjn
    rintro _ h2 ⟨S2, k2⟩
    (repeat' (first | (apply zbH; rfl; refine .inr ?_; (focus repeat' first | exact trivial | apply And.intro | rfl)) | apply zas | fail))
    refine ⟨.inl rfl, _, rfl, ⟨_, by rw [zkm (e := (2, t)) rfl hj hjn, zjJ (e := (2, t)) rfl hj hjn]; exact S2, fun y y0 y1 => ?_⟩, (Keep3.of (by (focus repeat' first | exact Ext.refl _ | assumption | apply Ext.push))).trans k2⟩
    rw [zd1, hrdS]
    unfold keepCh
    by_cases hy : y.1 = (j : Nat)
    · rw [if_pos ⟨hy, y0, y1⟩, if_pos (.inl ⟨rfl, hj.trans hy.symm⟩)]
    · rw [if_neg (fun w => hy w.1), if_neg (fun u => u.elim (fun w => hy (w.2.symm.trans hj)) fun w => absurd w.1 (by simp)), if_neg (fun w => absurd w.1.1 (by simp))]
      exact hf y y0 y1
  · dsimp only at h1
    subst h1
    have z := ent3.1 hP
    obtain ⟨j, hj⟩ : ∃ j : Nat, t.getD 0 0 = (j : Nat) := ⟨(t.getD 0 0).toNat, by omega⟩
    have hjn : j < G.n := by omega
    (repeat' (first | apply zap | apply zac | (apply O_at; rfl) | (apply N_at; rfl) | (apply zaj; rfl) | apply zak | (apply zbd; exact zav (by decide +kernel)) | (apply zaD; rfl; rfl; rfl; rfl; exact zah rfl; rfl; rfl; rfl) | (apply zc9; rfl; rfl; rfl; rfl) | (apply zaF; rfl; rfl; rfl; rfl; exact zah rfl; rfl; rfl) | (apply zbf; rfl; rfl; rfl; rfl; exact zah rfl; rfl; rfl) | (apply zaL; rfl; rfl; rfl; rfl) | (apply M_fa; rfl; rfl; rfl; rfl; exact zau rfl; (first | exact Nat.zero_add _ | exact Nat.add_zero _ | rfl)) | (apply M_sub; rfl; rfl; rfl; rfl; rfl; (unfold fit; omega)) | ((first | ((apply zbu; rfl; rfl; rfl; rfl; exact zaq rfl; exact zaQ (by decide +kernel)); (focus repeat' first | exact zaa | assumption | apply zab); (first | rfl | assumption)) | ((apply zdz; rfl; rfl; rfl; rfl; exact zaT rfl; exact zaQ (by decide +kernel)); (focus repeat' first | exact zaa | assumption | apply zab); (first | exact Nat.le_of_ble_eq_true rfl | (simp; done) | (simp; omega)); rfl)); (first | assumption | exact zaG _ _ | exact zdI _ _ _ _ | rfl | (focus simp [same, same.all2]; done)); (first | rfl | assumption | exact hwv _ | exact zbU (by assumption) (by (focus repeat' first | exact Ext.refl _ | assumption | apply Ext.push)) | (simp [within]; omega))) | (apply zle; rfl; rfl; rfl; rfl; rfl; exact ar_ok rfl; exact zah rfl; (first | assumption | exact zq0 | exact zq1 | exact zq2 | rfl | exact (Int.toNat_of_nonneg (by omega)).symm); omega) | fail))
    apply zaJ; rfl; rfl; rfl; rfl; rfl; rfl; rfl; exact fall_ok hK (c := ⟨3, ⟨q, k, t⟩⟩) (hS.ext (by (focus repeat' first | exact Ext.refl _ | assumption | apply Ext.push))) hns hp hn (hc.ext (by (focus repeat' first | exact Ext.refl _ | assumption | apply Ext.push))) z.1 hj hjn (by rw [zcq hjn]; exact hN j hjn)
    rintro _ h2 ⟨S2, k2⟩
    rw [zcq hjn] at S2
    (repeat' (first | (apply zbH; rfl; refine .inr ?_; (focus repeat' first | exact trivial | apply And.intro | rfl)) | apply zas | fail))
    refine ⟨.inl rfl, _, rfl, ⟨_, by rw [zkn (e := (3, t)) rfl hj hjn, zez (by simp)]; exact S2, fun y y0 y1 => ?_⟩, (Keep3.of (by (focus repeat' first | exact Ext.refl _ | assumption | apply Ext.push))).trans k2⟩
    rw [zd1, hrdS]
    unfold keepCh
    by_cases hy : y.1 = (j : Nat)
    · rw [if_pos ⟨hy, y0, y1⟩, if_pos (.inr ⟨rfl, hj.trans hy.symm⟩)]
    · rw [if_neg (fun w => hy w.1), if_neg (fun u => u.elim (fun w => absurd w.1 (by simp)) fun w => hy (w.2.symm.trans hj)), if_neg (fun w => absurd w.1.1 (by simp))]
      exact hf y y0 y1
end Go.AX.Sa

namespace Go.AX.Sa
open Go.Proofs
set_option maxRecDepth 100000
/-! Lists that grow beside each other. -/
/-- The value reads as this list and lies in this block alone. -/
def Own (h : Heap) (v : Value) (l : List Int) (b : Nat) : Prop := (v = .slice none 0 0 ∧ l = []) ∨ (l ≠ [] ∧ v = .slice (some ⟨b, 0, none⟩) l.length unk ∧ h.get? b = some (.cells (ints l) 3 true))
theorem Own.ext {h h1 : Heap} {v : Value} {l : List Int} {b : Nat} (o : Own h v l b) (x : Ext h h1) : Own h1 v l b := o.imp id fun q => ⟨q.1, q.2.1, x.get q.2.2⟩
theorem Own.but {h h1 : Heap} {v : Value} {l : List Int} {b c : Nat} (o : Own h v l b) (x : ExtBut c h h1) (hne : b ≠ c) : Own h1 v l b := o.imp id fun q => ⟨q.1, q.2.1, x.get hne q.2.2⟩
/-- What stays when a list in this block grows. -/
structure KeptX (l : List Int) (b : Nat) (h h1 : Heap) : Prop where
  n : h1.n = h.n + 1
  get' : ∀ c y, (l = [] ∨ c ≠ b) → h.get? c = some y → h1.get? c = some y
theorem Own.kept {h h1 : Heap} {v : Value} {l l' : List Int} {b b' : Nat} (o : Own h v l b) (x : KeptX l' b' h h1) (hne : l' = [] ∨ b ≠ b') : Own h1 v l b := by
  rcases o with o | ⟨o0, o1, o2⟩
  · exact .inl o
  · rcases hne with hn | hn
    · exact .inr ⟨o0, o1, x.get' _ _ (.inl hn) o2⟩
    · exact .inr ⟨o0, o1, x.get' _ _ (.inr hn) o2⟩
theorem Own.one {h : Heap} {v : Value} {l : List Int} {b : Nat} (o : Own h v l b) : oneB v = true ∧ v.cells = #[v] := by
  rcases o with ⟨rfl, _⟩ | ⟨_, rfl, _⟩ <;> exact ⟨rfl, rfl⟩
theorem Own.same {h : Heap} {v : Value} {l : List Int} {b : Nat} (o : Own h v l b) : AX.same 20 v v = true := by
  rcases o with ⟨rfl, _⟩ | ⟨_, rfl, _⟩ <;> simp [AX.same]
theorem Own.within {h : Heap} {v : Value} {l : List Int} {b : Nat} (o : Own h v l b) {m : Nat} (hm : h.n ≤ m) : AX.within 20 m v = true := by
  rcases o with ⟨rfl, _⟩ | ⟨_, rfl, g⟩
  · rfl
  · have := Heap.get_lt g
    simp [AX.within]; omega
section
variable {P : Program} {K : Known} {x : Ctx} {N : Nat} {E : Env} {h : Heap} {ops : Array Oper} {F : Ex → Env → Heap → Prop} {i : Nat} {Hs : List Heap} {L : List Heap → Prop} {nw : List (Nat × Nat × Blk)}
variable {d : Nat} {ty : TypeId} {pos : String} {af : Array Edge} {g : Option (Nat × Bool)}
theorem own_app {ts : Array TypeId} {t t' e' : TypeId} {by_ cap bv : Nat} {e0 : TypeId} {own : Bool} {n : Int} {v : Value} {l : List Int} (h0' : ts[0]? = some t) (h1' : ts[1]? = some t') (hc : cell1 P t = some 3) (hc' : P.underlying t' = some (.slice e'))
    (hy : h.get? by_ = some (.cells [.int .i64 n] e0 own)) (ho : Own h v l bv) (hle : l.length ≤ 10000) : ∃ v' h1, appendB P h ts v (.slice (some ⟨by_, 0, none⟩) 1 cap) = some (v', h1) ∧ Own h1 v' (l ++ [n]) h.n ∧ KeptX l bv h h1 := by
  rcases ho with ⟨rfl, rfl⟩ | ⟨hne0, rfl, h2⟩
  · exact ⟨_, _, zk4 h0' h1' hc hc' hy rfl (by omega) (by omega) rfl, .inr ⟨by simp, rfl, zaa⟩, ⟨rfl, fun _ _ _ g => zab g⟩⟩
  · refine ⟨_, _, zk3 h0' h1' hc hc' hy rfl (by omega) (by omega) rfl h2 (zag _), .inr ⟨by simp, by simp, ?_⟩, ⟨rfl, fun c y hne q => ?_⟩⟩
    · have : (h.set bv .dead).n = h.n := rfl
      rw [← this, show ints (l ++ [n]) = ints l ++ [Value.int .i64 n] from (AX.ints_app l [n]).symm]
      exact zaa
    · by_cases hb : c = bv
      · subst hb
        rcases hne with hn | hn
        · exact absurd hn hne0
        · exact absurd rfl hn
      · exact zab (zaN h2 hb q)
theorem appOwnM {args : Array Operand} {ts : Array TypeId} {t t' e' : TypeId} {a b : Operand} {by_ cap bv : Nat} {e0 : TypeId} {own : Bool} {n : Int} {v : Value} {l : List Int} (hN : Nat.blt d N = true) (hg : gval ops E g = some true) (hk : opsOK P ⟨some d, .call ⟨.builtin .append, args, ts⟩, ty, pos, af, g⟩ = true) (hargs : args.toList = [a, b])
    (ha : E.ev a = some v) (hb : E.ev b = some (.slice (some ⟨by_, 0, none⟩) 1 cap)) (h0' : ts[0]? = some t) (h1' : ts[1]? = some t') (hc : cell1 P t = some 3) (hc' : P.underlying t' = some (.slice e'))
    (hy : h.get? by_ = some (.cells [.int .i64 n] e0 own)) (ho : Own h v l bv) (hle : l.length ≤ 10000) (hnw : unseen (preds ops.toList) nw i = [])
    (k : ∀ v' h1, Own h1 v' (l ++ [n]) h.n → KeptX l bv h h1 → S1 P K x N ops F (i + 1) ((d, v') :: E) h1 (h1 :: Hs) L nw) : S2 P K x N ops F i ⟨some d, .call ⟨.builtin .append, args, ts⟩, ty, pos, af, g⟩ E h Hs L nw := by
  obtain ⟨v', h1, e, o, q⟩ := own_app (P := P) (e' := e') h0' h1' hc hc' hy ho hle
  exact M_append hN hg hk hargs ha hb e hnw (k v' h1 o q)
end
variable {K : Known}
def sets0 (G : Pg) (k : Nat) : List Int := (List.range k).map (sett G)
def setr0 (G : Pg) (k : Nat) : List Int := (List.range k).map (setr G)
theorem ziH (G : Pg) (k : Nat) : sets0 G (k + 1) = sets0 G k ++ [sett G k] := by simp [sets0, List.range_succ]
theorem ziI (G : Pg) (k : Nat) : setr0 G (k + 1) = setr0 G k ++ [setr G k] := by simp [setr0, List.range_succ]
theorem zdF (G : Pg) (k : Nat) : (sets0 G k).length = k := by simp [sets0]
theorem zdG (G : Pg) (k : Nat) : (setr0 G k).length = k := by simp [setr0]
theorem zk2 (hK : NoK K) {G : Pg} {h : Heap} (hT : PgAt G h) (hn : 0 < G.n ∧ G.n ≤ 1000) :
    CallW Tryz.prog K 104 #[pgV G] h (fun v h1 => ∃ s bn bs r, v = .pointer (some ⟨s, 0, none⟩) ∧ StL G [] s bn bs r h1 ∧ bn ≠ bs ∧ (h.n ≤ s ∧ h.n ≤ bn ∧ h.n ≤ bs ∧ h.n ≤ r) ∧ Ext h h1) := by
  obtain ⟨people, pl, kl, n, l, p, kc, c'⟩ := G
  obtain ⟨len, rl, rc, each, hbl, hpb⟩ := hT
  dsimp only [pgV] at len rl rc each hbl hpb hn ⊢
  obtain ⟨b, e, own, rfl, hg⟩ := rl.at (by rw [zag]; omega)
  have hbl' := Heap.get_lt hg
  refine body (N := 41) Tryz.func104 rfl (hK _ _ _ rfl) rfl rfl ?_
  (repeat' (first | apply zap | apply zac | (apply O_at; rfl) | (apply zaj; rfl) | apply zak | apply zar | ((first | apply zaf | apply zad | apply zaL); rfl; rfl; rfl; rfl) | ((first | apply P_fa | apply M_fa); rfl; rfl; rfl; rfl; exact zau rfl; (first | exact Nat.zero_add _ | exact Nat.add_zero _ | rfl)) | (apply zbk; rfl; rfl; rfl; rfl; rfl; rfl; exact zat rfl) | (apply zai; rfl; rfl; rfl; rfl; exact zaq rfl; (focus repeat' first | exact zaa | assumption | apply zab | (apply Ext.get; assumption) | (apply ExtBut.get; assumption; (first | assumption | omega | (simp only [Heap.push]; omega)))); (first | rfl | assumption)) | (apply zaA; rfl; rfl; rfl; rfl; exact zaT rfl; (focus repeat' first | exact zaa | assumption | apply zab | (apply Ext.get; assumption) | (apply ExtBut.get; assumption; (first | assumption | omega | (simp only [Heap.push]; omega)))); (first | exact Nat.le_of_ble_eq_true rfl | (simp; done) | (simp; omega) | (rw [zag]; omega)); (first | exact zch (by omega) | rfl)) | (apply zjj; rfl; rfl; rfl; rfl) | (apply zaF; rfl; rfl; rfl; rfl; exact zah rfl; rfl; rfl) | (apply zjg; rfl; rfl; rfl; (intro _ _ _ _)) | fail))
  rename_i h1 m1 x1 e1
  have hs1 : h1.n = h.n + 2 := e1
  refine zbg (fun a : Nat × Value × Nat × Value × Nat => [(13, .int .i64 (a.1 : Nat)), (12, .int .i64 (n : Nat)), (11, .slice (some ⟨b, 0, none⟩) n kl), (3, .pointer (some ⟨h1.n, 0, none⟩)), (1, .pointer (some ⟨h.n, 0, none⟩))])
    (fun a h' => a.1 ≤ n ∧ Ext h h' ∧ h.n + 3 ≤ h'.n ∧ h'.get? h1.n = some (.cells [.int .i64 people, .slice (some ⟨b, 0, none⟩) n kl, .slice p c'.length kc, a.2.1, a.2.2.2.1, .map (some (h.n + 1))] 87 true) ∧
      Own h' a.2.1 (sets0 ⟨people, some ⟨b, 0, none⟩, kl, n, l, p, kc, c'⟩ a.1) a.2.2.1 ∧ Own h' a.2.2.2.1 (setr0 ⟨people, some ⟨b, 0, none⟩, kl, n, l, p, kc, c'⟩ a.1) a.2.2.2.2 ∧ MapB h' (h.n + 1) (fun _ => false) ∧
      (a.1 = 0 ∨ (a.2.2.1 ≠ a.2.2.2.2 ∧ h.n + 3 ≤ a.2.2.1 ∧ h.n + 3 ≤ a.2.2.2.2 ∧ a.2.2.1 < h'.n ∧ a.2.2.2.2 < h'.n))) (fun a => n - a.1) ?_ (0, (.slice none 0 0), 0, (.slice none 0 0), 0) ?_ ?_
  · rintro ⟨k, vN, bN, vS, bS⟩ h' ⟨hk, hx, hn1, g1, oN, oS, m, hd⟩ ih
    dsimp only at hk hx hn1 g1 oN oS m hd ih ⊢
    by_cases hlt : k < n
    · have hg' := hx.get hg
      have sN := oN.same
      have hwv : ∀ q, AX.within 20 (h'.push q).n vN = true := fun q => oN.within (Nat.le_succ _)
      (repeat' (first | apply zap | apply zac | (apply O_at; rfl) | (apply N_at; rfl) | (apply zaj; rfl) | apply zak | (apply za4; rfl) | (apply zbd; exact zav (by decide +kernel)) | apply zar | apply zax | ((first | apply zaf | apply zad | apply zaL); rfl; rfl; rfl; rfl) | ((first | apply P_fa | apply M_fa); rfl; rfl; rfl; rfl; exact zau rfl; (first | exact Nat.zero_add _ | exact Nat.add_zero _ | rfl)) | (apply zbN; rfl; rfl; rfl; rfl; rfl; omega) | (apply zb6; rfl; rfl; rfl; rfl; rfl; exact zat rfl; exact zah rfl; (first | assumption | rfl | exact (Int.toNat_of_nonneg (by omega)).symm); omega) | (apply zaA; rfl; rfl; rfl; rfl; exact zaT rfl; (focus repeat' first | exact zaa | assumption | apply zab | (apply Ext.get; assumption) | (apply ExtBut.get; assumption; (first | assumption | omega | (simp only [Heap.push]; omega)))); (first | exact Nat.le_of_ble_eq_true rfl | (simp; done) | (simp; omega) | (rw [zag]; omega)); (first | exact zch (by omega) | rfl)) | (apply zaD; rfl; rfl; rfl; rfl; exact zah rfl; rfl; rfl; rfl) | (apply zbf; rfl; rfl; rfl; rfl; exact zah rfl; rfl; rfl) | (apply zim; rfl; rfl; rfl; rfl; rfl; rfl; rfl; exact zgn rfl) | (((apply zbu; rfl; rfl; rfl; rfl; exact zaq rfl; exact zaQ (by decide +kernel)); (focus repeat' first | exact zaa | assumption | apply zab | (apply Ext.get; assumption) | (apply ExtBut.get; assumption; (first | assumption | omega | (simp only [Heap.push]; omega)))); (first | rfl | assumption)); (first | assumption | exact zaG _ _ | rfl | (focus simp [same, same.all2]; done)); (first | rfl | assumption | exact hwv _ | (simp [within]; omega))) | (apply M_nil; rfl; rfl; rfl; rfl) | fail))
      apply appOwnM; rfl; rfl; rfl; rfl; rfl; rfl; rfl; rfl; exact zgn rfl; exact zat rfl; exact zaa; exact oN.ext (by (focus repeat' first | exact Ext.refl _ | assumption | apply Ext.push | (refine Ext.trans ?_ (by assumption)))); exact (by rw [zdF]; omega); rfl
      intro v2 h2 o2 k2
      have n2 : h2.n = h'.n + 3 := k2.n
      have nk : ∀ {c : Nat}, c < h.n + 3 → (sets0 ⟨people, some ⟨b, 0, none⟩, kl, n, l, p, kc, c'⟩ k = [] ∨ c ≠ bN) := fun hc => by
        rcases hd with rfl | hd
        · exact .inl rfl
        · exact .inr (by omega)
      have nS : sets0 ⟨people, some ⟨b, 0, none⟩, kl, n, l, p, kc, c'⟩ k = [] ∨ bS ≠ bN := by
        rcases hd with rfl | hd
        · exact .inl rfl
        · exact .inr (fun q => hd.1 q.symm)
      have old2 : ∀ {c y}, c < h.n + 3 → h'.get? c = some y → h2.get? c = some y := fun hc g => k2.get' _ _ (nk hc) (zab (zab g))
      have oS2 : Own h2 vS (setr0 ⟨people, some ⟨b, 0, none⟩, kl, n, l, p, kc, c'⟩ k) bS := (oS.ext (((Ext.refl h').push _).push _)).kept k2 nS
      have ln2 := k2.get' h'.n _ (by rcases hd with rfl | hd; exact .inl rfl; exact .inr (by omega)) (zab (zaa (h := h') (b := .cells (Value.agg #[.int .i64 (l.getD (k * 3) 0), .int .i64 (l.getD (k * 3 + 1) 0), .int .i64 (l.getD (k * 3 + 2) 0)]).cells.toList 92 true)))
      (repeat' (first | (apply N_at; rfl) | ((first | apply P_fa | apply M_fa); rfl; rfl; rfl; rfl; exact zau rfl; (first | exact Nat.zero_add _ | exact Nat.add_zero _ | rfl)) | (apply M_nil; rfl; rfl; rfl; rfl) | fail))
      apply zij (c' := [.int .i64 people, .slice (some ⟨b, 0, none⟩) n kl, .slice p c'.length kc, v2, vS, .map (some (h.n + 1))]); rfl; rfl; rfl; rfl; exact old2 (by omega) g1; exact zah rfl; (rw [o2.one.2]; rfl); exact Nat.le_of_ble_eq_true rfl; (rw [o2.one.2]; simp [o2.one.1]); (rw [o2.one.2]; rfl); rfl
      intro h3 g3 x3
      have n3 := x3.n
      have sS := oS.same
      have wS : AX.within 20 h3.n vS = true := oS2.within n3
      have ln3 := x3.get (show h'.n ≠ h1.n by omega) ln2
      (repeat' (first | (apply N_at; rfl) | apply zak | (apply zbd; exact zav (by decide +kernel)) | (apply zbH; rfl; refine .inr ?_; (focus repeat' first | exact trivial | apply And.intro | rfl | (refine (List.forall_mem_cons (p := fun hk => MapB hk _ _)).2 ?_) | exact List.forall_mem_nil _ | (apply MapB.ext; assumption; (focus repeat' first | exact Ext.refl _ | assumption | apply Ext.push | (refine Ext.trans ?_ (by assumption)))) | (apply MapB.but; assumption; assumption; omega))) | ((first | apply zaf | apply zad | apply zaL); rfl; rfl; rfl; rfl) | ((first | apply P_fa | apply M_fa); rfl; rfl; rfl; rfl; exact zau rfl; (first | exact Nat.zero_add _ | exact Nat.add_zero _ | rfl)) | (apply zim; rfl; rfl; rfl; rfl; rfl; rfl; rfl; exact zgn rfl) | (((apply zbu; rfl; rfl; rfl; rfl; exact zaq rfl; exact zaQ (by decide +kernel)); (focus repeat' first | exact zaa | assumption | apply zab | (apply Ext.get; assumption) | (apply ExtBut.get; assumption; (first | assumption | omega | (simp only [Heap.push]; omega)))); (first | rfl | assumption)); (first | assumption | exact zaG _ _ | rfl | (focus simp [same, same.all2]; done)); (first | rfl | assumption | exact hwv _ | (simp [within]; omega))) | (apply M_nil; rfl; rfl; rfl; rfl) | fail))
      have oS3 : Own h3 vS (setr0 ⟨people, some ⟨b, 0, none⟩, kl, n, l, p, kc, c'⟩ k) bS := by
        rcases hd with rfl | hd
        · exact oS2.imp id fun q => absurd rfl q.1
        · exact oS2.but x3 (by omega)
      apply appOwnM; rfl; rfl; rfl; rfl; rfl; rfl; rfl; rfl; exact zgn rfl; exact zat rfl; exact zaa; exact oS3.ext (by (focus repeat' first | exact Ext.refl _ | assumption | apply Ext.push | (refine Ext.trans ?_ (by assumption)))); exact (by rw [zdG]; omega); rfl
      intro v4 h4 o4 k4
      have n4 : h4.n = h3.n + 1 + 1 := by have := k4.n; exact this
      have hS : ∀ {c : Nat}, c < h.n + 3 ∨ h'.n ≤ c → (setr0 ⟨people, some ⟨b, 0, none⟩, kl, n, l, p, kc, c'⟩ k = [] ∨ c ≠ bS) := fun hc => by
        rcases hd with rfl | hd
        · exact .inl rfl
        · exact .inr (by omega)
      have g4 := k4.get' _ _ (hS (c := h1.n) (.inl (by omega))) (zab g3)
      (repeat' (first | (apply N_at; rfl) | ((first | apply P_fa | apply M_fa); rfl; rfl; rfl; rfl; exact zau rfl; (first | exact Nat.zero_add _ | exact Nat.add_zero _ | rfl)) | (apply M_nil; rfl; rfl; rfl; rfl) | fail))
      apply zij (c' := [.int .i64 people, .slice (some ⟨b, 0, none⟩) n kl, .slice p c'.length kc, v2, v4, .map (some (h.n + 1))]); rfl; rfl; rfl; rfl; exact g4; exact zah rfl; (rw [o4.one.2]; rfl); exact Nat.le_of_ble_eq_true rfl; (rw [o4.one.2]; simp [o4.one.1]); (rw [o4.one.2]; rfl); rfl
      intro h5 g5 x5
      have n5 := x5.n
      (repeat' (first | apply zac | (apply O_at; rfl) | (apply zaj; rfl) | apply zak | (apply zbH; rfl; refine .inr ?_; (focus repeat' first | exact trivial | apply And.intro | rfl | (refine (List.forall_mem_cons (p := fun hk => MapB hk _ _)).2 ?_) | exact List.forall_mem_nil _ | (apply MapB.ext; assumption; (focus repeat' first | exact Ext.refl _ | assumption | apply Ext.push | (refine Ext.trans ?_ (by assumption)))) | (apply MapB.but; assumption; assumption; omega))) | apply zaZ | ((first | apply zaf | apply zad | apply zaL); rfl; rfl; rfl; rfl) | (apply zcE; rfl; rfl; rfl; rfl; rfl; (unfold fit; omega)) | fail))
      have al : ∀ {c : Nat} {y : Blk}, c < h.n + 3 → c ≠ h1.n → h'.get? c = some y → h5.get? c = some y := fun hc hne g =>
        x5.get hne (k4.get' _ _ (hS (.inl hc)) (zab (x3.get hne (old2 hc g))))
      refine zbh (ih (k + 1, v2, h'.n + 2, v4, h3.n + 1) _ (by dsimp only; omega) ⟨hlt, ⟨?_, fun c y g => ?_⟩, by omega, g5, ?_, ?_, ?_, .inr ⟨by dsimp only; omega, by dsimp only; omega, by dsimp only; omega, by dsimp only; omega, by dsimp only; omega⟩⟩) (by (focus repeat' first | rfl | exact trivial | apply And.intro))
      · have := hx.n; omega
      · have := Heap.get_lt g
        exact al (by omega) (by omega) (hx.get g)
      · rw [ziH]
        have o2' : Own h2 v2 (sets0 ⟨people, some ⟨b, 0, none⟩, kl, n, l, p, kc, c'⟩ k ++ [sett ⟨people, some ⟨b, 0, none⟩, kl, n, l, p, kc, c'⟩ k]) (h'.n + 2) := o2
        have q3 : Own h3 v2 (sets0 ⟨people, some ⟨b, 0, none⟩, kl, n, l, p, kc, c'⟩ k ++ [sett ⟨people, some ⟨b, 0, none⟩, kl, n, l, p, kc, c'⟩ k]) (h'.n + 2) := o2'.but x3 (by omega)
        exact ((q3.ext ((Ext.refl h3).push _)).kept k4 (hS (.inr (by omega)))).but x5 (by omega)
      · rw [ziI]
        exact Own.but o4 x5 (by show h3.n + 1 ≠ h1.n; omega)
      · exact m.keep fun q g => al (by omega) (by omega) g
    · obtain rfl : k = n := by omega
      (repeat' (first | apply zap | apply zac | (apply O_at; rfl) | (apply zaj; rfl) | apply zak | (apply zaM; rfl) | apply zbl | apply zaw | apply zbm | apply za7 | apply za8 | apply zas | ((first | apply zaf | apply zad | apply zaL); rfl; rfl; rfl; rfl) | (apply zbO; rfl; rfl; rfl; rfl; rfl; omega) | fail))
      rcases oN with ⟨_, q⟩ | ⟨_, rfl, oN⟩
      · have := congrArg List.length q; rw [zdF] at this; simp at this; omega
      rcases oS with ⟨_, q⟩ | ⟨_, rfl, oS⟩
      · have := congrArg List.length q; rw [zdG] at this; simp at this; omega
      rw [zdF] at g1
      rw [zdG] at g1
      refine ⟨.inr rfl, _, rfl, h1.n, bN, bS, h.n + 1, rfl, ⟨⟨fun _ => false, ⟨g1, oN, oS, m, by simp [numsL], by simp [setsL]⟩, fun _ _ _ => rfl⟩⟩, by omega, by omega, hx⟩
  · exact ⟨Nat.zero_le _, by (focus repeat' first | exact Ext.refl _ | assumption | apply Ext.push | (refine Ext.trans ?_ (by assumption))), by show h.n + 3 ≤ h1.n + 1; omega, by dsimp only; exact zaa, .inl ⟨rfl, rfl⟩, .inl ⟨rfl, rfl⟩, m1.ext (by (focus repeat' first | exact Ext.refl _ | assumption | apply Ext.push | (refine Ext.trans ?_ (by assumption)))), .inl rfl⟩
  · (focus repeat' first | rfl | exact trivial | apply And.intro)
end Go.AX.Sa

namespace Go.AX.Sa
open Go.Proofs
set_option maxRecDepth 100000
variable {K : Known}
def wholeE (G : Pg) (p : Int × Int) : Ent := (1, [p.1, p.2, 0, (G.n : Int) - 1])
def logP (G : Pg) (ps : List (Int × Int)) : List Ent := logL G ++ ps.map (wholeE G)
def PairsP (G : Pg) (ps : List (Int × Int)) : Prop := ∀ k, k < ps.length → PairP G (ps.getD k (0, 0)).1 (ps.getD k (0, 0)).2
theorem zfv {G : Pg} (hn : 1 ≤ (G.n : Int)) {p : Int × Int} (h : PairP G p.1 p.2) : EntP G.people G.n (wholeE G p) := by
  obtain ⟨h1, h2, h3⟩ := h
  unfold PersP at h1 h2
  refine ent1.2 ⟨rfl, ?_, ?_, ?_, ?_, ?_, ?_⟩ <;> simp <;> omega
theorem log_ent {G : Pg} (hP : PgP G) {ps : List (Int × Int)} (hp : PairsP G ps) : ∀ e ∈ logP G ps, EntP G.people G.n e := by
  intro e he
  rcases List.mem_append.1 he with q | q
  · obtain ⟨c, hc, rfl⟩ := List.mem_map.1 q
    obtain ⟨j, hj⟩ := List.getElem?_of_mem hc
    have hl := (List.getElem?_eq_some_iff.1 hj).1
    have := hP.ent j hl
    simpa [List.getD_eq_getElem?_getD, hj] using this
  · obtain ⟨c, hc, rfl⟩ := List.mem_map.1 q
    obtain ⟨j, hj⟩ := List.getElem?_of_mem hc
    have hl := (List.getElem?_eq_some_iff.1 hj).1
    have := hp j hl
    rw [show ps.getD j (0, 0) = c by simp [List.getD_eq_getElem?_getD, hj]] at this
    exact zfv hP.n.1 this
theorem zeF {G : Pg} (hP : PgP G) {L : List Ent} (hL : ∀ e ∈ L, EntP G.people G.n e) {j : Nat} (hj : j < G.n) : NumP (numA G L j) := zeE (hP.line j hj).2.2 L hL
theorem zex {L : List Ent} {k : Nat} (h : k < L.length) : L.take (k + 1) = L.take k ++ [L[k]'h] := by rw [List.take_add_one, List.getElem?_eq_getElem h]; rfl
set_option maxHeartbeats 600000 in
theorem after_ok (hK : NoK K) {G : Pg} {ps : List (Int × Int)} {q : Option Addr} {kq : Nat} {h : Heap} (hT : PgAt G h) (hP : PgP G) (hq : Rd h q (spanCells ps)) (hl : ps.length ≤ 1000) (hp : PairsP G ps) :
    CallW Tryz.prog K 61 #[pgV G, .slice q ps.length kq] h (fun v h1 => ∃ s bn bs r, v = .pointer (some ⟨s, 0, none⟩) ∧ StL G (logP G ps) s bn bs r h1 ∧ bn ≠ bs ∧ (h.n ≤ s ∧ h.n ≤ bn ∧ h.n ≤ bs ∧ h.n ≤ r) ∧ Ext h h1) := by
  have hT' := hT
  have hP' := hP
  have hlog := log_ent hP hp
  have hnn := hP.n
  have hpp := hP.people
  have hcc := hP.c
  obtain ⟨people, pl, kl, n, l, p, kc, c⟩ := G
  obtain ⟨len, rl, rc, each, hbl, hpb⟩ := hT
  dsimp only [pgV] at len rl rc each hbl hpb hnn hpp hcc ⊢
  have hlen : (logP ⟨people, pl, kl, n, l, p, kc, c⟩ ps).length = c.length + ps.length := by simp [logP, logL]
  refine body (N := 46) Tryz.func61 rfl (hK _ _ _ rfl) rfl rfl ?_
  (repeat' (first | apply zap | apply zac | (apply O_at; rfl) | (apply zaj; rfl) | apply zak | ((first | apply zaf | apply zad); rfl; rfl; rfl; rfl) | (apply zaA; rfl; rfl; rfl; rfl; exact zaT rfl; (focus repeat' first | exact zaa | assumption | apply zab | (apply Ext.get; assumption)); (first | exact Nat.le_of_ble_eq_true rfl | (rw [zaE]; omega) | (simp; done) | (simp; omega) | (rw [zbc]; omega)); (first | exact zcn (by omega) | exact zaS (by omega) | rfl)) | (apply zaF; rfl; rfl; rfl; rfl; exact zah rfl; rfl; rfl) | fail))
  apply zan; rfl; rfl; rfl; rfl; rfl; rfl; exact zk2 (G := ⟨people, pl, kl, n, l, p, kc, c⟩) hK (hT'.ext (by (focus repeat' first | exact Ext.refl _ | assumption | apply Ext.push | (refine Ext.trans ?_ (by assumption))))) ⟨by dsimp only; omega, by dsimp only; omega⟩
  rintro _ h2 ⟨s, bn, bs, r, rfl, S2, hns, ⟨b1, b2, b3, b4⟩, x2⟩
  have hn2 := x2.n
  have b2' : h.n < bn := b2
  have b3' : h.n < bs := b3
  have b4' : h.n < r := b4
  have b1' : h.n < s := b1
  (repeat' (first | apply zap | apply zac | (apply O_at; rfl) | (apply zaj; rfl) | apply zak | apply zar | ((first | apply zaf | apply zad); rfl; rfl; rfl; rfl) | (apply P_fa; rfl; rfl; rfl; rfl; exact zau rfl; (first | exact Nat.zero_add _ | exact Nat.add_zero _ | rfl)) | (apply zbk; rfl; rfl; rfl; rfl; rfl; rfl; exact zat rfl) | (apply zai; rfl; rfl; rfl; rfl; exact zaq rfl; (focus repeat' first | exact zaa | assumption | apply zab | (apply Ext.get; assumption)); (first | rfl | assumption)) | fail))
  refine zbg (fun k : Nat => [(16, .int .i64 (k : Nat)), (15, .int .i64 (c.length : Nat)), (14, .slice p c.length kc), (5, .pointer (some ⟨s, 0, none⟩)), (2, .pointer (some ⟨h.n, 0, none⟩)), (1, .slice q ps.length kq)])
    (fun k h' => k ≤ c.length ∧ StL ⟨people, pl, kl, n, l, p, kc, c⟩ ((logP ⟨people, pl, kl, n, l, p, kc, c⟩ ps).take k) s bn bs r h' ∧ Ext (h.push (.cells [.int .i64 people, .slice pl n kl, .slice p c.length kc] 25 true)) h') (fun k => c.length - k) ?_ 0 ?_ ?_
  · rintro k h' ⟨hk, S, hx⟩ ih
    have g0 := hx.get zaa
    by_cases hlt : k < c.length
    · obtain ⟨b, e, own, rfl, hg⟩ := rc.at (by rw [zaE]; omega)
      have hg' := hx.get (zab hg)
      have eR := each k hlt
      have ek : (logP ⟨people, pl, kl, n, l, some ⟨b, 0, none⟩, kc, c⟩ ps)[k]'(by omega) = ent (c.getD k cop0) := by
        simp [logP, logL, List.getElem_append_left, hlt]
      have eP := hP'.ent k hlt
      (repeat' (first | apply zap | apply zac | (apply O_at; rfl) | (apply zaj; rfl) | apply zak | (apply za4; rfl) | apply zar | apply zax | ((first | apply zaf | apply zad); rfl; rfl; rfl; rfl) | (apply zbN; rfl; rfl; rfl; rfl; rfl; omega) | (apply zb6; rfl; rfl; rfl; rfl; rfl; exact zat rfl; exact zah rfl; (first | assumption | rfl | exact (Int.toNat_of_nonneg (by omega)).symm); omega) | (apply zaA; rfl; rfl; rfl; rfl; exact zaT rfl; (focus repeat' first | exact zaa | assumption | apply zab | (apply Ext.get; assumption)); (first | exact Nat.le_of_ble_eq_true rfl | (rw [zaE]; omega) | (simp; done) | (simp; omega) | (rw [zbc]; omega)); (first | exact zcn (by omega) | exact zaS (by omega) | rfl)) | (apply zaD; rfl; rfl; rfl; rfl; exact zah rfl; rfl; rfl; rfl) | (apply zbf; rfl; rfl; rfl; rfl; exact zah rfl; rfl; rfl) | fail))
      have y1 : Ext h' (h'.push (.cells [.int .i64 (c.getD k cop0).par, .slice (c.getD k cop0).r.q (c.getD k cop0).r.s.length (c.getD k cop0).r.k] 37 true)) := by (focus repeat' first | exact Ext.refl _ | assumption | apply Ext.push | (refine Ext.trans ?_ (by assumption)))
      apply zan; rfl; rfl; rfl; rfl; rfl; rfl
      · refine zh5 (G := ⟨people, pl, kl, n, l, some ⟨b, 0, none⟩, kc, c⟩) (c := c.getD k cop0) hK (L := (logP ⟨people, pl, kl, n, l, some ⟨b, 0, none⟩, kc, c⟩ ps).take k) (s := s) (bn := bn) (bs := bs) (r := r) ?_ hns hpp (by dsimp only; omega) ?_ eP (fun j hj => zeF hP' (fun e he => hlog e (List.mem_of_mem_take he)) hj)
        · obtain ⟨f, S, hf⟩ := S
          exact ⟨f, S.ext y1, hf⟩
        · exact eR.ext (by (focus repeat' first | exact Ext.refl _ | assumption | apply Ext.push | (refine Ext.trans ?_ (by assumption))))
      rintro _ h3 ⟨S3, k3⟩
      (repeat' (first | apply zac | (apply O_at; rfl) | (apply zaj; rfl) | apply zak | apply zaZ | ((first | apply zaf | apply zad); rfl; rfl; rfl; rfl) | (apply zcE; rfl; rfl; rfl; rfl; rfl; (unfold fit; omega)) | fail))
      have y3 : Ext (h.push (.cells [.int .i64 people, .slice pl n kl, .slice (some ⟨b, 0, none⟩) c.length kc] 25 true)) h3 := k3.ext (hx.trans y1) b2 b3 b4
      refine zbh (ih (k + 1) _ (by omega) ⟨hlt, ?_, y3⟩) (by (focus repeat' first | rfl | exact trivial | apply And.intro))
      rw [zex (by omega), ek]
      exact S3
    · obtain rfl : k = c.length := by omega
      (repeat' (first | apply zap | apply zac | (apply O_at; rfl) | (apply zaj; rfl) | apply zak | (apply zaM; rfl) | apply zar | apply zbl | apply zbm | apply za7 | apply za8 | ((first | apply zaf | apply zad); rfl; rfl; rfl; rfl) | (apply zbk; rfl; rfl; rfl; rfl; rfl; rfl; exact zat rfl) | (apply zbO; rfl; rfl; rfl; rfl; rfl; omega) | fail))
      refine zbg (fun k : Nat => [(26, .int .i64 (k : Nat)), (25, .int .i64 (ps.length : Nat)), (24, .slice q ps.length kq), (5, .pointer (some ⟨s, 0, none⟩)), (2, .pointer (some ⟨h.n, 0, none⟩))])
        (fun k h' => k ≤ ps.length ∧ StL ⟨people, pl, kl, n, l, p, kc, c⟩ ((logP ⟨people, pl, kl, n, l, p, kc, c⟩ ps).take (c.length + k)) s bn bs r h' ∧ Ext (h.push (.cells [.int .i64 people, .slice pl n kl, .slice p c.length kc] 25 true)) h') (fun k => ps.length - k) ?_ 0 ?_ ?_
      · rintro i h5 ⟨hi, S5, hx5⟩ ih5
        have g05 := hx5.get zaa
        by_cases hlt5 : i < ps.length
        · obtain ⟨b, e, own, rfl, hg⟩ := hq.at (by rw [zbc]; omega)
          have hg' := hx5.get (zab hg)
          have ek : (logP ⟨people, pl, kl, n, l, p, kc, c⟩ ps)[c.length + i]'(by omega) = wholeE ⟨people, pl, kl, n, l, p, kc, c⟩ (ps.getD i (0, 0)) := by
            simp [logP, logL, List.getElem_append_right, hlt5]
          have eP := zfv (G := ⟨people, pl, kl, n, l, p, kc, c⟩) hnn.1 (hp i hlt5)
          (repeat' (first | apply zap | apply zac | (apply O_at; rfl) | (apply zaj; rfl) | apply zak | (apply za4; rfl) | apply zar | apply zax | ((first | apply zaf | apply zad); rfl; rfl; rfl; rfl) | (apply P_fa; rfl; rfl; rfl; rfl; exact zau rfl; (first | exact Nat.zero_add _ | exact Nat.add_zero _ | rfl)) | (apply zbN; rfl; rfl; rfl; rfl; rfl; omega) | (apply zb6; rfl; rfl; rfl; rfl; rfl; exact zat rfl; exact zah rfl; (first | assumption | rfl | exact (Int.toNat_of_nonneg (by omega)).symm); omega) | (apply zai; rfl; rfl; rfl; rfl; exact zaq rfl; (focus repeat' first | exact zaa | assumption | apply zab | (apply Ext.get; assumption)); (first | rfl | assumption)) | (apply zaA; rfl; rfl; rfl; rfl; exact zaT rfl; (focus repeat' first | exact zaa | assumption | apply zab | (apply Ext.get; assumption)); (first | exact Nat.le_of_ble_eq_true rfl | (rw [zaE]; omega) | (simp; done) | (simp; omega) | (rw [zbc]; omega)); (first | exact zcn (by omega) | exact zaS (by omega) | rfl)) | (apply zaD; rfl; rfl; rfl; rfl; exact zah rfl; rfl; rfl; rfl) | (apply zjk; rfl; rfl; rfl; rfl) | (apply P_bs_i4; rfl; rfl; rfl; rfl) | (apply zbf; rfl; rfl; rfl; rfl; exact zah rfl; rfl; rfl) | (apply zan; rfl; rfl; rfl; rfl; rfl; rfl; exact zeg (G := ⟨people, pl, kl, n, l, p, kc, c⟩) hK (by dsimp only; omega); (rintro _ _ ⟨rfl, _⟩)) | fail))
          rename_i h6 x6
          have y6 : Ext h5 ((h6.push (.cells [.int .i64 0, .int .i64 ((n : Int) - 1)] 140 true)).push (.cells (ints [(ps.getD i (0, 0)).1, (ps.getD i (0, 0)).2, 0, (n : Int) - 1]) 3 true)) := by (focus repeat' first | exact Ext.refl _ | assumption | apply Ext.push | (refine Ext.trans ?_ (by assumption)))
          apply zan; rfl; rfl; rfl; rfl; rfl; rfl
          · refine zh5 (G := ⟨people, pl, kl, n, l, p, kc, c⟩) (c := ⟨1, ⟨some ⟨h6.n + 1, 0, none⟩, 4, [(ps.getD i (0, 0)).1, (ps.getD i (0, 0)).2, 0, (n : Int) - 1]⟩⟩) hK (L := (logP ⟨people, pl, kl, n, l, p, kc, c⟩ ps).take (c.length + i)) (s := s) (bn := bn) (bs := bs) (r := r) ?_ hns hpp (by dsimp only; omega) ?_ eP (fun j hj => zeF hP' (fun e he => hlog e (List.mem_of_mem_take he)) hj)
            · obtain ⟨f, S, hf⟩ := S5
              exact ⟨f, S.ext y6, hf⟩
            · exact ⟨.inr ⟨h6.n + 1, _, _, rfl, zaa⟩, fun a q => by cases q; exact Nat.lt_succ_self _, fun _ => Nat.le_refl _⟩
          rintro _ h7 ⟨S7, k7⟩
          (repeat' (first | apply zac | (apply O_at; rfl) | (apply zaj; rfl) | apply zak | apply zaZ | ((first | apply zaf | apply zad); rfl; rfl; rfl; rfl) | (apply zcE; rfl; rfl; rfl; rfl; rfl; (unfold fit; omega)) | fail))
          have y7 : Ext (h.push (.cells [.int .i64 people, .slice pl n kl, .slice p c.length kc] 25 true)) h7 := k7.ext (hx5.trans y6) b2 b3 b4
          refine zbh (ih5 (i + 1) _ (by omega) ⟨hlt5, ?_, y7⟩) (by (focus repeat' first | rfl | exact trivial | apply And.intro))
          rw [show c.length + (i + 1) = (c.length + i) + 1 by omega, zex (by omega), ek]
          exact S7
        · obtain rfl : i = ps.length := by omega
          rw [List.take_of_length_le (by omega)] at S5
          (repeat' (first | apply zap | apply zac | (apply O_at; rfl) | (apply zaj; rfl) | apply zak | (apply zaM; rfl) | apply zbl | apply zaw | apply zbm | apply za7 | apply za8 | apply zas | ((first | apply zaf | apply zad); rfl; rfl; rfl; rfl) | (apply zbO; rfl; rfl; rfl; rfl; rfl; omega) | fail))
          exact ⟨.inr rfl, _, rfl, s, bn, bs, r, rfl, S5, hns, ⟨by omega, by omega, by omega, by omega⟩, by (focus repeat' first | exact Ext.refl _ | assumption | apply Ext.push | (refine Ext.trans ?_ (by assumption)))⟩
      · exact ⟨Nat.zero_le _, S, hx⟩
      · (focus repeat' first | rfl | exact trivial | apply And.intro)
  · exact ⟨Nat.zero_le _, S2, x2⟩
  · (focus repeat' first | rfl | exact trivial | apply And.intro)
end Go.AX.Sa

namespace Go.AX.Sa
open Go.Proofs
set_option maxRecDepth 100000
variable {K : Known}
theorem StL.ext {G : Pg} {L : List Ent} {s bn bs r : Nat} {h h1 : Heap} (x : StL G L s bn bs r h) (e : Ext h h1) : StL G L s bn bs r h1 := by
  obtain ⟨f, S, hf⟩ := x
  exact ⟨f, S.ext e, hf⟩
end Go.AX.Sa

namespace Go.AX.Sa
open Go.Proofs
set_option maxRecDepth 100000
variable {K : Known}
/-! Whether the page passes. -/
def fewV : Value := .iface 149 (.agg #[])
def fewCh : List PanicEntry := [⟨fewV, false, false⟩]
def AllP (G : Pg) (L : List Ent) : Prop := ∀ j, j < G.n → PassP G L j
end Go.AX.Sa

namespace Go.AX.Sa
open Go.Proofs
set_option maxRecDepth 100000
variable {K : Known}
/-! What the layer returns. -/
def IsE (l : List Int) (h : Heap) (v : Value) (h1 : Heap) : Prop := ∃ p cap, v = .tuple #[.slice p l.length cap, .int .i64 0] ∧ Rd h1 p (ints l) ∧ Ext h h1
def errL : Value := .tuple #[.slice none 0 0, .int .i64 2]
theorem zgs (hK : NoK K) {G : Pg} {h : Heap} (hT : PgAt G h) (hP : PgP G) :
    CallW Tryz.prog K 61 #[pgV G, .slice none 0 0] h (fun v h1 => ∃ s bn bs r, v = .pointer (some ⟨s, 0, none⟩) ∧ StL G (logL G) s bn bs r h1 ∧ Ext h h1) := by
  refine (after_ok (ps := []) (q := none) (kq := 0) hK hT hP (.inl rfl) (Nat.zero_le _) (fun k q => by simp at q)).mono ?_
  rintro _ h1 ⟨s, bn, bs, r, rfl, S, _, _, x⟩
  have e : logP G [] = logL G := by simp [logP]
  rw [e] at S
  exact ⟨s, bn, bs, r, rfl, S, x⟩
section
variable {G : Pg} {h : Heap}
theorem now_ok (hK : NoK K) (hT : PgAt G h) (hs : ShortP G) (hP : PgP G) : CallW Tryz.prog K 18 #[pgV G] h (IsE (numsL G (logL G)) h) := by
  refine body (N := 12) Tryz.func18 rfl (hK _ _ _ rfl) rfl rfl ?_
  (repeat' (first | apply zap | apply zac | (apply O_at; rfl) | (apply zaj; rfl) | apply zak | (apply zaM; rfl) | apply zax | ((first | apply zad | apply zbe); rfl; rfl; rfl; rfl) | (apply zaA; rfl; rfl; rfl; rfl; exact zaT rfl; (focus repeat' first | exact zaa | assumption | (apply Ext.get; assumption)); (first | exact Nat.le_of_ble_eq_true rfl | (simp; done) | (simp; omega)); rfl) | (apply zaF; rfl; rfl; rfl; rfl; exact zah rfl; rfl; rfl) | (apply zan; rfl; rfl; rfl; rfl; rfl; rfl; exact yes (zbY hK (hT.ext (by (focus repeat' first | exact Ext.refl _ | assumption | apply Ext.push | (refine Ext.trans ?_ (by assumption))))) hs) hP; (rintro _ _ ⟨rfl, _⟩)) | fail))
  apply zan; rfl; rfl; rfl; rfl; rfl; rfl; exact zgs hK (hT.ext (by (focus repeat' first | exact Ext.refl _ | assumption | apply Ext.push | (refine Ext.trans ?_ (by assumption))))) hP
  rintro _ h2 ⟨s, bn, bs, r, rfl, ⟨f, ⟨box, nums, sets, hrd, nl, sl⟩, hf⟩, x⟩
  unfold stC at box
  (repeat' (first | (apply O_at; rfl) | (apply zaj; rfl) | apply zak | apply zaw | apply zas | ((first | apply zad | apply zbe); rfl; rfl; rfl; rfl) | (apply P_fa; rfl; rfl; rfl; rfl; exact zau rfl; (first | exact Nat.zero_add _ | exact Nat.add_zero _ | rfl)) | (apply zai; rfl; rfl; rfl; rfl; exact zaq rfl; (focus repeat' first | exact zaa | assumption | (apply Ext.get; assumption)); (first | rfl | assumption)) | (apply zhu; rfl; rfl; rfl; rfl) | fail))
  exact ⟨.inr rfl, _, rfl, some ⟨bn, 0, none⟩, unk, by rw [zcp]; rfl, .inr ⟨bn, _, _, rfl, nums⟩, by (focus repeat' first | exact Ext.refl _ | assumption | apply Ext.push | (refine Ext.trans ?_ (by assumption)))⟩
theorem now_no (hK : NoK K) (hT : PgAt G h) (hs : ShortP G) (hP : ¬ PgP G) : CallW Tryz.prog K 18 #[pgV G] h (IsV errL h) := by
  refine body (N := 12) Tryz.func18 rfl (hK _ _ _ rfl) rfl rfl ?_
  (repeat' (first | apply zap | apply zac | (apply O_at; rfl) | (apply zaj; rfl) | apply zak | (apply za4; rfl) | apply zaw | apply zaX | apply zas | ((first | apply zad | apply zbe); rfl; rfl; rfl; rfl) | (apply zaA; rfl; rfl; rfl; rfl; exact zaT rfl; (focus repeat' first | exact zaa | assumption); (first | exact Nat.le_of_ble_eq_true rfl | (simp; done) | (simp; omega)); rfl) | (apply zaF; rfl; rfl; rfl; rfl; exact zah rfl; rfl; rfl) | (apply zan; rfl; rfl; rfl; rfl; rfl; rfl; exact no (zbY hK (hT.ext (by (focus repeat' first | exact Ext.refl _ | assumption | apply Ext.push | (refine Ext.trans ?_ (by assumption))))) hs) hP; (rintro _ _ ⟨rfl, _⟩)) | fail))
  exact ⟨.inr rfl, _, rfl, rfl, by (focus repeat' first | exact Ext.refl _ | assumption | apply Ext.push | (refine Ext.trans ?_ (by assumption)))⟩
theorem ziE (hK : NoK K) (hT : PgAt G h) (hs : ShortP G) (hP : PgP G) : CallW Tryz.prog K 19 #[pgV G] h (IsE (setsL G (logL G)) h) := by
  refine body (N := 12) Tryz.func19 rfl (hK _ _ _ rfl) rfl rfl ?_
  (repeat' (first | apply zap | apply zac | (apply O_at; rfl) | (apply zaj; rfl) | apply zak | (apply zaM; rfl) | apply zax | ((first | apply zad | apply zbe); rfl; rfl; rfl; rfl) | (apply zaA; rfl; rfl; rfl; rfl; exact zaT rfl; (focus repeat' first | exact zaa | assumption | (apply Ext.get; assumption)); (first | exact Nat.le_of_ble_eq_true rfl | (simp; done) | (simp; omega)); rfl) | (apply zaF; rfl; rfl; rfl; rfl; exact zah rfl; rfl; rfl) | (apply zan; rfl; rfl; rfl; rfl; rfl; rfl; exact yes (zbY hK (hT.ext (by (focus repeat' first | exact Ext.refl _ | assumption | apply Ext.push | (refine Ext.trans ?_ (by assumption))))) hs) hP; (rintro _ _ ⟨rfl, _⟩)) | fail))
  apply zan; rfl; rfl; rfl; rfl; rfl; rfl; exact zgs hK (hT.ext (by (focus repeat' first | exact Ext.refl _ | assumption | apply Ext.push | (refine Ext.trans ?_ (by assumption))))) hP
  rintro _ h2 ⟨s, bn, bs, r, rfl, ⟨f, ⟨box, nums, sets, hrd, nl, sl⟩, hf⟩, x⟩
  unfold stC at box
  (repeat' (first | (apply O_at; rfl) | (apply zaj; rfl) | apply zak | apply zaw | apply zas | ((first | apply zad | apply zbe); rfl; rfl; rfl; rfl) | (apply P_fa; rfl; rfl; rfl; rfl; exact zau rfl; (first | exact Nat.zero_add _ | exact Nat.add_zero _ | rfl)) | (apply zai; rfl; rfl; rfl; rfl; exact zaq rfl; (focus repeat' first | exact zaa | assumption | (apply Ext.get; assumption)); (first | rfl | assumption)) | (apply zhu; rfl; rfl; rfl; rfl) | fail))
  exact ⟨.inr rfl, _, rfl, some ⟨bs, 0, none⟩, unk, by rw [zds]; rfl, .inr ⟨bs, _, _, rfl, sets⟩, by (focus repeat' first | exact Ext.refl _ | assumption | apply Ext.push | (refine Ext.trans ?_ (by assumption)))⟩
theorem ziF (hK : NoK K) (hT : PgAt G h) (hs : ShortP G) (hP : ¬ PgP G) : CallW Tryz.prog K 19 #[pgV G] h (IsV errL h) := by
  refine body (N := 12) Tryz.func19 rfl (hK _ _ _ rfl) rfl rfl ?_
  (repeat' (first | apply zap | apply zac | (apply O_at; rfl) | (apply zaj; rfl) | apply zak | (apply za4; rfl) | apply zaw | apply zaX | apply zas | ((first | apply zad | apply zbe); rfl; rfl; rfl; rfl) | (apply zaA; rfl; rfl; rfl; rfl; exact zaT rfl; (focus repeat' first | exact zaa | assumption); (first | exact Nat.le_of_ble_eq_true rfl | (simp; done) | (simp; omega)); rfl) | (apply zaF; rfl; rfl; rfl; rfl; exact zah rfl; rfl; rfl) | (apply zan; rfl; rfl; rfl; rfl; rfl; rfl; exact no (zbY hK (hT.ext (by (focus repeat' first | exact Ext.refl _ | assumption | apply Ext.push | (refine Ext.trans ?_ (by assumption))))) hs) hP; (rintro _ _ ⟨rfl, _⟩)) | fail))
  exact ⟨.inr rfl, _, rfl, rfl, by (focus repeat' first | exact Ext.refl _ | assumption | apply Ext.push | (refine Ext.trans ?_ (by assumption)))⟩
end
end Go.AX.Sa
