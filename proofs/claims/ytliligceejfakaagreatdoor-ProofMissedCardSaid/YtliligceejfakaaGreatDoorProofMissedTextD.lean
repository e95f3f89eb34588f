/- The law ProofMissed at the reading: what the functions that it calls answer (4). -/
import Derived.Test.YtliligceejfakaaGreatDoorProofMissedTextC
namespace Go.AX.Sa
open Go.Proofs
set_option maxRecDepth 100000
variable {K : Known}
/-! Who misses most: the specification. -/
instance (e : Ent) (q : Int) : Decidable (inPair e q) := by unfold inPair; infer_instance
def hitP (G : Pg) (q : Int) (x : Int × Int) : Prop := inPair (ent (G.c.getD x.1.toNat cop0)) q
instance (G : Pg) (q : Int) (x : Int × Int) : Decidable (hitP G q x) := by unfold hitP; infer_instance
def cntL (G : Pg) (q : Int) (l : List (Int × Int)) : Nat := (l.filter fun x => decide (hitP G q x)).length
theorem zev (G : Pg) (q : Int) (l : List (Int × Int)) (x : Int × Int) : cntL G q (l ++ [x]) = cntL G q l + if hitP G q x then 1 else 0 := by
  unfold cntL
  rw [List.filter_append, List.length_append]
  by_cases h : hitP G q x <;> simp [h]
theorem cntL_le (G : Pg) (q : Int) (l : List (Int × Int)) : cntL G q l ≤ l.length := List.length_filter_le _ _
theorem misL_mem {G : Pg} {i : Nat} {x : Int} (h : x ∈ misL G i) : ∃ j : Nat, j < G.n ∧ x = (j : Int) ∧ MsP G i j := filL_mem.1 h
theorem zgF {G : Pg} {x : Int × Int} : ∀ {k : Nat}, x ∈ missK G k ↔ ∃ i : Nat, i < k ∧ ∃ j : Nat, j < G.n ∧ x = ((i : Int), (j : Int)) ∧ MsP G i j
  | 0 => ⟨fun h => (by cases h), fun ⟨i, h, _⟩ => by omega⟩
  | k + 1 => by
    unfold missK
    rw [List.mem_append, zgF (k := k)]
    constructor
    · rintro (⟨i, h1, h2⟩ | h)
      · exact ⟨i, by omega, h2⟩
      · unfold tag at h
        obtain ⟨y, hy, rfl⟩ := List.mem_map.1 h
        obtain ⟨j, h1, rfl, h2⟩ := misL_mem hy
        exact ⟨k, by omega, j, h1, rfl, h2⟩
    · rintro ⟨i, h1, j, h2, rfl, h3⟩
      by_cases hik : i = k
      · subst hik
        exact .inr (List.mem_map.2 ⟨(j : Int), filL_mem.2 ⟨j, h2, rfl, h3⟩, rfl⟩)
      · exact .inl ⟨i, by omega, j, h2, rfl, h3⟩
theorem zlP (G : Pg) (q : Int) (k : Nat) : ∀ l : List Int, cntL G q (tag k l) = if inPair (ent (G.c.getD k cop0)) q then l.length else 0
  | [] => by simp [cntL, tag]
  | x :: l => by
    have ih := zlP G q k l
    unfold cntL tag at ih ⊢
    rw [List.map_cons, List.filter_cons]
    have e1 : hitP G q ((k : Int), x) ↔ inPair (ent (G.c.getD k cop0)) q := by unfold hitP; rw [show ((k : Int), x).1.toNat = k from Int.toNat_natCast k]
    by_cases h : inPair (ent (G.c.getD k cop0)) q
    · rw [if_pos h] at ih ⊢
      rw [if_pos (by simpa using e1.2 h), List.length_cons, ih, List.length_cons]
    · rw [if_neg h] at ih ⊢
      rw [if_neg (by simpa using fun w => h (e1.1 w)), ih]
theorem cnt_of (G : Pg) (q : Int) : ∀ k, (cntL G q (missK G k) : Int) = ofK G q k
  | 0 => rfl
  | k + 1 => by
    have ih := cnt_of G q k
    unfold missK ofK
    have e1 : cntL G q (missK G k ++ tag k (misL G k)) = cntL G q (missK G k) + cntL G q (tag k (misL G k)) := by unfold cntL; rw [List.filter_append, List.length_append]
    rw [e1, zlP, Int.natCast_add, ih]
    congr 1
    by_cases h1 : (G.c.getD k cop0).par = 1
    · by_cases h : inPair (ent (G.c.getD k cop0)) q
      · rw [if_pos h, if_pos ⟨h1, h⟩]
      · rw [if_neg h, if_neg (fun w : RdrP (G.c.getD k cop0) q => h w.2)]; rfl
    · have e0 : misL G k = [] := zgV fun j _ w => h1 w.1.1
      rw [if_neg (fun w : RdrP (G.c.getD k cop0) q => h1 w.1), e0]
      split <;> rfl
theorem refOf_ok (hK : NoK K) {G : Pg} {q : Int} {h : Heap} (hT : PgAt G h) (hP : PgP G) :
    CallW Tryz.prog K 78 #[pgV G, .int .i64 q] h (IsV (.int .i64 (ofK G q G.c.length)) h) := by
  rw [← cnt_of]
  have hT' := hT
  have hP' := hP
  have hent := hP.ent
  have hsm := zcb hP (Nat.le_refl _)
  have hmem := fun x => (zgF (G := G) (x := x) (k := G.c.length)).1
  obtain ⟨l, hl⟩ : ∃ l, l = missK G G.c.length := ⟨_, rfl⟩
  have hcl := cntL_le G q
  obtain ⟨people, pl, kl, n, ll, pg, kc, c⟩ := G
  obtain ⟨len, rl, rc, each, hbl, hpb⟩ := hT
  dsimp only [pgV] at len rl rc each hbl hpb hent hmem hl hsm ⊢
  refine body (N := 43) Tryz.func78 rfl (hK _ _ _ rfl) rfl rfl ?_
  (repeat' (first | apply zal | apply zac | (apply O_at; rfl) | (apply zaf; rfl) | apply zak | ((first | apply zae | apply zad | apply zaA); rfl; rfl; rfl; rfl) | (apply zaE; rfl; rfl; rfl; rfl; exact zaO rfl; (focus repeat' first | exact zaa | assumption | apply zab | (apply Ext.get; assumption) | (apply ExtBut.get; assumption; (first | assumption | omega | (simp only [Heap.push]; omega)))); (first | exact Nat.le_of_ble_eq_true rfl | (rw [zaJ]; omega) | (simp; done) | (simp; omega) | (rw [zaG]; omega) | (rw [zaj]; omega)); (first | exact zaS (by omega) | rfl)) | (apply zaM; rfl; rfl; rfl; rfl; exact zai rfl; rfl; rfl) | fail))
  apply zan; rfl; rfl; rfl; rfl; rfl; rfl
  exact zck hK (G := ⟨people, pl, kl, n, ll, pg, kc, c⟩) (hT'.ext (by (focus repeat' first | exact Ext.refl _ | assumption | apply Ext.push | (refine Ext.trans ?_ (by assumption)) | (refine Ext.ofBut ?_ (by assumption) (by first | exact Nat.le_refl _ | omega))))) hP'
  rintro _ h2 ⟨p, cap, rfl, r2, x2⟩
  dsimp only at r2 ⊢
  rw [← hl] at r2 hsm hmem ⊢
  have gp2 := x2.get zaa
  (repeat' (first | apply zal | apply zac | (apply O_at; rfl) | (apply zaf; rfl) | apply zak | apply zar | ((first | apply zae | apply zad | apply zaA); rfl; rfl; rfl; rfl) | fail))
  refine za9 (fun k : Nat => [(7, .int .i64 (k : Nat)), (6, .int .i64 (cntL ⟨people, pl, kl, n, ll, pg, kc, c⟩ q (l.take k) : Nat)), (5, .slice p l.length cap), (1, .int .i64 q), (2, .pointer (some ⟨h.n, 0, none⟩))])
    (fun k h' => k ≤ l.length ∧ Ext h2 h') (fun k => l.length - k) ?_ 0 ?_ ?_
  · rintro k h' ⟨hk, hx⟩ ih
    have gp := hx.get gp2
    have hck := hcl (l.take k)
    rw [List.length_take] at hck
    replace hck := Nat.le_trans hck (Nat.min_le_left _ _)
    by_cases hlt : k < l.length
    · obtain ⟨b, e, own', rfl, hg⟩ := r2.at (by rw [zaG]; omega)
      have hg' := hx.get hg
      have e1 : l.take (k + 1) = l.take k ++ [l.getD k (0, 0)] := by rw [List.take_add_one, List.getElem?_eq_getElem hlt]; simp [List.getD_eq_getElem?_getD, hlt]
      obtain ⟨i, hi, j, hj, hij, hms⟩ := hmem (l.getD k (0, 0)) (by rw [List.getD_eq_getElem?_getD, List.getElem?_eq_getElem hlt]; exact List.getElem_mem hlt)
      obtain ⟨b3, e3, own3, rfl, hg3⟩ := rc.at (by rw [zaJ]; omega)
      have hrow := each i hi
      have hcb := hrow.b
      have h1i : (c.getD i cop0).par = 1 := hms.1.1
      have z := ent1.1 (show EntP people n (1, (c.getD i cop0).r.s) from by rw [← h1i]; exact hent i hi)
      obtain ⟨b4, e4, own4, hq4, hg4⟩ := hrow.rd.at (by rw [zaj]; omega)
      have hit : hitP ⟨people, pl, kl, n, ll, some ⟨b3, 0, none⟩, kc, c⟩ q (l.getD k (0, 0)) ↔ inPair (ent (c.getD i cop0)) q := by unfold hitP; rw [hij, show ((i : Int), (j : Int)).1.toNat = i from Int.toNat_natCast i]
      have xh : Ext h h' := by (focus repeat' first | exact Ext.refl _ | assumption | apply Ext.push | (refine Ext.trans ?_ (by assumption)) | (refine Ext.ofBut ?_ (by assumption) (by first | exact Nat.le_refl _ | omega)))
      have hg3' := xh.get hg3
      have hg4' := xh.get hg4
      have hb4 := Heap.get_lt hg4'
      have hxn := hx.n
      have hi1 : (l.getD k (0, 0)).1 = (i : Nat) := by rw [hij]
      (repeat' (first | apply zal | apply zac | (apply O_at; rfl) | (apply N_at; rfl) | (apply zaf; rfl) | apply zak | (apply zaX; rfl) | (apply za7; exact zau (by decide +kernel)) | apply zar | apply zav | (apply zbr; rfl; refine .inr ?_; (focus repeat' first | exact trivial | apply And.intro | rfl)) | ((first | apply zae | apply zad | apply zaA); rfl; rfl; rfl; rfl) | ((first | apply P_fa | apply M_fa); rfl; rfl; rfl; rfl; exact zay rfl; (first | exact Nat.zero_add _ | exact Nat.add_zero _ | rfl)) | (apply zbm; rfl; rfl; rfl; rfl; rfl; rfl; exact zat rfl) | (apply zbo; rfl; rfl; rfl; rfl; rfl; omega) | (apply zah; rfl; rfl; rfl; rfl; exact zap rfl; (focus repeat' first | exact zaa | assumption | apply zab | (apply Ext.get; assumption) | (apply ExtBut.get; assumption; (first | assumption | omega | (simp only [Heap.push]; omega)))); (first | exact zag (by omega) | exact zdJ (by omega) | rfl | assumption)) | (apply zfh; rfl; rfl; rfl; rfl; rfl; exact zat rfl; exact zai rfl; (first | assumption | exact zq0 | exact zq1 | rfl | exact (Int.toNat_of_nonneg (by omega)).symm); omega) | ((first | ((apply zbb; rfl; rfl; rfl; rfl; exact zap rfl; exact zax (by decide +kernel)); (focus repeat' first | exact zaa | assumption | apply zab | (apply Ext.get; assumption) | (apply ExtBut.get; assumption; (first | assumption | omega | (simp only [Heap.push]; omega)))); (first | exact zag (by omega) | exact zdJ (by omega) | rfl | assumption)) | ((apply zcd; rfl; rfl; rfl; rfl; exact zaO rfl; exact zax (by decide +kernel)); (focus repeat' first | exact zaa | assumption | apply zab | (apply Ext.get; assumption) | (apply ExtBut.get; assumption; (first | assumption | omega | (simp only [Heap.push]; omega)))); (first | exact Nat.le_of_ble_eq_true rfl | (rw [zaJ]; omega) | (simp; done) | (simp; omega) | (rw [zaG]; omega) | (rw [zaj]; omega)); (first | exact zaS (by omega) | rfl))); (first | assumption | exact zaH _ _ | exact za1 _ _ _ | exact zcL _ _ _ _ | rfl | (focus simp [same, same.all2]; done)); (first | rfl | assumption | exact hwv _ | (focus apply za0; (focus repeat' first | exact zaa | assumption | apply zab | (apply Ext.get; assumption) | (apply ExtBut.get; assumption; (first | assumption | omega | (simp only [Heap.push]; omega)))); done) | exact zbw (by assumption) (by (focus repeat' first | exact Ext.refl _ | assumption | apply Ext.push | (refine Ext.trans ?_ (by assumption)) | (refine Ext.ofBut ?_ (by assumption) (by first | exact Nat.le_refl _ | omega)))) | (simp [within]; omega))) | (apply M_alloc; rfl; rfl; rfl; rfl; exact zai rfl; rfl; rfl) | (apply M_storeW; rfl; rfl; rfl; rfl; (focus repeat' first | exact zaa | assumption | apply zab | (apply Ext.get; assumption) | (apply ExtBut.get; assumption; (first | assumption | omega | (simp only [Heap.push]; omega)))); exact zai rfl; rfl; (first | rfl | exact zaj _); rfl; rfl; (intro _ _ _)) | fail))
      rw [hq4]
      (repeat' (first | apply zac | (apply O_at; rfl) | (apply zaf; rfl) | apply zak | (apply zaX; rfl) | apply zaC | (apply zbu; rfl; rfl; rfl) | ((first | apply zae | apply zad | apply zaA); rfl; rfl; rfl; rfl) | ((first | apply P_fa | apply M_fa); rfl; rfl; rfl; rfl; exact zay rfl; (first | exact Nat.zero_add _ | exact Nat.add_zero _ | rfl)) | (apply zaZ; rfl; rfl; rfl; rfl; rfl; rfl) | (apply zg7; rfl; rfl; rfl; rfl; rfl; all_goals intro _) | (apply zbJ; rfl; rfl; rfl; rfl; rfl; (unfold fit; omega)) | (apply zbW; rfl; rfl; rfl; rfl; rfl; exact zat rfl; exact zai rfl; (first | assumption | exact zq0 | exact zq1 | rfl | exact (Int.toNat_of_nonneg (by omega)).symm); omega) | (apply zah; rfl; rfl; rfl; rfl; exact zap rfl; (focus repeat' first | exact zaa | assumption | apply zab | (apply Ext.get; assumption) | (apply ExtBut.get; assumption; (first | assumption | omega | (simp only [Heap.push]; omega)))); (first | exact zag (by omega) | exact zdJ (by omega) | rfl | assumption)) | fail))
      · rename_i w
        refine zaN (ih (k + 1) _ (by omega) ⟨hlt, by (focus repeat' first | exact Ext.refl _ | assumption | apply Ext.push | (refine Ext.trans ?_ (by assumption)) | (refine Ext.ofBut ?_ (by assumption) (by first | exact Nat.le_refl _ | omega)))⟩) ⟨rfl, ?_, rfl, rfl, rfl, trivial⟩
        rw [e1, zev, if_pos (hit.2 (.inl w))]
        rfl
      · rename_i w
        rw [hq4]
        (repeat' (first | apply zac | (apply O_at; rfl) | (apply zaf; rfl) | apply zak | (apply zaX; rfl) | (apply zaF; rfl) | apply zav | apply zaC | ((first | apply zae | apply zad | apply zaA); rfl; rfl; rfl; rfl) | (apply zaZ; rfl; rfl; rfl; rfl; rfl; rfl) | (apply zg7; rfl; rfl; rfl; rfl; rfl; all_goals intro _) | (apply zbJ; rfl; rfl; rfl; rfl; rfl; (unfold fit; omega)) | (apply zbW; rfl; rfl; rfl; rfl; rfl; exact zat rfl; exact zai rfl; (first | assumption | exact zq0 | exact zq1 | rfl | exact (Int.toNat_of_nonneg (by omega)).symm); omega) | (apply zah; rfl; rfl; rfl; rfl; exact zap rfl; (focus repeat' first | exact zaa | assumption | apply zab | (apply Ext.get; assumption) | (apply ExtBut.get; assumption; (first | assumption | omega | (simp only [Heap.push]; omega)))); (first | exact zag (by omega) | exact zdJ (by omega) | rfl | assumption)) | fail))
        · rename_i w2
          refine zaN (ih (k + 1) _ (by omega) ⟨hlt, by (focus repeat' first | exact Ext.refl _ | assumption | apply Ext.push | (refine Ext.trans ?_ (by assumption)) | (refine Ext.ofBut ?_ (by assumption) (by first | exact Nat.le_refl _ | omega)))⟩) ⟨rfl, ?_, rfl, rfl, rfl, trivial⟩
          rw [e1, zev, if_pos (hit.2 (.inr w2))]
          rfl
        · rename_i w2
          refine zaN (ih (k + 1) _ (by omega) ⟨hlt, by (focus repeat' first | exact Ext.refl _ | assumption | apply Ext.push | (refine Ext.trans ?_ (by assumption)) | (refine Ext.ofBut ?_ (by assumption) (by first | exact Nat.le_refl _ | omega)))⟩) ⟨rfl, ?_, rfl, rfl, rfl, trivial⟩
          rw [e1, zev, if_neg (fun u => (hit.1 u).elim w w2)]
          rfl
    · obtain rfl : k = l.length := by omega
      (repeat' (first | apply zal | apply zac | (apply O_at; rfl) | (apply zaf; rfl) | apply zak | (apply zaF; rfl) | apply zbd | apply zaB | apply zbe | apply zaV | apply zaW | apply zaq | ((first | apply zae | apply zad | apply zaA); rfl; rfl; rfl; rfl) | (apply zbm; rfl; rfl; rfl; rfl; rfl; rfl; exact zat rfl) | (apply zbp; rfl; rfl; rfl; rfl; rfl; omega) | fail))
      refine ⟨.inr rfl, _, rfl, ?_, by (focus repeat' first | exact Ext.refl _ | assumption | apply Ext.push | (refine Ext.trans ?_ (by assumption)) | (refine Ext.ofBut ?_ (by assumption) (by first | exact Nat.le_refl _ | omega)))⟩
      rw [List.take_length]
      rfl
  · exact ⟨Nat.zero_le _, Ext.refl _⟩
  · (focus repeat' first | rfl | exact trivial | apply And.intro)
theorem zd4 (hK : NoK K) {G : Pg} {h : Heap} (hT : PgAt G h) (hP : PgP G) :
    CallW Tryz.prog K 41 #[pgV G] h (fun v h1 => ((v = .tuple #[.int .i64 (wst G).1, .int .i64 (wst G).2, .bool true] ∧ (wst G).2 > 0) ∨ (v = .tuple #[.int .i64 (wst G).1, .int .i64 (wst G).2, .bool false] ∧ ¬ (wst G).2 > 0)) ∧ Ext h h1) := by
  have hT' := hT
  have hP' := hP
  have hpp := hP.people
  unfold wst
  obtain ⟨people, pl, kl, n, ll, pg, kc, c⟩ := G
  dsimp only [pgV] at hpp ⊢
  obtain ⟨m, hm⟩ : ∃ m : Nat, people = (m : Nat) := ⟨people.toNat, by omega⟩
  subst hm
  rw [Int.toNat_natCast]
  refine body (N := 27) Tryz.func41 rfl (hK _ _ _ rfl) rfl rfl ?_
  (repeat' (first | apply zal | apply zac | (apply O_at; rfl) | (apply zaf; rfl) | apply zak | apply zar | ((first | apply zae | apply zad); rfl; rfl; rfl; rfl) | (apply zaM; rfl; rfl; rfl; rfl; exact zai rfl; rfl; rfl) | fail))
  refine za9 (fun k : Nat => [(7, .int .i64 (k : Nat)), (5, .int .i64 (wstK ⟨(m : Nat), pl, kl, n, ll, pg, kc, c⟩ k).1), (6, .int .i64 (wstK ⟨(m : Nat), pl, kl, n, ll, pg, kc, c⟩ k).2), (1, .pointer (some ⟨h.n, 0, none⟩))])
    (fun k h' => k ≤ m ∧ Ext (h.push (.cells [.int .i64 (m : Nat), .slice pl n kl, .slice pg c.length kc] 25 true)) h') (fun k => m - k) ?_ 0 ?_ ?_
  · rintro k h' ⟨hk, hx⟩ ih
    have gp := hx.get zaa
    by_cases hlt : k < m
    · (repeat' (first | apply zal | apply zac | (apply O_at; rfl) | (apply zaf; rfl) | apply zak | (apply zaX; rfl) | (apply zaF; rfl) | apply zar | apply zav | apply zaC | ((first | apply zae | apply zad); rfl; rfl; rfl; rfl) | (apply P_fa; rfl; rfl; rfl; rfl; exact zay rfl; (first | exact Nat.zero_add _ | exact Nat.add_zero _ | rfl)) | (apply zbo; rfl; rfl; rfl; rfl; rfl; omega) | (apply zij; rfl; rfl; rfl; rfl; rfl; all_goals intro _) | (apply zbJ; rfl; rfl; rfl; rfl; rfl; (unfold fit; omega)) | (apply zah; rfl; rfl; rfl; rfl; exact zap rfl; (focus repeat' first | exact zaa | assumption | (apply Ext.get; assumption)); (first | rfl | assumption)) | (apply zaE; rfl; rfl; rfl; rfl; exact zaO rfl; (focus repeat' first | exact zaa | assumption | (apply Ext.get; assumption)); (first | exact Nat.le_of_ble_eq_true rfl | (simp; done) | (simp; omega)); rfl) | (apply zan; rfl; rfl; rfl; rfl; rfl; rfl; exact refOf_ok (G := ⟨(m : Nat), pl, kl, n, ll, pg, kc, c⟩) hK (hT'.ext (by (focus repeat' first | exact Ext.refl _ | assumption | apply Ext.push | (refine Ext.trans ?_ (by assumption))))) hP'; (rintro _ _ ⟨rfl, _⟩)) | fail))
      · rename_i h3 x3 w
        refine zaN (ih (k + 1) _ (by omega) ⟨hlt, by (focus repeat' first | exact Ext.refl _ | assumption | apply Ext.push | (refine Ext.trans ?_ (by assumption)))⟩) ⟨rfl, ?_, ?_, rfl, trivial⟩
        · rw [show wstK ⟨(m : Nat), pl, kl, n, ll, pg, kc, c⟩ (k + 1) = _ from if_pos w]; rfl
        · rw [show wstK ⟨(m : Nat), pl, kl, n, ll, pg, kc, c⟩ (k + 1) = _ from if_pos w]; rfl
      · rename_i h3 x3 w
        refine zaN (ih (k + 1) _ (by omega) ⟨hlt, by (focus repeat' first | exact Ext.refl _ | assumption | apply Ext.push | (refine Ext.trans ?_ (by assumption)))⟩) ⟨rfl, ?_, ?_, rfl, trivial⟩
        · rw [show wstK ⟨(m : Nat), pl, kl, n, ll, pg, kc, c⟩ (k + 1) = _ from if_neg w]; rfl
        · rw [show wstK ⟨(m : Nat), pl, kl, n, ll, pg, kc, c⟩ (k + 1) = _ from if_neg w]; rfl
    · obtain rfl : k = m := by omega
      (repeat' (first | apply zal | apply zac | (apply O_at; rfl) | (apply zaf; rfl) | apply zak | (apply zaF; rfl) | apply zbd | apply zaB | apply zbe | apply zaV | apply zaW | apply zaq | ((first | apply zae | apply zad); rfl; rfl; rfl; rfl) | (apply P_fa; rfl; rfl; rfl; rfl; exact zay rfl; (first | exact Nat.zero_add _ | exact Nat.add_zero _ | rfl)) | (apply zbp; rfl; rfl; rfl; rfl; rfl; omega) | (apply zij; rfl; rfl; rfl; rfl; rfl; all_goals intro _) | (apply zah; rfl; rfl; rfl; rfl; exact zap rfl; (focus repeat' first | exact zaa | assumption | (apply Ext.get; assumption)); (first | rfl | assumption)) | fail))
      · rename_i w
        exact ⟨.inr rfl, _, rfl, .inl ⟨rfl, w⟩, by (focus repeat' first | exact Ext.refl _ | assumption | apply Ext.push | (refine Ext.trans ?_ (by assumption)))⟩
      · rename_i w
        exact ⟨.inr rfl, _, rfl, .inr ⟨rfl, w⟩, by (focus repeat' first | exact Ext.refl _ | assumption | apply Ext.push | (refine Ext.trans ?_ (by assumption)))⟩
  · exact ⟨Nat.zero_le _, by (focus repeat' first | exact Ext.refl _ | assumption | apply Ext.push | (refine Ext.trans ?_ (by assumption)))⟩
  · (focus repeat' first | rfl | exact trivial | apply And.intro)
theorem zll {G : Pg} (hP : PgP G) : (missK G G.c.length).length ≤ 1000 := by have := zcb hP (Nat.le_refl _); omega
theorem zeP (hK : NoK K) (hKn : Kn K) {G : Pg} {h : Heap} (hT : PgAt G h) : CallW Tryz.prog K 9 #[pgV G] h TrueB := by
  refine body (N := 96) Tryz.func9 rfl (hK _ _ _ rfl) rfl rfl ?_
  by_cases hs : ShortP G
  · by_cases hP : PgP G
    · have hl := zll hP
      have hw := zkg G G.people.toNat
      by_cases h0 : (wst G).2 = 0
      · have e0 : (if (wst G).2 = 0 then (.tuple #[.int .i64 0, .int .i64 0, .int .i64 5] : Value) else .tuple #[.int .i64 (wst G).1, .int .i64 (wst G).2, .int .i64 0]) = .tuple #[.int .i64 0, .int .i64 0, .int .i64 5] := if_pos h0
        (repeat' (first | apply zal | apply zac | (apply O_at; rfl) | (apply zaf; rfl) | apply zak | (apply zaF; rfl) | apply zav | ((first | apply zae | apply zad | apply zbj); rfl; rfl; rfl; rfl) | (apply zaE; rfl; rfl; rfl; rfl; exact zaO rfl; (focus repeat' first | exact zaa | assumption | (apply Ext.get; assumption)); (first | exact Nat.le_of_ble_eq_true rfl | (simp; done) | (simp; omega)); rfl) | (apply zaM; rfl; rfl; rfl; rfl; exact zai rfl; rfl; rfl) | (apply zan; rfl; rfl; rfl; rfl; rfl; rfl; exact yes (zdL hK (hT.ext (by (focus repeat' first | exact Ext.refl _ | assumption | apply Ext.push | (refine Ext.trans ?_ (by assumption)))))) hs; (rintro _ _ ⟨rfl, _⟩)) | fail))
        apply zan; rfl; rfl; rfl; rfl; rfl; rfl
        exact ze4 hK (hT.ext (by (focus repeat' first | exact Ext.refl _ | assumption | apply Ext.push | (refine Ext.trans ?_ (by assumption))))) hs hP
        rintro _ h2 ⟨p2, c2, rfl, r2, x2⟩
        (repeat' (first | apply zal | apply zac | (apply O_at; rfl) | (apply zaf; rfl) | apply zak | (apply zaF; rfl) | apply zav | ((first | apply zae | apply zad | apply zbj); rfl; rfl; rfl; rfl) | (apply zcx; rfl; rfl; rfl; rfl; rfl) | (apply zg5; rfl; rfl; rfl; rfl; rfl; omega) | (apply zaE; rfl; rfl; rfl; rfl; exact zaO rfl; (focus repeat' first | exact zaa | assumption | (apply Ext.get; assumption)); (first | exact Nat.le_of_ble_eq_true rfl | (simp; done) | (simp; omega)); rfl) | (apply zan; rfl; rfl; rfl; rfl; rfl; rfl; exact e0 ▸ zir hK (hT.ext (by (focus repeat' first | exact Ext.refl _ | assumption | apply Ext.push | (refine Ext.trans ?_ (by assumption))))) hs hP; (rintro _ _ ⟨rfl, _⟩)) | (apply zan; rfl; rfl; rfl; rfl; rfl; rfl; exact yes (zdk hK (hT.ext (by (focus repeat' first | exact Ext.refl _ | assumption | apply Ext.push | (refine Ext.trans ?_ (by assumption))))) hs) hP; (rintro _ _ ⟨rfl, _⟩)) | fail))
        apply zan; rfl; rfl; rfl; rfl; rfl; rfl
        exact zck hK (hT.ext (by (focus repeat' first | exact Ext.refl _ | assumption | apply Ext.push | (refine Ext.trans ?_ (by assumption))))) hP
        rintro _ h4 ⟨p4, c4, rfl, r4, x4⟩
        (repeat' (first | apply zal | apply zac | (apply O_at; rfl) | (apply zaf; rfl) | apply zak | (apply zaF; rfl) | apply zav | ((first | apply zae | apply zad | apply zbj); rfl; rfl; rfl; rfl) | (apply zaZ; rfl; rfl; rfl; rfl; rfl; rfl) | (apply zaE; rfl; rfl; rfl; rfl; exact zaO rfl; (focus repeat' first | exact zaa | assumption | (apply Ext.get; assumption)); (first | exact Nat.le_of_ble_eq_true rfl | (simp; done) | (simp; omega)); rfl) | (apply zan; rfl; rfl; rfl; rfl; rfl; rfl; exact yes (zcY hK hl hl (r2.ext (by (focus repeat' first | exact Ext.refl _ | assumption | apply Ext.push | (refine Ext.trans ?_ (by assumption))))) r4) rfl; (rintro _ _ ⟨rfl, _⟩)) | fail))
        apply zan; rfl; rfl; rfl; rfl; rfl; rfl
        exact zd4 hK (hT.ext (by (focus repeat' first | exact Ext.refl _ | assumption | apply Ext.push | (refine Ext.trans ?_ (by assumption))))) hP
        rintro _ h6 ⟨⟨rfl, w6⟩ | ⟨rfl, w6⟩, x6⟩
        · exact absurd h0 (by unfold wst at w6 ⊢; omega)
        · (repeat' (first | apply zal | apply zac | (apply O_at; rfl) | (apply zaf; rfl) | apply zak | (apply zaX; rfl) | apply zaB | apply za8 | apply zaq | ((first | apply zae | apply zad | apply zbj); rfl; rfl; rfl; rfl) | (apply zaZ; rfl; rfl; rfl; rfl; rfl; rfl) | (apply zcx; rfl; rfl; rfl; rfl; rfl) | (apply zbG; rfl; rfl; rfl; rfl; rfl; omega) | (apply zan; rfl; rfl; rfl; rfl; rfl; rfl; exact zc3 hKn; (rintro _ _ ⟨rfl, _⟩)) | fail))
          exact ⟨.inr rfl, _, rfl, rfl⟩
      · have e0 : (if (wst G).2 = 0 then (.tuple #[.int .i64 0, .int .i64 0, .int .i64 5] : Value) else .tuple #[.int .i64 (wst G).1, .int .i64 (wst G).2, .int .i64 0]) = .tuple #[.int .i64 (wst G).1, .int .i64 (wst G).2, .int .i64 0] := if_neg h0
        (repeat' (first | apply zal | apply zac | (apply O_at; rfl) | (apply zaf; rfl) | apply zak | (apply zaF; rfl) | apply zav | ((first | apply zae | apply zad | apply zbj); rfl; rfl; rfl; rfl) | (apply zaE; rfl; rfl; rfl; rfl; exact zaO rfl; (focus repeat' first | exact zaa | assumption | (apply Ext.get; assumption)); (first | exact Nat.le_of_ble_eq_true rfl | (simp; done) | (simp; omega)); rfl) | (apply zaM; rfl; rfl; rfl; rfl; exact zai rfl; rfl; rfl) | (apply zan; rfl; rfl; rfl; rfl; rfl; rfl; exact yes (zdL hK (hT.ext (by (focus repeat' first | exact Ext.refl _ | assumption | apply Ext.push | (refine Ext.trans ?_ (by assumption)))))) hs; (rintro _ _ ⟨rfl, _⟩)) | fail))
        apply zan; rfl; rfl; rfl; rfl; rfl; rfl
        exact ze4 hK (hT.ext (by (focus repeat' first | exact Ext.refl _ | assumption | apply Ext.push | (refine Ext.trans ?_ (by assumption))))) hs hP
        rintro _ h2 ⟨p2, c2, rfl, r2, x2⟩
        (repeat' (first | apply zal | apply zac | (apply O_at; rfl) | (apply zaf; rfl) | apply zak | (apply zaF; rfl) | apply zav | ((first | apply zae | apply zad | apply zbj); rfl; rfl; rfl; rfl) | (apply zcx; rfl; rfl; rfl; rfl; rfl) | (apply zg5; rfl; rfl; rfl; rfl; rfl; omega) | (apply zaE; rfl; rfl; rfl; rfl; exact zaO rfl; (focus repeat' first | exact zaa | assumption | (apply Ext.get; assumption)); (first | exact Nat.le_of_ble_eq_true rfl | (simp; done) | (simp; omega)); rfl) | (apply zan; rfl; rfl; rfl; rfl; rfl; rfl; exact e0 ▸ zir hK (hT.ext (by (focus repeat' first | exact Ext.refl _ | assumption | apply Ext.push | (refine Ext.trans ?_ (by assumption))))) hs hP; (rintro _ _ ⟨rfl, _⟩)) | (apply zan; rfl; rfl; rfl; rfl; rfl; rfl; exact yes (zdk hK (hT.ext (by (focus repeat' first | exact Ext.refl _ | assumption | apply Ext.push | (refine Ext.trans ?_ (by assumption))))) hs) hP; (rintro _ _ ⟨rfl, _⟩)) | fail))
        apply zan; rfl; rfl; rfl; rfl; rfl; rfl
        exact zck hK (hT.ext (by (focus repeat' first | exact Ext.refl _ | assumption | apply Ext.push | (refine Ext.trans ?_ (by assumption))))) hP
        rintro _ h4 ⟨p4, c4, rfl, r4, x4⟩
        (repeat' (first | apply zal | apply zac | (apply O_at; rfl) | (apply zaf; rfl) | apply zak | (apply zaF; rfl) | apply zav | ((first | apply zae | apply zad | apply zbj); rfl; rfl; rfl; rfl) | (apply zaZ; rfl; rfl; rfl; rfl; rfl; rfl) | (apply zaE; rfl; rfl; rfl; rfl; exact zaO rfl; (focus repeat' first | exact zaa | assumption | (apply Ext.get; assumption)); (first | exact Nat.le_of_ble_eq_true rfl | (simp; done) | (simp; omega)); rfl) | (apply zan; rfl; rfl; rfl; rfl; rfl; rfl; exact yes (zcY hK hl hl (r2.ext (by (focus repeat' first | exact Ext.refl _ | assumption | apply Ext.push | (refine Ext.trans ?_ (by assumption))))) r4) rfl; (rintro _ _ ⟨rfl, _⟩)) | fail))
        apply zan; rfl; rfl; rfl; rfl; rfl; rfl
        exact zd4 hK (hT.ext (by (focus repeat' first | exact Ext.refl _ | assumption | apply Ext.push | (refine Ext.trans ?_ (by assumption))))) hP
        rintro _ h6 ⟨⟨rfl, w6⟩ | ⟨rfl, w6⟩, x6⟩
        · (repeat' (first | apply zal | apply zac | (apply O_at; rfl) | (apply zaf; rfl) | apply zak | (apply zaF; rfl) | apply zav | apply zaB | apply zaq | ((first | apply zae | apply zad | apply zbj); rfl; rfl; rfl; rfl) | (apply zaZ; rfl; rfl; rfl; rfl; rfl; rfl) | (apply zcx; rfl; rfl; rfl; rfl; rfl) | (apply zbG; rfl; rfl; rfl; rfl; rfl; omega) | (apply zan; rfl; rfl; rfl; rfl; rfl; rfl; exact zc3 hKn; (rintro _ _ ⟨rfl, _⟩)) | fail))
          exact ⟨.inr rfl, _, rfl, rfl⟩
        · exact absurd (by unfold wst at w6 ⊢; omega) h0
    · (repeat' (first | apply zal | apply zac | (apply O_at; rfl) | (apply zaf; rfl) | apply zak | (apply zaX; rfl) | (apply zaF; rfl) | apply zav | apply zaB | apply za8 | apply zaq | ((first | apply zae | apply zad | apply zbj); rfl; rfl; rfl; rfl) | (apply zbm; rfl; rfl; rfl; rfl; rfl; rfl; exact zat rfl) | (apply zaZ; rfl; rfl; rfl; rfl; rfl; rfl) | (apply zcx; rfl; rfl; rfl; rfl; rfl) | (apply zbG; rfl; rfl; rfl; rfl; rfl; omega) | (apply zaE; rfl; rfl; rfl; rfl; exact zaO rfl; (focus repeat' first | exact zaa | assumption | (apply Ext.get; assumption)); (first | exact Nat.le_of_ble_eq_true rfl | (simp; done) | (simp; omega)); rfl) | (apply zaM; rfl; rfl; rfl; rfl; exact zai rfl; rfl; rfl) | (apply zan; rfl; rfl; rfl; rfl; rfl; rfl; exact yes (zdL hK (hT.ext (by (focus repeat' first | exact Ext.refl _ | assumption | apply Ext.push | (refine Ext.trans ?_ (by assumption)))))) hs; (rintro _ _ ⟨rfl, _⟩)) | (apply zan; rfl; rfl; rfl; rfl; rfl; rfl; exact zlk hK (hT.ext (by (focus repeat' first | exact Ext.refl _ | assumption | apply Ext.push | (refine Ext.trans ?_ (by assumption))))) hs hP; (rintro _ _ ⟨rfl, _⟩)) | (apply zan; rfl; rfl; rfl; rfl; rfl; rfl; exact worst_no hK (hT.ext (by (focus repeat' first | exact Ext.refl _ | assumption | apply Ext.push | (refine Ext.trans ?_ (by assumption))))) hs hP; (rintro _ _ ⟨rfl, _⟩)) | (apply zan; rfl; rfl; rfl; rfl; rfl; rfl; exact no (zdk hK (hT.ext (by (focus repeat' first | exact Ext.refl _ | assumption | apply Ext.push | (refine Ext.trans ?_ (by assumption))))) hs) hP; (rintro _ _ ⟨rfl, _⟩)) | (apply zan; rfl; rfl; rfl; rfl; rfl; rfl; exact zc3 hKn; (rintro _ _ ⟨rfl, _⟩)) | fail))
      exact ⟨.inr rfl, _, rfl, rfl⟩
  · (repeat' (first | apply zal | apply zac | (apply O_at; rfl) | (apply zaf; rfl) | apply zak | (apply zaX; rfl) | apply zaB | apply za8 | apply zaq | ((first | apply zae | apply zad | apply zbj); rfl; rfl; rfl; rfl) | (apply zaE; rfl; rfl; rfl; rfl; exact zaO rfl; (focus repeat' first | exact zaa | assumption | (apply Ext.get; assumption)); (first | exact Nat.le_of_ble_eq_true rfl | (simp; done) | (simp; omega)); rfl) | (apply zaM; rfl; rfl; rfl; rfl; exact zai rfl; rfl; rfl) | (apply zan; rfl; rfl; rfl; rfl; rfl; rfl; exact no (zdL hK (hT.ext (by (focus repeat' first | exact Ext.refl _ | assumption | apply Ext.push | (refine Ext.trans ?_ (by assumption)))))) hs; (rintro _ _ ⟨rfl, _⟩)) | (apply zan; rfl; rfl; rfl; rfl; rfl; rfl; exact zc3 hKn; (rintro _ _ ⟨rfl, _⟩)) | fail))
    exact ⟨.inr rfl, _, rfl, rfl⟩
end Go.AX.Sa
