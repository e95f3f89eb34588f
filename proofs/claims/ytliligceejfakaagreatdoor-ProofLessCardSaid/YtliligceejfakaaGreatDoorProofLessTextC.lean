/- The law ProofLess at the reading: what the functions that it calls answer (3). -/
import Derived.Test.YtliligceejfakaaGreatDoorProofLessTextB
namespace Go.AX.Sa
open Go.Proofs
set_option maxRecDepth 100000
variable {K : Known}
/-! A page without some entries; a fall. -/
def wthC (l : List Int) (c : List Cop) (k : Nat) : List Cop := ((List.range k).filter fun i => decide (((i : Nat) : Int) ∉ l)).map fun i => c.getD i cop0
theorem zdX (l : List Int) (c : List Cop) (k : Nat) : wthC l c (k + 1) = wthC l c k ++ (if ((k : Nat) : Int) ∈ l then [] else [c.getD k cop0]) := by
  unfold wthC
  rw [List.range_succ, List.filter_append, List.map_append]
  congr 1
  by_cases h : ((k : Nat) : Int) ∈ l <;> simp [h]
theorem zfi (l : List Int) (c : List Cop) (k : Nat) : (wthC l c k).length ≤ k := by
  unfold wthC
  rw [List.length_map]
  exact Nat.le_trans (List.length_filter_le _ _) (by simp)
theorem zfh {l : List Int} {c : List Cop} {k : Nat} {x : Cop} (h : x ∈ wthC l c k) : ∃ i, i < k ∧ x = c.getD i cop0 := by
  unfold wthC at h
  obtain ⟨i, hi, rfl⟩ := List.mem_map.1 h
  exact ⟨i, List.mem_range.1 (List.mem_filter.1 hi).1, rfl⟩
def wthG (G : Pg) (l : List Int) (q : Option Addr) (k : Nat) : Pg := { G with pg := q, kg := k, c := wthC l G.c G.c.length }
set_option maxHeartbeats 1000000 in
theorem ziS (hK : NoK K) {G : Pg} {l : List Int} {p : Option Addr} {cap : Nat} {h : Heap} (hT : PgAt G h) (hr : Rd h p (ints l)) (hl : l.length ≤ 1000) (hc : G.c.length ≤ 1000) :
    CallW Tryz.prog K 46 #[pgV G, .slice p l.length cap] h (fun v h1 => ∃ q k, v = pgV (wthG G l q k) ∧ PgAt (wthG G l q k) h1 ∧ Ext h h1) := by
  obtain ⟨people, pl, kl, n, ll, pg, kc, c⟩ := G
  obtain ⟨len, rl, rc, each, hbl, hpb⟩ := hT
  dsimp only [pgV] at len rl rc each hbl hpb hc ⊢
  refine body (N := 30) Tryz.func46 rfl (hK _ _ _ rfl) rfl rfl ?_
  (repeat' (first | apply zar | apply zac | (apply O_at; rfl) | (apply zan; rfl) | apply zao | ((first | apply zai | apply zad | apply zbp | apply zaA); rfl; rfl; rfl; rfl) | ((first | apply P_fa | apply M_fa); rfl; rfl; rfl; rfl; exact zaG rfl; (first | exact Nat.zero_add _ | exact Nat.add_zero _ | rfl)) | (apply zaj; rfl; rfl; rfl; rfl; exact zay rfl; (focus repeat' first | exact zaa | assumption | apply zab | (apply Ext.get; assumption) | (apply ExtBut.get; assumption; (first | assumption | omega | (simp only [Heap.push]; omega)))); (first | rfl | assumption)) | (apply zaY; rfl; rfl; rfl; rfl; exact zaf rfl; rfl; rfl) | (apply zbJ; rfl; rfl; rfl; rfl; exact zaf rfl; rfl; rfl) | fail))
  refine zfU rfl rfl rfl rfl (zab zaa) (zaf rfl) rfl (Nat.le_of_ble_eq_true rfl) rfl ?_
  (repeat' (first | apply zar | apply zac | (apply O_at; rfl) | (apply zan; rfl) | apply zao | apply zam | ((first | apply zai | apply zad | apply zbp | apply zaA); rfl; rfl; rfl; rfl) | fail))
  generalize hh : Heap.set _ _ _ = h2
  have e1 : h2.get? h.n = some (.cells [.int .i64 people, .slice pl n kl, .slice none 0 0] 25 true) := by rw [← hh]; exact zaP (zab zaa)
  have e2 : h2.get? (h.n + 1) = some (.cells [.int .i64 0, .slice none 0 0, .slice none 0 0] 25 true) := by rw [← hh]; exact zaH (zab zaa) (by omega) zaa
  have x2 : Ext h h2 := by rw [← hh]; exact Ext.set (((Ext.refl h).push _).push _) (Nat.le_refl _) (zab zaa) _
  have hn2 : h2.n = h.n + 2 := by rw [← hh]; rfl
  clear hh
  refine zbw (fun a : Nat × Value => [(6, .int .i64 (a.1 : Nat)), (5, .slice pg c.length kc), (2, .pointer (some ⟨h.n, 0, none⟩)), (4, .pointer (some ⟨h.n + 1, 0, none⟩)), (1, .slice p l.length cap)])
    (fun a h' => a.1 ≤ c.length ∧ h'.get? h.n = some (.cells [.int .i64 people, .slice pl n kl, a.2] 25 true) ∧ h'.get? (h.n + 1) = some (.cells [.int .i64 0, .slice none 0 0, .slice none 0 0] 25 true) ∧ h2.n ≤ h'.n ∧ OutC 37 2 h2 h' a.2 (copCells (wthC l c a.1)) (wthC l c a.1).length ∧ Ext h h') (fun a => c.length - a.1) ?_ (0, .slice none 0 0) ?_ ?_
  · rintro ⟨k, v⟩ h' ⟨hk, f1, f2, hn', o, hx⟩ ih
    dsimp only at hk f1 f2 hn' o ih ⊢
    have hw := zfi l c k
    by_cases hlt : k < c.length
    · by_cases hm : ((k : Nat) : Int) ∈ l
      · (repeat' (first | apply zar | apply zac | (apply O_at; rfl) | (apply zan; rfl) | apply zao | (apply zba; rfl) | (apply zaR; rfl) | apply zam | apply zaF | apply zau | ((first | apply zai | apply zad | apply zbp | apply zaA); rfl; rfl; rfl; rfl) | (apply zbd; rfl; rfl; rfl; rfl; rfl; rfl; exact zal rfl) | (apply za1; rfl; rfl; rfl; rfl; rfl; omega) | (apply zbs; rfl; rfl; rfl; rfl; rfl; (unfold fit; omega)) | (apply zaq; rfl; rfl; rfl; rfl; rfl; rfl; exact yes (zbq hK hl (hr.ext (by (focus repeat' first | exact Ext.refl _ | assumption | apply Ext.push | (refine Ext.trans ?_ (by assumption)) | (refine Ext.set ?_ (Nat.le_succ _) (zab zaa) _) | (refine Ext.ofBut ?_ (by assumption) (by first | exact Nat.le_refl _ | omega)))))) hm; (rintro _ _ ⟨rfl, _⟩)) | fail))
        rename_i h3 x3
        refine za8 (ih (k + 1, v) _ (by dsimp only; omega) ⟨hlt, x3.get f1, x3.get f2, Nat.le_trans hn' x3.n, ?_, by (focus repeat' first | exact Ext.refl _ | assumption | apply Ext.push | (refine Ext.trans ?_ (by assumption)) | (refine Ext.set ?_ (Nat.le_succ _) (zab zaa) _) | (refine Ext.ofBut ?_ (by assumption) (by first | exact Nat.le_refl _ | omega)))⟩) (by (focus repeat' first | rfl | exact trivial | apply And.intro))
        rw [zdX, if_pos hm, List.append_nil]
        exact o.ext x3
      · obtain ⟨b, e, own, rfl, hg⟩ := rc.at (by rw [zag]; omega)
        have hg' := hx.get hg
        have hb : ∀ a, (c.getD k cop0).r.q = some a → a.block < h.n := (each k hlt).b
        obtain ⟨q1, k1, rfl, hq1⟩ : ∃ q1 k1, v = .slice q1 (wthC l c k).length k1 ∧ ∀ a, q1 = some a → a.block < h'.n := by
          rcases o with ⟨a, _, rfl⟩ | ⟨_, _, b', rfl, g, _⟩
          · exact ⟨none, 0, by rw [a], fun a q => by cases q⟩
          · exact ⟨_, _, rfl, fun a q => by cases q; exact Heap.get_lt g⟩
        (repeat' (first | apply zar | apply zac | (apply O_at; rfl) | (apply N_at; rfl) | (apply zan; rfl) | apply zao | (apply zba; rfl) | (apply zaM; exact zak (by decide +kernel)) | apply zam | apply zaF | ((first | apply zai | apply zad | apply zbp | apply zaA); rfl; rfl; rfl; rfl) | ((first | apply P_fa | apply M_fa); rfl; rfl; rfl; rfl; exact zaG rfl; (first | exact Nat.zero_add _ | exact Nat.add_zero _ | rfl)) | (apply zbd; rfl; rfl; rfl; rfl; rfl; rfl; exact zal rfl) | (apply za1; rfl; rfl; rfl; rfl; rfl; omega) | (apply zlP; rfl; rfl; rfl; rfl; rfl; exact zal rfl; exact zaf rfl; (first | assumption | rfl | exact (Int.toNat_of_nonneg (by omega)).symm); omega) | ((first | ((apply zbI; rfl; rfl; rfl; rfl; exact zay rfl; exact za3 (by decide +kernel)); (focus repeat' first | exact zaa | assumption | apply zab | (apply Ext.get; assumption) | (apply ExtBut.get; assumption; (first | assumption | omega | (simp only [Heap.push]; omega)))); (first | rfl | assumption)) | ((apply zdj; rfl; rfl; rfl; rfl; exact zaC rfl; exact za3 (by decide +kernel)); (focus repeat' first | exact zaa | assumption | apply zab | (apply Ext.get; assumption) | (apply ExtBut.get; assumption; (first | assumption | omega | (simp only [Heap.push]; omega)))); (first | exact Nat.le_of_ble_eq_true rfl | (rw [zag]; omega) | (simp; done) | (simp; omega)); (first | exact zbr (by omega) | rfl))); (first | assumption | exact zbL _ _ _ | exact zcv _ _ _ _ | rfl | (focus simp [same, same.all2]; done)); (first | rfl | assumption | exact hwv _ | exact zbK (by assumption) (by (focus repeat' first | exact Ext.refl _ | assumption | apply Ext.push | (refine Ext.trans ?_ (by assumption)) | (refine Ext.set ?_ (Nat.le_succ _) (zab zaa) _) | (refine Ext.ofBut ?_ (by assumption) (by first | exact Nat.le_refl _ | omega)))) | exact zdk (by assumption) (by (focus repeat' first | exact Ext.refl _ | assumption | apply Ext.push | (refine Ext.trans ?_ (by assumption)) | (refine Ext.set ?_ (Nat.le_succ _) (zab zaa) _) | (refine Ext.ofBut ?_ (by assumption) (by first | exact Nat.le_refl _ | omega)))) | (simp [within]; omega))) | (apply zaq; rfl; rfl; rfl; rfl; rfl; rfl; exact no (zbq hK hl (hr.ext (by (focus repeat' first | exact Ext.refl _ | assumption | apply Ext.push | (refine Ext.trans ?_ (by assumption)) | (refine Ext.set ?_ (Nat.le_succ _) (zab zaa) _) | (refine Ext.ofBut ?_ (by assumption) (by first | exact Nat.le_refl _ | omega)))))) hm; (rintro _ _ ⟨rfl, _⟩)) | fail))
        rename_i h3 x3
        refine M_bs (vs := [(0, .agg #[.int .i64 (c.getD k cop0).par, .slice (c.getD k cop0).r.q (c.getD k cop0).r.s.length (c.getD k cop0).r.k])]) rfl rfl rfl rfl (bs_e1 _ _ _ _ _) ?_
        (repeat' (first | (apply N_at; rfl) | fail))
        refine zlT rfl rfl rfl rfl rfl rfl rfl rfl (zls rfl) (zal rfl) (s := 2) (m := 1) (h0 := h2) (c := [.int .i64 (c.getD k cop0).par, .slice (c.getD k cop0).r.q (c.getD k cop0).r.s.length (c.getD k cop0).r.k]) ⟨rfl, .inr ⟨_, _, _, rfl, zaa⟩, fun a q => by cases q; rfl⟩ (o.ext (by (focus repeat' first | exact Ext.refl _ | assumption | apply Ext.push | (refine Ext.trans ?_ (by assumption)) | (refine Ext.set ?_ (Nat.le_succ _) (zab zaa) _) | (refine Ext.ofBut ?_ (by assumption) (by first | exact Nat.le_refl _ | omega))))) (Nat.le_trans hn' (Nat.le_trans x3.n (Nat.le_succ _))) (by omega) rfl rfl ?_
        intro v5 h5 o5 k5 _ _
        have f5 := k5.lo (by omega) (zab (x3.get f1))
        have f6 := k5.lo (by omega) (zab (x3.get f2))
        have x5 : Ext h h5 := ⟨Nat.le_trans (hx.trans x3).n (Nat.le_trans (Nat.le_succ _) k5.n), fun q y g => k5.lo (by have := Heap.get_lt g; omega) (zab ((hx.trans x3).get g))⟩
        obtain ⟨b5, rfl, g5, hb5⟩ : ∃ b, v5 = .slice (some ⟨b, 0, none⟩) ((wthC l c k).length + 1) unk ∧ h5.get? b = some (.cells (copCells (wthC l c k) ++ [.int .i64 (c.getD k cop0).par, .slice (c.getD k cop0).r.q (c.getD k cop0).r.s.length (c.getD k cop0).r.k]) 37 true) ∧ h2.n ≤ b := by
          rcases o5 with ⟨z, _⟩ | ⟨_, _, b, z1, z2, z3⟩
          · omega
          · exact ⟨b, z1, z2, z3⟩
        (repeat' (first | (apply N_at; rfl) | ((first | apply P_fa | apply M_fa); rfl; rfl; rfl; rfl; exact zaG rfl; (first | exact Nat.zero_add _ | exact Nat.add_zero _ | rfl)) | fail))
        refine zh0 rfl rfl rfl rfl f5 (zaf rfl) rfl (Nat.le_of_ble_eq_true rfl) rfl rfl ?_
        (repeat' (first | apply zac | (apply O_at; rfl) | (apply zan; rfl) | apply zao | (apply zaO; rfl; refine .inr ?_; (focus repeat' first | exact trivial | apply And.intro | rfl)) | apply zau | ((first | apply zai | apply zad | apply zbp | apply zaA); rfl; rfl; rfl; rfl) | (apply zbs; rfl; rfl; rfl; rfl; rfl; (unfold fit; omega)) | fail))
        refine za8 (ih (k + 1, .slice (some ⟨b5, 0, none⟩) ((wthC l c k).length + 1) unk) _ (by dsimp only; omega) ⟨hlt, zaP f5, zaH f5 (by omega) f6, Nat.le_trans hn' (Nat.le_trans x3.n (Nat.le_trans (Nat.le_succ _) k5.n)), ?_, x5.set (Nat.le_refl _) f5 _⟩) (by (focus repeat' first | rfl | exact trivial | apply And.intro))
        rw [zdX, if_neg hm, List.length_append, ziE]
        exact .inr ⟨Nat.succ_pos _, by simp only [List.length_append, zag, copCells, List.length_cons, List.length_nil]; omega, b5, rfl, zaH f5 (by omega) g5, hb5⟩
    · obtain rfl : k = c.length := by omega
      obtain ⟨q1, k1, rfl, hq1, hq2⟩ : ∃ q1 k1, v = .slice q1 (wthC l c c.length).length k1 ∧ (∀ a, q1 = some a → a.block < h'.n) ∧ Rd h' q1 (copCells (wthC l c c.length)) := by
        rcases o with ⟨a, a', rfl⟩ | ⟨_, _, b', rfl, g, _⟩
        · exact ⟨none, 0, by rw [a], (fun a q => by cases q), .inl a'⟩
        · exact ⟨_, _, rfl, (fun a q => by cases q; exact Heap.get_lt g), .inr ⟨b', _, _, rfl, g⟩⟩
      (repeat' (first | apply zar | apply zac | (apply O_at; rfl) | (apply zan; rfl) | apply zao | (apply zaR; rfl) | apply zaT | apply zaJ | apply zaV | apply zaD | apply zaE | apply zaB | ((first | apply zai | apply zad | apply zbp | apply zaA); rfl; rfl; rfl; rfl) | (apply zbd; rfl; rfl; rfl; rfl; rfl; rfl; exact zal rfl) | (apply za4; rfl; rfl; rfl; rfl; rfl; omega) | (apply zaI; rfl; rfl; rfl; rfl; exact zaC rfl; (focus repeat' first | exact zaa | assumption | apply zab | (apply Ext.get; assumption) | (apply ExtBut.get; assumption; (first | assumption | omega | (simp only [Heap.push]; omega)))); (first | exact Nat.le_of_ble_eq_true rfl | (rw [zag]; omega) | (simp; done) | (simp; omega)); (first | exact zbr (by omega) | rfl)) | (apply zfT; rfl; rfl; rfl; rfl; (focus repeat' first | exact zaa | assumption | apply zab | (apply Ext.get; assumption) | (apply ExtBut.get; assumption; (first | assumption | omega | (simp only [Heap.push]; omega)))); exact zaf rfl; rfl; (first | rfl | exact zae _); rfl; (intro _ _ _)) | fail))
      rename_i h4 g4 k4
      have x4 : Ext h h4 := Ext.ofBut hx k4 (by omega)
      refine ⟨.inr rfl, _, ze0 rfl (v := .agg #[.int .i64 people, .slice pl n kl, .slice q1 (wthC l c c.length).length k1]) ?_ rfl, q1, k1, rfl, ⟨len, rl.ext x4, ?_, ?_, fun a e => Nat.lt_of_lt_of_le (hbl a e) x4.n, fun a e => Nat.lt_of_lt_of_le (hq1 a e) k4.n⟩, x4⟩
      · have ht := zaC (t := 25) (n := 3) rfl
        simp only [readB, g4, partB, zcb ht, zbZ ht]
        rfl
      · rcases hq2 with u | ⟨b', _, _, rfl, g⟩
        · exact .inl u
        · refine .inr ⟨b', _, _, rfl, k4.get ?_ g⟩
          rintro rfl
          rw [f2] at g
          rcases o with ⟨a, _, q⟩ | ⟨_, _, b2, q, g2, hb2⟩
          · cases q
          · cases q; omega
      · intro i hi
        have hmem : (wthC l c c.length).getD i cop0 ∈ wthC l c c.length := by
          simp only [wthG] at hi
          simp only [List.getD_eq_getElem?_getD, List.getElem?_eq_getElem hi, Option.getD_some]
          exact List.getElem_mem hi
        obtain ⟨a, ha, e⟩ := zfh hmem
        show RowIn ((wthC l c c.length).getD i cop0).r h4
        rw [e]
        exact (each a ha).ext x4
  · exact ⟨Nat.zero_le _, e1, e2, Nat.le_refl _, .inl ⟨rfl, rfl, rfl⟩, x2⟩
  · (focus repeat' first | rfl | exact trivial | apply And.intro)
/-- A fall, as the law makes it. -/
theorem ze9 (hK : NoK K) {a : Int} {h : Heap} : CallW Tryz.prog K 47 #[.int .i64 a] h (fun v h1 => ∃ b k, v = enV ⟨3, ⟨some ⟨b, 0, none⟩, k, [a]⟩⟩ ∧ RowIn ⟨some ⟨b, 0, none⟩, k, [a]⟩ h1 ∧ Ext h h1) := by
  refine body (N := 6) Tryz.func47 rfl (hK _ _ _ rfl) rfl rfl ?_
  (repeat' (first | apply zar | apply zac | (apply O_at; rfl) | (apply zan; rfl) | apply zao | apply zaJ | apply zaB | (apply zai; rfl; rfl; rfl; rfl) | (apply zaQ; rfl; rfl; rfl; rfl; rfl; rfl; rfl; exact zbH rfl) | (apply zff; rfl; rfl; rfl; rfl) | (apply zbJ; rfl; rfl; rfl; rfl; exact zaf rfl; rfl; rfl) | (apply zfT; rfl; rfl; rfl; rfl; (focus repeat' first | exact zaa | assumption | apply zab | (apply ExtBut.get; assumption; (first | assumption | omega | (simp only [Heap.push]; omega)))); exact zaf rfl; rfl; (first | rfl | exact zae _); rfl; (intro _ _ _)) | fail))
  rename_i h4 g4 k4
  have gI : h4.get? (h.n + 1) = some (.cells (ints [a]) 3 true) := k4.get (by omega) zaa
  have x4 : Ext h h4 := Ext.ofBut (((Ext.refl h).push _).push _) k4 (Nat.le_refl _)
  refine ⟨.inr rfl, _, ze0 rfl (v := .agg #[.int .i64 3, .slice (some ⟨h.n + 1, 0, none⟩) 1 1]) ?_ rfl, h.n + 1, 1, rfl, ⟨.inr ⟨h.n + 1, _, _, rfl, gI⟩, fun b e => by cases e; exact Heap.get_lt gI, fun _ => Nat.le_refl _⟩, x4⟩
  have ht := zaC (t := 37) (n := 2) rfl
  simp only [readB, g4, partB, zcb ht, zbZ ht]
  rfl
/-! Without a reading. -/
theorem hrd_mono {L : List Ent} {q : Int × Int} : ∀ {a b : Bool}, (a = true → b = true) → (L.foldl (hrdS q) a = true → L.foldl (hrdS q) b = true) := by
  induction L with
  | nil => intro a b h; exact h
  | cons e L ih =>
    intro a b h
    refine ih ?_
    unfold hrdS
    by_cases h1 : changes e q.1
    · rw [if_pos h1, if_pos h1]; exact id
    · rw [if_neg h1, if_neg h1]
      by_cases h2 : reads e q.1 ∧ inPair e q.2
      · rw [if_pos h2, if_pos h2]; exact id
      · rw [if_neg h2, if_neg h2]; exact h
theorem hrd_less {L M : List Ent} {e : Ent} (he : e.1 = 1) {q : Int × Int} (h : hrdF (L ++ M) q = true) : hrdF (L ++ e :: M) q = true := by
  unfold hrdF at *
  rw [List.foldl_append] at *
  rw [List.foldl_cons]
  refine hrd_mono ?_ h
  intro u
  unfold hrdS
  rw [if_neg (by rintro (w | w) <;> omega)]
  by_cases h2 : reads e q.1 ∧ inPair e q.2
  · rw [if_pos h2]
  · rw [if_neg h2]; exact u
theorem set_less {L M : List Ent} {e : Ent} (he : e.1 = 1) {j a : Int} : setF (L ++ e :: M) j a = setF (L ++ M) j a := by
  rw [zfq, zfq]
  show M.foldl (setS j) (setS j _ e) = _
  unfold setS
  rw [if_neg (by omega)]
  rfl
theorem wthC_one {c : List Cop} {i : Nat} (hi : i < c.length) : wthC [((i : Nat) : Int)] c c.length = c.take i ++ c.drop (i + 1) := by
  have key : ∀ k, k ≤ c.length → wthC [((i : Nat) : Int)] c k = if k ≤ i then c.take k else c.take i ++ (c.take k).drop (i + 1) := by
    intro k
    induction k with
    | zero => intro _; simp [wthC]
    | succ k ih =>
      intro hk
      rw [zdX, ih (by omega)]
      have e1 : c.take (k + 1) = c.take k ++ [c.getD k cop0] := by
        rw [List.take_add_one, List.getElem?_eq_getElem (by omega)]
        simp [List.getD_eq_getElem?_getD, show k < c.length by omega]
      by_cases h1 : k < i
      · rw [if_pos (show k ≤ i by omega), if_neg (show ¬ ((k : Nat) : Int) ∈ [((i : Nat) : Int)] by simp; omega), if_pos (show k + 1 ≤ i by omega), e1]
      · by_cases h2 : k = i
        · subst h2
          rw [if_pos (Nat.le_refl k), if_pos (show ((k : Nat) : Int) ∈ [((k : Nat) : Int)] by simp), if_neg (show ¬ k + 1 ≤ k by omega), List.append_nil, List.drop_of_length_le (by simp; omega), List.append_nil]
        · rw [if_neg (show ¬ k ≤ i by omega), if_neg (show ¬ ((k : Nat) : Int) ∈ [((i : Nat) : Int)] by simp; omega), if_neg (show ¬ k + 1 ≤ i by omega), e1, List.drop_append_of_le_length (by simp; omega), List.append_assoc]
  rw [key _ (Nat.le_refl _), if_neg (by omega), List.take_length]
theorem zkV {G : Pg} {i : Nat} (hi : i < G.c.length) : logL G = (G.c.take i).map ent ++ ent (G.c.getD i cop0) :: (G.c.drop (i + 1)).map ent := by
  unfold logL
  rw [← List.map_cons, ← List.map_append]
  congr 1
  have : G.c.getD i cop0 = G.c[i] := by simp [List.getD_eq_getElem?_getD, hi]
  rw [this, List.getElem_cons_drop, List.take_append_drop]
theorem log_less {G : Pg} {i : Nat} (hi : i < G.c.length) (q : Option Addr) (k : Nat) : logL (wthG G [((i : Nat) : Int)] q k) = (G.c.take i).map ent ++ (G.c.drop (i + 1)).map ent := by
  unfold logL wthG
  rw [wthC_one hi, List.map_append]
theorem zkC {G : Pg} {i : Nat} (hi : i < G.c.length) (he : (G.c.getD i cop0).par = 1) {q : Option Addr} {k : Nat} {j : Nat} (hp : PassP (wthG G [((i : Nat) : Int)] q k) (logL (wthG G [((i : Nat) : Int)] q k)) j) : PassP G (logL G) j := by
  unfold PassP rdA setA at *
  rw [log_less hi] at hp
  rw [zkV hi, set_less he]
  exact Nat.le_trans hp (zkv fun x hx => hrd_less he hx)
theorem pgP_less {G : Pg} {l : List Int} {q : Option Addr} {k : Nat} (hP : PgP G) : PgP (wthG G l q k) := by
  have hw := zfi l G.c G.c.length
  refine ⟨hP.people, hP.n, Nat.le_trans hw hP.c, hP.line, fun i hi => ?_⟩
  have hmem : (wthC l G.c G.c.length).getD i cop0 ∈ wthC l G.c G.c.length := by
    simp only [wthG] at hi
    simp only [List.getD_eq_getElem?_getD, List.getElem?_eq_getElem hi, Option.getD_some]
    exact List.getElem_mem hi
  obtain ⟨a, ha, e⟩ := zfh hmem
  show EntP G.people G.n (ent ((wthC l G.c G.c.length).getD i cop0))
  rw [e]
  exact hP.ent a ha
theorem zi9 {G : Pg} {l : List Int} {q : Option Addr} {k : Nat} (hs : ShortP G) : ShortP (wthG G l q k) := by
  have hw := zfi l G.c G.c.length
  refine ⟨hs.1, Nat.le_trans hw hs.2.1, fun i hi => ?_⟩
  have hmem : (wthC l G.c G.c.length).getD i cop0 ∈ wthC l G.c G.c.length := by
    simp only [wthG] at hi
    simp only [List.getD_eq_getElem?_getD, List.getElem?_eq_getElem hi, Option.getD_some]
    exact List.getElem_mem hi
  obtain ⟨a, ha, e⟩ := zfh hmem
  show ((wthC l G.c G.c.length).getD i cop0).r.s.length ≤ 6
  rw [e]
  exact hs.2.2 a ha
end Go.AX.Sa
