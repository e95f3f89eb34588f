/- The law ProofWaste at the reading: what the functions that it calls answer (3). -/
import Derived.Test.YtliligceejfakaaGreatDoorProofWasteTextB
import Derived.Test.YtliligceejfakaaGreatDoorProofWasteTextA
namespace Go.AX.Sa
open Go.Proofs
set_option maxRecDepth 100000
variable {K : Known}
/-! Readings that count for nothing: the program. -/
theorem zhy (hK : NoK K) {p : Int × Int} {h : Heap} :
    CallW Tryz.prog K 115 #[.agg #[.int .i64 p.1, .int .i64 p.2]] h fun v h1 => Ext h h1 ∧ ∃ bs, v = .func (.func 134) #[] #[.pointer (some ⟨bs, 0, none⟩)] ∧ h.n ≤ bs ∧ h1.get? bs = some (.cells [.int .i64 p.1, .int .i64 p.2] 140 true) := by
  refine body (N := 4) Tryz.func115 rfl (hK _ _ _ rfl) rfl rfl ?_
  (repeat' (first | apply zak | apply zac | (apply O_at; rfl) | (apply zaf; rfl) | apply zah | apply zaD | apply zaq | (apply zad; rfl; rfl; rfl; rfl) | (apply zdr; rfl; rfl; rfl; rfl; rfl) | (apply zaR; rfl; rfl; rfl; rfl; exact zal rfl; rfl; rfl) | fail))
  exact ⟨.inr rfl, _, rfl, by (focus repeat' first | exact Ext.refl _ | assumption | apply Ext.push), h.n, rfl, Nat.le_refl _, zaa⟩
theorem zfs (hK : NoK K) {c : Cop} {people : Int} {n : Nat} {h : Heap} (hc : RowIn c.r h) (hP : EntP people n (ent c)) (h1 : c.par = 1) :
    CallW Tryz.prog K 80 #[enV c] h fun v h1 => Ext h h1 ∧ ∃ bs, v = .func (.func 134) #[] #[.pointer (some ⟨bs, 0, none⟩)] ∧ h.n ≤ bs ∧ h1.get? bs = some (.cells [.int .i64 (c.r.s.getD 2 0), .int .i64 (c.r.s.getD 3 0)] 140 true) := by
  obtain ⟨rd, hcb, _⟩ := hc
  obtain ⟨par, q, k, t⟩ := c
  dsimp only [enV, ent] at rd hcb hP h1 ⊢
  subst h1
  refine body (N := 18) Tryz.func80 rfl (hK _ _ _ rfl) rfl rfl ?_
  have z := ent1.1 hP
  obtain ⟨b, e, own, rfl, hg⟩ := rd.at (by rw [zaj]; omega)
  (repeat' (first | apply zak | apply zac | (apply O_at; rfl) | (apply N_at; rfl) | (apply zaf; rfl) | apply zah | (apply zaF; rfl) | (apply zbe; exact zaA (by decide +kernel)) | apply zay | ((first | apply zad | apply zaW); rfl; rfl; rfl; rfl) | ((first | apply P_fa | apply M_fa); rfl; rfl; rfl; rfl; exact zaz rfl; (first | exact Nat.zero_add _ | exact Nat.add_zero _ | rfl)) | (apply zdG; rfl; rfl; rfl; rfl; rfl; omega) | (apply zai; rfl; rfl; rfl; rfl; exact zat rfl; (focus repeat' first | exact zaa | assumption | apply zab); (first | exact zag (by omega) | rfl | assumption)) | (apply zaR; rfl; rfl; rfl; rfl; exact zal rfl; rfl; rfl) | (apply zcq; rfl; rfl; rfl; rfl; rfl; exact zav rfl; exact zal rfl; (first | assumption | exact zq2 | exact zq3 | rfl | exact (Int.toNat_of_nonneg (by omega)).symm); omega) | (((apply za8; rfl; rfl; rfl; rfl; exact zat rfl; exact zaC (by decide +kernel)); (focus repeat' first | exact zaa | assumption | apply zab); (first | exact zag (by omega) | rfl | assumption)); (first | assumption | exact zaG _ _ | exact zba _ _ _ | rfl | (focus simp [same, same.all2]; done)); (first | rfl | assumption | exact hwv _ | (focus apply zbJ; (focus repeat' first | exact zaa | assumption | apply zab); done) | (simp [within]; omega))) | (apply zfb; rfl; rfl; rfl; rfl) | fail))
  apply zaO; rfl; rfl; rfl; rfl; rfl; rfl; rfl; exact zhy hK (p := (t.getD 2 0, t.getD 3 0))
  rintro _ h2 ⟨hx2, bs, rfl, hbs, hit⟩
  (repeat' (first | (apply N_at; rfl) | apply zah | apply zaD | (apply zbD; rfl; refine .inr ?_; (focus repeat' first | exact trivial | apply And.intro | rfl)) | apply zaq | ((first | apply zad | apply zaW); rfl; rfl; rfl; rfl) | fail))
  exact ⟨.inr rfl, _, rfl, by (focus repeat' first | exact Ext.refl _ | assumption | apply Ext.push | (refine Ext.trans ?_ (by assumption))), bs, rfl, Nat.le_trans (Nat.le_succ _) hbs, hit⟩
/-- A reading that counts for nothing. -/
def UslP (c : List Cop) (a : Nat) : Prop := (c.getD a cop0).par = 1 ∧ ∀ j, reads (ent (c.getD a cop0)) j → ChgAt c (a + 1) (c.length - (a + 1)) j
noncomputable instance usDec (c : List Cop) : DecidablePred (UslP c) := fun _ => Classical.propDecidable _
noncomputable def usL (G : Pg) : List Int := filL (UslP G.c) G.c.length
set_option maxHeartbeats 4000000 in
theorem zeS (hK : NoK K) {G : Pg} {h : Heap} (hT : PgAt G h) (hs : ShortP G) (hP : PgP G) (hcap : G.c.length ≤ G.kg) :
    CallW Tryz.prog K 44 #[pgV G] h (IsE (usL G) h) := by
  have hT' := hT
  have hent := hP.ent
  have hc10 := hP.c
  have hP' := hP
  obtain ⟨people, pl, kl, n, ll, pg, kc, c⟩ := G
  obtain ⟨len, rl, rc, each, hbl, hpb⟩ := hT
  dsimp only [pgV] at len rl rc each hbl hpb hcap hent hc10 ⊢
  refine bodyM (N := 39) Tryz.func44 rfl (hK _ _ _ rfl) rfl rfl ?_
  refine zbE (zcB ?_)
  (repeat' (first | apply zac | (apply O_at; rfl) | (apply zaf; rfl) | apply zaq | ((first | apply zae | apply zad | apply zaM); rfl; rfl; rfl; rfl) | (apply zaR; rfl; rfl; rfl; rfl; exact zal rfl; rfl; rfl) | fail))
  refine Or.inl ⟨rfl, ?_⟩
  refine zbE (KM_scope ?_)
  refine zbE (zcB ?_)
  (repeat' (first | apply zak | apply zac | (apply O_at; rfl) | (apply zaf; rfl) | apply zah | (apply zaF; rfl) | apply zay | apply zaq | ((first | apply zae | apply zad | apply zaM); rfl; rfl; rfl; rfl) | (apply zaI; rfl; rfl; rfl; rfl; exact zaU rfl; (focus repeat' first | exact zaa | assumption | apply zab | (apply Ext.get; assumption) | (apply ExtBut.get; assumption; (first | assumption | omega | (simp only [Heap.push]; omega)))); (first | exact Nat.le_of_ble_eq_true rfl | (rw [zaw]; omega) | (simp; done) | (simp; omega)); (first | exact zaN (by omega) | rfl)) | (apply zam; rfl; rfl; rfl; rfl; rfl; rfl; exact yes (zc2 (G := ⟨people, pl, kl, n, ll, pg, kc, c⟩) hK (hT'.ext (by (focus repeat' first | exact Ext.refl _ | assumption | apply Ext.push | (refine Ext.trans ?_ (by assumption)) | (refine Ext.ofBut ?_ (by assumption) (by first | exact Nat.le_refl _ | omega))))) hs) hP'; (rintro _ _ ⟨rfl, _⟩)) | fail))
  rename_i h1 x1
  refine Or.inl ⟨rfl, ?_⟩
  refine zbE (zcB ?_)
  (repeat' (first | apply zac | (apply O_at; rfl) | (apply zaf; rfl) | apply zaq | ((first | apply zae | apply zad | apply zaM); rfl; rfl; rfl; rfl) | fail))
  refine Or.inl ⟨rfl, ?_⟩
  refine zbE (zcB ?_)
  (repeat' (first | apply K_label | apply zaq | fail))
  refine Or.inl ⟨rfl, ?_⟩
  refine zbE (zbE (zcB ?_))
  (repeat' (first | apply zac | (apply O_at; rfl) | (apply zaf; rfl) | apply zaq | ((first | apply zae | apply zad | apply zaM); rfl; rfl; rfl; rfl) | (apply P_fa; rfl; rfl; rfl; rfl; exact zaz rfl; (first | exact Nat.zero_add _ | exact Nat.add_zero _ | rfl)) | (apply zbc; rfl; rfl; rfl; rfl; rfl; rfl; exact zav rfl) | (apply zai; rfl; rfl; rfl; rfl; exact zat rfl; (focus repeat' first | exact zaa | assumption | apply zab | (apply Ext.get; assumption) | (apply ExtBut.get; assumption; (first | assumption | omega | (simp only [Heap.push]; omega)))); (first | rfl | assumption)) | fail))
  refine Or.inl ⟨rfl, ?_⟩
  refine zfT (KM_loop (fun a : Nat × Value => [(14, .int .i64 (a.1 : Nat)), (13, .int .i64 (c.length : Nat)), (12, .slice pg c.length kc), (4, a.2), (1, .pointer (some ⟨h.n, 0, none⟩))])
    (fun a h' M => a.1 ≤ c.length ∧ Ext h1 h' ∧ OutI 3 h1 h' a.2 (filL (UslP c) a.1) ∧ M.Nodup ∧ (∀ r ∈ M, h'.get? r = some (.obj (.deferred (some [])))) ∧ (∀ r ∈ M, h1.n ≤ r)) (fun a => c.length - a.1) ?_ (0, .slice none 0 0) ?_ ?_)
  · rintro ⟨k, v⟩ h' M ⟨hk, hx, ho, hM1, hM2, hM3⟩ ih
    dsimp only at hk ho ih ⊢
    have hlf := ziF (UslP c) k
    by_cases hlt : k < c.length
    · obtain ⟨b, e, own, rfl, hg⟩ := rc.at (by rw [zaw]; omega)
      have hcb := (each k hlt).b
      have hrow := each k hlt
      have hE := hent k hlt
      have x0 : Ext h h1 := by (focus repeat' first | exact Ext.refl _ | assumption | apply Ext.push | (refine Ext.trans ?_ (by assumption)) | (refine Ext.ofBut ?_ (by assumption) (by first | exact Nat.le_refl _ | omega)))
      have hg' := hx.get (x0.get hg)
      have gp := hx.get (x1.get zaa)
      refine zbE (zcB ?_)
      (repeat' (first | apply zac | (apply O_at; rfl) | (apply zaf; rfl) | apply zaq | (apply zbm; rfl; rfl; rfl; rfl; rfl; omega) | fail))
      refine Or.inl ⟨rfl, ?_⟩
      refine zbE (zcB ?_)
      (repeat' (first | (apply za1; rfl) | apply zay | apply zaq | fail))
      refine Or.inl ⟨rfl, ?_⟩
      refine zbE (zlX (Q := fun e E1 h2 M1 => e = .normal ∧ ∃ v', E1.get 14 = some (.int .i64 (k : Nat)) ∧ E1.get 13 = some (.int .i64 (c.length : Nat)) ∧ E1.get 12 = some (.slice (some ⟨b, 0, none⟩) c.length kc) ∧ E1.get 4 = some v' ∧ E1.get 1 = some (.pointer (some ⟨h.n, 0, none⟩)) ∧
        (k + 1 ≤ c.length ∧ Ext h1 h2 ∧ OutI 3 h1 h2 v' (filL (UslP c) (k + 1)) ∧ M1.Nodup ∧ (∀ r ∈ M1, h2.get? r = some (.obj (.deferred (some [])))) ∧ (∀ r ∈ M1, h1.n ≤ r))) (zfT ?_) ?_)
      · refine zbE (zcB ?_)
        (repeat' (first | apply zac | (apply O_at; rfl) | (apply zaf; rfl) | apply zaq | ((first | apply zae | apply zad | apply zaM); rfl; rfl; rfl; rfl) | (apply zcE; rfl; rfl; rfl; rfl; rfl; exact zav rfl; exact zal rfl; (first | assumption | rfl | exact (Int.toNat_of_nonneg (by omega)).symm); omega) | (apply zaI; rfl; rfl; rfl; rfl; exact zaU rfl; (focus repeat' first | exact zaa | assumption | apply zab | (apply Ext.get; assumption) | (apply ExtBut.get; assumption; (first | assumption | omega | (simp only [Heap.push]; omega)))); (first | exact Nat.le_of_ble_eq_true rfl | (rw [zaw]; omega) | (simp; done) | (simp; omega)); (first | exact zaN (by omega) | rfl)) | (apply zbp; rfl; rfl; rfl; rfl; exact zal rfl; rfl; rfl) | (apply ziR; rfl; rfl; rfl; rfl; (focus repeat' first | exact zaa | assumption | apply zab | (apply Ext.get; assumption) | (apply ExtBut.get; assumption; (first | assumption | omega | (simp only [Heap.push]; omega)))); exact zal rfl; rfl; (first | rfl | exact zaj _); rfl; (intro _ _ _)) | fail))
        rename_i h2 ga y2 h3 ge y3
        have z3 : Ext h' h3 := Ext.ofBut (Ext.ofBut (((Ext.refl h').push _).push _) y2 (Nat.le_refl _)) y3 (Nat.le_succ _)
        have ga3 := y3.get (by simp only [Heap.push]; omega) ga
        have gp3 := z3.get gp
        have gg3 := z3.get hg'
        refine Or.inl ⟨rfl, ?_⟩
        by_cases h1k : (c.getD k cop0).par = 1
        · refine zbE (zcB ?_)
          (repeat' (first | apply zak | apply zac | (apply O_at; rfl) | (apply zaf; rfl) | apply zah | (apply zaF; rfl) | apply zay | apply zaq | (apply P_fa; rfl; rfl; rfl; rfl; exact zaz rfl; (first | exact Nat.zero_add _ | exact Nat.add_zero _ | rfl)) | (apply zdG; rfl; rfl; rfl; rfl; rfl; omega) | (apply zai; rfl; rfl; rfl; rfl; exact zat rfl; (focus repeat' first | exact zaa | assumption | apply zab | (apply Ext.get; assumption) | (apply ExtBut.get; assumption; (first | assumption | omega | (simp only [Heap.push]; omega)))); (first | rfl | assumption)) | fail))
          refine Or.inl ⟨rfl, ?_⟩
          refine zbE (zbE (zcB ?_))
          (repeat' (first | apply zac | (apply O_at; rfl) | (apply zaI; rfl; rfl; rfl; rfl; exact zaU rfl; (focus repeat' first | exact zaa | assumption | apply zab | (apply Ext.get; assumption) | (apply ExtBut.get; assumption; (first | assumption | omega | (simp only [Heap.push]; omega)))); (first | exact Nat.le_of_ble_eq_true rfl | (rw [zaw]; omega) | (simp; done) | (simp; omega)); (first | exact zaN (by omega) | rfl)) | fail))
          apply zam; rfl; rfl; rfl; rfl; rfl; rfl
          exact zfs (c := c.getD k cop0) hK (hrow.ext ((x0.trans hx).trans z3)) hE h1k
          rintro _ h5 ⟨x5, bz, rfl, hbz, gz⟩
          (repeat' (first | (apply zaf; rfl) | apply zaq | fail))
          refine Or.inl ⟨rfl, ?_⟩
          have n3 := z3.n
          have n5 := x5.n
          have hn3 : h'.n + 2 ≤ h3.n := Nat.le_trans y2.n y3.n
          refine zlX (Q := fun e E1 h6 M1 => (e = .normal ∨ e = .exit 1) ∧ (e = .normal ↔ UslP c k) ∧ E1.get 14 = some (.int .i64 (k : Nat)) ∧ E1.get 13 = some (.int .i64 (c.length : Nat)) ∧ E1.get 12 = some (.slice (some ⟨b, 0, none⟩) c.length kc) ∧ E1.get 4 = some v ∧ E1.get 1 = some (.pointer (some ⟨h.n, 0, none⟩)) ∧ E1.get 5 = some (.pointer (some ⟨h'.n, 0, none⟩)) ∧ Ext h5 h6 ∧ M1 = h5.n :: M ∧ h6.get? h5.n = some (.obj (.deferred (some [])))) (zfT (KM_range (g0 := 134) (fi := #[]) (ca := #[.pointer (some ⟨bz, 0, none⟩)]) rfl rfl rfl ?_)) ?_
          · intro tm l hb r hEO hr hl hxb hbn hlb hdb
            have z := ent1.1 (show EntP people n (1, (c.getD k cop0).r.s) from by rw [← h1k]; exact hE)
            have hl5 : h5.n < l := by omega
            have bzl : bz < h5.n := Heap.get_lt gz
            refine (zhx hK (e := 140) (own := true) (bs := bz) (l := l) (p := ((c.getD k cop0).r.s.getD 2 0, (c.getD k cop0).r.s.getD 3 0)) ⟨by dsimp only; have := hP'.n; dsimp only at this; omega, by dsimp only; have := hP'.n; dsimp only at this; omega, by dsimp only; omega⟩
              (fun i h8 => h8.get? l = some (.obj (.loop r)) ∧ (∀ b x, b ≠ l → hb.get? b = some x → h8.get? b = some x) ∧ hb.n ≤ h8.n ∧ ∀ j : Int, (c.getD k cop0).r.s.getD 2 0 ≤ j → j < (c.getD k cop0).r.s.getD 2 0 + (i : Nat) → ChgAt c (k + 1) (c.length - (k + 1)) j)
              (fun h8 => h8.get? l = some (.obj (.loop (left r (some (.exit 1))))) ∧ (∀ b x, b ≠ l → hb.get? b = some x → h8.get? b = some x) ∧ hb.n ≤ h8.n ∧ ¬ UslP c k) ?_ ?_ ?_).mono ?_
            · rintro i h8 ⟨_, kk, _, _⟩
              exact kk bz _ (by omega) (hxb.get gz)
            · exact ⟨hlb, fun b x _ g => g, Nat.le_refl _, fun j q1 q2 => by omega⟩
            · rintro i h8 hle ⟨gl, kk, nn, all⟩
              refine zku (N := 39) gl hr rfl (EnvOK.param hEO rfl) ?_
              (repeat' (first | apply zac | (apply O_at; rfl) | (apply zaf; rfl) | apply zaq | ((first | apply zae | apply zad | apply zaM); rfl; rfl; rfl; rfl) | fail))
              refine ⟨rfl, gl, fun Bz hs hsl hsk hsn => ?_⟩
              have old : ∀ {b : Nat} {x : Blk}, b ≠ l → h5.get? b = some x → hs.get? b = some x := fun q g => hsk _ _ q (kk _ _ q (hxb.get g))
              have x05 : Ext h h5 := ((x0.trans hx).trans z3).trans x5
              have q0 := old (by have := (x0.trans hx).n; have := Heap.get_lt gp; omega) (x5.get gp3)
              have q1 := old (by omega) (x5.get ga3)
              have q2 := old (by have := Heap.get_lt hg'; omega) (x5.get gg3)
              have xs : Ext h hs := ⟨by rw [hsn]; exact Nat.le_trans (x05.trans hxb).n nn, fun q y g => old (by have := Heap.get_lt g; have := x05.n; omega) (x05.get g)⟩
              (repeat' (first | apply zak | apply zac | (apply O_at; rfl) | apply zao | (apply P_fa; rfl; rfl; rfl; rfl; exact zaz rfl; (first | exact Nat.zero_add _ | exact Nat.add_zero _ | rfl)) | (apply zbI; rfl; rfl; rfl; rfl; rfl; (unfold fit; omega)) | (apply zai; rfl; rfl; rfl; rfl; exact zat rfl; (focus repeat' first | exact zaa | assumption | apply zab | (apply Ext.get; assumption) | (apply ExtBut.get; assumption; (first | assumption | omega | (simp only [Heap.push]; omega)))); (first | rfl | assumption)) | fail))
              refine zh3 rfl rfl rfl rfl rfl (zav rfl) (zal rfl) (q := k + 1) (by omega) hcap (by omega) (by omega) ?_
              intro o cap' hoff
              (repeat' (first | (apply O_at; rfl) | ((first | apply zae | apply zad | apply zaM); rfl; rfl; rfl; rfl) | fail))
              apply zam; rfl; rfl; rfl; rfl; rfl; rfl
              exact zgA hK (o := k + 1) q2 (fun w => hoff (by omega)) (by omega) (by omega) (fun i hi => (each i hi).ext xs) hent
              rintro _ h9 (⟨rfl, w, x9⟩ | ⟨rfl, w, x9⟩)
              · (repeat' (first | (apply O_at; rfl) | (apply zaf; rfl) | apply zah | (apply zaF; rfl) | apply zay | apply zaE | apply zaq | ((first | apply zae | apply zad | apply zaM); rfl; rfl; rfl; rfl) | fail))
                refine ⟨x9.get hsl, none, rfl, fun hf hfl hfk hfn => Or.inl ⟨rfl, by rw [zgx hr] at hfl; exact hfl, fun b x q g => hfk b x q (x9.get (hsk b x q (kk b x q g))), by have := x9.n; omega, fun j q1 q2 => ?_⟩⟩
                by_cases hj : j = (c.getD k cop0).r.s.getD 2 0 + (i : Nat)
                · rw [hj]; exact w
                · exact all j q1 (by omega)
              · (repeat' (first | (apply O_at; rfl) | (apply zaf; rfl) | apply zah | (apply za1; rfl) | apply za6 | (apply C_exitO; rfl) | apply zaq | ((first | apply zae | apply zad | apply zaM); rfl; rfl; rfl; rfl) | fail))
                refine ⟨x9.get hsl, some (.exit 1), rfl, fun hf hfl hfk hfn => Or.inr ⟨rfl, hfl, fun b x q g => hfk b x q (x9.get (hsk b x q (kk b x q g))), by have := x9.n; omega, fun u => w (u.2 _ ⟨h1k, by simp only [ent]; omega, by simp only [ent]; dsimp only at hle; omega⟩)⟩⟩
            · rintro _ h6 (⟨gl, kk, nn, all⟩ | ⟨gl, kk, nn, hno⟩)
              · refine ⟨none, by rw [zgx hr]; exact gl, fun h7 k7 n7 => KM_skip (Or.inr ⟨(by intro q; cases q), .inl rfl, ⟨fun _ => ⟨h1k, fun j w => all j w.2.1 (by have := w.2.2; simp only [ent] at this; omega)⟩, fun _ => rfl⟩, rfl, rfl, rfl, rfl, rfl, rfl, ?_, rfl, k7 _ _ (by omega) (kk _ _ (by omega) hdb)⟩)⟩
                exact ⟨by rw [n7]; exact Nat.le_trans hxb.n nn, fun q y g => k7 q y (by have := Heap.get_lt g; omega) (kk q y (by have := Heap.get_lt g; omega) (hxb.get g))⟩
              · refine ⟨some (.exit 1), gl, fun h7 k7 n7 => KM_exit (Or.inr ⟨(by intro q; cases q), .inr rfl, ⟨fun q => (by cases q), fun q => absurd q hno⟩, rfl, rfl, rfl, rfl, rfl, rfl, ?_, rfl, k7 _ _ (by omega) (kk _ _ (by omega) hdb)⟩)⟩
                exact ⟨by rw [n7]; exact Nat.le_trans hxb.n nn, fun q y g => k7 q y (by have := Heap.get_lt g; omega) (kk q y (by have := Heap.get_lt g; omega) (hxb.get g))⟩
          · rintro ex E1 h6 M1 ⟨he, hu, g14, g13, g12, g4, g1, g5, x6, rfl, gm⟩
            have w6 : Ext h' h6 := (z3.trans x5).trans x6
            have hnd : (h5.n :: M).Nodup := List.nodup_cons.2 ⟨fun q => by have := Heap.get_lt (hM2 _ q); omega, hM1⟩
            have hmk : ∀ r ∈ h5.n :: M, h6.get? r = some (.obj (.deferred (some []))) := fun r q => by
              rcases List.mem_cons.1 q with rfl | q
              · exact gm
              · exact w6.get (hM2 r q)
            have hlo : ∀ r ∈ h5.n :: M, h1.n ≤ r := fun r q => by
              rcases List.mem_cons.1 q with rfl | q
              · have := hx.n; omega
              · exact hM3 r q
            rcases he with rfl | rfl
            · have huse := hu.1 rfl
              refine Or.inl ⟨rfl, zfS (E' := [(14, .int .i64 (k : Nat)), (13, .int .i64 (c.length : Nat)), (12, .slice (some ⟨b, 0, none⟩) c.length kc), (4, v), (1, .pointer (some ⟨h.n, 0, none⟩)), (5, .pointer (some ⟨h'.n, 0, none⟩))]) (zcB ?_) ⟨g14, g13, g12, g4, g1, g5, trivial⟩⟩
              have ga6 := (x5.trans x6).get ga3
              (repeat' (first | apply zac | (apply O_at; rfl) | ((first | apply zae | apply zad | apply zaM); rfl; rfl; rfl; rfl) | (apply zai; rfl; rfl; rfl; rfl; exact zat rfl; (focus repeat' first | exact zaa | assumption | apply zab | (apply Ext.get; assumption) | (apply ExtBut.get; assumption; (first | assumption | omega | (simp only [Heap.push]; omega)))); (first | rfl | assumption)) | (apply ziV; rfl; rfl; rfl; rfl; rfl; rfl; rfl; exact zgP rfl) | fail))
              refine P_appIK rfl rfl rfl rfl rfl rfl rfl rfl (zgP rfl) (zav rfl) zaa (ho.ext (w6.push _)) (Nat.le_trans (hx.trans w6).n (Nat.le_succ _)) (by omega) ?_
              intro v7 h7 o7 k7
              have w7 : Ext h1 h7 := ⟨Nat.le_trans (hx.trans w6).n (Nat.le_trans (Nat.le_succ _) k7.n), fun q y g => k7.lo (Heap.get_lt g) (zab ((hx.trans w6).get g))⟩
              (repeat' (first | (apply O_at; rfl) | (apply zaf; rfl) | apply zaq | ((first | apply zae | apply zad | apply zaM); rfl; rfl; rfl; rfl) | fail))
              refine Or.inr ⟨(by intro q; cases q), rfl, v7, rfl, rfl, rfl, rfl, rfl, hlt, w7, ?_, hnd, fun r q => k7.ne (by intro u; cases u) (zab (hmk r q)), hlo⟩
              rw [zep, if_pos huse]
              exact o7
            · refine Or.inr ⟨(by intro q; cases q), Or.inl ⟨rfl, rfl, v, g14, g13, g12, g4, g1, hlt, hx.trans w6, ?_, hnd, hmk, hlo⟩⟩
              rw [zep, if_neg (fun q => by have := hu.2 q; cases this), List.append_nil]
              exact ho.ext w6
        · refine zbE (zcB ?_)
          (repeat' (first | apply zak | apply zac | (apply O_at; rfl) | (apply zaf; rfl) | apply zah | (apply za1; rfl) | apply za6 | apply zaq | (apply P_fa; rfl; rfl; rfl; rfl; exact zaz rfl; (first | exact Nat.zero_add _ | exact Nat.add_zero _ | rfl)) | (apply ziT; rfl; rfl; rfl; rfl; rfl; omega) | (apply zai; rfl; rfl; rfl; rfl; exact zat rfl; (focus repeat' first | exact zaa | assumption | apply zab | (apply Ext.get; assumption) | (apply ExtBut.get; assumption; (first | assumption | omega | (simp only [Heap.push]; omega)))); (first | rfl | assumption)) | fail))
          refine Or.inr ⟨(by intro q; cases q), Or.inl ⟨rfl, rfl, v, rfl, rfl, rfl, rfl, rfl, hlt, hx.trans z3, ?_, hM1, fun r q => z3.get (hM2 r q), hM3⟩⟩
          rw [zep, if_neg (fun q => h1k q.1), List.append_nil]
          exact ho.ext z3
      · rintro _ E1 h2 M1 ⟨rfl, v', g14, g13, g12, g4, g1, hJ⟩
        refine Or.inl ⟨rfl, zfS (E' := [(14, .int .i64 (k : Nat)), (13, .int .i64 (c.length : Nat)), (12, .slice (some ⟨b, 0, none⟩) c.length kc), (4, v'), (1, .pointer (some ⟨h.n, 0, none⟩))]) (zcB ?_) ⟨g14, g13, g12, g4, g1, trivial⟩⟩
        (repeat' (first | apply zac | (apply O_at; rfl) | (apply zaf; rfl) | apply zaq | ((first | apply zae | apply zad | apply zaM); rfl; rfl; rfl; rfl) | (apply zbI; rfl; rfl; rfl; rfl; rfl; (unfold fit; omega)) | fail))
        exact Or.inl ⟨rfl, zfS (ih (k + 1, v') _ _ (by dsimp only; omega) hJ) (by (focus repeat' first | rfl | exact trivial | apply And.intro))⟩
    · obtain rfl : k = c.length := by omega
      refine zbE (zcB ?_)
      (repeat' (first | apply zac | (apply O_at; rfl) | (apply zaf; rfl) | apply zaq | (apply zbq; rfl; rfl; rfl; rfl; rfl; omega) | fail))
      refine Or.inl ⟨rfl, ?_⟩
      refine zbE (zcB ?_)
      (repeat' (first | (apply zaF; rfl) | apply za6 | apply zaq | fail))
      refine Or.inr ⟨(by intro q; cases q), Or.inr ⟨(by intro q; cases q), Or.inl ⟨rfl, Or.inl ⟨rfl, zcB ?_⟩⟩⟩⟩
      (repeat' (first | apply zak | apply zac | (apply O_at; rfl) | (apply zaf; rfl) | apply zah | apply zaD | apply zaq | ((first | apply zae | apply zad | apply zaM); rfl; rfl; rfl; rfl) | fail))
      refine Or.inr ⟨(by intro q; cases q), .inr rfl, hM1, hM2, fun h2 k2 n2 => ⟨_, rfl, ?_⟩⟩
      have x0 : Ext h h1 := by (focus repeat' first | exact Ext.refl _ | assumption | apply Ext.push | (refine Ext.trans ?_ (by assumption)) | (refine Ext.ofBut ?_ (by assumption) (by first | exact Nat.le_refl _ | omega)))
      have hlow : ∀ r, r < h1.n → r ∉ M := fun r q w => by have := hM3 r w; omega
      have w2 : Ext h h2 := ⟨by rw [n2]; exact (x0.trans hx).n, fun q y g => k2 q y (hlow q (Nat.lt_of_lt_of_le (Heap.get_lt g) x0.n)) ((x0.trans hx).get g)⟩
      rcases ho with ⟨e1, rfl⟩ | ⟨_, b', rfl, g, _⟩
      · refine ⟨none, 0, ?_, .inl (by unfold usL; rw [e1]; rfl), w2⟩
        unfold usL
        rw [e1]
        rfl
      · exact ⟨some ⟨b', 0, none⟩, unk, rfl, .inr ⟨b', _, _, rfl, k2 b' _ (fun q => by rw [hM2 b' q] at g; cases g) g⟩, w2⟩
  · exact ⟨Nat.zero_le _, Ext.refl _, .inl ⟨rfl, rfl⟩, List.nodup_nil, fun r q => (by cases q), fun r q => (by cases q)⟩
  · (focus repeat' first | rfl | exact trivial | apply And.intro)
end Go.AX.Sa

namespace Go.AX.Sa
open Go.Proofs
set_option maxRecDepth 100000
variable {K : Known}
def HeardTo (G : Pg) (j q : Int) (i : Nat) : Prop := ∃ i', i' < i ∧ (reads (ent (G.c.getD i' cop0)) j ∧ inPair (ent (G.c.getD i' cop0)) q) ∧ ¬ ∃ k, i' ≤ k ∧ k < G.c.length ∧ changes (ent (G.c.getD k cop0)) j
end Go.AX.Sa

namespace Go.AX.Sa
open Go.Proofs
set_option maxRecDepth 100000
variable {K : Known}
end Go.AX.Sa

namespace Go.AX.Sa
open Go.Proofs
set_option maxRecDepth 100000
variable {K : Known}
abbrev TrueB : Value → Heap → Prop := fun v _ => v = .bool true
end Go.AX.Sa

namespace Go.AX.Sa
open Go.Proofs
set_option maxRecDepth 100000
variable {K : Known}
/-! Readings that count for nothing: the specification. -/
/-- What counts among the first lines. -/
def CntP (c : List Cop) (i k : Nat) : Prop := (c.getD i cop0).par ≠ 1 ∨ ∃ j : Nat, j < k ∧ reads (ent (c.getD i cop0)) (j : Nat) ∧ ¬ ∃ m, i ≤ m ∧ m < c.length ∧ changes (ent (c.getD m cop0)) (j : Nat)
end Go.AX.Sa

namespace Go.AX.Sa
open Go.Proofs
set_option maxRecDepth 100000
variable {K : Known}
theorem usL_len (G : Pg) : (usL G).length ≤ G.c.length := ziF _ _
end Go.AX.Sa

namespace Go.AX.Sa
open Go.Proofs
set_option maxRecDepth 100000
variable {K : Known}
/-! A page with an entry more. -/
theorem bs_e1 (h : Heap) (a : Int) (p : Option Addr) (n k : Nat) : buildSliceB Tryz.prog h 23 1 [(0, .agg #[.int .i64 a, .slice p n k])] = some (.slice (some ⟨h.n, 0, none⟩) 1 1, h.push (.cells [.int .i64 a, .slice p n k] 37 true)) := by kernel_rfl
theorem cops_app (l m : List Cop) : copCells (l ++ m) = copCells l ++ copCells m := by
  induction l with
  | nil => rfl
  | cons c l ih => simp only [List.cons_append, copCells, ih]
def SpotN (G : Pg) : Prop := ∀ a, G.pg = some a → a.spot = none
def withG (G : Pg) (b k : Nat) (x : Cop) : Pg := { G with pg := some ⟨b, 0, none⟩, kg := k, c := G.c ++ [x] }
/-- A page that has room for an entry. -/
def RoomP (G : Pg) (x : Cop) : Prop := ShortP G ∧ PgP G ∧ x.r.s.length ≤ 6 ∧ G.c.length < 10 ∧ EntP G.people G.n (ent x)
theorem zfq (hK : NoK K) {G : Pg} {h : Heap} (hT : PgAt G h) : CallW Tryz.prog K 42 #[pgV G] h (IfB (ShortP G ∧ PgP G) h) := by
  refine body (N := 9) Tryz.func42 rfl (hK _ _ _ rfl) rfl rfl ?_
  by_cases hs : ShortP G
  · (repeat' (first | apply zak | apply zac | (apply O_at; rfl) | (apply zaf; rfl) | apply zah | apply zaD | apply zaq | ((first | apply zae | apply zad); rfl; rfl; rfl; rfl) | (apply zaV; rfl; rfl; rfl; rfl; rfl; rfl) | (apply zaI; rfl; rfl; rfl; rfl; exact zaU rfl; (focus repeat' first | exact zaa | assumption | (apply Ext.get; assumption)); (first | exact Nat.le_of_ble_eq_true rfl | (simp; done) | (simp; omega)); rfl) | (apply zaR; rfl; rfl; rfl; rfl; exact zal rfl; rfl; rfl) | (apply zam; rfl; rfl; rfl; rfl; rfl; rfl; exact yes (zig hK (hT.ext (by (focus repeat' first | exact Ext.refl _ | assumption | apply Ext.push | (refine Ext.trans ?_ (by assumption)))))) hs; (rintro _ _ ⟨rfl, _⟩)) | (apply zam; rfl; rfl; rfl; rfl; rfl; rfl; exact zjr hK (hT.ext (by (focus repeat' first | exact Ext.refl _ | assumption | apply Ext.push | (refine Ext.trans ?_ (by assumption))))) hs; (rintro _ _ (⟨rfl, _, _⟩ | ⟨rfl, _, _⟩))) | fail))
    · rename_i w _
      exact ⟨.inr rfl, _, rfl, .inl ⟨rfl, ⟨hs, w⟩, by (focus repeat' first | exact Ext.refl _ | assumption | apply Ext.push | (refine Ext.trans ?_ (by assumption)))⟩⟩
    · rename_i w _
      exact ⟨.inr rfl, _, rfl, .inr ⟨rfl, fun q => w q.2, by (focus repeat' first | exact Ext.refl _ | assumption | apply Ext.push | (refine Ext.trans ?_ (by assumption)))⟩⟩
  · (repeat' (first | apply zak | apply zac | (apply O_at; rfl) | (apply zaf; rfl) | apply zah | apply zaD | apply zaq | (apply zbG; rfl; rfl; rfl) | ((first | apply zae | apply zad); rfl; rfl; rfl; rfl) | (apply zaV; rfl; rfl; rfl; rfl; rfl; rfl) | (apply zaI; rfl; rfl; rfl; rfl; exact zaU rfl; (focus repeat' first | exact zaa | assumption | (apply Ext.get; assumption)); (first | exact Nat.le_of_ble_eq_true rfl | (simp; done) | (simp; omega)); rfl) | (apply zaR; rfl; rfl; rfl; rfl; exact zal rfl; rfl; rfl) | (apply zam; rfl; rfl; rfl; rfl; rfl; rfl; exact no (zig hK (hT.ext (by (focus repeat' first | exact Ext.refl _ | assumption | apply Ext.push | (refine Ext.trans ?_ (by assumption)))))) hs; (rintro _ _ ⟨rfl, _⟩)) | fail))
    exact ⟨.inr rfl, _, rfl, .inr ⟨rfl, fun q => hs q.1, by (focus repeat' first | exact Ext.refl _ | assumption | apply Ext.push | (refine Ext.trans ?_ (by assumption)))⟩⟩
end Go.AX.Sa

namespace Go.AX.Sa
open Go.Proofs
set_option maxRecDepth 100000
variable {K : Known}
theorem rd_len (G : Pg) (L : List Ent) (j : Nat) (hp : 2 ≤ G.people ∧ G.people ≤ 6) : (rdA G L j).length ≤ 6 := by
  have := zim G.people.toNat L (j : Nat) (setA G L j)
  unfold rdA
  omega
theorem lin_nat {n : Nat} {q : Int} (h : LinP n q) : ∃ j : Nat, q = (j : Nat) ∧ j < n := by
  unfold LinP at h
  exact ⟨q.toNat, by omega, by omega⟩
end Go.AX.Sa

namespace Go.AX.Sa
open Go.Proofs
set_option maxRecDepth 100000
variable {K : Known}
end Go.AX.Sa

namespace Go.AX.Sa
open Go.Proofs
set_option maxRecDepth 100000
variable {K : Known}
/-! Two readers. -/
end Go.AX.Sa

namespace Go.AX.Sa
open Go.Proofs
set_option maxRecDepth 100000
variable {K : Known}
/-! A page without some entries; a fall. -/
def wthC (l : List Int) (c : List Cop) (k : Nat) : List Cop := ((List.range k).filter fun i => decide (((i : Nat) : Int) ∉ l)).map fun i => c.getD i cop0
theorem zfV (l : List Int) (c : List Cop) (k : Nat) : wthC l c (k + 1) = wthC l c k ++ (if ((k : Nat) : Int) ∈ l then [] else [c.getD k cop0]) := by
  unfold wthC
  rw [List.range_succ, List.filter_append, List.map_append]
  congr 1
  by_cases h : ((k : Nat) : Int) ∈ l <;> simp [h]
theorem zfe (l : List Int) (c : List Cop) (k : Nat) : (wthC l c k).length ≤ k := by
  unfold wthC
  rw [List.length_map]
  exact Nat.le_trans (List.length_filter_le _ _) (by simp)
theorem zfd {l : List Int} {c : List Cop} {k : Nat} {x : Cop} (h : x ∈ wthC l c k) : ∃ i, i < k ∧ x = c.getD i cop0 := by
  unfold wthC at h
  obtain ⟨i, hi, rfl⟩ := List.mem_map.1 h
  exact ⟨i, List.mem_range.1 (List.mem_filter.1 hi).1, rfl⟩
def wthG (G : Pg) (l : List Int) (q : Option Addr) (k : Nat) : Pg := { G with pg := q, kg := k, c := wthC l G.c G.c.length }
/-! Without a reading. -/
theorem zk0 {G : Pg} {i : Nat} (hi : i < G.c.length) : logL G = (G.c.take i).map ent ++ ent (G.c.getD i cop0) :: (G.c.drop (i + 1)).map ent := by
  unfold logL
  rw [← List.map_cons, ← List.map_append]
  congr 1
  have : G.c.getD i cop0 = G.c[i] := by simp [List.getD_eq_getElem?_getD, hi]
  rw [this, List.getElem_cons_drop, List.take_append_drop]
theorem zdQ {G : Pg} {l : List Int} {q : Option Addr} {k : Nat} (hP : PgP G) : PgP (wthG G l q k) := by
  have hw := zfe l G.c G.c.length
  refine ⟨hP.people, hP.n, Nat.le_trans hw hP.c, hP.line, fun i hi => ?_⟩
  have hmem : (wthC l G.c G.c.length).getD i cop0 ∈ wthC l G.c G.c.length := by
    simp only [wthG] at hi
    simp only [List.getD_eq_getElem?_getD, List.getElem?_eq_getElem hi, Option.getD_some]
    exact List.getElem_mem hi
  obtain ⟨a, ha, e⟩ := zfd hmem
  show EntP G.people G.n (ent ((wthC l G.c G.c.length).getD i cop0))
  rw [e]
  exact hP.ent a ha
theorem zcr {G : Pg} {l : List Int} {q : Option Addr} {k : Nat} (hs : ShortP G) : ShortP (wthG G l q k) := by
  have hw := zfe l G.c G.c.length
  refine ⟨hs.1, Nat.le_trans hw hs.2.1, fun i hi => ?_⟩
  have hmem : (wthC l G.c G.c.length).getD i cop0 ∈ wthC l G.c G.c.length := by
    simp only [wthG] at hi
    simp only [List.getD_eq_getElem?_getD, List.getElem?_eq_getElem hi, Option.getD_some]
    exact List.getElem_mem hi
  obtain ⟨a, ha, e⟩ := zfd hmem
  show ((wthC l G.c G.c.length).getD i cop0).r.s.length ≤ 6
  rw [e]
  exact hs.2.2 a ha
end Go.AX.Sa

namespace Go.AX.Sa
open Go.Proofs
set_option maxRecDepth 100000
/-! Without the readings that count for nothing. -/
def Usl (e : Ent) (M : List Ent) : Prop := e.1 = 1 ∧ ∀ j, reads e j → ∃ x ∈ M, changes x j
noncomputable instance (e : Ent) (M : List Ent) : Decidable (Usl e M) := Classical.propDecidable _
noncomputable def wl : List Ent → List Ent
  | [] => []
  | e :: M => if Usl e M then wl M else e :: wl M
theorem zk9 {q : Int × Int} : ∀ {M : List Ent}, (∃ x ∈ M, changes x q.1) → ∀ a b : Bool, M.foldl (hrdS q) a = M.foldl (hrdS q) b := by
  intro M
  induction M with
  | nil => rintro ⟨x, hx, _⟩; cases hx
  | cons e M ih =>
    rintro ⟨x, hx, hc⟩ a b
    rw [List.foldl_cons, List.foldl_cons]
    by_cases h : changes e q.1
    · unfold hrdS
      rw [if_pos h, if_pos h]
    · rcases List.mem_cons.1 hx with rfl | hx
      · exact absurd hc h
      · exact ih ⟨x, hx, hc⟩ _ _
theorem usl_not {e : Ent} {M : List Ent} (u : Usl e M) (j : Int) : ¬ changes e j := by
  have := u.1
  rintro (w | w) <;> omega
theorem hrd_wl (q : Int × Int) : ∀ (L : List Ent) (b : Bool), (wl L).foldl (hrdS q) b = L.foldl (hrdS q) b := by
  intro L
  induction L with
  | nil => intro b; rfl
  | cons e M ih =>
    intro b
    unfold wl
    by_cases u : Usl e M
    · rw [if_pos u, ih, List.foldl_cons]
      by_cases hr : reads e q.1
      · exact zk9 (u.2 _ hr) _ _
      · unfold hrdS
        rw [if_neg (usl_not u _), if_neg (fun w => hr w.1)]
    · rw [if_neg u, List.foldl_cons, List.foldl_cons, ih]
theorem num_wl (j : Int) : ∀ (L : List Ent) (a : Int), numF (wl L) j a = numF L j a := by
  intro L
  induction L with
  | nil => intro a; rfl
  | cons e M ih =>
    intro a
    unfold wl
    by_cases u : Usl e M
    · rw [if_pos u, ih]
      show _ = numF M j (numS j a e)
      have := u.1
      unfold numS
      rw [if_neg (by omega), if_neg (by omega)]
    · rw [if_neg u]
      exact ih _
theorem set_wl (j : Int) : ∀ (L : List Ent) (a : Int), setF (wl L) j a = setF L j a := by
  intro L
  induction L with
  | nil => intro a; rfl
  | cons e M ih =>
    intro a
    unfold wl
    by_cases u : Usl e M
    · rw [if_pos u, ih]
      show _ = setF M j (setS j a e)
      have := u.1
      unfold setS
      rw [if_neg (by omega)]
    · rw [if_neg u]
      exact ih _
theorem wl_mem {x : Ent} : ∀ {L : List Ent}, x ∈ wl L → x ∈ L := by
  intro L
  induction L with
  | nil => exact id
  | cons e M ih =>
    intro h
    unfold wl at h
    by_cases u : Usl e M
    · rw [if_pos u] at h; exact List.mem_cons_of_mem _ (ih h)
    · rw [if_neg u] at h
      rcases List.mem_cons.1 h with rfl | h
      · exact List.mem_cons_self ..
      · exact List.mem_cons_of_mem _ (ih h)
theorem wl_no : ∀ (L A : List Ent) (e : Ent) (M : List Ent), wl L = A ++ e :: M → ¬ Usl e M := by
  intro L
  induction L with
  | nil => intro A e M h; cases A <;> simp [wl] at h
  | cons x L ih =>
    intro A e M h u
    unfold wl at h
    by_cases ux : Usl x L
    · rw [if_pos ux] at h; exact ih A e M h u
    · rw [if_neg ux] at h
      cases A with
      | nil =>
        simp only [List.nil_append, List.cons.injEq] at h
        obtain ⟨rfl, rfl⟩ := h
        exact ux ⟨u.1, fun j hj => by obtain ⟨y, hy, hc⟩ := u.2 j hj; exact ⟨y, wl_mem hy, hc⟩⟩
      | cons a A =>
        simp only [List.cons_append, List.cons.injEq] at h
        exact ih A e M h.2 u
theorem chg_drop {c : List Cop} {i : Nat} {j : Int} : ChgAt c i (c.length - i) j ↔ ∃ x ∈ (c.drop i).map ent, changes x j := by
  constructor
  · rintro ⟨k, hk, w⟩
    have hk' : i + k < c.length := by omega
    refine ⟨ent (c.getD (i + k) cop0), List.mem_map.2 ⟨c.getD (i + k) cop0, ?_, rfl⟩, w⟩
    have : c.getD (i + k) cop0 = (c.drop i)[k]'(by rw [List.length_drop]; omega) := by simp [List.getD_eq_getElem?_getD, hk']
    rw [this]
    exact List.getElem_mem _
  · rintro ⟨x, hx, w⟩
    obtain ⟨y, hy, rfl⟩ := List.mem_map.1 hx
    obtain ⟨k, hk, rfl⟩ := List.mem_iff_getElem.1 hy
    rw [List.length_drop] at hk
    refine ⟨k, by omega, ?_⟩
    rw [List.getElem_drop] at w
    simpa [List.getD_eq_getElem?_getD, show i + k < c.length by omega] using w
theorem uslP_usl {c : List Cop} {i : Nat} : UslP c i ↔ Usl (ent (c.getD i cop0)) ((c.drop (i + 1)).map ent) := by
  unfold UslP Usl
  constructor
  · rintro ⟨h1, h2⟩
    exact ⟨h1, fun j hj => chg_drop.1 (h2 j hj)⟩
  · rintro ⟨h1, h2⟩
    exact ⟨h1, fun j hj => chg_drop.2 (h2 j hj)⟩
theorem wth_wl {c : List Cop} : ∀ m i, i + m = c.length → (((List.range' i m).filter fun a => decide (¬ UslP c a)).map fun a => ent (c.getD a cop0)) = wl ((c.drop i).map ent) := by
  intro m
  induction m with
  | zero => intro i h; rw [List.drop_of_length_le (by omega)]; rfl
  | succ m ih =>
    intro i h
    have hi : i < c.length := by omega
    have e1 : c.drop i = c.getD i cop0 :: c.drop (i + 1) := by
      rw [List.drop_eq_getElem_cons hi]
      simp [List.getD_eq_getElem?_getD, hi]
    rw [List.range'_succ, e1, List.map_cons]
    unfold wl
    by_cases u : UslP c i
    · rw [if_pos (uslP_usl.1 u), List.filter_cons_of_neg (by simpa using u), ih (i + 1) (by omega)]
    · rw [if_neg (fun w => u (uslP_usl.2 w)), List.filter_cons_of_pos (by simpa using u), List.map_cons, ih (i + 1) (by omega)]
theorem zj3 {G : Pg} {i : Nat} (hi : i < G.c.length) : ((i : Nat) : Int) ∈ usL G ↔ UslP G.c i := by
  unfold usL
  rw [filL_mem]
  constructor
  · rintro ⟨k, _, h, p⟩
    have : i = k := by omega
    subst this; exact p
  · exact fun p => ⟨i, hi, rfl, p⟩
theorem zit (G : Pg) (q : Option Addr) (k : Nat) : logL (wthG G (usL G) q k) = wl (logL G) := by
  have := wth_wl (c := G.c) G.c.length 0 (by omega)
  rw [List.drop_zero] at this
  unfold logL
  rw [← this]
  unfold wthG wthC
  simp only [List.map_map, List.range_eq_range']
  rw [← List.map_map]
  rw [show (List.range' 0 G.c.length).filter (fun i => decide (((i : Nat) : Int) ∉ usL G)) = (List.range' 0 G.c.length).filter (fun a => decide (¬ UslP G.c a)) from List.filter_congr fun i hi => by
    have hi' : i < G.c.length := by have := List.mem_range'_1.1 hi; omega
    exact decide_eq_decide.2 (not_congr (zj3 hi'))]
  rw [List.map_map]
  rfl
theorem nums_wl (G : Pg) (q : Option Addr) (k : Nat) : numsL (wthG G (usL G) q k) (logL (wthG G (usL G) q k)) = numsL G (logL G) := by
  rw [zit]
  unfold numsL
  refine List.map_congr_left fun j _ => ?_
  exact num_wl _ _ _
theorem zkm (G : Pg) (q : Option Addr) (k j : Nat) : setA (wthG G (usL G) q k) (logL (wthG G (usL G) q k)) j = setA G (logL G) j := by
  rw [zit]
  exact set_wl _ _ _
theorem sets_wl (G : Pg) (q : Option Addr) (k : Nat) : setsL (wthG G (usL G) q k) (logL (wthG G (usL G) q k)) = setsL G (logL G) := by
  unfold setsL
  refine List.map_congr_left fun j _ => ?_
  exact zkm G q k j
theorem rdA_wl (G : Pg) (q : Option Addr) (k j : Nat) : rdA (wthG G (usL G) q k) (logL (wthG G (usL G) q k)) j = rdA G (logL G) j := by
  unfold rdA
  rw [zkm, zit]
  unfold rdrs
  refine List.filter_congr fun x _ => ?_
  rw [show hrdF (wl (logL G)) ((j : Nat), x) = hrdF (logL G) ((j : Nat), x) from hrd_wl _ _ _]
theorem usl_none (G : Pg) (q : Option Addr) (k : Nat) : usL (wthG G (usL G) q k) = [] := by
  refine List.eq_nil_iff_forall_not_mem.2 fun x hx => ?_
  obtain ⟨i, hi, rfl, u⟩ := filL_mem.1 hx
  have u' := uslP_usl.1 u
  refine wl_no (logL G) (((wthG G (usL G) q k).c.take i).map ent) _ _ ?_ u'
  rw [← zit G q k]
  exact zk0 (G := wthG G (usL G) q k) hi
theorem zli (p : Nat → Prop) [DecidablePred p] (n : Nat) : (filL p n).Pairwise (· < ·) := by
  unfold filL
  rw [List.pairwise_map]
  exact List.Pairwise.imp (fun h => by omega) (List.Pairwise.filter _ (List.pairwise_lt_range (n := n)))
end Go.AX.Sa

namespace Go.AX.Sa
open Go.Proofs
set_option maxRecDepth 100000
variable {K : Known}
set_option maxHeartbeats 1000000 in
theorem zgY (hK : NoK K) {G : Pg} {l : List Int} {p : Option Addr} {cap : Nat} {h : Heap} (hT : PgAt G h) (hr : Rd h p (ints l)) (hl : l.length ≤ 1000) (hc : G.c.length ≤ 1000) :
    CallW Tryz.prog K 46 #[pgV G, .slice p l.length cap] h (fun v h1 => ∃ q k, v = pgV (wthG G l q k) ∧ (PgAt (wthG G l q k) h1 ∧ (wthG G l q k).c.length ≤ (wthG G l q k).kg) ∧ Ext h h1) := by
  obtain ⟨people, pl, kl, n, ll, pg, kc, c⟩ := G
  obtain ⟨len, rl, rc, each, hbl, hpb⟩ := hT
  dsimp only [pgV] at len rl rc each hbl hpb hc ⊢
  refine body (N := 30) Tryz.func46 rfl (hK _ _ _ rfl) rfl rfl ?_
  (repeat' (first | apply zak | apply zac | (apply O_at; rfl) | (apply zaf; rfl) | apply zah | ((first | apply zae | apply zad | apply zaM | apply zau); rfl; rfl; rfl; rfl) | ((first | apply P_fa | apply M_fa); rfl; rfl; rfl; rfl; exact zaz rfl; (first | exact Nat.zero_add _ | exact Nat.add_zero _ | rfl)) | (apply zai; rfl; rfl; rfl; rfl; exact zat rfl; (focus repeat' first | exact zaa | assumption | apply zab | (apply Ext.get; assumption) | (apply ExtBut.get; assumption; (first | assumption | omega | (simp only [Heap.push]; omega)))); (first | rfl | assumption)) | (apply zaR; rfl; rfl; rfl; rfl; exact zal rfl; rfl; rfl) | (apply zbp; rfl; rfl; rfl; rfl; exact zal rfl; rfl; rfl) | fail))
  refine zfQ rfl rfl rfl rfl (zab zaa) (zal rfl) rfl (Nat.le_of_ble_eq_true rfl) rfl ?_
  (repeat' (first | apply zak | apply zac | (apply O_at; rfl) | (apply zaf; rfl) | apply zah | apply zao | ((first | apply zae | apply zad | apply zaM | apply zau); rfl; rfl; rfl; rfl) | fail))
  generalize hh : Heap.set _ _ _ = h2
  have e1 : h2.get? h.n = some (.cells [.int .i64 people, .slice pl n kl, .slice none 0 0] 25 true) := by rw [← hh]; exact zaB (zab zaa)
  have e2 : h2.get? (h.n + 1) = some (.cells [.int .i64 0, .slice none 0 0, .slice none 0 0] 25 true) := by rw [← hh]; exact zar (zab zaa) (by omega) zaa
  have x2 : Ext h h2 := by rw [← hh]; exact Ext.set (((Ext.refl h).push _).push _) (Nat.le_refl _) (zab zaa) _
  have hn2 : h2.n = h.n + 2 := by rw [← hh]; rfl
  clear hh
  refine zbb (fun a : Nat × Value => [(6, .int .i64 (a.1 : Nat)), (5, .slice pg c.length kc), (2, .pointer (some ⟨h.n, 0, none⟩)), (4, .pointer (some ⟨h.n + 1, 0, none⟩)), (1, .slice p l.length cap)])
    (fun a h' => a.1 ≤ c.length ∧ h'.get? h.n = some (.cells [.int .i64 people, .slice pl n kl, a.2] 25 true) ∧ h'.get? (h.n + 1) = some (.cells [.int .i64 0, .slice none 0 0, .slice none 0 0] 25 true) ∧ h2.n ≤ h'.n ∧ OutC 37 2 h2 h' a.2 (copCells (wthC l c a.1)) (wthC l c a.1).length ∧ Ext h h') (fun a => c.length - a.1) ?_ (0, .slice none 0 0) ?_ ?_
  · rintro ⟨k, v⟩ h' ⟨hk, f1, f2, hn', o, hx⟩ ih
    dsimp only at hk f1 f2 hn' o ih ⊢
    have hw := zfe l c k
    by_cases hlt : k < c.length
    · by_cases hm : ((k : Nat) : Int) ∈ l
      · (repeat' (first | apply zak | apply zac | (apply O_at; rfl) | (apply zaf; rfl) | apply zah | (apply za1; rfl) | (apply zaF; rfl) | apply zao | apply zay | apply zaE | ((first | apply zae | apply zad | apply zaM | apply zau); rfl; rfl; rfl; rfl) | (apply zbc; rfl; rfl; rfl; rfl; rfl; rfl; exact zav rfl) | (apply zbm; rfl; rfl; rfl; rfl; rfl; omega) | (apply zbI; rfl; rfl; rfl; rfl; rfl; (unfold fit; omega)) | (apply zam; rfl; rfl; rfl; rfl; rfl; rfl; exact yes (zei hK hl (hr.ext (by (focus repeat' first | exact Ext.refl _ | assumption | apply Ext.push | (refine Ext.trans ?_ (by assumption)) | (refine Ext.set ?_ (Nat.le_succ _) (zab zaa) _) | (refine Ext.ofBut ?_ (by assumption) (by first | exact Nat.le_refl _ | omega)))))) hm; (rintro _ _ ⟨rfl, _⟩)) | fail))
        rename_i h3 x3
        refine zaX (ih (k + 1, v) _ (by dsimp only; omega) ⟨hlt, x3.get f1, x3.get f2, Nat.le_trans hn' x3.n, ?_, by (focus repeat' first | exact Ext.refl _ | assumption | apply Ext.push | (refine Ext.trans ?_ (by assumption)) | (refine Ext.set ?_ (Nat.le_succ _) (zab zaa) _) | (refine Ext.ofBut ?_ (by assumption) (by first | exact Nat.le_refl _ | omega)))⟩) (by (focus repeat' first | rfl | exact trivial | apply And.intro))
        rw [zfV, if_pos hm, List.append_nil]
        exact o.ext x3
      · obtain ⟨b, e, own, rfl, hg⟩ := rc.at (by rw [zaw]; omega)
        have hg' := hx.get hg
        have hb : ∀ a, (c.getD k cop0).r.q = some a → a.block < h.n := (each k hlt).b
        obtain ⟨q1, k1, rfl, hq1⟩ : ∃ q1 k1, v = .slice q1 (wthC l c k).length k1 ∧ ∀ a, q1 = some a → a.block < h'.n := by
          rcases o with ⟨a, _, rfl⟩ | ⟨_, _, b', rfl, g, _⟩
          · exact ⟨none, 0, by rw [a], fun a q => by cases q⟩
          · exact ⟨_, _, rfl, fun a q => by cases q; exact Heap.get_lt g⟩
        (repeat' (first | apply zak | apply zac | (apply O_at; rfl) | (apply N_at; rfl) | (apply zaf; rfl) | apply zah | (apply za1; rfl) | (apply zbe; exact zaA (by decide +kernel)) | apply zao | apply zay | ((first | apply zae | apply zad | apply zaM | apply zau); rfl; rfl; rfl; rfl) | ((first | apply P_fa | apply M_fa); rfl; rfl; rfl; rfl; exact zaz rfl; (first | exact Nat.zero_add _ | exact Nat.add_zero _ | rfl)) | (apply zbc; rfl; rfl; rfl; rfl; rfl; rfl; exact zav rfl) | (apply zbm; rfl; rfl; rfl; rfl; rfl; omega) | (apply zgV; rfl; rfl; rfl; rfl; rfl; exact zav rfl; exact zal rfl; (first | assumption | rfl | exact (Int.toNat_of_nonneg (by omega)).symm); omega) | ((first | ((apply za8; rfl; rfl; rfl; rfl; exact zat rfl; exact zaC (by decide +kernel)); (focus repeat' first | exact zaa | assumption | apply zab | (apply Ext.get; assumption) | (apply ExtBut.get; assumption; (first | assumption | omega | (simp only [Heap.push]; omega)))); (first | rfl | assumption)) | ((apply zde; rfl; rfl; rfl; rfl; exact zaU rfl; exact zaC (by decide +kernel)); (focus repeat' first | exact zaa | assumption | apply zab | (apply Ext.get; assumption) | (apply ExtBut.get; assumption; (first | assumption | omega | (simp only [Heap.push]; omega)))); (first | exact Nat.le_of_ble_eq_true rfl | (rw [zaw]; omega) | (simp; done) | (simp; omega)); (first | exact zaN (by omega) | rfl))); (first | assumption | exact zba _ _ _ | exact zdg _ _ _ _ | rfl | (focus simp [same, same.all2]; done)); (first | rfl | assumption | exact hwv _ | exact zbK (by assumption) (by (focus repeat' first | exact Ext.refl _ | assumption | apply Ext.push | (refine Ext.trans ?_ (by assumption)) | (refine Ext.set ?_ (Nat.le_succ _) (zab zaa) _) | (refine Ext.ofBut ?_ (by assumption) (by first | exact Nat.le_refl _ | omega)))) | exact zb0 (by assumption) (by (focus repeat' first | exact Ext.refl _ | assumption | apply Ext.push | (refine Ext.trans ?_ (by assumption)) | (refine Ext.set ?_ (Nat.le_succ _) (zab zaa) _) | (refine Ext.ofBut ?_ (by assumption) (by first | exact Nat.le_refl _ | omega)))) | (simp [within]; omega))) | (apply zam; rfl; rfl; rfl; rfl; rfl; rfl; exact no (zei hK hl (hr.ext (by (focus repeat' first | exact Ext.refl _ | assumption | apply Ext.push | (refine Ext.trans ?_ (by assumption)) | (refine Ext.set ?_ (Nat.le_succ _) (zab zaa) _) | (refine Ext.ofBut ?_ (by assumption) (by first | exact Nat.le_refl _ | omega)))))) hm; (rintro _ _ ⟨rfl, _⟩)) | fail))
        rename_i h3 x3
        refine M_bs (vs := [(0, .agg #[.int .i64 (c.getD k cop0).par, .slice (c.getD k cop0).r.q (c.getD k cop0).r.s.length (c.getD k cop0).r.k])]) rfl rfl rfl rfl (bs_e1 _ _ _ _ _) ?_
        (repeat' (first | (apply N_at; rfl) | fail))
        refine M_appC rfl rfl rfl rfl rfl rfl rfl rfl (ck2_ok rfl) (zav rfl) (s := 2) (m := 1) (h0 := h2) (c := [.int .i64 (c.getD k cop0).par, .slice (c.getD k cop0).r.q (c.getD k cop0).r.s.length (c.getD k cop0).r.k]) ⟨rfl, .inr ⟨_, _, _, rfl, zaa⟩, fun a q => by cases q; rfl⟩ (o.ext (by (focus repeat' first | exact Ext.refl _ | assumption | apply Ext.push | (refine Ext.trans ?_ (by assumption)) | (refine Ext.set ?_ (Nat.le_succ _) (zab zaa) _) | (refine Ext.ofBut ?_ (by assumption) (by first | exact Nat.le_refl _ | omega))))) (Nat.le_trans hn' (Nat.le_trans x3.n (Nat.le_succ _))) (by omega) rfl rfl ?_
        intro v5 h5 o5 k5 _ _
        have f5 := k5.lo (by omega) (zab (x3.get f1))
        have f6 := k5.lo (by omega) (zab (x3.get f2))
        have x5 : Ext h h5 := ⟨Nat.le_trans (hx.trans x3).n (Nat.le_trans (Nat.le_succ _) k5.n), fun q y g => k5.lo (by have := Heap.get_lt g; omega) (zab ((hx.trans x3).get g))⟩
        obtain ⟨b5, rfl, g5, hb5⟩ : ∃ b, v5 = .slice (some ⟨b, 0, none⟩) ((wthC l c k).length + 1) unk ∧ h5.get? b = some (.cells (copCells (wthC l c k) ++ [.int .i64 (c.getD k cop0).par, .slice (c.getD k cop0).r.q (c.getD k cop0).r.s.length (c.getD k cop0).r.k]) 37 true) ∧ h2.n ≤ b := by
          rcases o5 with ⟨z, _⟩ | ⟨_, _, b, z1, z2, z3⟩
          · omega
          · exact ⟨b, z1, z2, z3⟩
        (repeat' (first | (apply N_at; rfl) | ((first | apply P_fa | apply M_fa); rfl; rfl; rfl; rfl; exact zaz rfl; (first | exact Nat.zero_add _ | exact Nat.add_zero _ | rfl)) | fail))
        refine zlS rfl rfl rfl rfl f5 (zal rfl) rfl (Nat.le_of_ble_eq_true rfl) rfl rfl ?_
        (repeat' (first | apply zac | (apply O_at; rfl) | (apply zaf; rfl) | apply zah | (apply zbD; rfl; refine .inr ?_; (focus repeat' first | exact trivial | apply And.intro | rfl)) | apply zaE | ((first | apply zae | apply zad | apply zaM | apply zau); rfl; rfl; rfl; rfl) | (apply zbI; rfl; rfl; rfl; rfl; rfl; (unfold fit; omega)) | fail))
        refine zaX (ih (k + 1, .slice (some ⟨b5, 0, none⟩) ((wthC l c k).length + 1) unk) _ (by dsimp only; omega) ⟨hlt, zaB f5, zar f5 (by omega) f6, Nat.le_trans hn' (Nat.le_trans x3.n (Nat.le_trans (Nat.le_succ _) k5.n)), ?_, x5.set (Nat.le_refl _) f5 _⟩) (by (focus repeat' first | rfl | exact trivial | apply And.intro))
        rw [zfV, if_neg hm, List.length_append, cops_app]
        exact .inr ⟨Nat.succ_pos _, by simp only [List.length_append, zaw, copCells, List.length_cons, List.length_nil]; omega, b5, rfl, zar f5 (by omega) g5, hb5⟩
    · obtain rfl : k = c.length := by omega
      obtain ⟨q1, k1, rfl, hq1, hq2, hq3⟩ : ∃ q1 k1, v = .slice q1 (wthC l c c.length).length k1 ∧ (∀ a, q1 = some a → a.block < h'.n) ∧ Rd h' q1 (copCells (wthC l c c.length)) ∧ (wthC l c c.length).length ≤ k1 := by
        rcases o with ⟨a, a', rfl⟩ | ⟨_, _, b', rfl, g, _⟩
        · exact ⟨none, 0, by rw [a], (fun a q => by cases q), .inl a', by omega⟩
        · exact ⟨_, _, rfl, (fun a q => by cases q; exact Heap.get_lt g), .inr ⟨b', _, _, rfl, g⟩, by unfold unk; omega⟩
      (repeat' (first | apply zak | apply zac | (apply O_at; rfl) | (apply zaf; rfl) | apply zah | (apply zaF; rfl) | apply za6 | apply zaD | apply zbh | apply zaS | apply zaT | apply zaq | ((first | apply zae | apply zad | apply zaM | apply zau); rfl; rfl; rfl; rfl) | (apply zbc; rfl; rfl; rfl; rfl; rfl; rfl; exact zav rfl) | (apply zbq; rfl; rfl; rfl; rfl; rfl; omega) | (apply zaI; rfl; rfl; rfl; rfl; exact zaU rfl; (focus repeat' first | exact zaa | assumption | apply zab | (apply Ext.get; assumption) | (apply ExtBut.get; assumption; (first | assumption | omega | (simp only [Heap.push]; omega)))); (first | exact Nat.le_of_ble_eq_true rfl | (rw [zaw]; omega) | (simp; done) | (simp; omega)); (first | exact zaN (by omega) | rfl)) | (apply ziR; rfl; rfl; rfl; rfl; (focus repeat' first | exact zaa | assumption | apply zab | (apply Ext.get; assumption) | (apply ExtBut.get; assumption; (first | assumption | omega | (simp only [Heap.push]; omega)))); exact zal rfl; rfl; (first | rfl | exact zaj _); rfl; (intro _ _ _)) | fail))
      rename_i h4 g4 k4
      have x4 : Ext h h4 := Ext.ofBut hx k4 (by omega)
      refine ⟨.inr rfl, _, zil rfl (v := .agg #[.int .i64 people, .slice pl n kl, .slice q1 (wthC l c c.length).length k1]) ?_ rfl, q1, k1, rfl, ⟨⟨len, rl.ext x4, ?_, ?_, fun a e => Nat.lt_of_lt_of_le (hbl a e) x4.n, fun a e => Nat.lt_of_lt_of_le (hq1 a e) k4.n⟩, hq3⟩, x4⟩
      · have ht := zaU (t := 25) (n := 3) rfl
        simp only [readB, g4, partB, zdc ht, zcp ht]
        rfl
      · rcases hq2 with u | ⟨b', _, _, rfl, g⟩
        · exact .inl u
        · refine .inr ⟨b', _, _, rfl, k4.get ?_ g⟩
          rintro rfl
          rw [f2] at g
          rcases o with ⟨a, _, q⟩ | ⟨_, _, b2, q, g2, hb2⟩
          · cases q
          · cases q; omega
      · intro i hi
        have hmem : (wthC l c c.length).getD i cop0 ∈ wthC l c c.length := by
          simp only [wthG] at hi
          simp only [List.getD_eq_getElem?_getD, List.getElem?_eq_getElem hi, Option.getD_some]
          exact List.getElem_mem hi
        obtain ⟨a, ha, e⟩ := zfd hmem
        show RowIn ((wthC l c c.length).getD i cop0).r h4
        rw [e]
        exact (each a ha).ext x4
  · exact ⟨Nat.zero_le _, e1, e2, Nat.le_refl _, .inl ⟨rfl, rfl, rfl⟩, x2⟩
  · (focus repeat' first | rfl | exact trivial | apply And.intro)
theorem zj2 {G : Pg} {i : Nat} (hi : i < (usL G).length) : ∃ a : Nat, (usL G).getD i 0 = (a : Nat) ∧ a < G.c.length ∧ UslP G.c a := by
  have : (usL G).getD i 0 ∈ usL G := by
    simp only [List.getD_eq_getElem?_getD, List.getElem?_eq_getElem hi, Option.getD_some]
    exact List.getElem_mem hi
  obtain ⟨a, ha, e, u⟩ := filL_mem.1 this
  exact ⟨a, e, ha, u⟩
theorem usl_inc {G : Pg} {i : Nat} (h0 : 0 < i) (h1 : i < (usL G).length) : (usL G).getD (((i : Nat) : Int) - 1).toNat 0 < (usL G).getD i 0 := by
  have := List.pairwise_iff_getElem.1 (zli (UslP G.c) G.c.length) (i - 1) i (by show i - 1 < (usL G).length; omega) h1 (by omega)
  rw [show (((i : Nat) : Int) - 1).toNat = i - 1 by omega]
  have e1 : (usL G).getD (i - 1) 0 = (usL G)[i - 1]'(by omega) := by simp [List.getD_eq_getElem?_getD, show i - 1 < (usL G).length by omega]
  have e2 : (usL G).getD i 0 = (usL G)[i]'h1 := by simp [List.getD_eq_getElem?_getD, h1]
  rw [e1, e2]
  exact this
theorem not_usl {G : Pg} (hP : PgP G) {i : Nat} (hi : i < G.c.length) (hall : ∀ k, i ≤ k → k < G.c.length → (G.c.getD k cop0).par = 1) : ((i : Nat) : Int) ∉ usL G := by
  intro u
  have u := (zj3 hi).1 u
  have hE := hP.ent i hi
  have h1 := hall i (Nat.le_refl _) hi
  have z := ent1.1 (show EntP G.people G.n (1, (G.c.getD i cop0).r.s) from by rw [← h1]; exact hE)
  obtain ⟨k, hk, w⟩ := u.2 ((G.c.getD i cop0).r.s.getD 2 0) ⟨h1, Int.le_refl _, z.2.2.2.2.2.2⟩
  have h2 := hall (i + 1 + k) (by omega) (by omega)
  rcases w with w | w
  · have := w.1; simp only [ent] at this; omega
  · have := w.1; simp only [ent] at this; omega
set_option maxHeartbeats 4000000 in
theorem zfx (hK : NoK K) (hKn : Kn K) {G : Pg} {a0 a1 : Int} {h : Heap} (hT : PgAt G h) (hcap : G.c.length ≤ 1000000 → G.c.length ≤ G.kg) : CallW Tryz.prog K 12 #[pgV G, .int .i64 a0, .int .i64 a1] h TrueB := by
  refine body (N := 222) Tryz.func12 rfl (hK _ _ _ rfl) rfl rfl ?_
  have hbl := hT.bl
  have hbg := hT.bg
  by_cases hR : ShortP G ∧ PgP G
  · obtain ⟨hs, hP⟩ := hR
    have hn := hP.n
    have hc10 := hP.c
    have hcp := hcap (by omega)
    by_cases hL : LinP G.n a0
    · obtain ⟨j, rfl, hj⟩ := lin_nat hL
      have l1 := usL_len G
      have l2 := zct G (logL G)
      have l3 := zdN G (logL G)
      have l4 := rd_len G (logL G) j hP.people
      have hfa := fun (i : Nat) (hi : i < (usL G).length) => zj2 hi
      have hinc := fun (i : Nat) (h0 : 0 < i) (hi : i < (usL G).length) => usl_inc h0 hi
      have hn1 := nums_wl G
      have hs1 := sets_wl G
      have hr1 := fun q k => rdA_wl G q k j
      have hu1 := usl_none G
      have hnot := fun (i : Nat) (hi : i < G.c.length) => not_usl hP hi
      (repeat' (first | apply zak | apply zac | (apply O_at; rfl) | (apply zaf; rfl) | apply zah | (apply zaF; rfl) | apply zao | apply zay | ((first | apply zae | apply zad | apply zaM | apply zau); rfl; rfl; rfl; rfl) | ((first | apply P_fa | apply M_fa); rfl; rfl; rfl; rfl; exact zaz rfl; (first | exact Nat.zero_add _ | exact Nat.add_zero _ | rfl)) | ((first | apply zbc | apply zcS); rfl; rfl; rfl; rfl; rfl; rfl; exact zav rfl) | ((first | apply zaV | apply zbn); rfl; rfl; rfl; rfl; rfl; rfl) | (apply zbP; rfl; rfl; rfl; rfl; rfl) | (apply zlN; rfl; rfl; rfl; rfl; rfl; omega) | (apply zdG; rfl; rfl; rfl; rfl; rfl; omega) | (apply zai; rfl; rfl; rfl; rfl; exact zat rfl; (focus repeat' first | exact zaa | assumption | apply zab | (apply Ext.get; assumption)); (first | exact zag (by omega) | exact zbo (by omega) | rfl | assumption)) | (apply zaI; rfl; rfl; rfl; rfl; exact zaU rfl; (focus repeat' first | exact zaa | assumption | apply zab | (apply Ext.get; assumption)); (first | exact Nat.le_of_ble_eq_true rfl | (rw [zaw]; omega) | (simp; done) | (simp; omega) | (rw [zaj]; omega)); rfl) | (apply zaR; rfl; rfl; rfl; rfl; exact zal rfl; rfl; rfl) | (apply zam; rfl; rfl; rfl; rfl; rfl; rfl; exact yes (zfq hK (hT.ext (by (focus repeat' first | exact Ext.refl _ | assumption | apply Ext.push | (refine Ext.trans ?_ (by assumption)))))) ⟨hs, hP⟩; (rintro _ _ ⟨rfl, _⟩)) | (apply zam; rfl; rfl; rfl; rfl; rfl; rfl; exact yes (zdi hK (by omega)) hL; (rintro _ _ ⟨rfl, _⟩)) | (apply zam; rfl; rfl; rfl; rfl; rfl; rfl; exact zeS hK (hT.ext (by (focus repeat' first | exact Ext.refl _ | assumption | apply Ext.push | (refine Ext.trans ?_ (by assumption))))) hs hP hcp; (rintro _ _ ⟨_, _, rfl, _, _⟩)) | fail))
      rename_i h1 x1 h2 x2 h3 p3 c3 r3 x3
      refine zbb (fun i : Nat => [(9, .int .i64 (i : Nat)), (7, .slice p3 (usL G).length c3), (3, .pointer (some ⟨h.n, 0, none⟩)), (1, .int .i64 (j : Nat)), (2, .int .i64 a1)])
        (fun i h' => i ≤ (usL G).length ∧ Ext h3 h') (fun i => (usL G).length - i) ?_ 0 ?_ ?_
      · rintro i h' ⟨hi, hx⟩ ih
        by_cases hlt : i < (usL G).length
        · obtain ⟨d3, t3, o3, rfl, g3⟩ := r3.at (by rw [zaj]; omega)
          obtain ⟨a, ea, ha, ua⟩ := hfa i hlt
          have hua := ua.1
          obtain ⟨bg, eg, og, hpg, hg⟩ := hT.rc.at (by rw [zaw]; omega)
          by_cases h0 : i = 0
          · subst h0
            (repeat' (first | apply zak | apply zac | (apply O_at; rfl) | (apply N_at; rfl) | (apply zaf; rfl) | apply zah | (apply za1; rfl) | (apply zbe; exact zaA (by decide +kernel)) | apply zao | apply zay | ((first | apply zae | apply zad | apply zaM | apply zau); rfl; rfl; rfl; rfl) | ((first | apply P_fa | apply M_fa); rfl; rfl; rfl; rfl; exact zaz rfl; (first | exact Nat.zero_add _ | exact Nat.add_zero _ | rfl)) | ((first | apply zbc | apply zcS); rfl; rfl; rfl; rfl; rfl; rfl; exact zav rfl) | ((first | apply zaV | apply zbn); rfl; rfl; rfl; rfl; rfl; rfl) | (apply zbm; rfl; rfl; rfl; rfl; rfl; omega) | (apply zcH; rfl; rfl; rfl; rfl) | (apply M_lssF; rfl; rfl; rfl; rfl; rfl; omega) | (apply M_gtrF; rfl; rfl; rfl; rfl; rfl; omega) | (apply M_geqF; rfl; rfl; rfl; rfl; rfl; omega) | (apply zcq; rfl; rfl; rfl; rfl; rfl; exact zav rfl; exact zal rfl; (first | assumption | exact zq0 | rfl | exact (Int.toNat_of_nonneg (by omega)).symm); omega) | (((apply za8; rfl; rfl; rfl; rfl; exact zat rfl; exact zaC (by decide +kernel)); (focus repeat' first | exact zaa | assumption | apply zab | (apply Ext.get; assumption)); (first | exact zag (by omega) | exact zbo (by omega) | rfl | assumption)); (first | assumption | exact zaG _ _ | exact zba _ _ _ | rfl | (focus simp [same, same.all2]; done)); (first | rfl | assumption | exact hwv _ | exact zb0 (by assumption) (by (focus repeat' first | exact Ext.refl _ | assumption | apply Ext.push | (refine Ext.trans ?_ (by assumption)))) | (simp [within]; omega))) | fail))
            rw [hpg]
            (repeat' (first | apply zac | (apply O_at; rfl) | (apply N_at; rfl) | (apply zaf; rfl) | apply zah | (apply zaF; rfl) | apply zay | (apply zbD; rfl; exact (.inl (Nat.le_refl 1))) | apply zaE | ((first | apply zae | apply zad | apply zaM | apply zau); rfl; rfl; rfl; rfl) | ((first | apply P_fa | apply M_fa); rfl; rfl; rfl; rfl; exact zaz rfl; (first | exact Nat.zero_add _ | exact Nat.add_zero _ | rfl)) | ((first | apply zaV | apply zbn); rfl; rfl; rfl; rfl; rfl; rfl) | (apply zbI; rfl; rfl; rfl; rfl; rfl; (unfold fit; omega)) | (apply M_neqF; rfl; rfl; rfl; rfl; rfl; omega) | (apply zgV; rfl; rfl; rfl; rfl; rfl; exact zav rfl; exact zal rfl; (first | assumption | exact zq0 | rfl | exact (Int.toNat_of_nonneg (by omega)).symm); omega) | (((apply za8; rfl; rfl; rfl; rfl; exact zat rfl; exact zaC (by decide +kernel)); (focus repeat' first | exact zaa | assumption | apply zab | (apply Ext.get; assumption)); (first | exact zag (by omega) | exact zbo (by omega) | rfl | assumption)); (first | assumption | exact zaG _ _ | exact zba _ _ _ | rfl | (focus simp [same, same.all2]; done)); (first | rfl | assumption | exact hwv _ | exact zb0 (by assumption) (by (focus repeat' first | exact Ext.refl _ | assumption | apply Ext.push | (refine Ext.trans ?_ (by assumption)))) | (simp [within]; omega))) | fail))
            refine zaX (ih 1 _ (by omega) ⟨hlt, hx⟩) (by (focus repeat' first | rfl | exact trivial | apply And.intro))
          · have q2 := hinc i (by omega) hlt
            (repeat' (first | apply zak | apply zac | (apply O_at; rfl) | (apply N_at; rfl) | (apply zaf; rfl) | apply zah | (apply za1; rfl) | (apply zbe; exact zaA (by decide +kernel)) | apply zao | apply zay | ((first | apply zae | apply zad | apply zaM | apply zau); rfl; rfl; rfl; rfl) | ((first | apply P_fa | apply M_fa); rfl; rfl; rfl; rfl; exact zaz rfl; (first | exact Nat.zero_add _ | exact Nat.add_zero _ | rfl)) | ((first | apply zbc | apply zcS); rfl; rfl; rfl; rfl; rfl; rfl; exact zav rfl) | ((first | apply zaV | apply zbn); rfl; rfl; rfl; rfl; rfl; rfl) | (apply zbm; rfl; rfl; rfl; rfl; rfl; omega) | (apply M_lssF; rfl; rfl; rfl; rfl; rfl; omega) | (apply M_leqF; rfl; rfl; rfl; rfl; rfl; omega) | (apply M_gtrT; rfl; rfl; rfl; rfl; rfl; omega) | (apply M_geqF; rfl; rfl; rfl; rfl; rfl; omega) | (apply M_sub; rfl; rfl; rfl; rfl; rfl; (unfold fit; omega)) | (apply zcq; rfl; rfl; rfl; rfl; rfl; exact zav rfl; exact zal rfl; (first | assumption | exact zq0 | rfl | exact (Int.toNat_of_nonneg (by omega)).symm); omega) | (((apply za8; rfl; rfl; rfl; rfl; exact zat rfl; exact zaC (by decide +kernel)); (focus repeat' first | exact zaa | assumption | apply zab | (apply Ext.get; assumption)); (first | exact zag (by omega) | exact zbo (by omega) | rfl | assumption)); (first | assumption | exact zaG _ _ | exact zba _ _ _ | rfl | (focus simp [same, same.all2]; done)); (first | rfl | assumption | exact hwv _ | exact zb0 (by assumption) (by (focus repeat' first | exact Ext.refl _ | assumption | apply Ext.push | (refine Ext.trans ?_ (by assumption)))) | (simp [within]; omega))) | fail))
            rw [hpg]
            (repeat' (first | apply zac | (apply O_at; rfl) | (apply N_at; rfl) | (apply zaf; rfl) | apply zah | (apply zaF; rfl) | apply zay | (apply zbD; rfl; exact (.inl (Nat.le_refl 1))) | apply zaE | ((first | apply zae | apply zad | apply zaM | apply zau); rfl; rfl; rfl; rfl) | ((first | apply P_fa | apply M_fa); rfl; rfl; rfl; rfl; exact zaz rfl; (first | exact Nat.zero_add _ | exact Nat.add_zero _ | rfl)) | ((first | apply zaV | apply zbn); rfl; rfl; rfl; rfl; rfl; rfl) | (apply zbI; rfl; rfl; rfl; rfl; rfl; (unfold fit; omega)) | (apply M_neqF; rfl; rfl; rfl; rfl; rfl; omega) | (apply zgV; rfl; rfl; rfl; rfl; rfl; exact zav rfl; exact zal rfl; (first | assumption | exact zq0 | rfl | exact (Int.toNat_of_nonneg (by omega)).symm); omega) | (((apply za8; rfl; rfl; rfl; rfl; exact zat rfl; exact zaC (by decide +kernel)); (focus repeat' first | exact zaa | assumption | apply zab | (apply Ext.get; assumption)); (first | exact zag (by omega) | exact zbo (by omega) | rfl | assumption)); (first | assumption | exact zaG _ _ | exact zba _ _ _ | rfl | (focus simp [same, same.all2]; done)); (first | rfl | assumption | exact hwv _ | exact zb0 (by assumption) (by (focus repeat' first | exact Ext.refl _ | assumption | apply Ext.push | (refine Ext.trans ?_ (by assumption)))) | (simp [within]; omega))) | fail))
            refine zaX (ih (i + 1) _ (by omega) ⟨hlt, hx⟩) (by (focus repeat' first | rfl | exact trivial | apply And.intro))
        · (repeat' (first | apply zak | apply zac | (apply O_at; rfl) | (apply zaf; rfl) | apply zah | (apply zaF; rfl) | apply za6 | apply zbh | apply zaS | apply zaT | ((first | apply zae | apply zad | apply zaM | apply zau); rfl; rfl; rfl; rfl) | ((first | apply zbc | apply zcS); rfl; rfl; rfl; rfl; rfl; rfl; exact zav rfl) | (apply zbq; rfl; rfl; rfl; rfl; rfl; omega) | (apply zaI; rfl; rfl; rfl; rfl; exact zaU rfl; (focus repeat' first | exact zaa | assumption | apply zab | (apply Ext.get; assumption)); (first | exact Nat.le_of_ble_eq_true rfl | (rw [zaw]; omega) | (simp; done) | (simp; omega) | (rw [zaj]; omega)); rfl) | (apply zaZ; rfl; rfl; rfl; rfl; exact zal rfl; rfl; rfl; rfl) | (apply zbp; rfl; rfl; rfl; rfl; exact zal rfl; rfl; rfl) | (apply zam; rfl; rfl; rfl; rfl; rfl; rfl; exact zgY hK (hT.ext (by (focus repeat' first | exact Ext.refl _ | assumption | apply Ext.push | (refine Ext.trans ?_ (by assumption))))) (r3.ext (by (focus repeat' first | exact Ext.refl _ | assumption | apply Ext.push | (refine Ext.trans ?_ (by assumption))))) (by omega) (by omega); (rintro _ _ ⟨_, _, rfl, _, _⟩)) | fail))
          rename_i h4 q4 k4 T4 x4
          obtain ⟨T4, cp4⟩ := T4
          have n1 := hn1 q4 k4
          have s1 := hs1 q4 k4
          have r1 := hr1 q4 k4
          have u1 := hu1 q4 k4
          have n2 : (numsL (wthG G (usL G) q4 k4) (logL (wthG G (usL G) q4 k4))).length = G.n := by rw [n1]; exact l2
          have s2 : (setsL (wthG G (usL G) q4 k4) (logL (wthG G (usL G) q4 k4))).length = G.n := by rw [s1]; exact l3
          have r2 : (rdA (wthG G (usL G) q4 k4) (logL (wthG G (usL G) q4 k4)) j).length ≤ 6 := by rw [r1]; exact l4
          have u2 : (usL (wthG G (usL G) q4 k4)).length = 0 := by rw [u1]; rfl
          clear hn1 hs1 hr1 hu1 hfa hinc
          (repeat' (first | apply zak | apply zac | (apply O_at; rfl) | (apply zaf; rfl) | apply zah | ((first | apply zae | apply zad | apply zaM | apply zau); rfl; rfl; rfl; rfl) | (apply zbP; rfl; rfl; rfl; rfl; rfl) | (apply zaI; rfl; rfl; rfl; rfl; exact zaU rfl; (focus repeat' first | exact zaa | assumption | apply zab | (apply Ext.get; assumption)); (first | exact Nat.le_of_ble_eq_true rfl | (rw [zaw]; omega) | (simp; done) | (simp; omega) | (rw [zaj]; omega)); rfl) | (apply zam; rfl; rfl; rfl; rfl; rfl; rfl; exact now_ok hK (hT.ext (by (focus repeat' first | exact Ext.refl _ | assumption | apply Ext.push | (refine Ext.trans ?_ (by assumption))))) hs hP; (rintro _ _ ⟨_, _, rfl, _, _⟩)) | fail))
          rename_i h5 p5 c5 r5 x5
          apply zam; rfl; rfl; rfl; rfl; rfl; rfl
          exact now_ok hK (T4.ext (by (focus repeat' first | exact Ext.refl _ | assumption | apply Ext.push | (refine Ext.trans ?_ (by assumption))))) (zcr hs) (zdQ hP)
          rintro _ h6 ⟨p6, c6, rfl, r6, x6⟩
          (repeat' (first | apply zak | apply zac | (apply O_at; rfl) | (apply zaf; rfl) | apply zah | ((first | apply zae | apply zad | apply zaM | apply zau); rfl; rfl; rfl; rfl) | (apply zbP; rfl; rfl; rfl; rfl; rfl) | (apply zaI; rfl; rfl; rfl; rfl; exact zaU rfl; (focus repeat' first | exact zaa | assumption | apply zab | (apply Ext.get; assumption)); (first | exact Nat.le_of_ble_eq_true rfl | (rw [zaw]; omega) | (simp; done) | (simp; omega) | (rw [zaj]; omega)); rfl) | (apply zam; rfl; rfl; rfl; rfl; rfl; rfl; exact zeW hK (hT.ext (by (focus repeat' first | exact Ext.refl _ | assumption | apply Ext.push | (refine Ext.trans ?_ (by assumption))))) hs hP; (rintro _ _ ⟨_, _, rfl, _, _⟩)) | fail))
          rename_i h7 p7 c7 r7 x7
          apply zam; rfl; rfl; rfl; rfl; rfl; rfl
          exact zeW hK (T4.ext (by (focus repeat' first | exact Ext.refl _ | assumption | apply Ext.push | (refine Ext.trans ?_ (by assumption))))) (zcr hs) (zdQ hP)
          rintro _ h8 ⟨p8, c8, rfl, r8, x8⟩
          (repeat' (first | apply zak | apply zac | (apply O_at; rfl) | (apply zaf; rfl) | apply zah | ((first | apply zae | apply zad | apply zaM | apply zau); rfl; rfl; rfl; rfl) | (apply zbP; rfl; rfl; rfl; rfl; rfl) | (apply zaI; rfl; rfl; rfl; rfl; exact zaU rfl; (focus repeat' first | exact zaa | assumption | apply zab | (apply Ext.get; assumption)); (first | exact Nat.le_of_ble_eq_true rfl | (rw [zaw]; omega) | (simp; done) | (simp; omega) | (rw [zaj]; omega)); rfl) | (apply zam; rfl; rfl; rfl; rfl; rfl; rfl; exact zd3 hK (hT.ext (by (focus repeat' first | exact Ext.refl _ | assumption | apply Ext.push | (refine Ext.trans ?_ (by assumption))))) hs hP rfl hj; (rintro _ _ ⟨_, _, rfl, _, _⟩)) | fail))
          rename_i h9 p9 c9 r9 x9
          apply zam; rfl; rfl; rfl; rfl; rfl; rfl
          exact zd3 (G := wthG G (usL G) q4 k4) hK (T4.ext (by (focus repeat' first | exact Ext.refl _ | assumption | apply Ext.push | (refine Ext.trans ?_ (by assumption))))) (zcr hs) (zdQ hP) rfl hj
          rintro _ h10 ⟨p10, c10, rfl, r10, x10⟩
          (repeat' (first | apply zak | apply zac | (apply O_at; rfl) | (apply zaf; rfl) | apply zah | ((first | apply zae | apply zad | apply zaM | apply zau); rfl; rfl; rfl; rfl) | (apply zbP; rfl; rfl; rfl; rfl; rfl) | (apply zaI; rfl; rfl; rfl; rfl; exact zaU rfl; (focus repeat' first | exact zaa | assumption | apply zab | (apply Ext.get; assumption)); (first | exact Nat.le_of_ble_eq_true rfl | (rw [zaw]; omega) | (simp; done) | (simp; omega) | (rw [zaj]; omega)); rfl) | fail))
          apply zam; rfl; rfl; rfl; rfl; rfl; rfl
          exact zeS hK (T4.ext (by (focus repeat' first | exact Ext.refl _ | assumption | apply Ext.push | (refine Ext.trans ?_ (by assumption))))) (zcr hs) (zdQ hP) cp4
          rintro _ h11 ⟨p11, c11, rfl, r11, x11⟩
          by_cases ha : 0 ≤ a1 ∧ a1 < (G.c.length : Nat)
          · obtain ⟨e, rfl⟩ : ∃ e : Nat, a1 = (e : Nat) := ⟨a1.toNat, by omega⟩
            (repeat' (first | apply zak | apply zac | (apply O_at; rfl) | (apply zaf; rfl) | apply zah | (apply zaF; rfl) | apply zao | apply zay | ((first | apply zae | apply zad | apply zaM | apply zau); rfl; rfl; rfl; rfl) | ((first | apply P_fa | apply M_fa); rfl; rfl; rfl; rfl; exact zaz rfl; (first | exact Nat.zero_add _ | exact Nat.add_zero _ | rfl)) | ((first | apply zbc | apply zcS); rfl; rfl; rfl; rfl; rfl; rfl; exact zav rfl) | ((first | apply zaV | apply zbn); rfl; rfl; rfl; rfl; rfl; rfl) | (apply zbP; rfl; rfl; rfl; rfl; rfl) | (apply zbq; rfl; rfl; rfl; rfl; rfl; omega) | (apply P_geqF; rfl; rfl; rfl; rfl; rfl; omega) | (apply zdG; rfl; rfl; rfl; rfl; rfl; omega) | (apply zai; rfl; rfl; rfl; rfl; exact zat rfl; (focus repeat' first | exact zaa | assumption | apply zab | (apply Ext.get; assumption)); (first | exact zag (by omega) | exact zbo (by omega) | rfl | assumption)) | (apply zam; rfl; rfl; rfl; rfl; rfl; rfl; exact yes (zdf hK (by omega) (by omega) (r5.ext (by (focus repeat' first | exact Ext.refl _ | assumption | apply Ext.push | (refine Ext.trans ?_ (by assumption))))) (r6.ext (by (focus repeat' first | exact Ext.refl _ | assumption | apply Ext.push | (refine Ext.trans ?_ (by assumption)))))) n1.symm; (rintro _ _ ⟨rfl, _⟩)) | (apply zam; rfl; rfl; rfl; rfl; rfl; rfl; exact yes (zdf hK (by omega) (by omega) (r7.ext (by (focus repeat' first | exact Ext.refl _ | assumption | apply Ext.push | (refine Ext.trans ?_ (by assumption))))) (r8.ext (by (focus repeat' first | exact Ext.refl _ | assumption | apply Ext.push | (refine Ext.trans ?_ (by assumption)))))) s1.symm; (rintro _ _ ⟨rfl, _⟩)) | (apply zam; rfl; rfl; rfl; rfl; rfl; rfl; exact yes (zdf hK (by omega) (by omega) (r9.ext (by (focus repeat' first | exact Ext.refl _ | assumption | apply Ext.push | (refine Ext.trans ?_ (by assumption))))) (r10.ext (by (focus repeat' first | exact Ext.refl _ | assumption | apply Ext.push | (refine Ext.trans ?_ (by assumption)))))) r1.symm; (rintro _ _ ⟨rfl, _⟩)) | fail))
            rename_i h12 x12 h13 x13 h14 x14
            refine zbb (fun n : Nat => [(25, .int .i64 (n : Nat)), (7, .slice p3 (usL G).length c3), (3, .pointer (some ⟨h.n, 0, none⟩)), (2, .int .i64 (e : Nat))])
              (fun n h' => e ≤ n ∧ n ≤ G.c.length ∧ Ext h14 h' ∧ ∀ k, e ≤ k → k < n → (G.c.getD k cop0).par = 1) (fun n => G.c.length - n) ?_ e ?_ ?_
            · rintro n h' ⟨hn0, hn1, hx', hall⟩ ih'
              by_cases hlt' : n < G.c.length
              · obtain ⟨bg, eg, og, hpg, hg⟩ := hT.rc.at (by rw [zaw]; omega)
                by_cases hk : (G.c.getD n cop0).par = 1
                · (repeat' (first | apply zak | apply zac | (apply O_at; rfl) | (apply zaf; rfl) | apply zah | (apply za1; rfl) | apply zao | apply zay | ((first | apply zae | apply zad | apply zaM | apply zau); rfl; rfl; rfl; rfl) | ((first | apply P_fa | apply M_fa); rfl; rfl; rfl; rfl; exact zaz rfl; (first | exact Nat.zero_add _ | exact Nat.add_zero _ | rfl)) | ((first | apply zbc | apply zcS); rfl; rfl; rfl; rfl; rfl; rfl; exact zav rfl) | (apply zbm; rfl; rfl; rfl; rfl; rfl; omega) | (apply zai; rfl; rfl; rfl; rfl; exact zat rfl; (focus repeat' first | exact zaa | assumption | apply zab | (apply Ext.get; assumption)); (first | exact zag (by omega) | exact zbo (by omega) | rfl | assumption)) | fail))
                  rw [hpg]
                  (repeat' (first | apply zac | (apply O_at; rfl) | (apply zaf; rfl) | apply zah | (apply zaF; rfl) | apply zay | apply zaE | ((first | apply zae | apply zad | apply zaM | apply zau); rfl; rfl; rfl; rfl) | ((first | apply P_fa | apply M_fa); rfl; rfl; rfl; rfl; exact zaz rfl; (first | exact Nat.zero_add _ | exact Nat.add_zero _ | rfl)) | (apply zdG; rfl; rfl; rfl; rfl; rfl; omega) | (apply zbI; rfl; rfl; rfl; rfl; rfl; (unfold fit; omega)) | (apply zcE; rfl; rfl; rfl; rfl; rfl; exact zav rfl; exact zal rfl; (first | assumption | exact zq0 | rfl | exact (Int.toNat_of_nonneg (by omega)).symm); omega) | (apply zai; rfl; rfl; rfl; rfl; exact zat rfl; (focus repeat' first | exact zaa | assumption | apply zab | (apply Ext.get; assumption)); (first | exact zag (by omega) | exact zbo (by omega) | rfl | assumption)) | fail))
                  refine zaX (ih' (n + 1) _ (by omega) ⟨by omega, hlt', hx', fun k q1 q2 => ?_⟩) (by (focus repeat' first | rfl | exact trivial | apply And.intro))
                  by_cases hkn : k = n
                  · subst hkn; exact hk
                  · exact hall k q1 (by omega)
                · (repeat' (first | apply zak | apply zac | (apply O_at; rfl) | (apply zaf; rfl) | apply zah | (apply za1; rfl) | apply zao | apply zay | ((first | apply zae | apply zad | apply zaM | apply zau); rfl; rfl; rfl; rfl) | ((first | apply P_fa | apply M_fa); rfl; rfl; rfl; rfl; exact zaz rfl; (first | exact Nat.zero_add _ | exact Nat.add_zero _ | rfl)) | ((first | apply zbc | apply zcS); rfl; rfl; rfl; rfl; rfl; rfl; exact zav rfl) | (apply zbm; rfl; rfl; rfl; rfl; rfl; omega) | (apply zai; rfl; rfl; rfl; rfl; exact zat rfl; (focus repeat' first | exact zaa | assumption | apply zab | (apply Ext.get; assumption)); (first | exact zag (by omega) | exact zbo (by omega) | rfl | assumption)) | fail))
                  rw [hpg]
                  (repeat' (first | apply zak | apply zac | (apply O_at; rfl) | (apply zaf; rfl) | apply zah | (apply za1; rfl) | apply zaD | apply za7 | apply zcI | apply zbH | apply zaq | ((first | apply zae | apply zad | apply zaM | apply zau); rfl; rfl; rfl; rfl) | ((first | apply P_fa | apply M_fa); rfl; rfl; rfl; rfl; exact zaz rfl; (first | exact Nat.zero_add _ | exact Nat.add_zero _ | rfl)) | (apply ziT; rfl; rfl; rfl; rfl; rfl; omega) | (apply zcE; rfl; rfl; rfl; rfl; rfl; exact zav rfl; exact zal rfl; (first | assumption | exact zq0 | rfl | exact (Int.toNat_of_nonneg (by omega)).symm); omega) | (apply zai; rfl; rfl; rfl; rfl; exact zat rfl; (focus repeat' first | exact zaa | assumption | apply zab | (apply Ext.get; assumption)); (first | exact zag (by omega) | exact zbo (by omega) | rfl | assumption)) | (apply zam; rfl; rfl; rfl; rfl; rfl; rfl; exact zck hKn; (rintro _ _ ⟨rfl, _⟩)) | fail))
                  exact ⟨.inr rfl, _, rfl, rfl⟩
              · obtain rfl : n = G.c.length := by omega
                (repeat' (first | apply zak | apply zac | (apply O_at; rfl) | (apply zaf; rfl) | apply zah | (apply zaF; rfl) | apply za6 | apply zaD | apply zbh | apply zaS | apply zaT | apply zaq | ((first | apply zae | apply zad | apply zaM | apply zau); rfl; rfl; rfl; rfl) | ((first | apply P_fa | apply M_fa); rfl; rfl; rfl; rfl; exact zaz rfl; (first | exact Nat.zero_add _ | exact Nat.add_zero _ | rfl)) | ((first | apply zbc | apply zcS); rfl; rfl; rfl; rfl; rfl; rfl; exact zav rfl) | ((first | apply zaV | apply zbn); rfl; rfl; rfl; rfl; rfl; rfl) | (apply zbq; rfl; rfl; rfl; rfl; rfl; omega) | (apply zai; rfl; rfl; rfl; rfl; exact zat rfl; (focus repeat' first | exact zaa | assumption | apply zab | (apply Ext.get; assumption)); (first | exact zag (by omega) | exact zbo (by omega) | rfl | assumption)) | (apply zam; rfl; rfl; rfl; rfl; rfl; rfl; exact no (zei hK (by omega) (r3.ext (by (focus repeat' first | exact Ext.refl _ | assumption | apply Ext.push | (refine Ext.trans ?_ (by assumption)))))) (hnot e (by omega) hall); (rintro _ _ ⟨rfl, _⟩)) | (apply zam; rfl; rfl; rfl; rfl; rfl; rfl; exact zck hKn; (rintro _ _ ⟨rfl, _⟩)) | fail))
                exact ⟨.inr rfl, _, rfl, rfl⟩
            · exact ⟨Nat.le_refl _, by omega, Ext.refl _, fun k q1 q2 => by omega⟩
            · (focus repeat' first | rfl | exact trivial | apply And.intro)
          · (repeat' (first | apply zak | apply zac | (apply O_at; rfl) | (apply zaf; rfl) | apply zah | (apply za1; rfl) | (apply zaF; rfl) | apply zay | apply zaD | apply za7 | apply zaq | (apply zbG; rfl; rfl; rfl) | ((first | apply zae | apply zad | apply zaM | apply zau); rfl; rfl; rfl; rfl) | ((first | apply P_fa | apply M_fa); rfl; rfl; rfl; rfl; exact zaz rfl; (first | exact Nat.zero_add _ | exact Nat.add_zero _ | rfl)) | ((first | apply zbc | apply zcS); rfl; rfl; rfl; rfl; rfl; rfl; exact zav rfl) | ((first | apply zaV | apply zbn); rfl; rfl; rfl; rfl; rfl; rfl) | (apply zbP; rfl; rfl; rfl; rfl; rfl) | (apply P_geqT; rfl; rfl; rfl; rfl; rfl; omega) | (apply zdG; rfl; rfl; rfl; rfl; rfl; omega) | (apply zjT; rfl; rfl; rfl; rfl; rfl; all_goals intro _) | (apply zai; rfl; rfl; rfl; rfl; exact zat rfl; (focus repeat' first | exact zaa | assumption | apply zab | (apply Ext.get; assumption)); (first | exact zag (by omega) | exact zbo (by omega) | rfl | assumption)) | (apply zam; rfl; rfl; rfl; rfl; rfl; rfl; exact yes (zdf hK (by omega) (by omega) (r5.ext (by (focus repeat' first | exact Ext.refl _ | assumption | apply Ext.push | (refine Ext.trans ?_ (by assumption))))) (r6.ext (by (focus repeat' first | exact Ext.refl _ | assumption | apply Ext.push | (refine Ext.trans ?_ (by assumption)))))) n1.symm; (rintro _ _ ⟨rfl, _⟩)) | (apply zam; rfl; rfl; rfl; rfl; rfl; rfl; exact yes (zdf hK (by omega) (by omega) (r7.ext (by (focus repeat' first | exact Ext.refl _ | assumption | apply Ext.push | (refine Ext.trans ?_ (by assumption))))) (r8.ext (by (focus repeat' first | exact Ext.refl _ | assumption | apply Ext.push | (refine Ext.trans ?_ (by assumption)))))) s1.symm; (rintro _ _ ⟨rfl, _⟩)) | (apply zam; rfl; rfl; rfl; rfl; rfl; rfl; exact yes (zdf hK (by omega) (by omega) (r9.ext (by (focus repeat' first | exact Ext.refl _ | assumption | apply Ext.push | (refine Ext.trans ?_ (by assumption))))) (r10.ext (by (focus repeat' first | exact Ext.refl _ | assumption | apply Ext.push | (refine Ext.trans ?_ (by assumption)))))) r1.symm; (rintro _ _ ⟨rfl, _⟩)) | (apply zam; rfl; rfl; rfl; rfl; rfl; rfl; exact zck hKn; (rintro _ _ ⟨rfl, _⟩)) | fail))
            all_goals first
              | exact ⟨.inr rfl, _, rfl, rfl⟩
              | omega
      · exact ⟨Nat.zero_le _, Ext.refl _⟩
      · (focus repeat' first | rfl | exact trivial | apply And.intro)
    · (repeat' (first | apply zak | apply zac | (apply O_at; rfl) | (apply zaf; rfl) | apply zah | (apply za1; rfl) | apply zaD | apply za7 | apply zaq | ((first | apply zae | apply zad | apply zaM | apply zau); rfl; rfl; rfl; rfl) | ((first | apply zaV | apply zbn); rfl; rfl; rfl; rfl; rfl; rfl) | (apply zaI; rfl; rfl; rfl; rfl; exact zaU rfl; (focus repeat' first | exact zaa | assumption | apply zab | (apply Ext.get; assumption)); (first | exact Nat.le_of_ble_eq_true rfl | (rw [zaw]; omega) | (simp; done) | (simp; omega) | (rw [zaj]; omega)); rfl) | (apply zaR; rfl; rfl; rfl; rfl; exact zal rfl; rfl; rfl) | (apply zam; rfl; rfl; rfl; rfl; rfl; rfl; exact yes (zfq hK (hT.ext (by (focus repeat' first | exact Ext.refl _ | assumption | apply Ext.push | (refine Ext.trans ?_ (by assumption)))))) ⟨hs, hP⟩; (rintro _ _ ⟨rfl, _⟩)) | (apply zam; rfl; rfl; rfl; rfl; rfl; rfl; exact no (zdi hK (by omega)) hL; (rintro _ _ ⟨rfl, _⟩)) | (apply zam; rfl; rfl; rfl; rfl; rfl; rfl; exact zck hKn; (rintro _ _ ⟨rfl, _⟩)) | fail))
      exact ⟨.inr rfl, _, rfl, rfl⟩
  · (repeat' (first | apply zak | apply zac | (apply O_at; rfl) | (apply zaf; rfl) | apply zah | (apply za1; rfl) | apply zaD | apply za7 | apply zaq | (apply zbG; rfl; rfl; rfl) | ((first | apply zae | apply zad | apply zaM | apply zau); rfl; rfl; rfl; rfl) | ((first | apply zaV | apply zbn); rfl; rfl; rfl; rfl; rfl; rfl) | (apply zaI; rfl; rfl; rfl; rfl; exact zaU rfl; (focus repeat' first | exact zaa | assumption | apply zab | (apply Ext.get; assumption)); (first | exact Nat.le_of_ble_eq_true rfl | (rw [zaw]; omega) | (simp; done) | (simp; omega) | (rw [zaj]; omega)); rfl) | (apply zaR; rfl; rfl; rfl; rfl; exact zal rfl; rfl; rfl) | (apply zam; rfl; rfl; rfl; rfl; rfl; rfl; exact no (zfq hK (hT.ext (by (focus repeat' first | exact Ext.refl _ | assumption | apply Ext.push | (refine Ext.trans ?_ (by assumption)))))) hR; (rintro _ _ ⟨rfl, _⟩)) | (apply zam; rfl; rfl; rfl; rfl; rfl; rfl; exact zck hKn; (rintro _ _ ⟨rfl, _⟩)) | fail))
    exact ⟨.inr rfl, _, rfl, rfl⟩
end Go.AX.Sa
