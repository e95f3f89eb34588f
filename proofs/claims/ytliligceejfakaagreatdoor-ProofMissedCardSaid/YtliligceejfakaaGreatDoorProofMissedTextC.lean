/- The law ProofMissed at the reading: what the functions that it calls answer (3). -/
import Derived.Test.YtliligceejfakaaGreatDoorProofMissedTextB
import Derived.Test.YtliligceejfakaaGreatDoorAxX
namespace Go.AX.Sa
open Go.Proofs
set_option maxRecDepth 100000
variable {K : Known}
/-! The lines that all entries miss: the program. -/
theorem zeroL : zeroB Tryz.prog 30 = some (.slice none 0 0) := by kernel_rfl
/-- Lists, each in a row of its own. -/
def OwnR (h0 h : Heap) (rs : List Row) (f : Nat → List Int) : Prop := ∀ j, j < rs.length → OutI 3 h0 h (rowV (rs.getD j row0)) (f j) ∧ (rs.getD j row0).s = f j
theorem OwnR.ext {h0 h h1 : Heap} {rs : List Row} {f : Nat → List Int} (o : OwnR h0 h rs f) (x : Ext h h1) : OwnR h0 h1 rs f := fun j hj => ⟨(o j hj).1.ext x, (o j hj).2⟩
noncomputable def nowR (G : Pg) (k : Nat) (j : Nat) : List Int := if j < k then misL G j else []
theorem nowR_ne {G : Pg} {k j : Nat} (h : j ≠ k) : nowR G (k + 1) j = nowR G k j := by
  unfold nowR
  by_cases q : j < k
  · rw [if_pos q, if_pos (by omega)]
  · rw [if_neg q, if_neg (by omega)]
set_option maxHeartbeats 4000000 in
theorem zgE (hK : NoK K) {G : Pg} {h : Heap} (hT : PgAt G h) (hP : PgP G) :
    CallW Tryz.prog K 73 #[pgV G] h (fun v h1 => ∃ ba rs, v = .slice (some ⟨ba, 0, none⟩) G.c.length G.c.length ∧ rs.length = G.c.length ∧ h1.get? ba = some (.cells (rowCells rs) 30 true) ∧ OwnR h h1 rs (misL G) ∧ Ext h h1) := by
  have hT' := hT
  have hent := hP.ent
  have hc10 := hP.c
  have hnn := hP.n
  have hP' := hP
  obtain ⟨people, pl, kl, n, ll, pg, kc, c⟩ := G
  obtain ⟨len, rl, rc, each, hbl, hpb⟩ := hT
  dsimp only [pgV] at len rl rc each hbl hpb hent hc10 hnn ⊢
  refine bodyM (N := 43) Tryz.func73 rfl (hK _ _ _ rfl) rfl rfl ?_
  refine zbR (zdh ?_)
  (repeat' (first | apply zac | (apply O_at; rfl) | (apply zaf; rfl) | apply zaq | ((first | apply zae | apply zad | apply zaA); rfl; rfl; rfl; rfl) | (apply zaM; rfl; rfl; rfl; rfl; exact zai rfl; rfl; rfl) | fail))
  refine Or.inl ⟨rfl, ?_⟩
  refine zbR (zdh ?_)
  (repeat' (first | apply zac | (apply O_at; rfl) | (apply P_fa; rfl; rfl; rfl; rfl; exact zay rfl; (first | exact Nat.zero_add _ | exact Nat.add_zero _ | rfl)) | (apply zbm; rfl; rfl; rfl; rfl; rfl; rfl; exact zat rfl) | (apply zah; rfl; rfl; rfl; rfl; exact zap rfl; (focus repeat' first | exact zaa | assumption | apply zab | (apply Ext.get; assumption) | (apply ExtBut.get; assumption; (first | assumption | omega | (simp only [Heap.push]; omega)))); (first | rfl | assumption)) | fail))
  refine P_makeL rfl rfl rfl rfl rfl (zfU rfl) zeroL (by omega) (by omega) ?_
  rw [show ((c.length : Nat) : Int).toNat = c.length from Int.toNat_natCast _, show List.replicate c.length (Value.slice none 0 0) = rowCells (List.replicate c.length row0) from by simp [rowCells, rowV, row0]]
  (repeat' (first | (apply O_at; rfl) | (apply zaf; rfl) | apply zaq | (apply zaK; rfl; rfl; rfl; rfl; exact zai rfl; rfl; rfl; rfl) | (apply zbh; rfl; rfl; rfl; rfl; exact zai rfl; rfl; rfl) | fail))
  refine Or.inl ⟨rfl, ?_⟩
  refine zbR (zdh ?_)
  (repeat' (first | apply zac | (apply O_at; rfl) | (apply zaE; rfl; rfl; rfl; rfl; exact zaO rfl; (focus repeat' first | exact zaa | assumption | apply zab | (apply Ext.get; assumption) | (apply ExtBut.get; assumption; (first | assumption | omega | (simp only [Heap.push]; omega)))); (first | exact Nat.le_of_ble_eq_true rfl | (rw [zcA]; omega) | (rw [zaJ]; omega) | (simp; done) | (simp; omega)); (first | exact zaS (by omega) | rfl)) | fail))
  apply zan; rfl; rfl; rfl; rfl; rfl; rfl
  exact zlZ hK (G := ⟨people, pl, kl, n, ll, pg, kc, c⟩) (hT'.ext (by (focus repeat' first | exact Ext.refl _ | assumption | apply Ext.push | (refine Ext.trans ?_ (by assumption)) | (refine Ext.ofBut ?_ (by assumption) (by first | exact Nat.le_refl _ | omega))))) (by dsimp only; omega)
  rintro _ h1 ⟨s, bn, bs, r, rfl, S, hns, ⟨b1, b2, b3, b4⟩, x1⟩
  (repeat' (first | (apply O_at; rfl) | (apply zaf; rfl) | apply zaq | (apply zaK; rfl; rfl; rfl; rfl; exact zai rfl; rfl; rfl; rfl) | (apply zbh; rfl; rfl; rfl; rfl; exact zai rfl; rfl; rfl) | fail))
  refine Or.inl ⟨rfl, ?_⟩
  refine zbR (zdh ?_)
  (repeat' (first | apply zac | (apply O_at; rfl) | (apply zaf; rfl) | apply zaq | ((first | apply zae | apply zad | apply zaA); rfl; rfl; rfl; rfl) | (apply P_fa; rfl; rfl; rfl; rfl; exact zay rfl; (first | exact Nat.zero_add _ | exact Nat.add_zero _ | rfl)) | (apply zbm; rfl; rfl; rfl; rfl; rfl; rfl; exact zat rfl) | (apply zah; rfl; rfl; rfl; rfl; exact zap rfl; (focus repeat' first | exact zaa | assumption | apply zab | (apply Ext.get; assumption) | (apply ExtBut.get; assumption; (first | assumption | omega | (simp only [Heap.push]; omega)))); (first | rfl | assumption)) | fail))
  refine Or.inl ⟨rfl, ?_⟩
  have n1 : h.n + 3 ≤ h1.n := x1.n
  have x01 : Ext h h1 := (((Ext.refl h).push _).push _).push _ |>.trans x1
  have gp : h1.get? h.n = some (.cells [.int .i64 people, .slice pl n kl, .slice pg c.length kc] 25 true) := x1.get (zab (zab zaa))
  have ga : h1.get? (h.n + 1) = some (.cells (rowCells (List.replicate c.length row0)) 30 true) := x1.get (zab zaa)
  have g3 : h1.get? (h.n + 2) = some (.cells [.slice (some ⟨h.n + 1, 0, none⟩) c.length c.length] 98 true) := x1.get zaa
  have b1' : h.n + 3 ≤ s := b1
  have b2' : h.n + 3 ≤ bn := b2
  have b3' : h.n + 3 ≤ bs := b3
  have b4' : h.n + 3 ≤ r := b4
  obtain ⟨l1, l2, l3, l4⟩ : s < h1.n ∧ bn < h1.n ∧ bs < h1.n ∧ r < h1.n := by
    obtain ⟨f, ⟨w1, w2, w3, w4, _, _⟩, _⟩ := S
    exact ⟨Heap.get_lt w1, Heap.get_lt w2, Heap.get_lt w3, w4.lt⟩
  refine zbR (zf1 (KM_loop (fun a : Nat × List Row => [(17, .int .i64 (a.1 : Nat)), (16, .int .i64 (c.length : Nat)), (15, .slice pg c.length kc), (4, .pointer (some ⟨h1.n, 0, none⟩)), (3, .pointer (some ⟨h.n + 2, 0, none⟩)), (1, .pointer (some ⟨h.n, 0, none⟩))])
    (fun a h' M => a.1 ≤ c.length ∧ a.2.length = c.length ∧ StL ⟨people, pl, kl, n, ll, pg, kc, c⟩ ((logL ⟨people, pl, kl, n, ll, pg, kc, c⟩).take a.1) s bn bs r h' ∧ h1.n + 1 ≤ h'.n ∧
      (∀ b x, b ≠ bn → b ≠ bs → b ≠ r → b ≠ h.n + 1 → (h1.push (.cells [.pointer (some ⟨s, 0, none⟩)] 88 true)).get? b = some x → h'.get? b = some x) ∧ h'.get? (h.n + 1) = some (.cells (rowCells a.2) 30 true) ∧
      OwnR h1 h' a.2 (nowR ⟨people, pl, kl, n, ll, pg, kc, c⟩ a.1) ∧ M.Nodup ∧ (∀ r ∈ M, h'.get? r = some (.obj (.deferred (some [])))) ∧ (∀ r ∈ M, h1.n + 1 ≤ r)) (fun a => c.length - a.1) ?_ (0, List.replicate c.length row0) ?_ ?_))
  · rintro ⟨k, rs⟩ h' M ⟨hk, hrl, S, hn', old, gr, ho, hM1, hM2, hM3⟩ ih
    dsimp only at hk hrl S hn' old gr ho ih ⊢
    have hold : ∀ {q : Nat} {x : Blk}, h.get? q = some x → h'.get? q = some x := fun g => by
      have := Heap.get_lt g
      exact old _ _ (by omega) (by omega) (by omega) (by omega) (zab (x01.get g))
    have xh : Ext h h' := ⟨by omega, fun _ _ g => hold g⟩
    have gp' := old _ _ (by omega) (by omega) (by omega) (by omega) (zab gp)
    have g3' := old _ _ (by omega) (by omega) (by omega) (by omega) (zab g3)
    have g4' := old _ _ (by omega) (by omega) (by omega) (by omega) zaa
    by_cases hlt : k < c.length
    · obtain ⟨b, e, own, rfl, hg⟩ := rc.at (by rw [zaJ]; omega)
      have hcb := (each k hlt).b
      have hrow := each k hlt
      have hE := hent k hlt
      have hg' := hold hg
      refine zbR (zdh ?_)
      (repeat' (first | apply zac | (apply O_at; rfl) | (apply zaf; rfl) | apply zaq | (apply zbo; rfl; rfl; rfl; rfl; rfl; omega) | fail))
      refine Or.inl ⟨rfl, ?_⟩
      refine zbR (zdh ?_)
      (repeat' (first | (apply zaX; rfl) | apply zav | apply zaq | fail))
      refine Or.inl ⟨rfl, ?_⟩
      refine zbR (zmi (Q := fun e E1 h2 M1 => e = .normal ∧ ∃ rs', E1.get 17 = some (.int .i64 (k : Nat)) ∧ E1.get 16 = some (.int .i64 (c.length : Nat)) ∧ E1.get 15 = some (.slice (some ⟨b, 0, none⟩) c.length kc) ∧ E1.get 4 = some (.pointer (some ⟨h1.n, 0, none⟩)) ∧ E1.get 3 = some (.pointer (some ⟨h.n + 2, 0, none⟩)) ∧ E1.get 1 = some (.pointer (some ⟨h.n, 0, none⟩)) ∧
        (k + 1 ≤ c.length ∧ rs'.length = c.length ∧ StL ⟨people, pl, kl, n, ll, some ⟨b, 0, none⟩, kc, c⟩ ((logL ⟨people, pl, kl, n, ll, some ⟨b, 0, none⟩, kc, c⟩).take (k + 1)) s bn bs r h2 ∧ h1.n + 1 ≤ h2.n ∧
      (∀ b' x, b' ≠ bn → b' ≠ bs → b' ≠ r → b' ≠ h.n + 1 → (h1.push (.cells [.pointer (some ⟨s, 0, none⟩)] 88 true)).get? b' = some x → h2.get? b' = some x) ∧ h2.get? (h.n + 1) = some (.cells (rowCells rs') 30 true) ∧
      OwnR h1 h2 rs' (nowR ⟨people, pl, kl, n, ll, some ⟨b, 0, none⟩, kc, c⟩ (k + 1)) ∧ M1.Nodup ∧ (∀ r ∈ M1, h2.get? r = some (.obj (.deferred (some [])))) ∧ (∀ r ∈ M1, h1.n + 1 ≤ r))) (zf1 ?_) ?_)
      · refine zbR (zdh ?_)
        (repeat' (first | apply zac | (apply O_at; rfl) | (apply zaf; rfl) | apply zaq | ((first | apply zae | apply zad | apply zaA); rfl; rfl; rfl; rfl) | (apply zcw; rfl; rfl; rfl; rfl; rfl; exact zat rfl; exact zai rfl; (first | assumption | rfl | exact (Int.toNat_of_nonneg (by omega)).symm); omega) | (apply zaE; rfl; rfl; rfl; rfl; exact zaO rfl; (focus repeat' first | exact zaa | assumption | apply zab | (apply Ext.get; assumption) | (apply ExtBut.get; assumption; (first | assumption | omega | (simp only [Heap.push]; omega)))); (first | exact Nat.le_of_ble_eq_true rfl | (rw [zcA]; omega) | (rw [zaJ]; omega) | (simp; done) | (simp; omega)); (first | exact zaS (by omega) | rfl)) | (apply zbh; rfl; rfl; rfl; rfl; exact zai rfl; rfl; rfl) | (apply zdT; rfl; rfl; rfl; rfl; (focus repeat' first | exact zaa | assumption | apply zab | (apply Ext.get; assumption) | (apply ExtBut.get; assumption; (first | assumption | omega | (simp only [Heap.push]; omega)))); exact zai rfl; rfl; (first | rfl | exact zaj _); rfl; (intro _ _ _)) | fail))
        rename_i h2 ga5 y2 h3 ge6 y3
        have z3 : Ext h' h3 := Ext.ofBut (Ext.ofBut (((Ext.refl h').push _).push _) y2 (Nat.le_refl _)) y3 (Nat.le_succ _)
        have ga3 := y3.get (by simp only [Heap.push]; omega) ga5
        have hn3 : h'.n + 2 ≤ h3.n := Nat.le_trans y2.n y3.n
        refine Or.inl ⟨rfl, ?_⟩
        refine zbR (zbR (zdh ?_))
        (repeat' (first | apply zac | (apply O_at; rfl) | (apply zaE; rfl; rfl; rfl; rfl; exact zaO rfl; (focus repeat' first | exact zaa | assumption | apply zab | (apply Ext.get; assumption) | (apply ExtBut.get; assumption; (first | assumption | omega | (simp only [Heap.push]; omega)))); (first | exact Nat.le_of_ble_eq_true rfl | (rw [zcA]; omega) | (rw [zaJ]; omega) | (simp; done) | (simp; omega)); (first | exact zaS (by omega) | rfl)) | fail))
        apply zan; rfl; rfl; rfl; rfl; rfl; rfl
        exact zfv (c := c.getD k cop0) hK (hrow.ext (xh.trans z3)) hE
        rintro _ h5 ⟨x5, bz, rfl, hbz, gz⟩
        (repeat' (first | (apply zaf; rfl) | apply zaq | fail))
        refine Or.inl ⟨rfl, ?_⟩
        have n5 := x5.n
        have ga35 := x5.get ga3
        have gp5 := x5.get (z3.get gp')
        have g35 := x5.get (z3.get g3')
        have g45 := x5.get (z3.get g4')
        have gr5 := x5.get (z3.get gr)
        have ge5 := x5.get ge6
        refine zmi (Q := fun e E1 h6 M1 => e = .normal ∧ ∃ rs', E1.get 17 = some (.int .i64 (k : Nat)) ∧ E1.get 16 = some (.int .i64 (c.length : Nat)) ∧ E1.get 15 = some (.slice (some ⟨b, 0, none⟩) c.length kc) ∧ E1.get 4 = some (.pointer (some ⟨h1.n, 0, none⟩)) ∧ E1.get 3 = some (.pointer (some ⟨h.n + 2, 0, none⟩)) ∧ E1.get 1 = some (.pointer (some ⟨h.n, 0, none⟩)) ∧ E1.get 6 = some (.pointer (some ⟨h'.n + 1, 0, none⟩)) ∧
          rs'.length = c.length ∧ ExtBut (h.n + 1) h5 h6 ∧ h6.get? (h.n + 1) = some (.cells (rowCells rs') 30 true) ∧ OwnR h1 h6 rs' (nowR ⟨people, pl, kl, n, ll, some ⟨b, 0, none⟩, kc, c⟩ (k + 1)) ∧ M1 = h5.n :: M ∧ h6.get? h5.n = some (.obj (.deferred (some [])))) (zf1 (KM_range (g0 := 134) (fi := #[]) (ca := #[.pointer (some ⟨bz, 0, none⟩)]) rfl rfl rfl ?_)) ?_
        · intro tm l hb rr hEO hr hl hxb hbn hlb hdb
          have bzl : bz < h5.n := Heap.get_lt gz
          have hlo : 0 ≤ rlo (ent (c.getD k cop0)) ∧ rhi (ent (c.getD k cop0)) ≤ (n : Int) - 1 ∧ rlo (ent (c.getD k cop0)) ≤ rhi (ent (c.getD k cop0)) + 1 := by
            unfold rlo rhi
            by_cases h1k : (ent (c.getD k cop0)).1 = 1
            · have hE' := hE
              have z := ent1.1 (show EntP people n (1, (c.getD k cop0).r.s) from by rw [← h1k]; exact hE)
              rw [if_pos h1k, if_pos h1k]
              simp only [ent]
              unfold LinP at z
              omega
            · rw [if_neg h1k, if_neg h1k]; omega
          refine (zhK hK (e := 140) (own := true) (bs := bz) (l := l) (p := (rlo (ent (c.getD k cop0)), rhi (ent (c.getD k cop0)))) ⟨by dsimp only; omega, by dsimp only; omega, by dsimp only; omega⟩
            (fun i h8 => h8.get? l = some (.obj (.loop rr)) ∧ (∀ b' x, b' ≠ l → b' ≠ h.n + 1 → hb.get? b' = some x → h8.get? b' = some x) ∧ hb.n ≤ h8.n ∧ ∃ rw : Row, h8.get? (h.n + 1) = some (.cells (rowCells (rs.set k rw)) 30 true) ∧ OutI 3 hb h8 (rowV rw) (filL (MsP ⟨people, pl, kl, n, ll, some ⟨b, 0, none⟩, kc, c⟩ k) (rlo (ent (c.getD k cop0)) + (i : Nat)).toNat) ∧ rw.s = filL (MsP ⟨people, pl, kl, n, ll, some ⟨b, 0, none⟩, kc, c⟩ k) (rlo (ent (c.getD k cop0)) + (i : Nat)).toNat)
            (fun _ => False) ?_ ?_ ?_).mono ?_
          · rintro i h8 ⟨_, kk, _, _⟩
            exact kk bz _ (by omega) (by omega) (hxb.get gz)
          · have h0 := ho k (by omega)
            rw [show nowR ⟨people, pl, kl, n, ll, some ⟨b, 0, none⟩, kc, c⟩ k k = [] from if_neg (Nat.lt_irrefl k)] at h0
            refine ⟨hlb, fun b' x _ _ g => g, Nat.le_refl _, rs.getD k row0, by rw [set_getD]; exact hxb.get gr5, ?_⟩
            rw [show (rlo (ent (c.getD k cop0)) + ((0 : Nat) : Int)).toNat = (rlo (ent (c.getD k cop0))).toNat by omega, mis_none (G := ⟨people, pl, kl, n, ll, some ⟨b, 0, none⟩, kc, c⟩)]
            refine ⟨.inl ⟨rfl, ?_⟩, h0.2⟩
            rcases h0.1 with q | q
            · exact q.2
            · exact absurd rfl q.1
          · rintro i h8 hle ⟨gl, kk, nn, rw, gr8, o8, es8⟩
            refine zkM (N := 43) gl hr rfl (EnvOK.param hEO rfl) ?_
            (repeat' (first | apply zac | (apply O_at; rfl) | (apply zaf; rfl) | apply zaq | ((first | apply zae | apply zad | apply zaA); rfl; rfl; rfl; rfl) | fail))
            refine ⟨rfl, gl, fun Bz hs hsl hsk hsn => ?_⟩
            have old5 : ∀ {b' : Nat} {x : Blk}, b' ≠ l → b' ≠ h.n + 1 → h5.get? b' = some x → hs.get? b' = some x := fun q q2 g => hsk _ _ q (kk _ _ q q2 (hxb.get g))
            have gps := old5 (by omega) (by omega) gp5
            have gas := old5 (by omega) (by omega) ga35
            have g3s := old5 (by omega) (by omega) g35
            have g4s := old5 (by omega) (by omega) g45
            have grs := hsk _ _ (by omega) gr8
            have xs : ExtBut (h.n + 1) h' hs := ⟨by rw [hsn]; omega, fun q y q1 g => old5 (by have := Heap.get_lt g; omega) q1 (x5.get (z3.get g))⟩
            have xhs : Ext h hs := ⟨by have := xs.n; omega, fun q y g => xs.get (by have := Heap.get_lt g; omega) (xh.get g)⟩
            (repeat' (first | apply zal | apply zac | (apply O_at; rfl) | apply zar | ((first | apply zae | apply zad | apply zaA); rfl; rfl; rfl; rfl) | (apply zah; rfl; rfl; rfl; rfl; exact zap rfl; (focus repeat' first | exact zaa | assumption | apply zab | (apply Ext.get; assumption) | (apply ExtBut.get; assumption; (first | assumption | omega | (simp only [Heap.push]; omega)))); (first | rfl | assumption)) | fail))
            obtain ⟨j, hj⟩ : ∃ j : Nat, rlo (ent (c.getD k cop0)) + (i : Nat) = (j : Nat) := ⟨(rlo (ent (c.getD k cop0)) + (i : Nat)).toNat, by omega⟩
            dsimp only at hle ⊢
            rw [hj] at o8 es8 hle
            rw [Int.toNat_natCast] at o8 es8
            have hjn : j < n := by omega
            apply zan; rfl; rfl; rfl; rfl; rfl; rfl
            exact zjX (G := ⟨people, pl, kl, n, ll, some ⟨b, 0, none⟩, kc, c⟩) hK (S.keepB xs (by omega) (by omega) (by omega) (by omega)) (hT'.ext xhs) hjn (by dsimp only; omega) hj
            rintro _ h9 (⟨rfl, w, x9⟩ | ⟨rfl, w, x9⟩)
            · (repeat' (first | (apply N_at; rfl) | (apply zaf; rfl) | apply zak | (apply zaX; rfl) | (apply za7; exact zau (by decide +kernel)) | (apply zcf; rfl; rfl; rfl; rfl; rfl; exact zat rfl; exact zai rfl; (first | assumption | rfl | exact (Int.toNat_of_nonneg (by omega)).symm); omega) | (((first | (apply zbb; rfl; rfl; rfl; rfl; exact zap rfl; exact zax (by decide +kernel)) | (apply M_load1H; rfl; rfl; rfl; rfl; exact zap rfl; exact zfd (by decide +kernel))); (focus repeat' first | exact zaa | assumption | apply zab | (apply Ext.get; assumption) | (apply ExtBut.get; assumption; (first | assumption | omega | (simp only [Heap.push]; omega)))); (first | rfl | assumption)); (first | assumption | exact zaH _ _ | exact za1 _ _ _ | rfl | (focus simp [same, same.all2]; done)); (first | rfl | assumption | exact hwv _ | (focus apply za0; (focus repeat' first | exact zaa | assumption | apply zab | (apply Ext.get; assumption) | (apply ExtBut.get; assumption; (first | assumption | omega | (simp only [Heap.push]; omega)))); done) | (simp [within]; omega))) | fail))
              have o9 := (o8.keepl hsk (by omega)).ext x9
              refine zbb rfl rfl rfl rfl (zap rfl) (zax (by decide +kernel)) (x9.get grs) (rows_set (by omega)) ?_ (zhA o9) ?_
              · exact za1 _ _ _
              (repeat' (first | (apply N_at; rfl) | ((first | apply zae | apply zad | apply zaA); rfl; rfl; rfl; rfl) | (apply zfY; rfl; rfl; rfl; rfl; rfl; rfl; rfl; exact zfU rfl) | fail))
              refine M_appIK rfl rfl rfl rfl rfl rfl rfl rfl (zfU rfl) (zat rfl) zaa (o9.ext ((Ext.refl _).push _)) (by have := x9.n; simp only [Heap.push]; omega) (by have := zfL (MsP ⟨people, pl, kl, n, ll, some ⟨b, 0, none⟩, kc, c⟩ k) j; omega) rfl ?_
              intro v7 h10 o10 k10
              rw [hj] at o10
              have gr10 := k10.lo (by omega) (zab (x9.get grs))
              obtain ⟨rw', hrw', hs'⟩ : ∃ rw' : Row, v7 = rowV rw' ∧ rw'.s = filL (MsP ⟨people, pl, kl, n, ll, some ⟨b, 0, none⟩, kc, c⟩ k) j ++ [((j : Nat) : Int)] := by
                rcases o10 with ⟨q, _⟩ | ⟨_, b7, rfl, _⟩
                · simp at q
                · exact ⟨⟨some ⟨b7, 0, none⟩, unk, _⟩, rfl, rfl⟩
              subst hrw'
              have g39 := x9.get g3s
              have ga9 := x9.get gas
              have g310 := k10.lo (by omega) (zab g39)
              have ga10 := k10.lo (by omega) (zab ga9)
              (repeat' (first | (apply N_at; rfl) | (apply zcf; rfl; rfl; rfl; rfl; rfl; exact zat rfl; exact zai rfl; (first | assumption | rfl | exact (Int.toNat_of_nonneg (by omega)).symm); omega) | fail))
              refine zfX rfl rfl rfl rfl gr10 (zai rfl) rfl (by rw [zcA, List.length_set]; omega) rfl (rows_put (r := rw') (by rw [List.length_set]; omega) rfl rfl) rfl ?_
              intro h11 g11 x11
              (repeat' (first | (apply zbr; rfl; refine .inr ?_; (focus repeat' first | exact trivial | exact Keeps.nil _ _ | apply And.intro | rfl | (apply Keeps.cons; iterate 2 (focus repeat' first | exact zaa | assumption | apply zab | (apply Ext.get; assumption) | (apply ExtBut.get; assumption; (first | assumption | omega | (simp only [Heap.push]; omega))))))) | apply zaC | apply zaq | fail))
              have n11 := x11.n
              have n10 : h9.n + 1 ≤ h10.n := k10.n
              have n9 := x9.n
              refine ⟨x11.get (by omega) (k10.lo (by omega) (zab (x9.get hsl))), none, rfl, fun hf hfl hfk hfn => Or.inl ⟨rfl, by rw [zek hr] at hfl; exact hfl, fun b' x q q2 g => hfk b' x q (x11.get q2 (k10.lo (Heap.get_lt g) (zab (x9.get (hsk b' x q (kk b' x q q2 g)))))), by omega, rw', hfk _ _ (by omega) (by simpa using g11), ?_⟩⟩
              rw [show (rlo (ent (c.getD k cop0)) + ((i + 1 : Nat) : Int)).toNat = j + 1 by omega, zc7, if_pos ((mis_is (G := ⟨people, pl, kl, n, ll, some ⟨b, 0, none⟩, kc, c⟩) (by dsimp only; omega) (by dsimp only; omega)).2 w)]
              exact ⟨(o10.but x11 (by omega)).keepl hfk (by omega), hs'⟩
            · (repeat' (first | (apply zaf; rfl) | apply zak | (apply zaF; rfl) | apply zav | apply zaC | apply zaq | fail))
              refine ⟨x9.get hsl, none, rfl, fun hf hfl hfk hfn => Or.inl ⟨rfl, by rw [zek hr] at hfl; exact hfl, fun b' x q q2 g => hfk b' x q (x9.get (hsk b' x q (kk b' x q q2 g))), by have := x9.n; omega, rw, hfk _ _ (by omega) (x9.get grs), ?_⟩⟩
              rw [show (rlo (ent (c.getD k cop0)) + ((i + 1 : Nat) : Int)).toNat = j + 1 by omega, zc7, if_neg (fun q => w ((mis_is (G := ⟨people, pl, kl, n, ll, some ⟨b, 0, none⟩, kc, c⟩) (by dsimp only; omega) (by dsimp only; omega)).1 q)), List.append_nil]
              exact ⟨((o8.keepl hsk (by omega)).ext x9).keepl hfk (by omega), es8⟩
          · rintro _ h6 (⟨gl, kk, nn, rw, gr8, o8, es8⟩ | q)
            · refine ⟨none, by rw [zek hr]; exact gl, fun h7 k7 n7 => KM_skip (Or.inr ⟨(by intro q; cases q), rfl, rs.set k rw, rfl, rfl, rfl, rfl, rfl, rfl, rfl, by simpa using hrl, ⟨by rw [n7]; exact Nat.le_trans hxb.n nn, fun q y q1 g => k7 q y (by have := Heap.get_lt g; omega) (kk q y (by have := Heap.get_lt g; omega) q1 (hxb.get g))⟩, k7 _ _ (by omega) gr8, ?_, rfl, k7 _ _ (by omega) (kk _ _ (by omega) (by omega) hdb)⟩)⟩
              intro j hj
              rw [List.length_set] at hj
              by_cases hjk : j = k
              · subst hjk
                rw [zfI hj, show nowR ⟨people, pl, kl, n, ll, some ⟨b, 0, none⟩, kc, c⟩ (j + 1) j = misL ⟨people, pl, kl, n, ll, some ⟨b, 0, none⟩, kc, c⟩ j from if_pos (Nat.lt_succ_self j), ← mis_all (by dsimp only; omega)]
                have e1 : (rlo (ent (c.getD j cop0)) + ((((rlo (ent (c.getD j cop0)), rhi (ent (c.getD j cop0))) : Int × Int).2 - ((rlo (ent (c.getD j cop0)), rhi (ent (c.getD j cop0))) : Int × Int).1 + 1).toNat : Int)).toNat = (rhi (ent (c.getD j cop0)) + 1).toNat := by dsimp only; omega
                rw [e1] at o8 es8
                exact ⟨(o8.keepl k7 (by omega)).low (by omega), es8⟩
              · rw [zhX hjk, show nowR ⟨people, pl, kl, n, ll, some ⟨b, 0, none⟩, kc, c⟩ (k + 1) j = nowR ⟨people, pl, kl, n, ll, some ⟨b, 0, none⟩, kc, c⟩ k j from nowR_ne hjk]
                have w7 : ExtBut (h.n + 1) h' h7 := ⟨by rw [n7]; have := hxb.n; omega, fun q y q1 g => k7 q y (by have := Heap.get_lt g; omega) (kk q y (by have := Heap.get_lt g; omega) q1 (hxb.get (x5.get (z3.get g))))⟩
                exact ⟨(ho j hj).1.but w7 (by omega), (ho j hj).2⟩
            · exact q.elim
        · rintro ex E1 h6 M1 ⟨rfl, rs', g17, g16, g15, g4, g3, g1, g6, hrl', x6, gr6, o6, rfl, gm⟩
          have n6 := x6.n
          have x06 : ExtBut (h.n + 1) h' h6 := ⟨by omega, fun q y q1 g => x6.get q1 (x5.get (z3.get g))⟩
          have ge6' := x6.get (by simp only [Heap.push]; omega) ge5
          have g46 := x6.get (by omega) g45
          have xh6 : Ext h h6 := ⟨by omega, fun q y g => x06.get (by have := Heap.get_lt g; omega) (xh.get g)⟩
          refine Or.inl ⟨rfl, zf0 (E' := [(17, .int .i64 (k : Nat)), (16, .int .i64 (c.length : Nat)), (15, .slice (some ⟨b, 0, none⟩) c.length kc), (4, .pointer (some ⟨h1.n, 0, none⟩)), (3, .pointer (some ⟨h.n + 2, 0, none⟩)), (1, .pointer (some ⟨h.n, 0, none⟩)), (6, .pointer (some ⟨h'.n + 1, 0, none⟩))]) (zdh ?_) ⟨g17, g16, g15, g4, g3, g1, g6, trivial⟩⟩
          (repeat' (first | apply zac | (apply O_at; rfl) | (apply zah; rfl; rfl; rfl; rfl; exact zap rfl; (focus repeat' first | exact zaa | assumption | apply zab | (apply Ext.get; assumption) | (apply ExtBut.get; assumption; (first | assumption | omega | (simp only [Heap.push]; omega)))); (first | rfl | assumption)) | (apply zaE; rfl; rfl; rfl; rfl; exact zaO rfl; (focus repeat' first | exact zaa | assumption | apply zab | (apply Ext.get; assumption) | (apply ExtBut.get; assumption; (first | assumption | omega | (simp only [Heap.push]; omega)))); (first | exact Nat.le_of_ble_eq_true rfl | (rw [zcA]; omega) | (rw [zaJ]; omega) | (simp; done) | (simp; omega)); (first | exact zaS (by omega) | rfl)) | fail))
          apply zan; rfl; rfl; rfl; rfl; rfl; rfl
          exact enter_ok (G := ⟨people, pl, kl, n, ll, some ⟨b, 0, none⟩, kc, c⟩) (c := c.getD k cop0) hK (S.keepB x06 (by omega) (by omega) (by omega) (by omega)) hns hP'.people (by dsimp only; omega) (hrow.ext xh6) hE (fun j hj => zjK hP' (fun e he => ziP hP' e (List.mem_of_mem_take he)) hj)
          rintro _ h7 ⟨S7, k7⟩
          (repeat' (first | (apply zaf; rfl) | apply zaq | fail))
          have k6 := k7.n
          refine Or.inr ⟨(by intro q; cases q), rfl, rs', rfl, rfl, rfl, rfl, rfl, rfl, hlt, hrl', ?_, by omega, fun b' x q1 q2 q3 q4 g => k7.get _ _ q1 q2 q3 (x06.get q4 (old _ _ q1 q2 q3 q4 g)), k7.get _ _ (by omega) (by omega) (by omega) gr6, fun j hj => ⟨zjI (o6 j hj).1 k7 (by omega) (by omega) (by omega), (o6 j hj).2⟩, ?_, ?_, ?_⟩
          · rw [zji (by rw [ziQ]; exact hlt)]
            have ek : (logL ⟨people, pl, kl, n, ll, some ⟨b, 0, none⟩, kc, c⟩)[k]'(by rw [ziQ]; exact hlt) = ent (c.getD k cop0) := by simp [logL, hlt]
            rw [ek]
            exact S7
          · exact List.nodup_cons.2 ⟨fun q => by have := Heap.get_lt (hM2 _ q); omega, hM1⟩
          · intro r' q
            rcases List.mem_cons.1 q with rfl | q
            · exact k7.get _ _ (by omega) (by omega) (by omega) gm
            · have := hM3 r' q
              exact k7.get _ _ (by omega) (by omega) (by omega) (x06.get (by omega) (hM2 r' q))
          · intro r' q
            rcases List.mem_cons.1 q with rfl | q
            · omega
            · exact hM3 r' q
      · rintro _ E1 h2 M1 ⟨rfl, rs', g17, g16, g15, g4, g3, g1, hJ⟩
        refine Or.inl ⟨rfl, zf0 (E' := [(17, .int .i64 (k : Nat)), (16, .int .i64 (c.length : Nat)), (15, .slice (some ⟨b, 0, none⟩) c.length kc), (4, .pointer (some ⟨h1.n, 0, none⟩)), (3, .pointer (some ⟨h.n + 2, 0, none⟩)), (1, .pointer (some ⟨h.n, 0, none⟩))]) (zdh ?_) ⟨g17, g16, g15, g4, g3, g1, trivial⟩⟩
        (repeat' (first | apply zac | (apply O_at; rfl) | (apply zaf; rfl) | apply zaq | ((first | apply zae | apply zad | apply zaA); rfl; rfl; rfl; rfl) | (apply zbJ; rfl; rfl; rfl; rfl; rfl; (unfold fit; omega)) | fail))
        exact Or.inl ⟨rfl, zf0 (ih (k + 1, rs') _ _ (by dsimp only; omega) hJ) (by (focus repeat' first | rfl | exact trivial | apply And.intro))⟩
    · obtain rfl : k = c.length := by omega
      refine zbR (zdh ?_)
      (repeat' (first | apply zac | (apply O_at; rfl) | (apply zaf; rfl) | apply zaq | (apply zbp; rfl; rfl; rfl; rfl; rfl; omega) | fail))
      refine Or.inl ⟨rfl, ?_⟩
      refine zbR (zdh ?_)
      (repeat' (first | (apply zaF; rfl) | apply zbd | apply zaq | fail))
      refine Or.inr ⟨(by intro q; cases q), Or.inr ⟨(by intro q; cases q), Or.inl ⟨rfl, Or.inl ⟨rfl, zbR (zdh ?_)⟩⟩⟩⟩
      (repeat' (first | apply zac | (apply O_at; rfl) | (apply zaf; rfl) | apply zaq | ((first | apply zae | apply zad | apply zaA); rfl; rfl; rfl; rfl) | (apply zah; rfl; rfl; rfl; rfl; exact zap rfl; (focus repeat' first | exact zaa | assumption | apply zab | (apply Ext.get; assumption) | (apply ExtBut.get; assumption; (first | assumption | omega | (simp only [Heap.push]; omega)))); (first | rfl | assumption)) | fail))
      refine Or.inl ⟨rfl, ?_⟩
      refine zbR (zdh ?_)
      (repeat' (first | apply zaB | apply zaq | fail))
      have hlow : ∀ q, q < h1.n → q ∉ M := fun q u w => by have := hM3 q w; omega
      refine Or.inr ⟨(by intro q; cases q), .inr rfl, hM1, hM2, fun h2 k2 n2 => ⟨_, rfl, h.n + 1, rs, rfl, hrl, k2 _ _ (hlow _ (by omega)) gr, fun j hj => ?_, ⟨by rw [n2]; exact xh.n, fun q y g => k2 q y (hlow q (by have := Heap.get_lt g; omega)) (xh.get g)⟩⟩⟩
      have hoj := ho j hj
      rw [show nowR ⟨people, pl, kl, n, ll, pg, kc, c⟩ c.length j = misL ⟨people, pl, kl, n, ll, pg, kc, c⟩ j from if_pos (by omega)] at hoj
      refine ⟨?_, hoj.2⟩
      rcases hoj.1 with q | ⟨q1, b7, q2, q3, q4⟩
      · exact .inl q
      · exact .inr ⟨q1, b7, q2, k2 _ _ (fun w => by rw [hM2 _ w] at q3; cases q3) q3, by omega⟩
  · exact ⟨Nat.zero_le _, by simp, S.ext ((Ext.refl h1).push _), Nat.le_refl _, fun b x _ _ _ _ g => g, zab ga, fun j hj => by
      have e1 : (List.replicate c.length row0).getD j row0 = row0 := by simp [List.getD_eq_getElem?_getD, List.getElem?_replicate]; split <;> rfl
      rw [e1]
      exact ⟨.inl ⟨by simp [nowR], rfl⟩, by simp [nowR, row0]⟩, List.nodup_nil, fun r q => (by cases q), fun r q => (by cases q)⟩
  · (focus repeat' first | rfl | exact trivial | apply And.intro)
end Go.AX.Sa

namespace Go.AX.Sa
open Go.Proofs
set_option maxRecDepth 100000
variable {K : Known}
/-! All lines that readings miss. -/
def tag (i : Nat) (l : List Int) : List (Int × Int) := l.map fun j => ((i : Int), j)
theorem ziu (i : Nat) (l : List Int) (j : Int) : tag i (l ++ [j]) = tag i l ++ [((i : Int), j)] := by simp [tag]
noncomputable def missK (G : Pg) : Nat → List (Int × Int)
  | 0 => []
  | k + 1 => missK G k ++ tag k (misL G k)
theorem zdQ (G : Pg) (k : Nat) : (misL G k).length ≤ G.n := zfL _ _
theorem zgG (G : Pg) : ∀ k, (missK G k).length ≤ k * G.n
  | 0 => Nat.zero_le _
  | k + 1 => by
    have := zgG G k
    have := zdQ G k
    simp only [missK, List.length_append, tag, List.length_map]
    rw [Nat.succ_mul]
    omega
theorem zcb {G : Pg} (hP : PgP G) {k : Nat} (hk : k ≤ G.c.length) : (missK G k).length ≤ 60 := by
  have h1 := zgG G k
  have h2 := hP.n
  have h3 := hP.c
  have : k * G.n ≤ 10 * 6 := Nat.mul_le_mul (by omega) (by omega)
  omega
/-- A list of pairs as an answer. -/
def IsP (l : List (Int × Int)) (h : Heap) (v : Value) (h1 : Heap) : Prop := ∃ p cap, v = .slice p l.length cap ∧ Rd h1 p (spanCells l) ∧ Ext h h1
theorem zfA {e : TypeId} {h0 h : Heap} {v : Value} {l : List (Int × Int)} (o : OutS e h0 h v l) (x : Ext h0 h) : IsP l h0 v h := by
  rcases o with ⟨rfl, rfl⟩ | ⟨hl, b, h1, h2, h3⟩
  · exact ⟨none, 0, rfl, .inl rfl, x⟩
  · exact ⟨some ⟨b, 0, none⟩, unk, h1, .inr ⟨b, e, true, rfl, h2⟩, x⟩
theorem outI_rd {e : TypeId} {h0 h : Heap} {r : Row} {l : List Int} (o : OutI e h0 h (rowV r) l) (hs : r.s = l) : Rd h r.q (ints l) := by
  subst hs
  rcases o with ⟨h1, h2⟩ | ⟨hl, b, h1, h2, h3⟩
  · exact .inl (by rw [h1]; rfl)
  · simp only [rowV, Value.slice.injEq] at h1
    exact .inr ⟨b, e, true, h1.1, h2⟩
def IsPE (l : List (Int × Int)) (h : Heap) (v : Value) (h1 : Heap) : Prop := ∃ p cap, v = .tuple #[.slice p l.length cap, .int .i64 0] ∧ Rd h1 p (spanCells l) ∧ Ext h h1
theorem ze4 (hK : NoK K) {G : Pg} {h : Heap} (hT : PgAt G h) (hs : ShortP G) (hP : PgP G) :
    CallW Tryz.prog K 37 #[pgV G] h (IsPE (missK G G.c.length) h) := by
  refine body (N := 35) Tryz.func37 rfl (hK _ _ _ rfl) rfl rfl ?_
  have hc := hP.c
  have hn := hP.n
  (repeat' (first | apply zal | apply zac | (apply O_at; rfl) | (apply zaf; rfl) | apply zak | (apply zaF; rfl) | apply zav | ((first | apply zae | apply zad | apply zbj); rfl; rfl; rfl; rfl) | (apply zaE; rfl; rfl; rfl; rfl; exact zaO rfl; (focus repeat' first | exact zaa | assumption | (apply Ext.get; assumption)); (first | exact Nat.le_of_ble_eq_true rfl | (simp; done) | (simp; omega) | (rw [zaj]; omega)); rfl) | (apply zaM; rfl; rfl; rfl; rfl; exact zai rfl; rfl; rfl) | (apply zan; rfl; rfl; rfl; rfl; rfl; rfl; exact yes (zc4 hK (hT.ext (by (focus repeat' first | exact Ext.refl _ | assumption | apply Ext.push | (refine Ext.trans ?_ (by assumption))))) hs) hP; (rintro _ _ ⟨rfl, _⟩)) | fail))
  rename_i h1 x1
  apply zan; rfl; rfl; rfl; rfl; rfl; rfl
  exact zgE hK (hT.ext (by (focus repeat' first | exact Ext.refl _ | assumption | apply Ext.push | (refine Ext.trans ?_ (by assumption))))) hP
  rintro _ h2 ⟨ba, rs, rfl, hrl, gr, ho, x2⟩
  have xh : Ext h h2 := by (focus repeat' first | exact Ext.refl _ | assumption | apply Ext.push | (refine Ext.trans ?_ (by assumption)))
  (repeat' (first | (apply O_at; rfl) | (apply zaf; rfl) | apply zak | apply zar | ((first | apply zae | apply zad | apply zbj); rfl; rfl; rfl; rfl) | (apply zbm; rfl; rfl; rfl; rfl; rfl; rfl; exact zat rfl) | fail))
  refine za9 (fun a : Nat × Value => [(15, .int .i64 (a.1 : Nat)), (14, .int .i64 (G.c.length : Nat)), (13, .slice (some ⟨ba, 0, none⟩) G.c.length G.c.length), (4, a.2)])
    (fun a h' => a.1 ≤ G.c.length ∧ Ext h2 h' ∧ OutS 57 h2 h' a.2 (missK G a.1)) (fun a => G.c.length - a.1) ?_ (0, .slice none 0 0) ?_ ?_
  · rintro ⟨k, v⟩ h' ⟨hk, hx, hv⟩ ih
    dsimp only at hk hx hv ih ⊢
    by_cases hlt : k < G.c.length
    · have hm := zdQ G k
      have hr := outI_rd (ho k (by omega)).1 (ho k (by omega)).2
      have hs' := (ho k (by omega)).2
      have gr' := hx.get gr
      have hrx := hr.ext hx
      have hmk := zcb hP (Nat.le_of_lt hlt)
      (repeat' (first | apply zal | apply zac | (apply O_at; rfl) | (apply zaf; rfl) | apply zak | (apply zaX; rfl) | apply zar | apply zav | ((first | apply zae | apply zad | apply zbj); rfl; rfl; rfl; rfl) | (apply zbm; rfl; rfl; rfl; rfl; rfl; rfl; exact zat rfl) | (apply zbo; rfl; rfl; rfl; rfl; rfl; omega) | (apply zbW; rfl; rfl; rfl; rfl; rfl; exact zat rfl; exact zai rfl; (first | assumption | rfl | exact (Int.toNat_of_nonneg (by omega)).symm); omega) | (apply zah; rfl; rfl; rfl; rfl; exact zap rfl; (focus repeat' first | exact zaa | assumption | (apply Ext.get; assumption)); (first | exact zag (by omega) | exact zcZ (by omega) | rfl | assumption)) | fail))
      rw [hs']
      refine za9 (fun a : Nat × Value => [(22, .int .i64 (a.1 : Nat)), (21, .int .i64 ((misL G k).length : Nat)), (20, .slice (rs.getD k row0).q (misL G k).length (rs.getD k row0).k), (5, .int .i64 (k : Nat)), (4, a.2), (15, .int .i64 (k : Nat)), (14, .int .i64 (G.c.length : Nat)), (13, .slice (some ⟨ba, 0, none⟩) G.c.length G.c.length)])
        (fun a h3 => a.1 ≤ (misL G k).length ∧ Ext h2 h3 ∧ OutS 57 h2 h3 a.2 (missK G k ++ tag k ((misL G k).take a.1))) (fun a => (misL G k).length - a.1) ?_ (0, v) ?_ ?_
      · rintro ⟨i, u⟩ h3 ⟨hi, hx3, hu⟩ ih3
        dsimp only at hi hx3 hu ih3 ⊢
        by_cases hil : i < (misL G k).length
        · obtain ⟨b, e, own, hq, hg⟩ := hr.at (by rw [zaj]; omega)
          rw [hq] at ih3 ⊢
          have hg3 := hx3.get hg
          have hln : (missK G k ++ tag k ((misL G k).take i)).length ≤ 10000 := by simp [tag]; omega
          (repeat' (first | apply zal | apply zac | (apply O_at; rfl) | (apply zaf; rfl) | apply zak | (apply zaX; rfl) | apply zar | apply zav | apply zaC | ((first | apply zae | apply zad | apply zbj); rfl; rfl; rfl; rfl) | (apply zbo; rfl; rfl; rfl; rfl; rfl; omega) | (apply zbJ; rfl; rfl; rfl; rfl; rfl; (unfold fit; omega)) | (apply zbW; rfl; rfl; rfl; rfl; rfl; exact zat rfl; exact zai rfl; (first | assumption | rfl | exact (Int.toNat_of_nonneg (by omega)).symm); omega) | (apply zah; rfl; rfl; rfl; rfl; exact zap rfl; (focus repeat' first | exact zaa | assumption | (apply Ext.get; assumption)); (first | exact zag (by omega) | exact zcZ (by omega) | rfl | assumption)) | (apply zfg; rfl; rfl; rfl; rfl) | (apply zeE; rfl; rfl; rfl; rfl; rfl; exact zj4 rfl) | (apply zl7; rfl; rfl; rfl; rfl; rfl; rfl; rfl; rfl; exact zj4 rfl; exact zat rfl; (focus repeat' first | exact zaa | assumption | (apply Ext.get; assumption)); (apply OutS.ext; assumption; (focus repeat' first | exact Ext.refl _ | assumption | apply Ext.push | (refine Ext.trans ?_ (by assumption)))); (focus repeat' first | exact Ext.refl _ | assumption | apply Ext.push | (refine Ext.trans ?_ (by assumption))); (first | omega | (simp; omega)); (intro _ _ _ _)) | fail))
          rename_i v4 h4 o4 x4
          refine zaN (ih3 (i + 1, v4) _ (by dsimp only; omega) ⟨hil, x4, ?_⟩) (by (focus repeat' first | rfl | exact trivial | apply And.intro))
          have e1 : (misL G k).take (i + 1) = (misL G k).take i ++ [(misL G k).getD i 0] := by rw [List.take_add_one, List.getElem?_eq_getElem hil]; simp [List.getD_eq_getElem?_getD, hil]
          rw [e1, ziu, ← List.append_assoc]
          exact o4
        · obtain rfl : i = (misL G k).length := by omega
          (repeat' (first | apply zal | apply zac | (apply O_at; rfl) | (apply zaf; rfl) | apply zak | (apply zaF; rfl) | apply zbd | apply zbe | apply zaV | apply zaW | apply zaC | ((first | apply zae | apply zad | apply zbj); rfl; rfl; rfl; rfl) | (apply zbp; rfl; rfl; rfl; rfl; rfl; omega) | (apply zbJ; rfl; rfl; rfl; rfl; rfl; (unfold fit; omega)) | fail))
          refine zaN (ih (k + 1, u) _ (by dsimp only; omega) ⟨hlt, by (focus repeat' first | exact Ext.refl _ | assumption | apply Ext.push | (refine Ext.trans ?_ (by assumption))), ?_⟩) (by (focus repeat' first | rfl | exact trivial | apply And.intro))
          rw [List.take_length] at hu
          exact hu
      · exact ⟨Nat.zero_le _, hx, by simpa [tag] using hv⟩
      · (focus repeat' first | rfl | exact trivial | apply And.intro)
    · obtain rfl : k = G.c.length := by omega
      (repeat' (first | apply zal | apply zac | (apply O_at; rfl) | (apply zaf; rfl) | apply zak | (apply zaF; rfl) | apply zbd | apply zaB | apply zbe | apply zaV | apply zaW | apply zaq | ((first | apply zae | apply zad | apply zbj); rfl; rfl; rfl; rfl) | (apply zbp; rfl; rfl; rfl; rfl; rfl; omega) | fail))
      obtain ⟨p, cp, rfl, r5, x5⟩ := zfA hv hx
      exact ⟨.inr rfl, _, rfl, p, cp, rfl, r5, by (focus repeat' first | exact Ext.refl _ | assumption | apply Ext.push | (refine Ext.trans ?_ (by assumption)))⟩
  · exact ⟨Nat.zero_le _, Ext.refl _, .inl ⟨rfl, rfl⟩⟩
  · (focus repeat' first | rfl | exact trivial | apply And.intro)
theorem zlk (hK : NoK K) {G : Pg} {h : Heap} (hT : PgAt G h) (hs : ShortP G) (hP : ¬ PgP G) : CallW Tryz.prog K 37 #[pgV G] h (IsV errL h) := by
  refine body (N := 35) Tryz.func37 rfl (hK _ _ _ rfl) rfl rfl ?_
  (repeat' (first | apply zal | apply zac | (apply O_at; rfl) | (apply zaf; rfl) | apply zak | (apply zaX; rfl) | apply zaB | apply za8 | apply zaq | ((first | apply zad | apply zbj); rfl; rfl; rfl; rfl) | (apply zaE; rfl; rfl; rfl; rfl; exact zaO rfl; (focus repeat' first | exact zaa | assumption); (first | exact Nat.le_of_ble_eq_true rfl | (simp; done) | (simp; omega)); rfl) | (apply zaM; rfl; rfl; rfl; rfl; exact zai rfl; rfl; rfl) | (apply zan; rfl; rfl; rfl; rfl; rfl; rfl; exact no (zc4 hK (hT.ext (by (focus repeat' first | exact Ext.refl _ | assumption | apply Ext.push | (refine Ext.trans ?_ (by assumption))))) hs) hP; (rintro _ _ ⟨rfl, _⟩)) | fail))
  exact ⟨.inr rfl, _, rfl, rfl, by (focus repeat' first | exact Ext.refl _ | assumption | apply Ext.push | (refine Ext.trans ?_ (by assumption)))⟩
theorem zgj (hK : NoK K) {G : Pg} {i j : Nat} {h : Heap} (hT : PgAt G h) (hP : PgP G) (hi : i < G.c.length) (hj : j < G.n) :
    CallW Tryz.prog K 77 #[pgV G, .int .i64 (i : Nat), .int .i64 (j : Nat)] h (IfB (MsP G i j) h) := by
  have hT' := hT
  have hP' := hP
  have hE := hP.ent i hi
  obtain ⟨people, pl, kl, n, ll, pg, kc, c⟩ := G
  obtain ⟨len, rl, rc, each, hbl, hpb⟩ := hT
  dsimp only [pgV] at len rl rc each hbl hpb hi hj hE ⊢
  obtain ⟨b, e, own, rfl, hg⟩ := rc.at (by rw [zaJ]; omega)
  obtain ⟨b2, e2, own2, rfl, hg2⟩ := rl.at (by rw [zaj]; omega)
  have hrow := each i hi
  have hcb := hrow.b
  refine body (N := 27) Tryz.func77 rfl (hK _ _ _ rfl) rfl rfl ?_
  (repeat' (first | apply zal | apply zac | (apply O_at; rfl) | (apply N_at; rfl) | (apply zaf; rfl) | apply zak | (apply za7; exact zau (by decide +kernel)) | apply zaB | (apply zbr; rfl; refine .inr ?_; (focus repeat' first | exact trivial | exact Keeps.nil _ _ | apply And.intro | rfl | (apply Keeps.cons; iterate 2 (focus repeat' first | exact zaa | assumption | apply zab | (apply Ext.get; assumption))))) | apply zaq | ((first | apply zad | apply zaA | apply zaI); rfl; rfl; rfl; rfl) | (apply zaM; rfl; rfl; rfl; rfl; exact zai rfl; rfl; rfl) | (apply zcy; rfl; rfl; rfl; rfl) | (apply zcc; rfl; rfl; rfl; rfl) | (apply M_fa; rfl; rfl; rfl; rfl; exact zay rfl; (first | exact Nat.zero_add _ | exact Nat.add_zero _ | rfl)) | (apply zbP; rfl; rfl; rfl; rfl; rfl; rfl) | (apply M_neq; rfl; rfl; rfl; rfl; rfl; all_goals intro _) | (apply zfh; rfl; rfl; rfl; rfl; rfl; exact zat rfl; exact zai rfl; (first | assumption | rfl | exact (Int.toNat_of_nonneg (by omega)).symm); omega) | ((first | ((first | (apply zbb; rfl; rfl; rfl; rfl; exact zap rfl; exact zax (by decide +kernel)) | (apply zbv; rfl; rfl; rfl; rfl; exact zap rfl)); (focus repeat' first | exact zaa | assumption | apply zab | (apply Ext.get; assumption)); (first | exact zag (by omega) | rfl | assumption)) | ((first | (apply zcd; rfl; rfl; rfl; rfl; exact zaO rfl; exact zax (by decide +kernel)) | (apply M_loadAH; rfl; rfl; rfl; rfl; exact zaO rfl; exact zfd (by decide +kernel))); (focus repeat' first | exact zaa | assumption | apply zab | (apply Ext.get; assumption)); (first | exact Nat.le_of_ble_eq_true rfl | (rw [zaJ]; omega) | (simp; done) | (simp; omega) | (rw [zaj]; omega)); (first | exact zaS (by omega) | rfl))); (first | assumption | exact zaH _ _ | exact za1 _ _ _ | exact zcL _ _ _ _ | exact zbH _ _ _ _ _ _ _ | rfl | (focus simp [same, same.all2]; done)); (first | rfl | assumption | exact hwv _ | (focus apply za0; (focus repeat' first | exact zaa | assumption | apply zab | (apply Ext.get; assumption)); done) | exact zbw (by assumption) (by (focus repeat' first | exact Ext.refl _ | assumption | apply Ext.push | (refine Ext.trans ?_ (by assumption)))) | exact zba (by assumption) (by assumption) (by (focus repeat' first | exact Ext.refl _ | assumption | apply Ext.push | (refine Ext.trans ?_ (by assumption)))) | (simp [within]; omega))) | (apply zaP; rfl; rfl; rfl; rfl; rfl; rfl; rfl; exact zhw (c := c.getD i cop0) hK (hrow.ext (by (focus repeat' first | exact Ext.refl _ | assumption | apply Ext.push | (refine Ext.trans ?_ (by assumption))))) hE; (rintro _ _ (⟨rfl, _, _⟩ | ⟨rfl, _, _⟩))) | (apply zaP; rfl; rfl; rfl; rfl; rfl; rfl; rfl; exact zgi (G := ⟨people, some ⟨b2, 0, none⟩, kl, n, ll, some ⟨b, 0, none⟩, kc, c⟩) hK hP' hj i _ _ rfl (hT'.ext (by (focus repeat' first | exact Ext.refl _ | assumption | apply Ext.push | (refine Ext.trans ?_ (by assumption))))) (Nat.le_of_lt hi); (rintro _ _ ⟨rfl, _⟩)) | fail))
  · rename_i w2
    exact ⟨.inr rfl, _, rfl, .inl ⟨rfl, ⟨by assumption, w2⟩, by (focus repeat' first | exact Ext.refl _ | assumption | apply Ext.push | (refine Ext.trans ?_ (by assumption)))⟩⟩
  · rename_i w2
    exact ⟨.inr rfl, _, rfl, .inr ⟨rfl, fun q => q.2 w2, by (focus repeat' first | exact Ext.refl _ | assumption | apply Ext.push | (refine Ext.trans ?_ (by assumption)))⟩⟩
  · rename_i w1 _
    exact ⟨.inr rfl, _, rfl, .inr ⟨rfl, fun q => w1 q.1, by (focus repeat' first | exact Ext.refl _ | assumption | apply Ext.push | (refine Ext.trans ?_ (by assumption)))⟩⟩
theorem ziv (k : Nat) (p : Nat → Prop) [DecidablePred p] (i : Nat) : tag k (filL p (i + 1)) = tag k (filL p i) ++ (if p i then [((k : Int), (i : Int))] else []) := by
  rw [zc7]
  by_cases h : p i
  · rw [if_pos h, if_pos h, ziu]
  · rw [if_neg h, if_neg h, List.append_nil, List.append_nil]
theorem zck (hK : NoK K) {G : Pg} {h : Heap} (hT : PgAt G h) (hP : PgP G) :
    CallW Tryz.prog K 40 #[pgV G] h (IsP (missK G G.c.length) h) := by
  refine body (N := 31) Tryz.func40 rfl (hK _ _ _ rfl) rfl rfl ?_
  have hc := hP.c
  have hn := hP.n
  have hT' := hT
  have hP' := hP
  obtain ⟨people, pl, kl, n, ll, pg, kc, c⟩ := G
  dsimp only [pgV] at hc hn ⊢
  (repeat' (first | apply zal | apply zac | (apply O_at; rfl) | (apply zaf; rfl) | apply zak | apply zar | ((first | apply zae | apply zad); rfl; rfl; rfl; rfl) | (apply zaM; rfl; rfl; rfl; rfl; exact zai rfl; rfl; rfl) | fail))
  refine za9 (fun a : Nat × Value => [(4, .int .i64 (a.1 : Nat)), (3, a.2), (1, .pointer (some ⟨h.n, 0, none⟩))])
    (fun a h' => a.1 ≤ c.length ∧ Ext (h.push (.cells [.int .i64 people, .slice pl n kl, .slice pg c.length kc] 25 true)) h' ∧ OutS 57 (h.push (.cells [.int .i64 people, .slice pl n kl, .slice pg c.length kc] 25 true)) h' a.2 (missK ⟨people, pl, kl, n, ll, pg, kc, c⟩ a.1)) (fun a => c.length - a.1) ?_ (0, .slice none 0 0) ?_ ?_
  · rintro ⟨k, v⟩ h' ⟨hk, hx, hv⟩ ih
    dsimp only at hk hx hv ih ⊢
    have gp := hx.get zaa
    by_cases hlt : k < c.length
    · have hmk := zcb hP' (k := k) (Nat.le_of_lt hlt)
      (repeat' (first | apply zal | apply zac | (apply O_at; rfl) | (apply zaf; rfl) | apply zak | (apply zaX; rfl) | apply zar | apply zav | ((first | apply zae | apply zad); rfl; rfl; rfl; rfl) | (apply P_fa; rfl; rfl; rfl; rfl; exact zay rfl; (first | exact Nat.zero_add _ | exact Nat.add_zero _ | rfl)) | (apply zbm; rfl; rfl; rfl; rfl; rfl; rfl; exact zat rfl) | (apply zbo; rfl; rfl; rfl; rfl; rfl; omega) | (apply zah; rfl; rfl; rfl; rfl; exact zap rfl; (focus repeat' first | exact zaa | assumption | (apply Ext.get; assumption)); (first | rfl | assumption)) | fail))
      refine za9 (fun a : Nat × Value => [(5, .int .i64 (a.1 : Nat)), (3, a.2), (4, .int .i64 (k : Nat)), (1, .pointer (some ⟨h.n, 0, none⟩))])
        (fun a h3 => a.1 ≤ n ∧ Ext (h.push (.cells [.int .i64 people, .slice pl n kl, .slice pg c.length kc] 25 true)) h3 ∧ OutS 57 (h.push (.cells [.int .i64 people, .slice pl n kl, .slice pg c.length kc] 25 true)) h3 a.2 (missK ⟨people, pl, kl, n, ll, pg, kc, c⟩ k ++ tag k (filL (MsP ⟨people, pl, kl, n, ll, pg, kc, c⟩ k) a.1))) (fun a => n - a.1) ?_ (0, v) ?_ ?_
      · rintro ⟨i, u⟩ h3 ⟨hi, hx3, hu⟩ ih3
        dsimp only at hi hx3 hu ih3 ⊢
        have gp3 := hx3.get zaa
        by_cases hil : i < n
        · have hfl := zfL (MsP ⟨people, pl, kl, n, ll, pg, kc, c⟩ k) i
          have hln : (missK ⟨people, pl, kl, n, ll, pg, kc, c⟩ k ++ tag k (filL (MsP ⟨people, pl, kl, n, ll, pg, kc, c⟩ k) i)).length ≤ 10000 := by simp [tag]; omega
          have x0 : Ext h h3 := by (focus repeat' first | exact Ext.refl _ | assumption | apply Ext.push | (refine Ext.trans ?_ (by assumption)))
          (repeat' (first | apply zal | apply zac | (apply O_at; rfl) | (apply zaf; rfl) | apply zak | (apply zaX; rfl) | (apply zaF; rfl) | apply zar | apply zav | apply zaC | ((first | apply zae | apply zad); rfl; rfl; rfl; rfl) | (apply P_fa; rfl; rfl; rfl; rfl; exact zay rfl; (first | exact Nat.zero_add _ | exact Nat.add_zero _ | rfl)) | (apply zbm; rfl; rfl; rfl; rfl; rfl; rfl; exact zat rfl) | (apply zbo; rfl; rfl; rfl; rfl; rfl; omega) | (apply zbJ; rfl; rfl; rfl; rfl; rfl; (unfold fit; omega)) | (apply zah; rfl; rfl; rfl; rfl; exact zap rfl; (focus repeat' first | exact zaa | assumption | (apply Ext.get; assumption)); (first | rfl | assumption)) | (apply zaE; rfl; rfl; rfl; rfl; exact zaO rfl; (focus repeat' first | exact zaa | assumption | (apply Ext.get; assumption)); (first | exact Nat.le_of_ble_eq_true rfl | (simp; done) | (simp; omega)); rfl) | (apply zfg; rfl; rfl; rfl; rfl) | (apply zeE; rfl; rfl; rfl; rfl; rfl; exact zj4 rfl) | (apply zl7; rfl; rfl; rfl; rfl; rfl; rfl; rfl; rfl; exact zj4 rfl; exact zat rfl; (focus repeat' first | exact zaa | assumption | (apply Ext.get; assumption)); (apply OutS.ext; assumption; (focus repeat' first | exact Ext.refl _ | assumption | apply Ext.push | (refine Ext.trans ?_ (by assumption)))); (focus repeat' first | exact Ext.refl _ | assumption | apply Ext.push | (refine Ext.trans ?_ (by assumption))); (first | omega | (simp; omega)); (intro _ _ _ _)) | (apply zan; rfl; rfl; rfl; rfl; rfl; rfl; exact zgj (G := ⟨people, pl, kl, n, ll, pg, kc, c⟩) hK (hT'.ext (by (focus repeat' first | exact Ext.refl _ | assumption | apply Ext.push | (refine Ext.trans ?_ (by assumption))))) hP' hlt hil; (rintro _ _ (⟨rfl, _, _⟩ | ⟨rfl, _, _⟩))) | fail))
          · rename_i w x4 v5 h5 o5 x5
            refine zaN (ih3 (i + 1, v5) _ (by dsimp only; omega) ⟨hil, x5, ?_⟩) (by (focus repeat' first | rfl | exact trivial | apply And.intro))
            rw [ziv, if_pos w, ← List.append_assoc]
            exact o5
          · rename_i w x4
            refine zaN (ih3 (i + 1, u) _ (by dsimp only; omega) ⟨hil, by (focus repeat' first | exact Ext.refl _ | assumption | apply Ext.push | (refine Ext.trans ?_ (by assumption))), ?_⟩) (by (focus repeat' first | rfl | exact trivial | apply And.intro))
            rw [ziv, if_neg w, List.append_nil]
            exact hu.ext x4
        · obtain rfl : i = n := by omega
          (repeat' (first | apply zal | apply zac | (apply O_at; rfl) | (apply zaf; rfl) | apply zak | (apply zaF; rfl) | apply zbd | apply zbe | apply zaV | apply zaW | apply zaC | ((first | apply zae | apply zad); rfl; rfl; rfl; rfl) | (apply P_fa; rfl; rfl; rfl; rfl; exact zay rfl; (first | exact Nat.zero_add _ | exact Nat.add_zero _ | rfl)) | (apply zbm; rfl; rfl; rfl; rfl; rfl; rfl; exact zat rfl) | (apply zbp; rfl; rfl; rfl; rfl; rfl; omega) | (apply zbJ; rfl; rfl; rfl; rfl; rfl; (unfold fit; omega)) | (apply zah; rfl; rfl; rfl; rfl; exact zap rfl; (focus repeat' first | exact zaa | assumption | (apply Ext.get; assumption)); (first | rfl | assumption)) | fail))
          exact zaN (ih (k + 1, u) _ (by dsimp only; omega) ⟨hlt, by (focus repeat' first | exact Ext.refl _ | assumption | apply Ext.push | (refine Ext.trans ?_ (by assumption))), hu⟩) (by (focus repeat' first | rfl | exact trivial | apply And.intro))
      · exact ⟨Nat.zero_le _, hx, by simpa [tag, filL] using hv⟩
      · (focus repeat' first | rfl | exact trivial | apply And.intro)
    · obtain rfl : k = c.length := by omega
      (repeat' (first | apply zal | apply zac | (apply O_at; rfl) | (apply zaf; rfl) | apply zak | (apply zaF; rfl) | apply zbd | apply zaB | apply zbe | apply zaV | apply zaW | apply zaq | ((first | apply zae | apply zad); rfl; rfl; rfl; rfl) | (apply P_fa; rfl; rfl; rfl; rfl; exact zay rfl; (first | exact Nat.zero_add _ | exact Nat.add_zero _ | rfl)) | (apply zbm; rfl; rfl; rfl; rfl; rfl; rfl; exact zat rfl) | (apply zbp; rfl; rfl; rfl; rfl; rfl; omega) | (apply zah; rfl; rfl; rfl; rfl; exact zap rfl; (focus repeat' first | exact zaa | assumption | (apply Ext.get; assumption)); (first | rfl | assumption)) | fail))
      obtain ⟨p, cp, rfl, r5, x5⟩ := zfA hv hx
      exact ⟨.inr rfl, _, rfl, p, cp, rfl, r5, by (focus repeat' first | exact Ext.refl _ | assumption | apply Ext.push | (refine Ext.trans ?_ (by assumption)))⟩
  · exact ⟨Nat.zero_le _, Ext.refl _, .inl ⟨rfl, rfl⟩⟩
  · (focus repeat' first | rfl | exact trivial | apply And.intro)
theorem spanMs : spanT Tryz.prog 57 = true := by kernel_rfl
theorem eqgMs : Tryz.prog.eqGuardType Tryz.prog.depth 57 = false := by kernel_rfl
theorem zcY (hK : NoK K) {l m : List (Int × Int)} {p q : Option Addr} {cap cap' : Nat} {h : Heap} (hn : l.length ≤ 1000) (_hm : m.length ≤ 1000) (hr : Rd h p (spanCells l)) (hq : Rd h q (spanCells m)) :
    CallW Tryz.prog K 39 #[.slice p l.length cap, .slice q m.length cap'] h (IfB (l = m) h) := by
  refine body (N := 26) Tryz.func39 rfl (hK _ _ _ rfl) rfl rfl ?_
  by_cases hl : l.length = m.length
  · (repeat' (first | apply zal | apply zac | (apply O_at; rfl) | (apply zaf; rfl) | apply zak | (apply zaF; rfl) | apply zar | apply zav | ((first | apply zae | apply zad | apply zaA); rfl; rfl; rfl; rfl) | (apply zbm; rfl; rfl; rfl; rfl; rfl; rfl; exact zat rfl) | (apply zg5; rfl; rfl; rfl; rfl; rfl; omega) | fail))
    refine za9 (fun k : Nat => [(0, .slice p l.length cap), (1, .slice q m.length cap'), (5, .int .i64 (k : Nat))])
      (fun k h' => k ≤ l.length ∧ Ext h h' ∧ ∀ j, j < k → l.getD j (0, 0) = m.getD j (0, 0)) (fun k => l.length - k) ?_ 0 ?_ ?_
    · intro k h' ⟨hk, hx, hj⟩ ih
      by_cases hlt : k < l.length
      · obtain ⟨b, e, own', rfl, hg⟩ := hr.at (by rw [zaG]; omega)
        obtain ⟨b2, e2, own2, rfl, hg2⟩ := hq.at (by rw [zaG]; omega)
        (repeat' (first | apply zal | apply zac | (apply O_at; rfl) | (apply N_at; rfl) | (apply zaf; rfl) | apply zak | (apply zaX; rfl) | (apply za7; exact zau (by decide +kernel)) | apply zar | apply zav | ((first | apply zae | apply zad | apply zaA); rfl; rfl; rfl; rfl) | (apply zbm; rfl; rfl; rfl; rfl; rfl; rfl; exact zat rfl) | (apply zbo; rfl; rfl; rfl; rfl; rfl; omega) | (apply zfh; rfl; rfl; rfl; rfl; rfl; exact zat rfl; exact zai rfl; (first | assumption | rfl | exact (Int.toNat_of_nonneg (by omega)).symm); omega) | (((apply zcd; rfl; rfl; rfl; rfl; exact zaO rfl; exact zax (by decide +kernel)); (focus repeat' first | assumption | (apply Ext.get; assumption)); (first | exact Nat.le_of_ble_eq_true rfl | (simp; done) | (simp; omega) | (rw [zaG]; omega)); (first | exact zbK (by omega) | rfl)); (first | assumption | exact zkG _ _ | rfl | (focus simp [same, same.all2]; done)); (first | rfl | assumption | exact hwv _ | (simp [within]; omega))) | fail))
        apply M_neqS (p := l.getD k (0, 0)) (q := m.getD k (0, 0)); rfl; rfl; rfl; rfl; rfl; exact spanMs; exact eqgMs; all_goals intro w
        · (repeat' (first | apply zal | apply zac | (apply O_at; rfl) | (apply zaf; rfl) | apply zak | (apply zaX; rfl) | apply zaB | (apply zbr; rfl; exact (.inl (Nat.le_refl 1))) | apply za8 | apply zeH | apply zcz | apply zaq | ((first | apply zae | apply zad | apply zaA); rfl; rfl; rfl; rfl) | fail))
          exact ⟨.inr rfl, _, rfl, .inr ⟨rfl, fun z => w (by rw [z]), by (focus repeat' first | exact Ext.refl _ | assumption)⟩⟩
        · (repeat' (first | apply zac | (apply O_at; rfl) | (apply zaf; rfl) | apply zak | (apply zaF; rfl) | apply zav | (apply zbr; rfl; exact (.inl (Nat.le_refl 1))) | apply zaC | ((first | apply zae | apply zad | apply zaA); rfl; rfl; rfl; rfl) | (apply zbJ; rfl; rfl; rfl; rfl; rfl; (unfold fit; omega)) | fail))
          refine zaN (ih (k + 1) _ (by omega) ⟨hlt, by (focus repeat' first | exact Ext.refl _ | assumption), fun j hj' => ?_⟩) (by (focus repeat' first | rfl | exact trivial | apply And.intro))
          by_cases hjk : j = k
          · subst hjk; exact w
          · exact hj j (by omega)
      · (repeat' (first | apply zal | apply zac | (apply O_at; rfl) | (apply zaf; rfl) | apply zak | (apply zaF; rfl) | apply zbd | apply zaB | apply zbe | apply zaV | apply zaW | apply zaq | ((first | apply zae | apply zad | apply zaA); rfl; rfl; rfl; rfl) | (apply zbm; rfl; rfl; rfl; rfl; rfl; rfl; exact zat rfl) | (apply zbp; rfl; rfl; rfl; rfl; rfl; omega) | fail))
        refine ⟨.inr rfl, _, rfl, .inl ⟨rfl, ?_, by (focus repeat' first | exact Ext.refl _ | assumption)⟩⟩
        apply List.ext_getElem hl
        intro j h1 h2
        have := hj j (by omega)
        simpa [h1, h2] using this
    · exact ⟨Nat.zero_le _, Ext.refl _, fun j hj => by omega⟩
    · (focus repeat' first | rfl | exact trivial | apply And.intro)
  · (repeat' (first | apply zal | apply zac | (apply O_at; rfl) | (apply zaf; rfl) | apply zak | (apply zaX; rfl) | apply zaB | apply za8 | apply zaq | ((first | apply zae | apply zad | apply zaA); rfl; rfl; rfl; rfl) | (apply zbm; rfl; rfl; rfl; rfl; rfl; rfl; exact zat rfl) | (apply zl5; rfl; rfl; rfl; rfl; rfl; omega) | fail))
    exact ⟨.inr rfl, _, rfl, .inr ⟨rfl, fun q => hl (by rw [q]), by (focus repeat' first | exact Ext.refl _ | assumption)⟩⟩
end Go.AX.Sa

namespace Go.AX.Sa
open Go.Proofs
set_option maxRecDepth 100000
variable {K : Known}
/-! Whose readings miss most: what the program answers. -/
def RdrP (c : Cop) (q : Int) : Prop := c.par = 1 ∧ inPair (ent c) q
instance (c : Cop) (q : Int) : Decidable (RdrP c q) := by unfold RdrP inPair; infer_instance
theorem zhT (hK : NoK K) {c : Cop} {people q : Int} {n : Nat} {h : Heap} (hc : RowIn c.r h) (hP : EntP people n (ent c)) :
    CallW Tryz.prog K 113 #[enV c, .int .i64 q] h (IfB (RdrP c q) h) := by
  obtain ⟨rd, hcb, _⟩ := hc
  obtain ⟨par, a, k, t⟩ := c
  dsimp only [enV, ent] at rd hcb hP ⊢
  refine body (N := 24) Tryz.func113 rfl (hK _ _ _ rfl) rfl rfl ?_
  by_cases h1 : par = 1
  · subst h1
    have z := ent1.1 hP
    obtain ⟨b, e, own, rfl, hg⟩ := rd.at (by rw [zaj]; omega)
    (repeat' (first | apply zal | apply zac | (apply O_at; rfl) | (apply zaf; rfl) | apply zak | apply zaB | apply zaq | (apply zbu; rfl; rfl; rfl) | ((first | apply zae | apply zad); rfl; rfl; rfl; rfl) | (apply P_fa; rfl; rfl; rfl; rfl; exact zay rfl; (first | exact Nat.zero_add _ | exact Nat.add_zero _ | rfl)) | (apply zaZ; rfl; rfl; rfl; rfl; rfl; rfl) | (apply zbG; rfl; rfl; rfl; rfl; rfl; omega) | (apply zg7; rfl; rfl; rfl; rfl; rfl; all_goals intro _) | (apply zbW; rfl; rfl; rfl; rfl; rfl; exact zat rfl; exact zai rfl; (first | assumption | exact zq0 | exact zq1 | rfl | exact (Int.toNat_of_nonneg (by omega)).symm); omega) | (apply zah; rfl; rfl; rfl; rfl; exact zap rfl; (focus repeat' first | exact zaa | assumption | apply zab); (first | exact zag (by omega) | rfl | assumption)) | (apply zaM; rfl; rfl; rfl; rfl; exact zai rfl; rfl; rfl) | fail))
    · rename_i w
      exact ⟨.inr rfl, _, rfl, .inl ⟨rfl, ⟨rfl, .inl w⟩, by (focus repeat' first | exact Ext.refl _ | assumption | apply Ext.push)⟩⟩
    · rename_i w _
      exact ⟨.inr rfl, _, rfl, .inl ⟨rfl, ⟨rfl, .inr (by assumption)⟩, by (focus repeat' first | exact Ext.refl _ | assumption | apply Ext.push)⟩⟩
    · rename_i w w2
      exact ⟨.inr rfl, _, rfl, .inr ⟨rfl, fun u => u.2.elim w w2, by (focus repeat' first | exact Ext.refl _ | assumption | apply Ext.push)⟩⟩
  · (repeat' (first | apply zal | apply zac | (apply O_at; rfl) | (apply zaf; rfl) | apply zak | apply zaB | apply zaq | (apply zbu; rfl; rfl; rfl) | ((first | apply zae | apply zad); rfl; rfl; rfl; rfl) | (apply P_fa; rfl; rfl; rfl; rfl; exact zay rfl; (first | exact Nat.zero_add _ | exact Nat.add_zero _ | rfl)) | (apply zaZ; rfl; rfl; rfl; rfl; rfl; rfl) | (apply zbO; rfl; rfl; rfl; rfl; rfl; omega) | (apply zah; rfl; rfl; rfl; rfl; exact zap rfl; (focus repeat' first | exact zaa | assumption | apply zab); (first | exact zag (by omega) | rfl | assumption)) | (apply zaM; rfl; rfl; rfl; rfl; exact zai rfl; rfl; rfl) | fail))
    exact ⟨.inr rfl, _, rfl, .inr ⟨rfl, fun u => h1 u.1, by (focus repeat' first | exact Ext.refl _ | assumption | apply Ext.push)⟩⟩
def sumI (l : List Int) : Int := l.foldl (· + ·) 0
theorem zdY (l : List Int) (n : Int) : sumI (l ++ [n]) = sumI l + n := by simp [sumI]
theorem sum_ok (hK : NoK K) {l : List Int} {p : Option Addr} {cap : Nat} {h : Heap} (hn : l.length ≤ 1000) (hb : ∀ x ∈ l, 0 ≤ x ∧ x ≤ 1000) (hr : Rd h p (ints l)) :
    CallW Tryz.prog K 114 #[.slice p l.length cap] h (IsV (.int .i64 (sumI l)) h) := by
  have hs : ∀ k, k ≤ l.length → 0 ≤ sumI (l.take k) ∧ sumI (l.take k) ≤ k * 1000 := by
    intro k
    induction k with
    | zero => intro _; simp [sumI]
    | succ k ih =>
      intro hk
      have e1 : l.take (k + 1) = l.take k ++ [l.getD k 0] := by rw [List.take_add_one, List.getElem?_eq_getElem (by omega)]; simp [List.getD_eq_getElem?_getD, show k < l.length by omega]
      have h1 := ih (by omega)
      have h2 := hb (l.getD k 0) (by rw [List.getD_eq_getElem?_getD, List.getElem?_eq_getElem (by omega)]; simp)
      rw [e1, zdY]
      omega
  refine body (N := 17) Tryz.func114 rfl (hK _ _ _ rfl) rfl rfl ?_
  (repeat' (first | apply zal | apply zac | (apply O_at; rfl) | (apply zaf; rfl) | apply zak | apply zar | ((first | apply zae | apply zad); rfl; rfl; rfl; rfl) | (apply zbm; rfl; rfl; rfl; rfl; rfl; rfl; exact zat rfl) | fail))
  refine za9 (fun k : Nat => [(8, .int .i64 (k : Nat)), (7, .int .i64 (l.length : Nat)), (6, .slice p l.length cap), (3, .int .i64 (sumI (l.take k)))])
    (fun k h' => k ≤ l.length ∧ Ext h h') (fun k => l.length - k) ?_ 0 ?_ ?_
  · intro k h' ⟨hk, hx⟩ ih
    have h1 := hs k hk
    by_cases hlt : k < l.length
    · obtain ⟨b, e, own', rfl, hg⟩ := hr.at (by rw [zaj]; omega)
      have h2 := hb (l.getD k 0) (by rw [List.getD_eq_getElem?_getD, List.getElem?_eq_getElem (by omega)]; simp)
      have e1 : l.take (k + 1) = l.take k ++ [l.getD k 0] := by rw [List.take_add_one, List.getElem?_eq_getElem (by omega)]; simp [List.getD_eq_getElem?_getD, show k < l.length by omega]
      (repeat' (first | apply zal | apply zac | (apply O_at; rfl) | (apply zaf; rfl) | apply zak | (apply zaX; rfl) | apply zar | apply zav | apply zaC | ((first | apply zae | apply zad); rfl; rfl; rfl; rfl) | (apply zbo; rfl; rfl; rfl; rfl; rfl; omega) | (apply zbJ; rfl; rfl; rfl; rfl; rfl; (unfold fit; omega)) | (apply zbW; rfl; rfl; rfl; rfl; rfl; exact zat rfl; exact zai rfl; (first | assumption | rfl | exact (Int.toNat_of_nonneg (by omega)).symm); omega) | (apply zah; rfl; rfl; rfl; rfl; exact zap rfl; (focus repeat' first | assumption | (apply Ext.get; assumption)); (first | exact zag (by omega) | rfl | assumption)) | fail))
      refine zaN (ih (k + 1) _ (by omega) ⟨hlt, hx⟩) ⟨rfl, rfl, rfl, ?_, trivial⟩
      rw [e1, zdY]
      rfl
    · obtain rfl : k = l.length := by omega
      (repeat' (first | apply zal | apply zac | (apply O_at; rfl) | (apply zaf; rfl) | apply zak | (apply zaF; rfl) | apply zbd | apply zaB | apply zbe | apply zaV | apply zaW | apply zaq | ((first | apply zae | apply zad); rfl; rfl; rfl; rfl) | (apply zbp; rfl; rfl; rfl; rfl; rfl; omega) | fail))
      refine ⟨.inr rfl, _, rfl, ?_, by (focus repeat' first | exact Ext.refl _ | assumption)⟩
      rw [List.take_length]
      rfl
  · exact ⟨Nat.zero_le _, Ext.refl _⟩
  · (focus repeat' first | rfl | exact trivial | apply And.intro)
/-- How many lines the readings of one of the people miss, of the first entries. -/
noncomputable def manyK (G : Pg) (q : Int) : Nat → List Int
  | 0 => []
  | k + 1 => manyK G q k ++ (if RdrP (G.c.getD k cop0) q then [((misL G k).length : Int)] else [])
noncomputable def ofK (G : Pg) (q : Int) : Nat → Int
  | 0 => 0
  | k + 1 => ofK G q k + (if RdrP (G.c.getD k cop0) q then ((misL G k).length : Int) else 0)
theorem ziw (G : Pg) (q : Int) : ∀ k, sumI (manyK G q k) = ofK G q k
  | 0 => rfl
  | k + 1 => by
    have := ziw G q k
    unfold manyK ofK
    by_cases h : RdrP (G.c.getD k cop0) q
    · rw [if_pos h, if_pos h, zdY, this]
    · rw [if_neg h, if_neg h, List.append_nil, this, Int.add_zero]
theorem ziN (G : Pg) (q : Int) : ∀ k, (manyK G q k).length ≤ k
  | 0 => Nat.le_refl _
  | k + 1 => by
    have := ziN G q k
    unfold manyK
    by_cases h : RdrP (G.c.getD k cop0) q
    · rw [if_pos h]; simp; omega
    · rw [if_neg h]; simp; omega
theorem ziM (G : Pg) (q : Int) : ∀ k, ∀ x ∈ manyK G q k, 0 ≤ x ∧ x ≤ G.n
  | 0 => fun x h => by cases h
  | k + 1 => fun x h => by
    unfold manyK at h
    rcases List.mem_append.1 h with h | h
    · exact ziM G q k x h
    · have := zdQ G k
      by_cases w : RdrP (G.c.getD k cop0) q
      · rw [if_pos w] at h; simp at h; omega
      · rw [if_neg w] at h; cases h
noncomputable def mssL (G : Pg) (k : Nat) : List (Int × Int) := (List.range k).map fun q : Nat => ((q : Int), ofK G (q : Int) G.c.length)
theorem zli (G : Pg) (k : Nat) : mssL G (k + 1) = mssL G k ++ [((k : Int), ofK G (k : Int) G.c.length)] := by simp [mssL, List.range_succ]
theorem ziK (G : Pg) (k : Nat) : (mssL G k).length = k := by simp [mssL]
theorem zlj (hK : NoK K) {G : Pg} {h : Heap} (hT : PgAt G h) (hP : PgP G) :
    CallW Tryz.prog K 75 #[pgV G] h (IsP (mssL G G.people.toNat) h) := by
  have hT' := hT
  have hP' := hP
  have hent := hP.ent
  have hc10 := hP.c
  have hnn := hP.n
  have hpp := hP.people
  obtain ⟨people, pl, kl, n, ll, pg, kc, c⟩ := G
  obtain ⟨len, rl, rc, each, hbl, hpb⟩ := hT
  dsimp only [pgV] at len rl rc each hbl hpb hent hc10 hnn hpp ⊢
  obtain ⟨m, hm⟩ : ∃ m : Nat, people = (m : Nat) := ⟨people.toNat, by omega⟩
  subst hm
  rw [Int.toNat_natCast]
  refine body (N := 45) Tryz.func75 rfl (hK _ _ _ rfl) rfl rfl ?_
  (repeat' (first | apply zal | apply zac | (apply O_at; rfl) | (apply zaf; rfl) | apply zak | ((first | apply zae | apply zad); rfl; rfl; rfl; rfl) | (apply zaE; rfl; rfl; rfl; rfl; exact zaO rfl; (focus repeat' first | exact zaa | assumption | apply zab | (apply Ext.get; assumption)); (first | exact Nat.le_of_ble_eq_true rfl | (rw [zaJ]; omega) | (simp; done) | (simp; omega)); (first | exact zaS (by omega) | rfl)) | (apply zaM; rfl; rfl; rfl; rfl; exact zai rfl; rfl; rfl) | fail))
  apply zan; rfl; rfl; rfl; rfl; rfl; rfl
  exact zgE hK (G := ⟨(m : Nat), pl, kl, n, ll, pg, kc, c⟩) (hT'.ext (by (focus repeat' first | exact Ext.refl _ | assumption | apply Ext.push | (refine Ext.trans ?_ (by assumption))))) hP'
  rintro _ h2 ⟨ba, rs, rfl, hrl, gr, ho, x2⟩
  have hrl' : rs.length = c.length := hrl
  have gp2 := x2.get zaa
  (repeat' (first | apply zal | apply zac | (apply O_at; rfl) | (apply zaf; rfl) | apply zak | apply zar | ((first | apply zae | apply zad); rfl; rfl; rfl; rfl) | (apply P_fa; rfl; rfl; rfl; rfl; exact zay rfl; (first | exact Nat.zero_add _ | exact Nat.add_zero _ | rfl)) | (apply zah; rfl; rfl; rfl; rfl; exact zap rfl; (focus repeat' first | exact zaa | assumption | apply zab | (apply Ext.get; assumption)); (first | exact zcZ (by omega) | rfl | assumption)) | fail))
  refine za9 (fun a : Nat × Value => [(13, .int .i64 (a.1 : Nat)), (12, .int .i64 (m : Nat)), (3, a.2), (4, .slice (some ⟨ba, 0, none⟩) c.length c.length), (1, .pointer (some ⟨h.n, 0, none⟩))])
    (fun a h' => a.1 ≤ m ∧ Ext h2 h' ∧ OutS 101 h2 h' a.2 (mssL ⟨(m : Nat), pl, kl, n, ll, pg, kc, c⟩ a.1)) (fun a => m - a.1) ?_ (0, .slice none 0 0) ?_ ?_
  · rintro ⟨q, v⟩ h' ⟨hq, hx, hv⟩ ih
    dsimp only at hq hx hv ih ⊢
    have gp := hx.get gp2
    have hlm := ziK ⟨(m : Nat), pl, kl, n, ll, pg, kc, c⟩ q
    by_cases hqm : q < m
    · (repeat' (first | apply zal | apply zac | (apply O_at; rfl) | (apply zaf; rfl) | apply zak | (apply zaX; rfl) | apply zar | apply zav | ((first | apply zae | apply zad); rfl; rfl; rfl; rfl) | (apply P_fa; rfl; rfl; rfl; rfl; exact zay rfl; (first | exact Nat.zero_add _ | exact Nat.add_zero _ | rfl)) | (apply zbm; rfl; rfl; rfl; rfl; rfl; rfl; exact zat rfl) | (apply zbo; rfl; rfl; rfl; rfl; rfl; omega) | (apply zah; rfl; rfl; rfl; rfl; exact zap rfl; (focus repeat' first | exact zaa | assumption | apply zab | (apply Ext.get; assumption)); (first | exact zcZ (by omega) | rfl | assumption)) | fail))
      refine za9 (fun a : Nat × Value => [(19, .int .i64 (a.1 : Nat)), (18, .int .i64 (c.length : Nat)), (17, .slice pg c.length kc), (6, a.2), (5, .int .i64 (q : Nat)), (13, .int .i64 (q : Nat)), (12, .int .i64 (m : Nat)), (3, v), (4, .slice (some ⟨ba, 0, none⟩) c.length c.length), (1, .pointer (some ⟨h.n, 0, none⟩))])
        (fun a h3 => a.1 ≤ c.length ∧ Ext h' h3 ∧ OutI 3 h' h3 a.2 (manyK ⟨(m : Nat), pl, kl, n, ll, pg, kc, c⟩ (q : Nat) a.1)) (fun a => c.length - a.1) ?_ (0, .slice none 0 0) ?_ ?_
      · rintro ⟨k, u⟩ h3 ⟨hk, hx3, hu⟩ ih3
        dsimp only at hk hx3 hu ih3 ⊢
        have hml := ziN ⟨(m : Nat), pl, kl, n, ll, pg, kc, c⟩ (q : Nat) k
        have gp3 := hx3.get gp
        by_cases hlt : k < c.length
        · obtain ⟨b, e, own, rfl, hg⟩ := rc.at (by rw [zaJ]; omega)
          have hrow := each k hlt
          have hcb := hrow.b
          have hE := hent k hlt
          have x03 : Ext h h3 := by (focus repeat' first | exact Ext.refl _ | assumption | apply Ext.push | (refine Ext.trans ?_ (by assumption)))
          have hg3 := x03.get hg
          have gr3 := hx3.get (hx.get gr)
          have hs' := (ho k (by omega)).2
          (repeat' (first | apply zal | apply zac | (apply O_at; rfl) | (apply zaf; rfl) | apply zak | (apply zaX; rfl) | (apply zaF; rfl) | apply zar | apply zav | apply zaC | ((first | apply zae | apply zad); rfl; rfl; rfl; rfl) | (apply zbm; rfl; rfl; rfl; rfl; rfl; rfl; exact zat rfl) | (apply zbo; rfl; rfl; rfl; rfl; rfl; omega) | (apply zbJ; rfl; rfl; rfl; rfl; rfl; (unfold fit; omega)) | (apply zbW; rfl; rfl; rfl; rfl; rfl; exact zat rfl; exact zai rfl; (first | assumption | rfl | exact (Int.toNat_of_nonneg (by omega)).symm); omega) | (apply zcw; rfl; rfl; rfl; rfl; rfl; exact zat rfl; exact zai rfl; (first | assumption | rfl | exact (Int.toNat_of_nonneg (by omega)).symm); omega) | (apply zah; rfl; rfl; rfl; rfl; exact zap rfl; (focus repeat' first | exact zaa | assumption | apply zab | (apply Ext.get; assumption)); (first | exact zcZ (by omega) | rfl | assumption)) | (apply zaE; rfl; rfl; rfl; rfl; exact zaO rfl; (focus repeat' first | exact zaa | assumption | apply zab | (apply Ext.get; assumption)); (first | exact Nat.le_of_ble_eq_true rfl | (rw [zaJ]; omega) | (simp; done) | (simp; omega)); (first | exact zaS (by omega) | rfl)) | (apply P_build1; rfl; rfl; rfl; rfl; rfl; rfl; rfl; exact zfU rfl) | (apply P_appI; rfl; rfl; rfl; rfl; rfl; rfl; rfl; rfl; exact zfU rfl; exact zat rfl; (focus repeat' first | exact zaa | assumption | apply zab | (apply Ext.get; assumption)); (apply OutI.ext; assumption; (focus repeat' first | exact Ext.refl _ | assumption | apply Ext.push | (refine Ext.trans ?_ (by assumption)))); (focus repeat' first | exact Ext.refl _ | assumption | apply Ext.push | (refine Ext.trans ?_ (by assumption))); (first | omega | (simp; omega)); (intro _ _ _ _)) | (apply zaK; rfl; rfl; rfl; rfl; exact zai rfl; rfl; rfl; rfl) | (apply zbh; rfl; rfl; rfl; rfl; exact zai rfl; rfl; rfl) | (apply zan; rfl; rfl; rfl; rfl; rfl; rfl; exact zhT (c := c.getD k cop0) hK (hrow.ext (by (focus repeat' first | exact Ext.refl _ | assumption | apply Ext.push | (refine Ext.trans ?_ (by assumption))))) hE; (rintro _ _ (⟨rfl, _, _⟩ | ⟨rfl, _, _⟩))) | fail))
          · rename_i h4 w4 x4 v5 h5 o5 x5
            refine zaN (ih3 (k + 1, v5) _ (by dsimp only; omega) ⟨hlt, x5, ?_⟩) (by (focus repeat' first | rfl | exact trivial | apply And.intro))
            unfold manyK
            rw [if_pos w4, ← hs']
            exact o5
          · rename_i h4 w4 x4
            refine zaN (ih3 (k + 1, u) _ (by dsimp only; omega) ⟨hlt, by (focus repeat' first | exact Ext.refl _ | assumption | apply Ext.push | (refine Ext.trans ?_ (by assumption))), ?_⟩) (by (focus repeat' first | rfl | exact trivial | apply And.intro))
            unfold manyK
            rw [if_neg w4, List.append_nil]
            exact hu.ext (by (focus repeat' first | exact Ext.refl _ | assumption | apply Ext.push | (refine Ext.trans ?_ (by assumption))))
        · obtain rfl : k = c.length := by omega
          obtain ⟨p5, c5, rfl, r5, x5⟩ := hu.isL hx3
          have x23 := hx.trans hx3
          have hv3 := hv.ext hx3
          (repeat' (first | apply zal | apply zac | (apply O_at; rfl) | (apply zaf; rfl) | apply zak | (apply zaF; rfl) | apply zbd | apply zbe | apply zaV | apply zaW | apply zaC | ((first | apply zae | apply zad); rfl; rfl; rfl; rfl) | (apply zbp; rfl; rfl; rfl; rfl; rfl; omega) | (apply zbJ; rfl; rfl; rfl; rfl; rfl; (unfold fit; omega)) | (apply zkc; rfl; rfl; rfl; rfl) | (apply zeE; rfl; rfl; rfl; rfl; rfl; exact zj4 rfl) | (apply zl7; rfl; rfl; rfl; rfl; rfl; rfl; rfl; rfl; exact zj4 rfl; exact zat rfl; (focus repeat' first | exact zaa | assumption | apply zab | (apply Ext.get; assumption)); (apply OutS.ext; assumption; (focus repeat' first | exact Ext.refl _ | assumption | apply Ext.push | (refine Ext.trans ?_ (by assumption)))); (focus repeat' first | exact Ext.refl _ | assumption | apply Ext.push | (refine Ext.trans ?_ (by assumption))); (first | omega | (simp; omega)); (intro _ _ _ _)) | (apply zan; rfl; rfl; rfl; rfl; rfl; rfl; exact sum_ok hK (by omega) (fun x w => by have := ziM ⟨(m : Nat), pl, kl, n, ll, pg, kc, c⟩ (q : Nat) c.length x w; dsimp only at this; omega) (r5.ext (by (focus repeat' first | exact Ext.refl _ | assumption | apply Ext.push | (refine Ext.trans ?_ (by assumption))))); (rintro _ _ ⟨rfl, _⟩)) | fail))
          rename_i h6 x6 v7 h7 o7 x7
          refine zaN (ih (q + 1, v7) _ (by dsimp only; omega) ⟨hqm, x7, ?_⟩) (by (focus repeat' first | rfl | exact trivial | apply And.intro))
          rw [zli, ← ziw]
          exact o7
      · exact ⟨Nat.zero_le _, Ext.refl _, .inl ⟨rfl, rfl⟩⟩
      · (focus repeat' first | rfl | exact trivial | apply And.intro)
    · obtain rfl : q = m := by omega
      (repeat' (first | apply zal | apply zac | (apply O_at; rfl) | (apply zaf; rfl) | apply zak | (apply zaF; rfl) | apply zbd | apply zaB | apply zbe | apply zaV | apply zaW | apply zaq | ((first | apply zae | apply zad); rfl; rfl; rfl; rfl) | (apply zbp; rfl; rfl; rfl; rfl; rfl; omega) | fail))
      obtain ⟨p, cp, rfl, r5, x5⟩ := zfA hv hx
      exact ⟨.inr rfl, _, rfl, p, cp, rfl, r5, by (focus repeat' first | exact Ext.refl _ | assumption | apply Ext.push | (refine Ext.trans ?_ (by assumption)))⟩
  · exact ⟨Nat.zero_le _, Ext.refl _, .inl ⟨rfl, rfl⟩⟩
  · (focus repeat' first | rfl | exact trivial | apply And.intro)
end Go.AX.Sa

namespace Go.AX.Sa
open Go.Proofs
set_option maxRecDepth 100000
variable {K : Known}
def HeardTo (G : Pg) (j q : Int) (i : Nat) : Prop := ∃ i', i' < i ∧ (reads (ent (G.c.getD i' cop0)) j ∧ inPair (ent (G.c.getD i' cop0)) q) ∧ ¬ ∃ k, i' ≤ k ∧ k < G.c.length ∧ changes (ent (G.c.getD k cop0)) j
end Go.AX.Sa

namespace Go.AX.Sa
open Go.Proofs
set_option maxRecDepth 100000
variable {K : Known}
end Go.AX.Sa

namespace Go.AX.Sa
open Go.Proofs
set_option maxRecDepth 100000
variable {K : Known}
/-! Who misses most: program and specification. -/
theorem zki (hK : NoK K) {p q : Int × Int} {h : Heap} :
    CallW Tryz.prog K 76 #[.agg #[.int .i64 p.1, .int .i64 p.2], .agg #[.int .i64 q.1, .int .i64 q.2]] h (IfB (p.2 > q.2) h) := by
  refine body (N := 10) Tryz.func76 rfl (hK _ _ _ rfl) rfl rfl ?_
  (repeat' (first | apply zal | apply zac | (apply O_at; rfl) | (apply zaf; rfl) | apply zak | apply zaB | apply zaq | (apply zad; rfl; rfl; rfl; rfl) | (apply P_fa; rfl; rfl; rfl; rfl; exact zay rfl; (first | exact Nat.zero_add _ | exact Nat.add_zero _ | rfl)) | (apply zij; rfl; rfl; rfl; rfl; rfl; all_goals intro _) | (apply zah; rfl; rfl; rfl; rfl; exact zap rfl; (focus repeat' first | exact zaa | assumption | apply zab); (first | rfl | assumption)) | (apply zaM; rfl; rfl; rfl; rfl; exact zai rfl; rfl; rfl) | fail))
  · rename_i w
    exact ⟨.inr rfl, _, rfl, .inl ⟨rfl, w, by (focus repeat' first | exact Ext.refl _ | assumption | apply Ext.push)⟩⟩
  · rename_i w
    exact ⟨.inr rfl, _, rfl, .inr ⟨rfl, w, by (focus repeat' first | exact Ext.refl _ | assumption | apply Ext.push)⟩⟩
/-- The first of the greatest among the first ones. -/
def bstK (l : List (Int × Int)) : Nat → Int × Int
  | 0 => (0, 0)
  | k + 1 => if k = 0 ∨ (l.getD k (0, 0)).2 > (bstK l k).2 then l.getD k (0, 0) else bstK l k
theorem best_ok (hK : NoK K) {l : List (Int × Int)} {p : Option Addr} {cap : Nat} {h : Heap} (hn : l.length ≤ 1000) (hr : Rd h p (spanCells l)) :
    CallW Tryz.prog K 74 #[.slice p l.length cap, .func (.func 76) #[] #[]] h (IsV (.agg #[.int .i64 (bstK l l.length).1, .int .i64 (bstK l l.length).2]) h) := by
  refine body (N := 26) Tryz.func74 rfl (hK _ _ _ rfl) rfl rfl ?_
  (repeat' (first | apply zal | apply zac | (apply O_at; rfl) | (apply zaf; rfl) | apply zak | apply zar | ((first | apply zae | apply zad); rfl; rfl; rfl; rfl) | (apply zbm; rfl; rfl; rfl; rfl; rfl; rfl; exact zat rfl) | (apply zbh; rfl; rfl; rfl; rfl; exact zai rfl; rfl; rfl) | fail))
  refine za9 (fun k : Nat => [(10, .int .i64 (k : Nat)), (9, .int .i64 (l.length : Nat)), (8, .slice p l.length cap), (1, .func (.func 76) #[] #[]), (4, .pointer (some ⟨h.n, 0, none⟩)), (5, .pointer (some ⟨h.n + 1, 0, none⟩))])
    (fun k h' => k ≤ l.length ∧ Ext h h' ∧ h.n + 2 ≤ h'.n ∧ h'.get? h.n = some (.cells [.int .i64 0, .int .i64 0] 101 true) ∧ h'.get? (h.n + 1) = some (.cells [.int .i64 (bstK l k).1, .int .i64 (bstK l k).2] 101 true)) (fun k => l.length - k) ?_ 0 ?_ ?_
  · rintro k h' ⟨hk, hx, hn', g4, g5⟩ ih
    by_cases hlt : k < l.length
    · obtain ⟨b, e, own', rfl, hg⟩ := hr.at (by rw [zaG]; omega)
      have hg' := hx.get hg
      have hbl := Heap.get_lt hg
      by_cases hk0 : k = 0
      · subst hk0
        (repeat' (first | apply zal | apply zac | (apply O_at; rfl) | (apply zaf; rfl) | apply zak | (apply zaX; rfl) | apply zar | apply zav | apply zaC | (apply zbu; rfl; rfl; rfl) | ((first | apply zae | apply zad); rfl; rfl; rfl; rfl) | (apply zaZ; rfl; rfl; rfl; rfl; rfl; rfl) | (apply zbo; rfl; rfl; rfl; rfl; rfl; omega) | (apply zbG; rfl; rfl; rfl; rfl; rfl; omega) | (apply zbJ; rfl; rfl; rfl; rfl; rfl; (unfold fit; omega)) | (apply zcw; rfl; rfl; rfl; rfl; rfl; exact zat rfl; exact zai rfl; (first | assumption | exact zq0 | rfl | exact (Int.toNat_of_nonneg (by omega)).symm); omega) | (apply zaE; rfl; rfl; rfl; rfl; exact zaO rfl; (focus repeat' first | exact zaa | assumption | apply zab | (apply Ext.get; assumption) | (apply ExtBut.get; assumption; (first | assumption | omega | (simp only [Heap.push]; omega)))); (first | exact Nat.le_of_ble_eq_true rfl | (simp; done) | (simp; omega) | (rw [zaG]; omega)); (first | exact zbK (by omega) | rfl)) | (apply zaK; rfl; rfl; rfl; rfl; exact zai rfl; rfl; rfl; rfl) | (apply zbh; rfl; rfl; rfl; rfl; exact zai rfl; rfl; rfl) | (apply zdT; rfl; rfl; rfl; rfl; (focus repeat' first | exact zaa | assumption | apply zab | (apply Ext.get; assumption) | (apply ExtBut.get; assumption; (first | assumption | omega | (simp only [Heap.push]; omega)))); exact zai rfl; rfl; (first | rfl | exact zaj _); rfl; (intro _ _ _)) | fail))
        rename_i h3 g3 x3
        have n3 : h'.n + 1 ≤ h3.n := x3.n
        exact zaN (ih 1 _ (by omega) ⟨by omega, by (focus repeat' first | exact Ext.refl _ | assumption | apply Ext.push | (refine Ext.trans ?_ (by assumption)) | (refine Ext.ofBut ?_ (by assumption) (by first | exact Nat.le_refl _ | omega))), by omega, x3.get (by omega) (zab g4), by rw [show bstK l 1 = l.getD 0 (0, 0) from if_pos (.inl rfl)]; exact g3⟩) (by (focus repeat' first | rfl | exact trivial | apply And.intro))
      · (repeat' (first | apply zal | apply zac | (apply O_at; rfl) | (apply zaf; rfl) | apply zak | (apply zaX; rfl) | (apply zaF; rfl) | apply zar | apply zav | apply zaC | ((first | apply zae | apply zad); rfl; rfl; rfl; rfl) | (apply zaZ; rfl; rfl; rfl; rfl; rfl; rfl) | (apply zbo; rfl; rfl; rfl; rfl; rfl; omega) | (apply zbO; rfl; rfl; rfl; rfl; rfl; omega) | (apply zbJ; rfl; rfl; rfl; rfl; rfl; (unfold fit; omega)) | (apply zcw; rfl; rfl; rfl; rfl; rfl; exact zat rfl; exact zai rfl; (first | assumption | exact zq0 | rfl | exact (Int.toNat_of_nonneg (by omega)).symm); omega) | (apply zaE; rfl; rfl; rfl; rfl; exact zaO rfl; (focus repeat' first | exact zaa | assumption | apply zab | (apply Ext.get; assumption) | (apply ExtBut.get; assumption; (first | assumption | omega | (simp only [Heap.push]; omega)))); (first | exact Nat.le_of_ble_eq_true rfl | (simp; done) | (simp; omega) | (rw [zaG]; omega)); (first | exact zbK (by omega) | rfl)) | (apply zaK; rfl; rfl; rfl; rfl; exact zai rfl; rfl; rfl; rfl) | (apply zbh; rfl; rfl; rfl; rfl; exact zai rfl; rfl; rfl) | (apply zdT; rfl; rfl; rfl; rfl; (focus repeat' first | exact zaa | assumption | apply zab | (apply Ext.get; assumption) | (apply ExtBut.get; assumption; (first | assumption | omega | (simp only [Heap.push]; omega)))); exact zai rfl; rfl; (first | rfl | exact zaj _); rfl; (intro _ _ _)) | (apply zan; rfl; rfl; rfl; rfl; rfl; rfl; exact zki (p := l.getD k (0, 0)) (q := bstK l k) hK; (rintro _ _ (⟨rfl, _, _⟩ | ⟨rfl, _, _⟩))) | fail))
        · rename_i h2 w2 x2 h3 g3 x3
          have n2 : h'.n + 1 ≤ h2.n := x2.n
          have n3 := x3.n
          exact zaN (ih (k + 1) _ (by omega) ⟨by omega, by (focus repeat' first | exact Ext.refl _ | assumption | apply Ext.push | (refine Ext.trans ?_ (by assumption)) | (refine Ext.ofBut ?_ (by assumption) (by first | exact Nat.le_refl _ | omega))), by omega, x3.get (by omega) (x2.get (zab g4)), by rw [show bstK l (k + 1) = l.getD k (0, 0) from if_pos (.inr w2)]; exact g3⟩) (by (focus repeat' first | rfl | exact trivial | apply And.intro))
        · rename_i h2 w2 x2
          have n2 : h'.n + 1 ≤ h2.n := x2.n
          exact zaN (ih (k + 1) _ (by omega) ⟨by omega, by (focus repeat' first | exact Ext.refl _ | assumption | apply Ext.push | (refine Ext.trans ?_ (by assumption)) | (refine Ext.ofBut ?_ (by assumption) (by first | exact Nat.le_refl _ | omega))), by omega, x2.get (zab g4), by rw [show bstK l (k + 1) = bstK l k from if_neg (by intro q; rcases q with q | q; exact hk0 q; exact w2 q)]; exact x2.get (zab g5)⟩) (by (focus repeat' first | rfl | exact trivial | apply And.intro))
    · obtain rfl : k = l.length := by omega
      (repeat' (first | apply zal | apply zac | (apply O_at; rfl) | (apply zaf; rfl) | apply zak | (apply zaF; rfl) | apply zbd | apply zaB | apply zbe | apply zaV | apply zaW | apply zaq | (apply zbp; rfl; rfl; rfl; rfl; rfl; omega) | (apply zaE; rfl; rfl; rfl; rfl; exact zaO rfl; (focus repeat' first | exact zaa | assumption | apply zab | (apply Ext.get; assumption) | (apply ExtBut.get; assumption; (first | assumption | omega | (simp only [Heap.push]; omega)))); (first | exact Nat.le_of_ble_eq_true rfl | (simp; done) | (simp; omega) | (rw [zaG]; omega)); (first | exact zbK (by omega) | rfl)) | (apply zdT; rfl; rfl; rfl; rfl; (focus repeat' first | exact zaa | assumption | apply zab | (apply Ext.get; assumption) | (apply ExtBut.get; assumption; (first | assumption | omega | (simp only [Heap.push]; omega)))); exact zai rfl; rfl; (first | rfl | exact zaj _); rfl; (intro _ _ _)) | fail))
      rename_i h3 g3 x3
      refine ⟨.inr rfl, _, ziG rfl (readA (zaO rfl) g3 (Nat.le_refl 2) rfl) rfl, rfl, by (focus repeat' first | exact Ext.refl _ | assumption | apply Ext.push | (refine Ext.trans ?_ (by assumption)) | (refine Ext.ofBut ?_ (by assumption) (by first | exact Nat.le_refl _ | omega)))⟩
  · exact ⟨Nat.zero_le _, by (focus repeat' first | exact Ext.refl _ | assumption | apply Ext.push | (refine Ext.trans ?_ (by assumption)) | (refine Ext.ofBut ?_ (by assumption) (by first | exact Nat.le_refl _ | omega))), Nat.le_refl _, zab zaa, zaa⟩
  · (focus repeat' first | rfl | exact trivial | apply And.intro)
/-- Who misses most, of the first people. -/
noncomputable def wstK (G : Pg) : Nat → Int × Int
  | 0 => (0, 0)
  | k + 1 => if ofK G (k : Int) G.c.length > (wstK G k).2 then ((k : Int), ofK G (k : Int) G.c.length) else wstK G k
theorem zlc (G : Pg) (q : Int) : ∀ k, 0 ≤ ofK G q k ∧ ofK G q k ≤ k * G.n
  | 0 => by simp [ofK]
  | k + 1 => by
    have := zlc G q k
    have := zdQ G k
    have e1 : ((k + 1 : Nat) : Int) * (G.n : Int) = (k : Int) * G.n + G.n := by rw [Int.natCast_succ, Int.add_mul, Int.one_mul]
    unfold ofK
    rw [e1]
    split <;> omega
theorem zkg (G : Pg) : ∀ k, 0 ≤ (wstK G k).2
  | 0 => Int.le_refl 0
  | k + 1 => by
    unfold wstK
    have := zkg G k
    have := (zlc G (k : Int) G.c.length).1
    split
    · exact this
    · assumption
theorem mssL_get {G : Pg} {m k : Nat} (h : k < m) : (mssL G m).getD k (0, 0) = ((k : Int), ofK G (k : Int) G.c.length) := by simp [mssL, List.getD_eq_getElem?_getD, h]
theorem zlU (G : Pg) (m : Nat) : ∀ k, k ≤ m → bstK (mssL G m) k = wstK G k
  | 0 => fun _ => rfl
  | k + 1 => fun h => by
    have ih := zlU G m k (by omega)
    unfold bstK wstK
    rw [mssL_get (by omega), ih]
    by_cases hk : k = 0
    · subst hk
      rw [if_pos (.inl rfl)]
      have := (zlc G ((0 : Nat) : Int) G.c.length).1
      by_cases h2 : ofK G ((0 : Nat) : Int) G.c.length > (wstK G 0).2
      · rw [if_pos h2]
      · rw [if_neg h2]
        have h3 : ofK G ((0 : Nat) : Int) G.c.length = 0 := by
          have : (wstK G 0).2 = 0 := rfl
          omega
        rw [h3]
        rfl
    · by_cases h2 : ofK G (k : Int) G.c.length > (wstK G k).2
      · rw [if_pos h2, if_pos (.inr h2)]
      · rw [if_neg h2, if_neg (by intro q; rcases q with q | q; exact hk q; exact h2 q)]
noncomputable def wst (G : Pg) : Int × Int := wstK G G.people.toNat
theorem zir (hK : NoK K) {G : Pg} {h : Heap} (hT : PgAt G h) (hs : ShortP G) (hP : PgP G) :
    CallW Tryz.prog K 38 #[pgV G] h (IsV (if (wst G).2 = 0 then .tuple #[.int .i64 0, .int .i64 0, .int .i64 5] else .tuple #[.int .i64 (wst G).1, .int .i64 (wst G).2, .int .i64 0]) h) := by
  have hlm := ziK G G.people.toNat
  have hp := hP.people
  refine body (N := 19) Tryz.func38 rfl (hK _ _ _ rfl) rfl rfl ?_
  (repeat' (first | apply zal | apply zac | (apply O_at; rfl) | (apply zaf; rfl) | apply zak | (apply zaF; rfl) | apply zav | ((first | apply zad | apply zbj | apply zaI); rfl; rfl; rfl; rfl) | (apply zaE; rfl; rfl; rfl; rfl; exact zaO rfl; (focus repeat' first | exact zaa | assumption | (apply Ext.get; assumption)); (first | exact Nat.le_of_ble_eq_true rfl | (simp; done) | (simp; omega)); rfl) | (apply zaM; rfl; rfl; rfl; rfl; exact zai rfl; rfl; rfl) | (apply zan; rfl; rfl; rfl; rfl; rfl; rfl; exact yes (zc4 hK (hT.ext (by (focus repeat' first | exact Ext.refl _ | assumption | apply Ext.push | (refine Ext.trans ?_ (by assumption))))) hs) hP; (rintro _ _ ⟨rfl, _⟩)) | fail))
  rename_i h1 x1
  apply zan; rfl; rfl; rfl; rfl; rfl; rfl
  exact zlj hK (hT.ext (by (focus repeat' first | exact Ext.refl _ | assumption | apply Ext.push | (refine Ext.trans ?_ (by assumption))))) hP
  rintro _ h2 ⟨p, cap, rfl, r2, x2⟩
  have e0 : bstK (mssL G G.people.toNat) (mssL G G.people.toNat).length = wst G := by rw [hlm]; exact zlU G _ _ (Nat.le_refl _)
  (repeat' (first | apply zal | apply zac | (apply O_at; rfl) | (apply N_at; rfl) | (apply zaf; rfl) | apply zak | (apply zaX; rfl) | (apply zaF; rfl) | (apply za7; exact zau (by decide +kernel)) | apply zav | apply zaB | (apply zbr; rfl; exact (.inl (Nat.le_refl 1))) | apply za8 | apply zaq | ((first | apply zad | apply zbj | apply zaI); rfl; rfl; rfl; rfl) | ((first | apply P_fa | apply M_fa); rfl; rfl; rfl; rfl; exact zay rfl; (first | exact Nat.zero_add _ | exact Nat.add_zero _ | rfl)) | (apply zg7; rfl; rfl; rfl; rfl; rfl; all_goals intro _) | (apply zah; rfl; rfl; rfl; rfl; exact zap rfl; (focus repeat' first | exact zaa | assumption | (apply Ext.get; assumption)); (first | rfl | assumption)) | (apply zaK; rfl; rfl; rfl; rfl; exact zai rfl; rfl; rfl; rfl) | (apply zbh; rfl; rfl; rfl; rfl; exact zai rfl; rfl; rfl) | (((apply zbb; rfl; rfl; rfl; rfl; exact zap rfl; exact zax (by decide +kernel)); (focus repeat' first | exact zaa | assumption | (apply Ext.get; assumption)); (first | rfl | assumption)); (first | assumption | exact zaH _ _ | rfl | (focus simp [same, same.all2]; done)); (first | rfl | assumption | exact hwv _ | (simp [within]; omega))) | (apply zan; rfl; rfl; rfl; rfl; rfl; rfl; exact best_ok hK (l := mssL G G.people.toNat) (by omega) (r2.ext (by (focus repeat' first | exact Ext.refl _ | assumption | apply Ext.push | (refine Ext.trans ?_ (by assumption))))); (rintro _ _ ⟨rfl, _⟩)) | fail))
  · rename_i h3 x3 w
    rw [e0] at w
    rw [if_pos w]
    exact ⟨.inr rfl, _, rfl, rfl, by (focus repeat' first | exact Ext.refl _ | assumption | apply Ext.push | (refine Ext.trans ?_ (by assumption)))⟩
  · rename_i h3 x3 w
    rw [e0] at w
    rw [if_neg w, ← e0]
    exact ⟨.inr rfl, _, rfl, rfl, by (focus repeat' first | exact Ext.refl _ | assumption | apply Ext.push | (refine Ext.trans ?_ (by assumption)))⟩
theorem worst_no (hK : NoK K) {G : Pg} {h : Heap} (hT : PgAt G h) (hs : ShortP G) (hP : ¬ PgP G) : CallW Tryz.prog K 38 #[pgV G] h (IsV (.tuple #[.int .i64 0, .int .i64 0, .int .i64 2]) h) := by
  refine body (N := 19) Tryz.func38 rfl (hK _ _ _ rfl) rfl rfl ?_
  (repeat' (first | apply zal | apply zac | (apply O_at; rfl) | (apply zaf; rfl) | apply zak | (apply zaX; rfl) | apply zaB | apply za8 | apply zaq | ((first | apply zad | apply zbj); rfl; rfl; rfl; rfl) | (apply zaE; rfl; rfl; rfl; rfl; exact zaO rfl; (focus repeat' first | exact zaa | assumption); (first | exact Nat.le_of_ble_eq_true rfl | (simp; done) | (simp; omega)); rfl) | (apply zaM; rfl; rfl; rfl; rfl; exact zai rfl; rfl; rfl) | (apply zan; rfl; rfl; rfl; rfl; rfl; rfl; exact no (zc4 hK (hT.ext (by (focus repeat' first | exact Ext.refl _ | assumption | apply Ext.push | (refine Ext.trans ?_ (by assumption))))) hs) hP; (rintro _ _ ⟨rfl, _⟩)) | fail))
  exact ⟨.inr rfl, _, rfl, rfl, by (focus repeat' first | exact Ext.refl _ | assumption | apply Ext.push | (refine Ext.trans ?_ (by assumption)))⟩
end Go.AX.Sa

namespace Go.AX.Sa
open Go.Proofs
set_option maxRecDepth 100000
variable {K : Known}
abbrev TrueB : Value → Heap → Prop := fun v _ => v = .bool true
end Go.AX.Sa
