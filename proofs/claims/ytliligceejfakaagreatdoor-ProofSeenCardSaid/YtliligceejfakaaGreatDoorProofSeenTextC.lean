/- The law ProofSeen at the reading: what the functions that it calls answer (3). -/
import Derived.Test.YtliligceejfakaaGreatDoorProofSeenTextB
import Derived.Test.YtliligceejfakaaGreatDoorAxX
import Derived.Test.YtliligceejfakaaGreatDoorProofSeenTextA
namespace Go.AX.Sa
open Go.Proofs
set_option maxRecDepth 100000
variable {K : Known}
theorem zeroL : zbj Tryz.prog 30 = some (.slice none 0 0) := by kernel_rfl
def OwnR (h0 h : Heap) (rs : List Row) (f : Nat -> List Int) : Prop := ∀ j, j < rs.length -> OutI 3 h0 h (rowV (rs.getD j row0)) (f j) /\ (rs.getD j row0).s = f j
theorem OwnR.ext {h0 h h1 : Heap} {rs : List Row} {f : Nat -> List Int} (o : OwnR h0 h rs f) (x : Ext h h1) : OwnR h0 h1 rs f := fun j hj => ⟨(o j hj).1.ext x, (o j hj).2⟩
noncomputable def nowR (G : Pg) (k : Nat) (j : Nat) : List Int := if j < k then misL G j else []
theorem nowR_ne {G : Pg} {k j : Nat} (h : j ≠ k) : nowR G (k + 1) j = nowR G k j := by
 unfold nowR
 by_cases q : j < k
 ·rw [if_pos q, if_pos (by omega)]
 ·rw [if_neg q, if_neg (by omega)]
set_option maxHeartbeats 4000000 in
theorem zjH (hK : NoK K) {G : Pg} {h : Heap} (hT : PgAt G h) (hP : PgP G) :
  CallW Tryz.prog K 73 #[pgV G] h (fun v h1 => ∃ ba rs, v = .slice (some ⟨ba, 0, none⟩) G.c.length G.c.length /\ rs.length = G.c.length /\ h1.get? ba = some (.cells (zbH rs) 30 true) /\ OwnR h h1 rs (misL G) /\ Ext h h1) := by
 have hT' := hT
 have hent := hP.ent
 have hc10 := hP.c
 have hnn := hP.n
 have hP' := hP
 obtain ⟨people, pl, kl, n, ll, pg, kc, c⟩ := G
 obtain ⟨len, rl, rc, each, hbl, hpb⟩ := hT
 dsimp only [pgV] at len rl rc each hbl hpb hent hc10 hnn ⊢
 refine bodyM (N := 43) Tryz.func73 rfl (hK _ _ _ rfl) rfl rfl ?_
 refine zc1 (zff ?_)
 (repeat' (first|apply zac|(apply O_at;rfl)|(apply zam;rfl)|apply zaE|((first|apply zah|apply zad|apply zaJ);rfl;rfl;rfl;rfl)|(apply zbo;rfl;rfl;rfl;rfl;exact zal rfl;rfl;rfl)|fail))
 refine Or.inl ⟨rfl, ?_⟩
 refine zc1 (zff ?_)
 (repeat' (first|apply zac|(apply O_at;rfl)|(apply P_fa;rfl;rfl;rfl;rfl;exact zaN rfl;(first|exact Nat.zero_add _|exact Nat.add_zero _|rfl))|(apply zbO;rfl;rfl;rfl;rfl;rfl;rfl;exact zaB rfl)|(apply zak;rfl;rfl;rfl;rfl;exact zax rfl;(focus repeat' first|exact zaa|assumption|apply zab|(apply Ext.get;assumption)|(apply ExtBut.get;assumption;(first|assumption|omega|(simp only [Heap.push];omega))));(first|rfl|assumption))|fail))
 refine P_makeL rfl rfl rfl rfl rfl (zgQ rfl) zeroL (by omega) (by omega) ?_
 rw [show ((c.length : Nat) : Int).toNat = c.length from Int.toNat_natCast _, show List.replicate c.length (Value.slice none 0 0) = zbH (List.replicate c.length row0) from by simp [zbH, rowV, row0]]
 (repeat' (first|(apply O_at;rfl)|(apply zam;rfl)|apply zaE|(apply zaO;rfl;rfl;rfl;rfl;exact zal rfl;rfl;rfl;rfl)|(apply zbr;rfl;rfl;rfl;rfl;exact zal rfl;rfl;rfl)|fail))
 refine Or.inl ⟨rfl, ?_⟩
 refine zc1 (zff ?_)
 (repeat' (first|apply zac|(apply O_at;rfl)|(apply zaL;rfl;rfl;rfl;rfl;exact za4 rfl;(focus repeat' first|exact zaa|assumption|apply zab|(apply Ext.get;assumption)|(apply ExtBut.get;assumption;(first|assumption|omega|(simp only [Heap.push];omega))));(first|exact Nat.le_of_ble_eq_true rfl|(rw [zdy];omega)|(rw [zaD];omega)|(simp;done)|(simp;omega));(first|exact zaC (by omega)|rfl))|fail))
 apply zap; rfl; rfl; rfl; rfl; rfl; rfl
 exact zke hK (G := ⟨people, pl, kl, n, ll, pg, kc, c⟩) (hT'.ext (by (focus repeat' first | exact Ext.refl _ | assumption | apply Ext.push | (refine Ext.trans ?_ (by assumption)) | (refine Ext.ofBut ?_ (by assumption) (by first | exact Nat.le_refl _ | omega))))) (by dsimp only; omega)
 rintro _ h1 ⟨s, bn, bs, r, rfl, S, hns, ⟨b1, b2, b3, b4⟩, x1⟩
 (repeat' (first|(apply O_at;rfl)|(apply zam;rfl)|apply zaE|(apply zaO;rfl;rfl;rfl;rfl;exact zal rfl;rfl;rfl;rfl)|(apply zbr;rfl;rfl;rfl;rfl;exact zal rfl;rfl;rfl)|fail))
 refine Or.inl ⟨rfl, ?_⟩
 refine zc1 (zff ?_)
 (repeat' (first|apply zac|(apply O_at;rfl)|(apply zam;rfl)|apply zaE|((first|apply zah|apply zad|apply zaJ);rfl;rfl;rfl;rfl)|(apply P_fa;rfl;rfl;rfl;rfl;exact zaN rfl;(first|exact Nat.zero_add _|exact Nat.add_zero _|rfl))|(apply zbO;rfl;rfl;rfl;rfl;rfl;rfl;exact zaB rfl)|(apply zak;rfl;rfl;rfl;rfl;exact zax rfl;(focus repeat' first|exact zaa|assumption|apply zab|(apply Ext.get;assumption)|(apply ExtBut.get;assumption;(first|assumption|omega|(simp only [Heap.push];omega))));(first|rfl|assumption))|fail))
 refine Or.inl ⟨rfl, ?_⟩
 have n1 : h.n + 3 <= h1.n := x1.n
 have x01 : Ext h h1 := (((Ext.refl h).push _).push _).push _ |>.trans x1
 have gp : h1.get? h.n = some (.cells [.int .i64 people, .slice pl n kl, .slice pg c.length kc] 25 true) := x1.get (zab (zab zaa))
 have ga : h1.get? (h.n + 1) = some (.cells (zbH (List.replicate c.length row0)) 30 true) := x1.get (zab zaa)
 have g3 : h1.get? (h.n + 2) = some (.cells [.slice (some ⟨h.n + 1, 0, none⟩) c.length c.length] 98 true) := x1.get zaa
 have b1' : h.n + 3 <= s := b1
 have b2' : h.n + 3 <= bn := b2
 have b3' : h.n + 3 <= bs := b3
 have b4' : h.n + 3 <= r := b4
 obtain ⟨l1, l2, l3, l4⟩ : s < h1.n /\ bn < h1.n /\ bs < h1.n /\ r < h1.n := by
  obtain ⟨f, ⟨w1, w2, w3, w4, _, _⟩, _⟩ := S
  exact ⟨Heap.get_lt w1, Heap.get_lt w2, Heap.get_lt w3, w4.lt⟩
 refine zc1 (ziZ (KM_loop (fun a : Nat × List Row => [(17, .int .i64 (a.1 : Nat)), (16, .int .i64 (c.length : Nat)), (15, .slice pg c.length kc), (4, .pointer (some ⟨h1.n, 0, none⟩)), (3, .pointer (some ⟨h.n + 2, 0, none⟩)), (1, .pointer (some ⟨h.n, 0, none⟩))])
  (fun a h' M => a.1 <= c.length /\ a.2.length = c.length /\ StL ⟨people, pl, kl, n, ll, pg, kc, c⟩ ((logL ⟨people, pl, kl, n, ll, pg, kc, c⟩).take a.1) s bn bs r h' /\ h1.n + 1 <= h'.n /\
   (∀ b x, b ≠ bn -> b ≠ bs -> b ≠ r -> b ≠ h.n + 1 -> (h1.push (.cells [.pointer (some ⟨s, 0, none⟩)] 88 true)).get? b = some x -> h'.get? b = some x) /\ h'.get? (h.n + 1) = some (.cells (zbH a.2) 30 true) /\
   OwnR h1 h' a.2 (nowR ⟨people, pl, kl, n, ll, pg, kc, c⟩ a.1) /\ M.Nodup /\ (∀ r ∈ M, h'.get? r = some (.obj (.deferred (some [])))) /\ (∀ r ∈ M, h1.n + 1 <= r)) (fun a => c.length - a.1) ?_ (0, List.replicate c.length row0) ?_ ?_))
 ·rintro ⟨k, rs⟩ h' M ⟨hk, hrl, S, hn', old, gr, ho, hM1, hM2, hM3⟩ ih
  dsimp only at hk hrl S hn' old gr ho ih ⊢
  have hold : ∀ {q : Nat} {x : Blk}, h.get? q = some x -> h'.get? q = some x := fun g => by
   have := Heap.get_lt g
   exact old _ _ (by omega) (by omega) (by omega) (by omega) (zab (x01.get g))
  have xh : Ext h h' := ⟨by omega, fun _ _ g => hold g⟩
  have gp' := old _ _ (by omega) (by omega) (by omega) (by omega) (zab gp)
  have g3' := old _ _ (by omega) (by omega) (by omega) (by omega) (zab g3)
  have g4' := old _ _ (by omega) (by omega) (by omega) (by omega) zaa
  by_cases hlt : k < c.length
  ·obtain ⟨b, e, own, rfl, hg⟩ := rc.at (by rw [zaD]; omega)
   have hcb := (each k hlt).b
   have hrow := each k hlt
   have hE := hent k hlt
   have hg' := hold hg
   refine zc1 (zff ?_)
   (repeat' (first|apply zac|(apply O_at;rfl)|(apply zam;rfl)|apply zaE|(apply zb9;rfl;rfl;rfl;rfl;rfl;omega)|fail))
   refine Or.inl ⟨rfl, ?_⟩
   refine zc1 (zff ?_)
   (repeat' (first|(apply zbp;rfl)|apply zaK|apply zaE|fail))
   refine Or.inl ⟨rfl, ?_⟩
   refine zc1 (zqF (Q := fun e E1 h2 M1 => e = .normal /\ ∃ rs', E1.get 17 = some (.int .i64 (k : Nat)) /\ E1.get 16 = some (.int .i64 (c.length : Nat)) /\ E1.get 15 = some (.slice (some ⟨b, 0, none⟩) c.length kc) /\ E1.get 4 = some (.pointer (some ⟨h1.n, 0, none⟩)) /\ E1.get 3 = some (.pointer (some ⟨h.n + 2, 0, none⟩)) /\ E1.get 1 = some (.pointer (some ⟨h.n, 0, none⟩)) /\
    (k + 1 <= c.length /\ rs'.length = c.length /\ StL ⟨people, pl, kl, n, ll, some ⟨b, 0, none⟩, kc, c⟩ ((logL ⟨people, pl, kl, n, ll, some ⟨b, 0, none⟩, kc, c⟩).take (k + 1)) s bn bs r h2 /\ h1.n + 1 <= h2.n /\
   (∀ b' x, b' ≠ bn -> b' ≠ bs -> b' ≠ r -> b' ≠ h.n + 1 -> (h1.push (.cells [.pointer (some ⟨s, 0, none⟩)] 88 true)).get? b' = some x -> h2.get? b' = some x) /\ h2.get? (h.n + 1) = some (.cells (zbH rs') 30 true) /\
   OwnR h1 h2 rs' (nowR ⟨people, pl, kl, n, ll, some ⟨b, 0, none⟩, kc, c⟩ (k + 1)) /\ M1.Nodup /\ (∀ r ∈ M1, h2.get? r = some (.obj (.deferred (some [])))) /\ (∀ r ∈ M1, h1.n + 1 <= r))) (ziZ ?_) ?_)
   ·refine zc1 (zff ?_)
    (repeat' (first|apply zac|(apply O_at;rfl)|(apply zam;rfl)|apply zaE|((first|apply zah|apply zad|apply zaJ);rfl;rfl;rfl;rfl)|(apply zcI;rfl;rfl;rfl;rfl;rfl;exact zaB rfl;exact zal rfl;(first|assumption|rfl|exact (Int.toNat_of_nonneg (by omega)).symm);omega)|(apply zaL;rfl;rfl;rfl;rfl;exact za4 rfl;(focus repeat' first|exact zaa|assumption|apply zab|(apply Ext.get;assumption)|(apply ExtBut.get;assumption;(first|assumption|omega|(simp only [Heap.push];omega))));(first|exact Nat.le_of_ble_eq_true rfl|(rw [zdy];omega)|(rw [zaD];omega)|(simp;done)|(simp;omega));(first|exact zaC (by omega)|rfl))|(apply zbr;rfl;rfl;rfl;rfl;exact zal rfl;rfl;rfl)|(apply zf3;rfl;rfl;rfl;rfl;(focus repeat' first|exact zaa|assumption|apply zab|(apply Ext.get;assumption)|(apply ExtBut.get;assumption;(first|assumption|omega|(simp only [Heap.push];omega))));exact zal rfl;rfl;(first|rfl|exact zaj _);rfl;(intro _ _ _))|fail))
    rename_i h2 ga5 y2 h3 ge6 y3
    have z3 : Ext h' h3 := Ext.ofBut (Ext.ofBut (((Ext.refl h').push _).push _) y2 (Nat.le_refl _)) y3 (Nat.le_succ _)
    have ga3 := y3.get (by simp only [Heap.push]; omega) ga5
    have hn3 : h'.n + 2 <= h3.n := Nat.le_trans y2.n y3.n
    refine Or.inl ⟨rfl, ?_⟩
    refine zc1 (zc1 (zff ?_))
    (repeat' (first|apply zac|(apply O_at;rfl)|(apply zaL;rfl;rfl;rfl;rfl;exact za4 rfl;(focus repeat' first|exact zaa|assumption|apply zab|(apply Ext.get;assumption)|(apply ExtBut.get;assumption;(first|assumption|omega|(simp only [Heap.push];omega))));(first|exact Nat.le_of_ble_eq_true rfl|(rw [zdy];omega)|(rw [zaD];omega)|(simp;done)|(simp;omega));(first|exact zaC (by omega)|rfl))|fail))
    apply zap; rfl; rfl; rfl; rfl; rfl; rfl
    exact zie (c := c.getD k cop0) hK (hrow.ext (xh.trans z3)) hE
    rintro _ h5 ⟨x5, bz, rfl, hbz, gz⟩
    (repeat' (first|(apply zam;rfl)|apply zaE|fail))
    refine Or.inl ⟨rfl, ?_⟩
    have n5 := x5.n
    have ga35 := x5.get ga3
    have gp5 := x5.get (z3.get gp')
    have g35 := x5.get (z3.get g3')
    have g45 := x5.get (z3.get g4')
    have gr5 := x5.get (z3.get gr)
    have ge5 := x5.get ge6
    refine zqF (Q := fun e E1 h6 M1 => e = .normal /\ ∃ rs', E1.get 17 = some (.int .i64 (k : Nat)) /\ E1.get 16 = some (.int .i64 (c.length : Nat)) /\ E1.get 15 = some (.slice (some ⟨b, 0, none⟩) c.length kc) /\ E1.get 4 = some (.pointer (some ⟨h1.n, 0, none⟩)) /\ E1.get 3 = some (.pointer (some ⟨h.n + 2, 0, none⟩)) /\ E1.get 1 = some (.pointer (some ⟨h.n, 0, none⟩)) /\ E1.get 6 = some (.pointer (some ⟨h'.n + 1, 0, none⟩)) /\
     rs'.length = c.length /\ ExtBut (h.n + 1) h5 h6 /\ h6.get? (h.n + 1) = some (.cells (zbH rs') 30 true) /\ OwnR h1 h6 rs' (nowR ⟨people, pl, kl, n, ll, some ⟨b, 0, none⟩, kc, c⟩ (k + 1)) /\ M1 = h5.n :: M /\ h6.get? h5.n = some (.obj (.deferred (some [])))) (ziZ (KM_range (g0 := 134) (fi := #[]) (ca := #[.pointer (some ⟨bz, 0, none⟩)]) rfl rfl rfl ?_)) ?_
    ·intro tm l hb rr hEO hr hl hxb hbn hlb hdb
     have bzl : bz < h5.n := Heap.get_lt gz
     have hlo : 0 <= rlo (ent (c.getD k cop0)) /\ rhi (ent (c.getD k cop0)) <= (n : Int) - 1 /\ rlo (ent (c.getD k cop0)) <= rhi (ent (c.getD k cop0)) + 1 := by
      unfold rlo rhi
      by_cases h1k : (ent (c.getD k cop0)).1 = 1
      ·have hE' := hE
       have z := ent1.1 (show EntP people n (1, (c.getD k cop0).r.s) from by rw [<- h1k]; exact hE)
       rw [if_pos h1k, if_pos h1k]
       simp only [ent]
       unfold LinP at z
       omega
      ·rw [if_neg h1k, if_neg h1k]; omega
     refine (zk0 hK (e := 140) (own := true) (bs := bz) (l := l) (p := (rlo (ent (c.getD k cop0)), rhi (ent (c.getD k cop0)))) ⟨by dsimp only; omega, by dsimp only; omega, by dsimp only; omega⟩
      (fun i h8 => h8.get? l = some (.obj (.loop rr)) /\ (∀ b' x, b' ≠ l -> b' ≠ h.n + 1 -> hb.get? b' = some x -> h8.get? b' = some x) /\ hb.n <= h8.n /\ ∃ rw : Row, h8.get? (h.n + 1) = some (.cells (zbH (rs.set k rw)) 30 true) /\ OutI 3 hb h8 (rowV rw) (filL (MsP ⟨people, pl, kl, n, ll, some ⟨b, 0, none⟩, kc, c⟩ k) (rlo (ent (c.getD k cop0)) + (i : Nat)).toNat) /\ rw.s = filL (MsP ⟨people, pl, kl, n, ll, some ⟨b, 0, none⟩, kc, c⟩ k) (rlo (ent (c.getD k cop0)) + (i : Nat)).toNat)
      (fun _ => False) ?_ ?_ ?_).mono ?_
     ·rintro i h8 ⟨_, kk, _, _⟩
      exact kk bz _ (by omega) (by omega) (hxb.get gz)
     ·have h0 := ho k (by omega)
      rw [show nowR ⟨people, pl, kl, n, ll, some ⟨b, 0, none⟩, kc, c⟩ k k = [] from if_neg (Nat.lt_irrefl k)] at h0
      refine ⟨hlb, fun b' x _ _ g => g, Nat.le_refl _, rs.getD k row0, by rw [set_getD]; exact hxb.get gr5, ?_⟩
      rw [show (rlo (ent (c.getD k cop0)) + ((0 : Nat) : Int)).toNat = (rlo (ent (c.getD k cop0))).toNat by omega, mis_none (G := ⟨people, pl, kl, n, ll, some ⟨b, 0, none⟩, kc, c⟩)]
      refine ⟨.inl ⟨rfl, ?_⟩, h0.2⟩
      rcases h0.1 with q | q
      ·exact q.2
      ·exact absurd rfl q.1
     ·rintro i h8 hle ⟨gl, kk, nn, rw, gr8, o8, es8⟩
      refine zoK (N := 43) gl hr rfl (EnvOK.param hEO rfl) ?_
      (repeat' (first|apply zac|(apply O_at;rfl)|(apply zam;rfl)|apply zaE|((first|apply zah|apply zad|apply zaJ);rfl;rfl;rfl;rfl)|fail))
      refine ⟨rfl, gl, fun Bz hs hsl hsk hsn => ?_⟩
      have old5 : ∀ {b' : Nat} {x : Blk}, b' ≠ l -> b' ≠ h.n + 1 -> h5.get? b' = some x -> hs.get? b' = some x := fun q q2 g => hsk _ _ q (kk _ _ q q2 (hxb.get g))
      have gps := old5 (by omega) (by omega) gp5
      have gas := old5 (by omega) (by omega) ga35
      have g3s := old5 (by omega) (by omega) g35
      have g4s := old5 (by omega) (by omega) g45
      have grs := hsk _ _ (by omega) gr8
      have xs : ExtBut (h.n + 1) h' hs := ⟨by rw [hsn]; omega, fun q y q1 g => old5 (by have := Heap.get_lt g; omega) q1 (x5.get (z3.get g))⟩
      have xhs : Ext h hs := ⟨by have := xs.n; omega, fun q y g => xs.get (by have := Heap.get_lt g; omega) (xh.get g)⟩
      (repeat' (first|apply zar|apply zac|(apply O_at;rfl)|apply zaA|((first|apply zah|apply zad|apply zaJ);rfl;rfl;rfl;rfl)|(apply zak;rfl;rfl;rfl;rfl;exact zax rfl;(focus repeat' first|exact zaa|assumption|apply zab|(apply Ext.get;assumption)|(apply ExtBut.get;assumption;(first|assumption|omega|(simp only [Heap.push];omega))));(first|rfl|assumption))|fail))
      obtain ⟨j, hj⟩ : ∃ j : Nat, rlo (ent (c.getD k cop0)) + (i : Nat) = (j : Nat) := ⟨(rlo (ent (c.getD k cop0)) + (i : Nat)).toNat, by omega⟩
      dsimp only at hle ⊢
      rw [hj] at o8 es8 hle
      rw [Int.toNat_natCast] at o8 es8
      have hjn : j < n := by omega
      apply zap; rfl; rfl; rfl; rfl; rfl; rfl
      exact zhN (G := ⟨people, pl, kl, n, ll, some ⟨b, 0, none⟩, kc, c⟩) hK (S.keepB xs (by omega) (by omega) (by omega) (by omega)) (hT'.ext xhs) hjn (by dsimp only; omega) hj
      rintro _ h9 (⟨rfl, w, x9⟩ | ⟨rfl, w, x9⟩)
      ·(repeat' (first|(apply N_at;rfl)|(apply zam;rfl)|apply zao|(apply zbp;rfl)|(apply zbW;exact zaP (by decide +kernel))|(apply zdY;rfl;rfl;rfl;rfl;rfl;exact zaB rfl;exact zal rfl;(first|assumption|rfl|exact (Int.toNat_of_nonneg (by omega)).symm);omega)|(((first|(apply zbQ;rfl;rfl;rfl;rfl;exact zax rfl;exact zaY (by decide +kernel))|(apply M_load1H;rfl;rfl;rfl;rfl;exact zax rfl;exact zn1 (by decide +kernel)));(focus repeat' first|exact zaa|assumption|apply zab|(apply Ext.get;assumption)|(apply ExtBut.get;assumption;(first|assumption|omega|(simp only [Heap.push];omega))));(first|rfl|assumption));(first|assumption|exact za1 _ _|exact zbT _ _ _|rfl|(focus simp [same,same.all2];done));(first|rfl|assumption|exact hwv _|(focus apply zbS;(focus repeat' first|exact zaa|assumption|apply zab|(apply Ext.get;assumption)|(apply ExtBut.get;assumption;(first|assumption|omega|(simp only [Heap.push];omega))));done)|(simp [within];omega)))|fail))
       have o9 := (o8.keepl hsk (by omega)).ext x9
       refine zbQ rfl rfl rfl rfl (zax rfl) (zaY (by decide +kernel)) (x9.get grs) (rows_set (by omega)) ?_ (zkP o9) ?_
       ·exact zbT _ _ _
       (repeat' (first|(apply N_at;rfl)|((first|apply zah|apply zad|apply zaJ);rfl;rfl;rfl;rfl)|(apply ziW;rfl;rfl;rfl;rfl;rfl;rfl;rfl;exact zgQ rfl)|fail))
       refine M_appIK rfl rfl rfl rfl rfl rfl rfl rfl (zgQ rfl) (zaB rfl) zaa (o9.ext ((Ext.refl _).push _)) (by have := x9.n; simp only [Heap.push]; omega) (by have := zfY (MsP ⟨people, pl, kl, n, ll, some ⟨b, 0, none⟩, kc, c⟩ k) j; omega) rfl ?_
       intro v7 h10 o10 k10
       rw [hj] at o10
       have gr10 := k10.lo (by omega) (zab (x9.get grs))
       obtain ⟨rw', hrw', hs'⟩ : ∃ rw' : Row, v7 = rowV rw' /\ rw'.s = filL (MsP ⟨people, pl, kl, n, ll, some ⟨b, 0, none⟩, kc, c⟩ k) j ++ [((j : Nat) : Int)] := by
        rcases o10 with ⟨q, _⟩ | ⟨_, b7, rfl, _⟩
        ·simp at q
        ·exact ⟨⟨some ⟨b7, 0, none⟩, unk, _⟩, rfl, rfl⟩
       subst hrw'
       have g39 := x9.get g3s
       have ga9 := x9.get gas
       have g310 := k10.lo (by omega) (zab g39)
       have ga10 := k10.lo (by omega) (zab ga9)
       (repeat' (first|(apply N_at;rfl)|(apply zdY;rfl;rfl;rfl;rfl;rfl;exact zaB rfl;exact zal rfl;(first|assumption|rfl|exact (Int.toNat_of_nonneg (by omega)).symm);omega)|fail))
       refine ziV rfl rfl rfl rfl gr10 (zal rfl) rfl (by rw [zdy, List.length_set]; omega) rfl (rows_put (r := rw') (by rw [List.length_set]; omega) rfl rfl) rfl ?_
       intro h11 g11 x11
       (repeat' (first|(apply zcw;rfl;refine .inr ?_;(focus repeat' first|exact trivial|exact Keeps.nil _ _|apply And.intro|rfl|(apply Keeps.cons;iterate 2 (focus repeat' first|exact zaa|assumption|apply zab|(apply Ext.get;assumption)|(apply ExtBut.get;assumption;(first|assumption|omega|(simp only [Heap.push];omega)))))))|apply zaU|apply zaE|fail))
       have n11 := x11.n
       have n10 : h9.n + 1 <= h10.n := k10.n
       have n9 := x9.n
       refine ⟨x11.get (by omega) (k10.lo (by omega) (zab (x9.get hsl))), none, rfl, fun hf hfl hfk hfn => Or.inl ⟨rfl, by rw [zgA hr] at hfl; exact hfl, fun b' x q q2 g => hfk b' x q (x11.get q2 (k10.lo (Heap.get_lt g) (zab (x9.get (hsk b' x q (kk b' x q q2 g)))))), by omega, rw', hfk _ _ (by omega) (by simpa using g11), ?_⟩⟩
       rw [show (rlo (ent (c.getD k cop0)) + ((i + 1 : Nat) : Int)).toNat = j + 1 by omega, zdQ, if_pos ((mis_is (G := ⟨people, pl, kl, n, ll, some ⟨b, 0, none⟩, kc, c⟩) (by dsimp only; omega) (by dsimp only; omega)).2 w)]
       exact ⟨(o10.but x11 (by omega)).keepl hfk (by omega), hs'⟩
      ·(repeat' (first|(apply zam;rfl)|apply zao|(apply zaR;rfl)|apply zaK|apply zaU|apply zaE|fail))
       refine ⟨x9.get hsl, none, rfl, fun hf hfl hfk hfn => Or.inl ⟨rfl, by rw [zgA hr] at hfl; exact hfl, fun b' x q q2 g => hfk b' x q (x9.get (hsk b' x q (kk b' x q q2 g))), by have := x9.n; omega, rw, hfk _ _ (by omega) (x9.get grs), ?_⟩⟩
       rw [show (rlo (ent (c.getD k cop0)) + ((i + 1 : Nat) : Int)).toNat = j + 1 by omega, zdQ, if_neg (fun q => w ((mis_is (G := ⟨people, pl, kl, n, ll, some ⟨b, 0, none⟩, kc, c⟩) (by dsimp only; omega) (by dsimp only; omega)).1 q)), List.append_nil]
       exact ⟨((o8.keepl hsk (by omega)).ext x9).keepl hfk (by omega), es8⟩
     ·rintro _ h6 (⟨gl, kk, nn, rw, gr8, o8, es8⟩ | q)
      ·refine ⟨none, by rw [zgA hr]; exact gl, fun h7 k7 n7 => KM_skip (Or.inr ⟨(by intro q; cases q), rfl, rs.set k rw, rfl, rfl, rfl, rfl, rfl, rfl, rfl, by simpa using hrl, ⟨by rw [n7]; exact Nat.le_trans hxb.n nn, fun q y q1 g => k7 q y (by have := Heap.get_lt g; omega) (kk q y (by have := Heap.get_lt g; omega) q1 (hxb.get g))⟩, k7 _ _ (by omega) gr8, ?_, rfl, k7 _ _ (by omega) (kk _ _ (by omega) (by omega) hdb)⟩)⟩
       intro j hj
       rw [List.length_set] at hj
       by_cases hjk : j = k
       ·subst hjk
        rw [ziA hj, show nowR ⟨people, pl, kl, n, ll, some ⟨b, 0, none⟩, kc, c⟩ (j + 1) j = misL ⟨people, pl, kl, n, ll, some ⟨b, 0, none⟩, kc, c⟩ j from if_pos (Nat.lt_succ_self j), <- mis_all (by dsimp only; omega)]
        have e1 : (rlo (ent (c.getD j cop0)) + ((((rlo (ent (c.getD j cop0)), rhi (ent (c.getD j cop0))) : Int × Int).2 - ((rlo (ent (c.getD j cop0)), rhi (ent (c.getD j cop0))) : Int × Int).1 + 1).toNat : Int)).toNat = (rhi (ent (c.getD j cop0)) + 1).toNat := by dsimp only; omega
        rw [e1] at o8 es8
        exact ⟨(o8.keepl k7 (by omega)).low (by omega), es8⟩
       ·rw [zlk hjk, show nowR ⟨people, pl, kl, n, ll, some ⟨b, 0, none⟩, kc, c⟩ (k + 1) j = nowR ⟨people, pl, kl, n, ll, some ⟨b, 0, none⟩, kc, c⟩ k j from nowR_ne hjk]
        have w7 : ExtBut (h.n + 1) h' h7 := ⟨by rw [n7]; have := hxb.n; omega, fun q y q1 g => k7 q y (by have := Heap.get_lt g; omega) (kk q y (by have := Heap.get_lt g; omega) q1 (hxb.get (x5.get (z3.get g))))⟩
        exact ⟨(ho j hj).1.but w7 (by omega), (ho j hj).2⟩
      ·exact q.elim
    ·rintro ex E1 h6 M1 ⟨rfl, rs', g17, g16, g15, g4, g3, g1, g6, hrl', x6, gr6, o6, rfl, gm⟩
     have n6 := x6.n
     have x06 : ExtBut (h.n + 1) h' h6 := ⟨by omega, fun q y q1 g => x6.get q1 (x5.get (z3.get g))⟩
     have ge6' := x6.get (by simp only [Heap.push]; omega) ge5
     have g46 := x6.get (by omega) g45
     have xh6 : Ext h h6 := ⟨by omega, fun q y g => x06.get (by have := Heap.get_lt g; omega) (xh.get g)⟩
     refine Or.inl ⟨rfl, ziY (E' := [(17, .int .i64 (k : Nat)), (16, .int .i64 (c.length : Nat)), (15, .slice (some ⟨b, 0, none⟩) c.length kc), (4, .pointer (some ⟨h1.n, 0, none⟩)), (3, .pointer (some ⟨h.n + 2, 0, none⟩)), (1, .pointer (some ⟨h.n, 0, none⟩)), (6, .pointer (some ⟨h'.n + 1, 0, none⟩))]) (zff ?_) ⟨g17, g16, g15, g4, g3, g1, g6, trivial⟩⟩
     (repeat' (first|apply zac|(apply O_at;rfl)|(apply zak;rfl;rfl;rfl;rfl;exact zax rfl;(focus repeat' first|exact zaa|assumption|apply zab|(apply Ext.get;assumption)|(apply ExtBut.get;assumption;(first|assumption|omega|(simp only [Heap.push];omega))));(first|rfl|assumption))|(apply zaL;rfl;rfl;rfl;rfl;exact za4 rfl;(focus repeat' first|exact zaa|assumption|apply zab|(apply Ext.get;assumption)|(apply ExtBut.get;assumption;(first|assumption|omega|(simp only [Heap.push];omega))));(first|exact Nat.le_of_ble_eq_true rfl|(rw [zdy];omega)|(rw [zaD];omega)|(simp;done)|(simp;omega));(first|exact zaC (by omega)|rfl))|fail))
     apply zap; rfl; rfl; rfl; rfl; rfl; rfl
     exact ziG (G := ⟨people, pl, kl, n, ll, some ⟨b, 0, none⟩, kc, c⟩) (c := c.getD k cop0) hK (S.keepB x06 (by omega) (by omega) (by omega) (by omega)) hns hP'.people (by dsimp only; omega) (hrow.ext xh6) hE (fun j hj => zfl hP' (fun e he => log_ent0 hP' e (List.mem_of_mem_take he)) hj)
     rintro _ h7 ⟨S7, k7⟩
     (repeat' (first|(apply zam;rfl)|apply zaE|fail))
     have k6 := k7.n
     refine Or.inr ⟨(by intro q; cases q), rfl, rs', rfl, rfl, rfl, rfl, rfl, rfl, hlt, hrl', ?_, by omega, fun b' x q1 q2 q3 q4 g => k7.get _ _ q1 q2 q3 (x06.get q4 (old _ _ q1 q2 q3 q4 g)), k7.get _ _ (by omega) (by omega) (by omega) gr6, fun j hj => ⟨znv (o6 j hj).1 k7 (by omega) (by omega) (by omega), (o6 j hj).2⟩, ?_, ?_, ?_⟩
     ·rw [zfg (by rw [zmo]; exact hlt)]
      have ek : (logL ⟨people, pl, kl, n, ll, some ⟨b, 0, none⟩, kc, c⟩)[k]'(by rw [zmo]; exact hlt) = ent (c.getD k cop0) := by simp [logL, hlt]
      rw [ek]
      exact S7
     ·exact List.nodup_cons.2 ⟨fun q => by have := Heap.get_lt (hM2 _ q); omega, hM1⟩
     ·intro r' q
      rcases List.mem_cons.1 q with rfl | q
      ·exact k7.get _ _ (by omega) (by omega) (by omega) gm
      ·have := hM3 r' q
       exact k7.get _ _ (by omega) (by omega) (by omega) (x06.get (by omega) (hM2 r' q))
     ·intro r' q
      rcases List.mem_cons.1 q with rfl | q
      ·omega
      ·exact hM3 r' q
   ·rintro _ E1 h2 M1 ⟨rfl, rs', g17, g16, g15, g4, g3, g1, hJ⟩
    refine Or.inl ⟨rfl, ziY (E' := [(17, .int .i64 (k : Nat)), (16, .int .i64 (c.length : Nat)), (15, .slice (some ⟨b, 0, none⟩) c.length kc), (4, .pointer (some ⟨h1.n, 0, none⟩)), (3, .pointer (some ⟨h.n + 2, 0, none⟩)), (1, .pointer (some ⟨h.n, 0, none⟩))]) (zff ?_) ⟨g17, g16, g15, g4, g3, g1, trivial⟩⟩
    (repeat' (first|apply zac|(apply O_at;rfl)|(apply zam;rfl)|apply zaE|((first|apply zah|apply zad|apply zaJ);rfl;rfl;rfl;rfl)|(apply zcM;rfl;rfl;rfl;rfl;rfl;(unfold fit;omega))|fail))
    exact Or.inl ⟨rfl, ziY (ih (k + 1, rs') _ _ (by dsimp only; omega) hJ) (by (focus repeat' first | rfl | exact trivial | apply And.intro))⟩
  ·obtain rfl : k = c.length := by omega
   refine zc1 (zff ?_)
   (repeat' (first|apply zac|(apply O_at;rfl)|(apply zam;rfl)|apply zaE|(apply zbN;rfl;rfl;rfl;rfl;rfl;omega)|fail))
   refine Or.inl ⟨rfl, ?_⟩
   refine zc1 (zff ?_)
   (repeat' (first|(apply zaR;rfl)|apply zby|apply zaE|fail))
   refine Or.inr ⟨(by intro q; cases q), Or.inr ⟨(by intro q; cases q), Or.inl ⟨rfl, Or.inl ⟨rfl, zc1 (zff ?_)⟩⟩⟩⟩
   (repeat' (first|apply zac|(apply O_at;rfl)|(apply zam;rfl)|apply zaE|((first|apply zah|apply zad|apply zaJ);rfl;rfl;rfl;rfl)|(apply zak;rfl;rfl;rfl;rfl;exact zax rfl;(focus repeat' first|exact zaa|assumption|apply zab|(apply Ext.get;assumption)|(apply ExtBut.get;assumption;(first|assumption|omega|(simp only [Heap.push];omega))));(first|rfl|assumption))|fail))
   refine Or.inl ⟨rfl, ?_⟩
   refine zc1 (zff ?_)
   (repeat' (first|apply zaS|apply zaE|fail))
   have hlow : ∀ q, q < h1.n -> q ∉ M := fun q u w => by have := hM3 q w; omega
   refine Or.inr ⟨(by intro q; cases q), .inr rfl, hM1, hM2, fun h2 k2 n2 => ⟨_, rfl, h.n + 1, rs, rfl, hrl, k2 _ _ (hlow _ (by omega)) gr, fun j hj => ?_, ⟨by rw [n2]; exact xh.n, fun q y g => k2 q y (hlow q (by have := Heap.get_lt g; omega)) (xh.get g)⟩⟩⟩
   have hoj := ho j hj
   rw [show nowR ⟨people, pl, kl, n, ll, pg, kc, c⟩ c.length j = misL ⟨people, pl, kl, n, ll, pg, kc, c⟩ j from if_pos (by omega)] at hoj
   refine ⟨?_, hoj.2⟩
   rcases hoj.1 with q | ⟨q1, b7, q2, q3, q4⟩
   ·exact .inl q
   ·exact .inr ⟨q1, b7, q2, k2 _ _ (fun w => by rw [hM2 _ w] at q3; cases q3) q3, by omega⟩
 ·exact ⟨Nat.zero_le _, by simp, S.ext ((Ext.refl h1).push _), Nat.le_refl _, fun b x _ _ _ _ g => g, zab ga, fun j hj => by
   have e1 : (List.replicate c.length row0).getD j row0 = row0 := by simp [List.getD_eq_getElem?_getD, List.getElem?_replicate]; split <;> rfl
   rw [e1]
   exact ⟨.inl ⟨by simp [nowR], rfl⟩, by simp [nowR, row0]⟩, List.nodup_nil, fun r q => (by cases q), fun r q => (by cases q)⟩
 ·(focus repeat' first | rfl | exact trivial | apply And.intro)
end Go.AX.Sa

namespace Go.AX.Sa
open Go.Proofs
set_option maxRecDepth 100000
variable {K : Known}
def tag (i : Nat) (l : List Int) : List (Int × Int) := l.map fun j => ((i : Int), j)
theorem tag_snoc (i : Nat) (l : List Int) (j : Int) : tag i (l ++ [j]) = tag i l ++ [((i : Int), j)] := by simp [tag]
noncomputable def zcV (G : Pg) : Nat -> List (Int × Int)
 | 0 => []
 | k + 1 => zcV G k ++ tag k (misL G k)
theorem zfX (G : Pg) (k : Nat) : (misL G k).length <= G.n := zfY _ _
theorem zgw (G : Pg) : ∀ k, (zcV G k).length <= k * G.n
 | 0 => Nat.zero_le _
 | k + 1 => by
  have := zgw G k
  have := zfX G k
  simp only [zcV, List.length_append, tag, List.length_map]
  rw [Nat.succ_mul]
  omega
theorem zeu {G : Pg} (hP : PgP G) {k : Nat} (hk : k <= G.c.length) : (zcV G k).length <= 60 := by
 have h1 := zgw G k
 have h2 := hP.n
 have h3 := hP.c
 have : k * G.n <= 10 * 6 := Nat.mul_le_mul (by omega) (by omega)
 omega
def IsP (l : List (Int × Int)) (h : Heap) (v : Value) (h1 : Heap) : Prop := ∃ p cap, v = .slice p l.length cap /\ Rd h1 p (zaq l) /\ Ext h h1
theorem zme {e : TypeId} {h0 h : Heap} {v : Value} {l : List (Int × Int)} (o : OutS e h0 h v l) (x : Ext h0 h) : IsP l h0 v h := by
 rcases o with ⟨rfl, rfl⟩ | ⟨hl, b, h1, h2, h3⟩
 ·exact ⟨none, 0, rfl, .inl rfl, x⟩
 ·exact ⟨some ⟨b, 0, none⟩, unk, h1, .inr ⟨b, e, true, rfl, h2⟩, x⟩
theorem outI_rd {e : TypeId} {h0 h : Heap} {r : Row} {l : List Int} (o : OutI e h0 h (rowV r) l) (hs : r.s = l) : Rd h r.q (ints l) := by
 subst hs
 rcases o with ⟨h1, h2⟩ | ⟨hl, b, h1, h2, h3⟩
 ·exact .inl (by rw [h1]; rfl)
 ·simp only [rowV, Value.slice.injEq] at h1
  exact .inr ⟨b, e, true, h1.1, h2⟩
def IsPE (l : List (Int × Int)) (h : Heap) (v : Value) (h1 : Heap) : Prop := ∃ p cap, v = .tuple #[.slice p l.length cap, .int .i64 0] /\ Rd h1 p (zaq l) /\ Ext h h1
theorem znA (hK : NoK K) {G : Pg} {h : Heap} (hT : PgAt G h) (hs : zdD G) (hP : PgP G) :
  CallW Tryz.prog K 37 #[pgV G] h (IsPE (zcV G G.c.length) h) := by
 refine body (N := 35) Tryz.func37 rfl (hK _ _ _ rfl) rfl rfl ?_
 have hc := hP.c
 have hn := hP.n
 (repeat' (first|apply zar|apply zac|(apply O_at;rfl)|(apply zam;rfl)|apply zao|(apply zaR;rfl)|apply zaK|((first|apply zah|apply zad|apply zbC);rfl;rfl;rfl;rfl)|(apply zaL;rfl;rfl;rfl;rfl;exact za4 rfl;(focus repeat' first|exact zaa|assumption|(apply Ext.get;assumption));(first|exact Nat.le_of_ble_eq_true rfl|(simp;done)|(simp;omega)|(rw [zaj];omega));rfl)|(apply zbo;rfl;rfl;rfl;rfl;exact zal rfl;rfl;rfl)|(apply zap;rfl;rfl;rfl;rfl;rfl;rfl;exact yes (zgE hK (hT.ext (by repeat' first|exact Ext.refl _|assumption|apply Ext.push|refine Ext.trans ?_ (by assumption))) hs) hP;(rintro _ _ ⟨rfl,_⟩))|fail))
 rename_i h1 x1
 apply zap; rfl; rfl; rfl; rfl; rfl; rfl
 exact zjH hK (hT.ext (by repeat' first|exact Ext.refl _|assumption|apply Ext.push|refine Ext.trans ?_ (by assumption))) hP
 rintro _ h2 ⟨ba, rs, rfl, hrl, gr, ho, x2⟩
 have xh : Ext h h2 := by repeat' first|exact Ext.refl _|assumption|apply Ext.push|refine Ext.trans ?_ (by assumption)
 (repeat' (first|(apply O_at;rfl)|(apply zam;rfl)|apply zao|apply zaA|((first|apply zah|apply zad|apply zbC);rfl;rfl;rfl;rfl)|(apply zbO;rfl;rfl;rfl;rfl;rfl;rfl;exact zaB rfl)|fail))
 refine zbx (fun a : Nat × Value => [(15, .int .i64 (a.1 : Nat)), (14, .int .i64 (G.c.length : Nat)), (13, .slice (some ⟨ba, 0, none⟩) G.c.length G.c.length), (4, a.2)])
  (fun a h' => a.1 <= G.c.length /\ Ext h2 h' /\ OutS 57 h2 h' a.2 (zcV G a.1)) (fun a => G.c.length - a.1) ?_ (0, .slice none 0 0) ?_ ?_
 ·rintro ⟨k, v⟩ h' ⟨hk, hx, hv⟩ ih
  dsimp only at hk hx hv ih ⊢
  by_cases hlt : k < G.c.length
  ·have hm := zfX G k
   have hr := outI_rd (ho k (by omega)).1 (ho k (by omega)).2
   have hs' := (ho k (by omega)).2
   have gr' := hx.get gr
   have hrx := hr.ext hx
   have hmk := zeu hP (Nat.le_of_lt hlt)
   (repeat' (first|apply zar|apply zac|(apply O_at;rfl)|(apply zam;rfl)|apply zao|(apply zbp;rfl)|apply zaA|apply zaK|((first|apply zah|apply zad|apply zbC);rfl;rfl;rfl;rfl)|(apply zbO;rfl;rfl;rfl;rfl;rfl;rfl;exact zaB rfl)|(apply zb9;rfl;rfl;rfl;rfl;rfl;omega)|(apply zcp;rfl;rfl;rfl;rfl;rfl;exact zaB rfl;exact zal rfl;(first|assumption|rfl|exact (Int.toNat_of_nonneg (by omega)).symm);omega)|(apply zak;rfl;rfl;rfl;rfl;exact zax rfl;(focus repeat' first|exact zaa|assumption|(apply Ext.get;assumption));(first|exact zai (by omega)|exact zd0 (by omega)|rfl|assumption))|fail))
   rw [hs']
   refine zbx (fun a : Nat × Value => [(22, .int .i64 (a.1 : Nat)), (21, .int .i64 ((misL G k).length : Nat)), (20, .slice (rs.getD k row0).q (misL G k).length (rs.getD k row0).k), (5, .int .i64 (k : Nat)), (4, a.2), (15, .int .i64 (k : Nat)), (14, .int .i64 (G.c.length : Nat)), (13, .slice (some ⟨ba, 0, none⟩) G.c.length G.c.length)])
    (fun a h3 => a.1 <= (misL G k).length /\ Ext h2 h3 /\ OutS 57 h2 h3 a.2 (zcV G k ++ tag k ((misL G k).take a.1))) (fun a => (misL G k).length - a.1) ?_ (0, v) ?_ ?_
   ·rintro ⟨i, u⟩ h3 ⟨hi, hx3, hu⟩ ih3
    dsimp only at hi hx3 hu ih3 ⊢
    by_cases hil : i < (misL G k).length
    ·obtain ⟨b, e, own, hq, hg⟩ := hr.at (by rw [zaj]; omega)
     rw [hq] at ih3 ⊢
     have hg3 := hx3.get hg
     have hln : (zcV G k ++ tag k ((misL G k).take i)).length <= 10000 := by simp [tag]; omega
     (repeat' (first|apply zar|apply zac|(apply O_at;rfl)|(apply zam;rfl)|apply zao|(apply zbp;rfl)|apply zaA|apply zaK|apply zaU|((first|apply zah|apply zad|apply zbC);rfl;rfl;rfl;rfl)|(apply zb9;rfl;rfl;rfl;rfl;rfl;omega)|(apply zcM;rfl;rfl;rfl;rfl;rfl;(unfold fit;omega))|(apply zcp;rfl;rfl;rfl;rfl;rfl;exact zaB rfl;exact zal rfl;(first|assumption|rfl|exact (Int.toNat_of_nonneg (by omega)).symm);omega)|(apply zak;rfl;rfl;rfl;rfl;exact zax rfl;(focus repeat' first|exact zaa|assumption|(apply Ext.get;assumption));(first|exact zai (by omega)|exact zd0 (by omega)|rfl|assumption))|(apply zn5;rfl;rfl;rfl;rfl)|(apply zkk;rfl;rfl;rfl;rfl;rfl;exact c2_ok rfl)|(apply P_appS;rfl;rfl;rfl;rfl;rfl;rfl;rfl;rfl;exact c2_ok rfl;exact zaB rfl;(focus repeat' first|exact zaa|assumption|(apply Ext.get;assumption));(apply OutS.ext;assumption;(focus repeat' first|exact Ext.refl _|assumption|apply Ext.push|(refine Ext.trans ?_ (by assumption))));(focus repeat' first|exact Ext.refl _|assumption|apply Ext.push|(refine Ext.trans ?_ (by assumption)));(first|omega|(simp;omega));(intro _ _ _ _))|fail))
     rename_i v4 h4 o4 x4
     refine zbi (ih3 (i + 1, v4) _ (by dsimp only; omega) ⟨hil, x4, ?_⟩) (by (focus repeat' first | rfl | exact trivial | apply And.intro))
     have e1 : (misL G k).take (i + 1) = (misL G k).take i ++ [(misL G k).getD i 0] := by rw [List.take_add_one, List.getElem?_eq_getElem hil]; simp [List.getD_eq_getElem?_getD, hil]
     rw [e1, tag_snoc, <- List.append_assoc]
     exact o4
    ·obtain rfl : i = (misL G k).length := by omega
     (repeat' (first|apply zar|apply zac|(apply O_at;rfl)|(apply zam;rfl)|apply zao|(apply zaR;rfl)|apply zby|apply zbF|apply za5|apply za6|apply zaU|((first|apply zah|apply zad|apply zbC);rfl;rfl;rfl;rfl)|(apply zbN;rfl;rfl;rfl;rfl;rfl;omega)|(apply zcM;rfl;rfl;rfl;rfl;rfl;(unfold fit;omega))|fail))
     refine zbi (ih (k + 1, u) _ (by dsimp only; omega) ⟨hlt, by repeat' first|exact Ext.refl _|assumption|apply Ext.push|refine Ext.trans ?_ (by assumption), ?_⟩) (by (focus repeat' first | rfl | exact trivial | apply And.intro))
     rw [List.take_length] at hu
     exact hu
   ·exact ⟨Nat.zero_le _, hx, by simpa [tag] using hv⟩
   ·(focus repeat' first | rfl | exact trivial | apply And.intro)
  ·obtain rfl : k = G.c.length := by omega
   (repeat' (first|apply zar|apply zac|(apply O_at;rfl)|(apply zam;rfl)|apply zao|(apply zaR;rfl)|apply zby|apply zaS|apply zbF|apply za5|apply za6|apply zaE|((first|apply zah|apply zad|apply zbC);rfl;rfl;rfl;rfl)|(apply zbN;rfl;rfl;rfl;rfl;rfl;omega)|fail))
   obtain ⟨p, cp, rfl, r5, x5⟩ := zme hv hx
   exact ⟨.inr rfl, _, rfl, p, cp, rfl, r5, by repeat' first|exact Ext.refl _|assumption|apply Ext.push|refine Ext.trans ?_ (by assumption)⟩
 ·exact ⟨Nat.zero_le _, Ext.refl _, .inl ⟨rfl, rfl⟩⟩
 ·(focus repeat' first | rfl | exact trivial | apply And.intro)
end Go.AX.Sa

namespace Go.AX.Sa
open Go.Proofs
set_option maxRecDepth 100000
variable {K : Known}
def RdrP (c : Cop) (q : Int) : Prop := c.par = 1 /\ zcF (ent c) q
instance (c : Cop) (q : Int) : Decidable (RdrP c q) := by unfold RdrP zcF; infer_instance
theorem zld (hK : NoK K) {c : Cop} {people q : Int} {n : Nat} {h : Heap} (hc : RowIn c.r h) (hP : EntP people n (ent c)) :
  CallW Tryz.prog K 113 #[enV c, .int .i64 q] h (IfB (RdrP c q) h) := by
 obtain ⟨rd, hcb, _⟩ := hc
 obtain ⟨par, a, k, t⟩ := c
 dsimp only [enV, ent] at rd hcb hP ⊢
 refine body (N := 24) Tryz.func113 rfl (hK _ _ _ rfl) rfl rfl ?_
 by_cases h1 : par = 1
 ·subst h1
  have z := ent1.1 hP
  obtain ⟨b, e, own, rfl, hg⟩ := rd.at (by rw [zaj]; omega)
  (repeat' (first|apply zar|apply zac|(apply O_at;rfl)|(apply zam;rfl)|apply zao|apply zaS|apply zaE|(apply zbs;rfl;rfl;rfl)|((first|apply zah|apply zad);rfl;rfl;rfl;rfl)|(apply P_fa;rfl;rfl;rfl;rfl;exact zaN rfl;(first|exact Nat.zero_add _|exact Nat.add_zero _|rfl))|(apply zaW;rfl;rfl;rfl;rfl;rfl;rfl)|(apply zcr;rfl;rfl;rfl;rfl;rfl;omega)|(apply ziT;rfl;rfl;rfl;rfl;rfl;all_goals intro _)|(apply zcp;rfl;rfl;rfl;rfl;rfl;exact zaB rfl;exact zal rfl;(first|assumption|exact zq0|exact zq1|rfl|exact (Int.toNat_of_nonneg (by omega)).symm);omega)|(apply zak;rfl;rfl;rfl;rfl;exact zax rfl;(focus repeat' first|exact zaa|assumption|apply zab);(first|exact zai (by omega)|rfl|assumption))|(apply zbo;rfl;rfl;rfl;rfl;exact zal rfl;rfl;rfl)|fail))
  ·rename_i w
   exact ⟨.inr rfl, _, rfl, .inl ⟨rfl, ⟨rfl, .inl w⟩, by (focus repeat' first | exact Ext.refl _ | assumption | apply Ext.push)⟩⟩
  ·rename_i w _
   exact ⟨.inr rfl, _, rfl, .inl ⟨rfl, ⟨rfl, .inr (by assumption)⟩, by (focus repeat' first | exact Ext.refl _ | assumption | apply Ext.push)⟩⟩
  ·rename_i w w2
   exact ⟨.inr rfl, _, rfl, .inr ⟨rfl, fun u => u.2.elim w w2, by (focus repeat' first | exact Ext.refl _ | assumption | apply Ext.push)⟩⟩
 ·(repeat' (first|apply zar|apply zac|(apply O_at;rfl)|(apply zam;rfl)|apply zao|apply zaS|apply zaE|(apply zbs;rfl;rfl;rfl)|((first|apply zah|apply zad);rfl;rfl;rfl;rfl)|(apply P_fa;rfl;rfl;rfl;rfl;exact zaN rfl;(first|exact Nat.zero_add _|exact Nat.add_zero _|rfl))|(apply zaW;rfl;rfl;rfl;rfl;rfl;rfl)|(apply zdE;rfl;rfl;rfl;rfl;rfl;omega)|(apply zak;rfl;rfl;rfl;rfl;exact zax rfl;(focus repeat' first|exact zaa|assumption|apply zab);(first|exact zai (by omega)|rfl|assumption))|(apply zbo;rfl;rfl;rfl;rfl;exact zal rfl;rfl;rfl)|fail))
  exact ⟨.inr rfl, _, rfl, .inr ⟨rfl, fun u => h1 u.1, by (focus repeat' first | exact Ext.refl _ | assumption | apply Ext.push)⟩⟩
def sumI (l : List Int) : Int := l.foldl (· + ·) 0
theorem zga (l : List Int) (n : Int) : sumI (l ++ [n]) = sumI l + n := by simp [sumI]
theorem sum_ok (hK : NoK K) {l : List Int} {p : Option Addr} {cap : Nat} {h : Heap} (hn : l.length <= 1000) (hb : ∀ x ∈ l, 0 <= x /\ x <= 1000) (hr : Rd h p (ints l)) :
  CallW Tryz.prog K 114 #[.slice p l.length cap] h (IsV (.int .i64 (sumI l)) h) := by
 have hs : ∀ k, k <= l.length -> 0 <= sumI (l.take k) /\ sumI (l.take k) <= k * 1000 := by
  intro k
  induction k with
  | zero => intro _; simp [sumI]
  | succ k ih =>
   intro hk
   have e1 : l.take (k + 1) = l.take k ++ [l.getD k 0] := by rw [List.take_add_one, List.getElem?_eq_getElem (by omega)]; simp [List.getD_eq_getElem?_getD, show k < l.length by omega]
   have h1 := ih (by omega)
   have h2 := hb (l.getD k 0) (by rw [List.getD_eq_getElem?_getD, List.getElem?_eq_getElem (by omega)]; simp)
   rw [e1, zga]
   omega
 refine body (N := 17) Tryz.func114 rfl (hK _ _ _ rfl) rfl rfl ?_
 (repeat' (first|apply zar|apply zac|(apply O_at;rfl)|(apply zam;rfl)|apply zao|apply zaA|((first|apply zah|apply zad);rfl;rfl;rfl;rfl)|(apply zbO;rfl;rfl;rfl;rfl;rfl;rfl;exact zaB rfl)|fail))
 refine zbx (fun k : Nat => [(8, .int .i64 (k : Nat)), (7, .int .i64 (l.length : Nat)), (6, .slice p l.length cap), (3, .int .i64 (sumI (l.take k)))])
  (fun k h' => k <= l.length /\ Ext h h') (fun k => l.length - k) ?_ 0 ?_ ?_
 ·intro k h' ⟨hk, hx⟩ ih
  have h1 := hs k hk
  by_cases hlt : k < l.length
  ·obtain ⟨b, e, own', rfl, hg⟩ := hr.at (by rw [zaj]; omega)
   have h2 := hb (l.getD k 0) (by rw [List.getD_eq_getElem?_getD, List.getElem?_eq_getElem (by omega)]; simp)
   have e1 : l.take (k + 1) = l.take k ++ [l.getD k 0] := by rw [List.take_add_one, List.getElem?_eq_getElem (by omega)]; simp [List.getD_eq_getElem?_getD, show k < l.length by omega]
   (repeat' (first|apply zar|apply zac|(apply O_at;rfl)|(apply zam;rfl)|apply zao|(apply zbp;rfl)|apply zaA|apply zaK|apply zaU|((first|apply zah|apply zad);rfl;rfl;rfl;rfl)|(apply zb9;rfl;rfl;rfl;rfl;rfl;omega)|(apply zcM;rfl;rfl;rfl;rfl;rfl;(unfold fit;omega))|(apply zcp;rfl;rfl;rfl;rfl;rfl;exact zaB rfl;exact zal rfl;(first|assumption|rfl|exact (Int.toNat_of_nonneg (by omega)).symm);omega)|(apply zak;rfl;rfl;rfl;rfl;exact zax rfl;(focus repeat' first|assumption|(apply Ext.get;assumption));(first|exact zai (by omega)|rfl|assumption))|fail))
   refine zbi (ih (k + 1) _ (by omega) ⟨hlt, hx⟩) ⟨rfl, rfl, rfl, ?_, trivial⟩
   rw [e1, zga]
   rfl
  ·obtain rfl : k = l.length := by omega
   (repeat' (first|apply zar|apply zac|(apply O_at;rfl)|(apply zam;rfl)|apply zao|(apply zaR;rfl)|apply zby|apply zaS|apply zbF|apply za5|apply za6|apply zaE|((first|apply zah|apply zad);rfl;rfl;rfl;rfl)|(apply zbN;rfl;rfl;rfl;rfl;rfl;omega)|fail))
   refine ⟨.inr rfl, _, rfl, ?_, by (focus repeat' first | exact Ext.refl _ | assumption)⟩
   rw [List.take_length]
   rfl
 ·exact ⟨Nat.zero_le _, Ext.refl _⟩
 ·(focus repeat' first | rfl | exact trivial | apply And.intro)
noncomputable def zhi (G : Pg) (q : Int) : Nat -> List Int
 | 0 => []
 | k + 1 => zhi G q k ++ (if RdrP (G.c.getD k cop0) q then [((misL G k).length : Int)] else [])
noncomputable def ofK (G : Pg) (q : Int) : Nat -> Int
 | 0 => 0
 | k + 1 => ofK G q k + (if RdrP (G.c.getD k cop0) q then ((misL G k).length : Int) else 0)
theorem zlW (G : Pg) (q : Int) : ∀ k, sumI (zhi G q k) = ofK G q k
 | 0 => rfl
 | k + 1 => by
  have := zlW G q k
  unfold zhi ofK
  by_cases h : RdrP (G.c.getD k cop0) q
  ·rw [if_pos h, if_pos h, zga, this]
  ·rw [if_neg h, if_neg h, List.append_nil, this, Int.add_zero]
theorem zmm (G : Pg) (q : Int) : ∀ k, (zhi G q k).length <= k
 | 0 => Nat.le_refl _
 | k + 1 => by
  have := zmm G q k
  unfold zhi
  by_cases h : RdrP (G.c.getD k cop0) q
  ·rw [if_pos h]; simp; omega
  ·rw [if_neg h]; simp; omega
theorem zml (G : Pg) (q : Int) : ∀ k, ∀ x ∈ zhi G q k, 0 <= x /\ x <= G.n
 | 0 => fun x h => by cases h
 | k + 1 => fun x h => by
  unfold zhi at h
  rcases List.mem_append.1 h with h | h
  ·exact zml G q k x h
  ·have := zfX G k
   by_cases w : RdrP (G.c.getD k cop0) q
   ·rw [if_pos w] at h; simp at h; omega
   ·rw [if_neg w] at h; cases h
noncomputable def mssL (G : Pg) (k : Nat) : List (Int × Int) := (List.range k).map fun q : Nat => ((q : Int), ofK G (q : Int) G.c.length)
theorem zpl (G : Pg) (k : Nat) : mssL G (k + 1) = mssL G k ++ [((k : Int), ofK G (k : Int) G.c.length)] := by simp [mssL, List.range_succ]
theorem zmi (G : Pg) (k : Nat) : (mssL G k).length = k := by simp [mssL]
theorem zpm (hK : NoK K) {G : Pg} {h : Heap} (hT : PgAt G h) (hP : PgP G) :
  CallW Tryz.prog K 75 #[pgV G] h (IsP (mssL G G.people.toNat) h) := by
 have hT' := hT
 have hP' := hP
 have hent := hP.ent
 have hc10 := hP.c
 have hnn := hP.n
 have hpp := hP.people
 obtain ⟨people, pl, kl, n, ll, pg, kc, c⟩ := G
 obtain ⟨len, rl, rc, each, hbl, hpb⟩ := hT
 dsimp only [pgV] at len rl rc each hbl hpb hent hc10 hnn hpp ⊢
 obtain ⟨m, hm⟩ : ∃ m : Nat, people = (m : Nat) := ⟨people.toNat, by omega⟩
 subst hm
 rw [Int.toNat_natCast]
 refine body (N := 45) Tryz.func75 rfl (hK _ _ _ rfl) rfl rfl ?_
 (repeat' (first|apply zar|apply zac|(apply O_at;rfl)|(apply zam;rfl)|apply zao|((first|apply zah|apply zad);rfl;rfl;rfl;rfl)|(apply zaL;rfl;rfl;rfl;rfl;exact za4 rfl;(focus repeat' first|exact zaa|assumption|apply zab|(apply Ext.get;assumption));(first|exact Nat.le_of_ble_eq_true rfl|(rw [zaD];omega)|(simp;done)|(simp;omega));(first|exact zaC (by omega)|rfl))|(apply zbo;rfl;rfl;rfl;rfl;exact zal rfl;rfl;rfl)|fail))
 apply zap; rfl; rfl; rfl; rfl; rfl; rfl
 exact zjH hK (G := ⟨(m : Nat), pl, kl, n, ll, pg, kc, c⟩) (hT'.ext (by repeat' first|exact Ext.refl _|assumption|apply Ext.push|refine Ext.trans ?_ (by assumption))) hP'
 rintro _ h2 ⟨ba, rs, rfl, hrl, gr, ho, x2⟩
 have hrl' : rs.length = c.length := hrl
 have gp2 := x2.get zaa
 (repeat' (first|apply zar|apply zac|(apply O_at;rfl)|(apply zam;rfl)|apply zao|apply zaA|((first|apply zah|apply zad);rfl;rfl;rfl;rfl)|(apply P_fa;rfl;rfl;rfl;rfl;exact zaN rfl;(first|exact Nat.zero_add _|exact Nat.add_zero _|rfl))|(apply zak;rfl;rfl;rfl;rfl;exact zax rfl;(focus repeat' first|exact zaa|assumption|apply zab|(apply Ext.get;assumption));(first|exact zd0 (by omega)|rfl|assumption))|fail))
 refine zbx (fun a : Nat × Value => [(13, .int .i64 (a.1 : Nat)), (12, .int .i64 (m : Nat)), (3, a.2), (4, .slice (some ⟨ba, 0, none⟩) c.length c.length), (1, .pointer (some ⟨h.n, 0, none⟩))])
  (fun a h' => a.1 <= m /\ Ext h2 h' /\ OutS 101 h2 h' a.2 (mssL ⟨(m : Nat), pl, kl, n, ll, pg, kc, c⟩ a.1)) (fun a => m - a.1) ?_ (0, .slice none 0 0) ?_ ?_
 ·rintro ⟨q, v⟩ h' ⟨hq, hx, hv⟩ ih
  dsimp only at hq hx hv ih ⊢
  have gp := hx.get gp2
  have hlm := zmi ⟨(m : Nat), pl, kl, n, ll, pg, kc, c⟩ q
  by_cases hqm : q < m
  ·(repeat' (first|apply zar|apply zac|(apply O_at;rfl)|(apply zam;rfl)|apply zao|(apply zbp;rfl)|apply zaA|apply zaK|((first|apply zah|apply zad);rfl;rfl;rfl;rfl)|(apply P_fa;rfl;rfl;rfl;rfl;exact zaN rfl;(first|exact Nat.zero_add _|exact Nat.add_zero _|rfl))|(apply zbO;rfl;rfl;rfl;rfl;rfl;rfl;exact zaB rfl)|(apply zb9;rfl;rfl;rfl;rfl;rfl;omega)|(apply zak;rfl;rfl;rfl;rfl;exact zax rfl;(focus repeat' first|exact zaa|assumption|apply zab|(apply Ext.get;assumption));(first|exact zd0 (by omega)|rfl|assumption))|fail))
   refine zbx (fun a : Nat × Value => [(19, .int .i64 (a.1 : Nat)), (18, .int .i64 (c.length : Nat)), (17, .slice pg c.length kc), (6, a.2), (5, .int .i64 (q : Nat)), (13, .int .i64 (q : Nat)), (12, .int .i64 (m : Nat)), (3, v), (4, .slice (some ⟨ba, 0, none⟩) c.length c.length), (1, .pointer (some ⟨h.n, 0, none⟩))])
    (fun a h3 => a.1 <= c.length /\ Ext h' h3 /\ OutI 3 h' h3 a.2 (zhi ⟨(m : Nat), pl, kl, n, ll, pg, kc, c⟩ (q : Nat) a.1)) (fun a => c.length - a.1) ?_ (0, .slice none 0 0) ?_ ?_
   ·rintro ⟨k, u⟩ h3 ⟨hk, hx3, hu⟩ ih3
    dsimp only at hk hx3 hu ih3 ⊢
    have hml := zmm ⟨(m : Nat), pl, kl, n, ll, pg, kc, c⟩ (q : Nat) k
    have gp3 := hx3.get gp
    by_cases hlt : k < c.length
    ·obtain ⟨b, e, own, rfl, hg⟩ := rc.at (by rw [zaD]; omega)
     have hrow := each k hlt
     have hcb := hrow.b
     have hE := hent k hlt
     have x03 : Ext h h3 := by repeat' first|exact Ext.refl _|assumption|apply Ext.push|refine Ext.trans ?_ (by assumption)
     have hg3 := x03.get hg
     have gr3 := hx3.get (hx.get gr)
     have hs' := (ho k (by omega)).2
     (repeat' (first|apply zar|apply zac|(apply O_at;rfl)|(apply zam;rfl)|apply zao|(apply zbp;rfl)|(apply zaR;rfl)|apply zaA|apply zaK|apply zaU|((first|apply zah|apply zad);rfl;rfl;rfl;rfl)|(apply zbO;rfl;rfl;rfl;rfl;rfl;rfl;exact zaB rfl)|(apply zb9;rfl;rfl;rfl;rfl;rfl;omega)|(apply zcM;rfl;rfl;rfl;rfl;rfl;(unfold fit;omega))|(apply zcp;rfl;rfl;rfl;rfl;rfl;exact zaB rfl;exact zal rfl;(first|assumption|rfl|exact (Int.toNat_of_nonneg (by omega)).symm);omega)|(apply zcI;rfl;rfl;rfl;rfl;rfl;exact zaB rfl;exact zal rfl;(first|assumption|rfl|exact (Int.toNat_of_nonneg (by omega)).symm);omega)|(apply zak;rfl;rfl;rfl;rfl;exact zax rfl;(focus repeat' first|exact zaa|assumption|apply zab|(apply Ext.get;assumption));(first|exact zd0 (by omega)|rfl|assumption))|(apply zaL;rfl;rfl;rfl;rfl;exact za4 rfl;(focus repeat' first|exact zaa|assumption|apply zab|(apply Ext.get;assumption));(first|exact Nat.le_of_ble_eq_true rfl|(rw [zaD];omega)|(simp;done)|(simp;omega));(first|exact zaC (by omega)|rfl))|(apply zmX;rfl;rfl;rfl;rfl;rfl;rfl;rfl;exact zgQ rfl)|(apply P_appI;rfl;rfl;rfl;rfl;rfl;rfl;rfl;rfl;exact zgQ rfl;exact zaB rfl;(focus repeat' first|exact zaa|assumption|apply zab|(apply Ext.get;assumption));(apply OutI.ext;assumption;(focus repeat' first|exact Ext.refl _|assumption|apply Ext.push|(refine Ext.trans ?_ (by assumption))));(focus repeat' first|exact Ext.refl _|assumption|apply Ext.push|(refine Ext.trans ?_ (by assumption)));(first|omega|(simp;omega));(intro _ _ _ _))|(apply zaO;rfl;rfl;rfl;rfl;exact zal rfl;rfl;rfl;rfl)|(apply zbr;rfl;rfl;rfl;rfl;exact zal rfl;rfl;rfl)|(apply zap;rfl;rfl;rfl;rfl;rfl;rfl;exact zld (c := c.getD k cop0) hK (hrow.ext (by repeat' first|exact Ext.refl _|assumption|apply Ext.push|refine Ext.trans ?_ (by assumption))) hE;(rintro _ _ (⟨rfl,_,_⟩|⟨rfl,_,_⟩)))|fail))
     ·rename_i h4 w4 x4 v5 h5 o5 x5
      refine zbi (ih3 (k + 1, v5) _ (by dsimp only; omega) ⟨hlt, x5, ?_⟩) (by (focus repeat' first | rfl | exact trivial | apply And.intro))
      unfold zhi
      rw [if_pos w4, <- hs']
      exact o5
     ·rename_i h4 w4 x4
      refine zbi (ih3 (k + 1, u) _ (by dsimp only; omega) ⟨hlt, by repeat' first|exact Ext.refl _|assumption|apply Ext.push|refine Ext.trans ?_ (by assumption), ?_⟩) (by (focus repeat' first | rfl | exact trivial | apply And.intro))
      unfold zhi
      rw [if_neg w4, List.append_nil]
      exact hu.ext (by repeat' first|exact Ext.refl _|assumption|apply Ext.push|refine Ext.trans ?_ (by assumption))
    ·obtain rfl : k = c.length := by omega
     obtain ⟨p5, c5, rfl, r5, x5⟩ := hu.isL hx3
     have x23 := hx.trans hx3
     have hv3 := hv.ext hx3
     (repeat' (first|apply zar|apply zac|(apply O_at;rfl)|(apply zam;rfl)|apply zao|(apply zaR;rfl)|apply zby|apply zbF|apply za5|apply za6|apply zaU|((first|apply zah|apply zad);rfl;rfl;rfl;rfl)|(apply zbN;rfl;rfl;rfl;rfl;rfl;omega)|(apply zcM;rfl;rfl;rfl;rfl;rfl;(unfold fit;omega))|(apply zn6;rfl;rfl;rfl;rfl)|(apply zkk;rfl;rfl;rfl;rfl;rfl;exact c2_ok rfl)|(apply P_appS;rfl;rfl;rfl;rfl;rfl;rfl;rfl;rfl;exact c2_ok rfl;exact zaB rfl;(focus repeat' first|exact zaa|assumption|apply zab|(apply Ext.get;assumption));(apply OutS.ext;assumption;(focus repeat' first|exact Ext.refl _|assumption|apply Ext.push|(refine Ext.trans ?_ (by assumption))));(focus repeat' first|exact Ext.refl _|assumption|apply Ext.push|(refine Ext.trans ?_ (by assumption)));(first|omega|(simp;omega));(intro _ _ _ _))|(apply zap;rfl;rfl;rfl;rfl;rfl;rfl;exact sum_ok hK (by omega) (fun x w => by have := zml ⟨(m : Nat),pl,kl,n,ll,pg,kc,c⟩ (q : Nat) c.length x w;dsimp only at this;omega) (r5.ext (by repeat' first|exact Ext.refl _|assumption|apply Ext.push|refine Ext.trans ?_ (by assumption)));(rintro _ _ ⟨rfl,_⟩))|fail))
     rename_i h6 x6 v7 h7 o7 x7
     refine zbi (ih (q + 1, v7) _ (by dsimp only; omega) ⟨hqm, x7, ?_⟩) (by (focus repeat' first | rfl | exact trivial | apply And.intro))
     rw [zpl, <- zlW]
     exact o7
   ·exact ⟨Nat.zero_le _, Ext.refl _, .inl ⟨rfl, rfl⟩⟩
   ·(focus repeat' first | rfl | exact trivial | apply And.intro)
  ·obtain rfl : q = m := by omega
   (repeat' (first|apply zar|apply zac|(apply O_at;rfl)|(apply zam;rfl)|apply zao|(apply zaR;rfl)|apply zby|apply zaS|apply zbF|apply za5|apply za6|apply zaE|((first|apply zah|apply zad);rfl;rfl;rfl;rfl)|(apply zbN;rfl;rfl;rfl;rfl;rfl;omega)|fail))
   obtain ⟨p, cp, rfl, r5, x5⟩ := zme hv hx
   exact ⟨.inr rfl, _, rfl, p, cp, rfl, r5, by repeat' first|exact Ext.refl _|assumption|apply Ext.push|refine Ext.trans ?_ (by assumption)⟩
 ·exact ⟨Nat.zero_le _, Ext.refl _, .inl ⟨rfl, rfl⟩⟩
 ·(focus repeat' first | rfl | exact trivial | apply And.intro)
end Go.AX.Sa

namespace Go.AX.Sa
open Go.Proofs
set_option maxRecDepth 100000
variable {K : Known}
def HeardTo (G : Pg) (j q : Int) (i : Nat) : Prop := ∃ i', i' < i /\ (reads (ent (G.c.getD i' cop0)) j /\ zcF (ent (G.c.getD i' cop0)) q) /\ ¬ ∃ k, i' <= k /\ k < G.c.length /\ changes (ent (G.c.getD k cop0)) j
end Go.AX.Sa

namespace Go.AX.Sa
open Go.Proofs
set_option maxRecDepth 100000
variable {K : Known}
end Go.AX.Sa

namespace Go.AX.Sa
open Go.Proofs
set_option maxRecDepth 100000
variable {K : Known}
theorem zod (hK : NoK K) {p q : Int × Int} {h : Heap} :
  CallW Tryz.prog K 76 #[.agg #[.int .i64 p.1, .int .i64 p.2], .agg #[.int .i64 q.1, .int .i64 q.2]] h (IfB (p.2 > q.2) h) := by
 refine body (N := 10) Tryz.func76 rfl (hK _ _ _ rfl) rfl rfl ?_
 (repeat' (first|apply zar|apply zac|(apply O_at;rfl)|(apply zam;rfl)|apply zao|apply zaS|apply zaE|(apply zad;rfl;rfl;rfl;rfl)|(apply P_fa;rfl;rfl;rfl;rfl;exact zaN rfl;(first|exact Nat.zero_add _|exact Nat.add_zero _|rfl))|(apply zqu;rfl;rfl;rfl;rfl;rfl;all_goals intro _)|(apply zak;rfl;rfl;rfl;rfl;exact zax rfl;(focus repeat' first|exact zaa|assumption|apply zab);(first|rfl|assumption))|(apply zbo;rfl;rfl;rfl;rfl;exact zal rfl;rfl;rfl)|fail))
 ·rename_i w
  exact ⟨.inr rfl, _, rfl, .inl ⟨rfl, w, by (focus repeat' first | exact Ext.refl _ | assumption | apply Ext.push)⟩⟩
 ·rename_i w
  exact ⟨.inr rfl, _, rfl, .inr ⟨rfl, w, by (focus repeat' first | exact Ext.refl _ | assumption | apply Ext.push)⟩⟩
def bstK (l : List (Int × Int)) : Nat -> Int × Int
 | 0 => (0, 0)
 | k + 1 => if k = 0 \/ (l.getD k (0, 0)).2 > (bstK l k).2 then l.getD k (0, 0) else bstK l k
theorem best_ok (hK : NoK K) {l : List (Int × Int)} {p : Option Addr} {cap : Nat} {h : Heap} (hn : l.length <= 1000) (hr : Rd h p (zaq l)) :
  CallW Tryz.prog K 74 #[.slice p l.length cap, .func (.func 76) #[] #[]] h (IsV (.agg #[.int .i64 (bstK l l.length).1, .int .i64 (bstK l l.length).2]) h) := by
 refine body (N := 26) Tryz.func74 rfl (hK _ _ _ rfl) rfl rfl ?_
 (repeat' (first|apply zar|apply zac|(apply O_at;rfl)|(apply zam;rfl)|apply zao|apply zaA|((first|apply zah|apply zad);rfl;rfl;rfl;rfl)|(apply zbO;rfl;rfl;rfl;rfl;rfl;rfl;exact zaB rfl)|(apply zbr;rfl;rfl;rfl;rfl;exact zal rfl;rfl;rfl)|fail))
 refine zbx (fun k : Nat => [(10, .int .i64 (k : Nat)), (9, .int .i64 (l.length : Nat)), (8, .slice p l.length cap), (1, .func (.func 76) #[] #[]), (4, .pointer (some ⟨h.n, 0, none⟩)), (5, .pointer (some ⟨h.n + 1, 0, none⟩))])
  (fun k h' => k <= l.length /\ Ext h h' /\ h.n + 2 <= h'.n /\ h'.get? h.n = some (.cells [.int .i64 0, .int .i64 0] 101 true) /\ h'.get? (h.n + 1) = some (.cells [.int .i64 (bstK l k).1, .int .i64 (bstK l k).2] 101 true)) (fun k => l.length - k) ?_ 0 ?_ ?_
 ·rintro k h' ⟨hk, hx, hn', g4, g5⟩ ih
  by_cases hlt : k < l.length
  ·obtain ⟨b, e, own', rfl, hg⟩ := hr.at (by rw [zan]; omega)
   have hg' := hx.get hg
   have hbl := Heap.get_lt hg
   by_cases hk0 : k = 0
   ·subst hk0
    (repeat' (first|apply zar|apply zac|(apply O_at;rfl)|(apply zam;rfl)|apply zao|(apply zbp;rfl)|apply zaA|apply zaK|apply zaU|(apply zbs;rfl;rfl;rfl)|((first|apply zah|apply zad);rfl;rfl;rfl;rfl)|(apply zaW;rfl;rfl;rfl;rfl;rfl;rfl)|(apply zb9;rfl;rfl;rfl;rfl;rfl;omega)|(apply zcr;rfl;rfl;rfl;rfl;rfl;omega)|(apply zcM;rfl;rfl;rfl;rfl;rfl;(unfold fit;omega))|(apply zcI;rfl;rfl;rfl;rfl;rfl;exact zaB rfl;exact zal rfl;(first|assumption|exact zq0|rfl|exact (Int.toNat_of_nonneg (by omega)).symm);omega)|(apply zaL;rfl;rfl;rfl;rfl;exact za4 rfl;(focus repeat' first|exact zaa|assumption|apply zab|(apply Ext.get;assumption)|(apply ExtBut.get;assumption;(first|assumption|omega|(simp only [Heap.push];omega))));(first|exact Nat.le_of_ble_eq_true rfl|(simp;done)|(simp;omega)|(rw [zan];omega));(first|exact zb3 (by omega)|rfl))|(apply zaO;rfl;rfl;rfl;rfl;exact zal rfl;rfl;rfl;rfl)|(apply zbr;rfl;rfl;rfl;rfl;exact zal rfl;rfl;rfl)|(apply zf3;rfl;rfl;rfl;rfl;(focus repeat' first|exact zaa|assumption|apply zab|(apply Ext.get;assumption)|(apply ExtBut.get;assumption;(first|assumption|omega|(simp only [Heap.push];omega))));exact zal rfl;rfl;(first|rfl|exact zaj _);rfl;(intro _ _ _))|fail))
    rename_i h3 g3 x3
    have n3 : h'.n + 1 <= h3.n := x3.n
    exact zbi (ih 1 _ (by omega) ⟨by omega, by (focus repeat' first | exact Ext.refl _ | assumption | apply Ext.push | (refine Ext.trans ?_ (by assumption)) | (refine Ext.ofBut ?_ (by assumption) (by first | exact Nat.le_refl _ | omega))), by omega, x3.get (by omega) (zab g4), by rw [show bstK l 1 = l.getD 0 (0, 0) from if_pos (.inl rfl)]; exact g3⟩) (by (focus repeat' first | rfl | exact trivial | apply And.intro))
   ·(repeat' (first|apply zar|apply zac|(apply O_at;rfl)|(apply zam;rfl)|apply zao|(apply zbp;rfl)|(apply zaR;rfl)|apply zaA|apply zaK|apply zaU|((first|apply zah|apply zad);rfl;rfl;rfl;rfl)|(apply zaW;rfl;rfl;rfl;rfl;rfl;rfl)|(apply zb9;rfl;rfl;rfl;rfl;rfl;omega)|(apply zdE;rfl;rfl;rfl;rfl;rfl;omega)|(apply zcM;rfl;rfl;rfl;rfl;rfl;(unfold fit;omega))|(apply zcI;rfl;rfl;rfl;rfl;rfl;exact zaB rfl;exact zal rfl;(first|assumption|exact zq0|rfl|exact (Int.toNat_of_nonneg (by omega)).symm);omega)|(apply zaL;rfl;rfl;rfl;rfl;exact za4 rfl;(focus repeat' first|exact zaa|assumption|apply zab|(apply Ext.get;assumption)|(apply ExtBut.get;assumption;(first|assumption|omega|(simp only [Heap.push];omega))));(first|exact Nat.le_of_ble_eq_true rfl|(simp;done)|(simp;omega)|(rw [zan];omega));(first|exact zb3 (by omega)|rfl))|(apply zaO;rfl;rfl;rfl;rfl;exact zal rfl;rfl;rfl;rfl)|(apply zbr;rfl;rfl;rfl;rfl;exact zal rfl;rfl;rfl)|(apply zf3;rfl;rfl;rfl;rfl;(focus repeat' first|exact zaa|assumption|apply zab|(apply Ext.get;assumption)|(apply ExtBut.get;assumption;(first|assumption|omega|(simp only [Heap.push];omega))));exact zal rfl;rfl;(first|rfl|exact zaj _);rfl;(intro _ _ _))|(apply zap;rfl;rfl;rfl;rfl;rfl;rfl;exact zod (p := l.getD k (0,0)) (q := bstK l k) hK;(rintro _ _ (⟨rfl,_,_⟩|⟨rfl,_,_⟩)))|fail))
    ·rename_i h2 w2 x2 h3 g3 x3
     have n2 : h'.n + 1 <= h2.n := x2.n
     have n3 := x3.n
     exact zbi (ih (k + 1) _ (by omega) ⟨by omega, by (focus repeat' first | exact Ext.refl _ | assumption | apply Ext.push | (refine Ext.trans ?_ (by assumption)) | (refine Ext.ofBut ?_ (by assumption) (by first | exact Nat.le_refl _ | omega))), by omega, x3.get (by omega) (x2.get (zab g4)), by rw [show bstK l (k + 1) = l.getD k (0, 0) from if_pos (.inr w2)]; exact g3⟩) (by (focus repeat' first | rfl | exact trivial | apply And.intro))
    ·rename_i h2 w2 x2
     have n2 : h'.n + 1 <= h2.n := x2.n
     exact zbi (ih (k + 1) _ (by omega) ⟨by omega, by (focus repeat' first | exact Ext.refl _ | assumption | apply Ext.push | (refine Ext.trans ?_ (by assumption)) | (refine Ext.ofBut ?_ (by assumption) (by first | exact Nat.le_refl _ | omega))), by omega, x2.get (zab g4), by rw [show bstK l (k + 1) = bstK l k from if_neg (by intro q; rcases q with q | q; exact hk0 q; exact w2 q)]; exact x2.get (zab g5)⟩) (by (focus repeat' first | rfl | exact trivial | apply And.intro))
  ·obtain rfl : k = l.length := by omega
   (repeat' (first|apply zar|apply zac|(apply O_at;rfl)|(apply zam;rfl)|apply zao|(apply zaR;rfl)|apply zby|apply zaS|apply zbF|apply za5|apply za6|apply zaE|(apply zbN;rfl;rfl;rfl;rfl;rfl;omega)|(apply zaL;rfl;rfl;rfl;rfl;exact za4 rfl;(focus repeat' first|exact zaa|assumption|apply zab|(apply Ext.get;assumption)|(apply ExtBut.get;assumption;(first|assumption|omega|(simp only [Heap.push];omega))));(first|exact Nat.le_of_ble_eq_true rfl|(simp;done)|(simp;omega)|(rw [zan];omega));(first|exact zb3 (by omega)|rfl))|(apply zf3;rfl;rfl;rfl;rfl;(focus repeat' first|exact zaa|assumption|apply zab|(apply Ext.get;assumption)|(apply ExtBut.get;assumption;(first|assumption|omega|(simp only [Heap.push];omega))));exact zal rfl;rfl;(first|rfl|exact zaj _);rfl;(intro _ _ _))|fail))
   rename_i h3 g3 x3
   refine ⟨.inr rfl, _, zl9 rfl (readA (za4 rfl) g3 (Nat.le_refl 2) rfl) rfl, rfl, by (focus repeat' first | exact Ext.refl _ | assumption | apply Ext.push | (refine Ext.trans ?_ (by assumption)) | (refine Ext.ofBut ?_ (by assumption) (by first | exact Nat.le_refl _ | omega)))⟩
 ·exact ⟨Nat.zero_le _, by (focus repeat' first | exact Ext.refl _ | assumption | apply Ext.push | (refine Ext.trans ?_ (by assumption)) | (refine Ext.ofBut ?_ (by assumption) (by first | exact Nat.le_refl _ | omega))), Nat.le_refl _, zab zaa, zaa⟩
 ·(focus repeat' first | rfl | exact trivial | apply And.intro)
noncomputable def wstK (G : Pg) : Nat -> Int × Int
 | 0 => (0, 0)
 | k + 1 => if ofK G (k : Int) G.c.length > (wstK G k).2 then ((k : Int), ofK G (k : Int) G.c.length) else wstK G k
theorem zpg (G : Pg) (q : Int) : ∀ k, 0 <= ofK G q k /\ ofK G q k <= k * G.n
 | 0 => by simp [ofK]
 | k + 1 => by
  have := zpg G q k
  have := zfX G k
  have e1 : ((k + 1 : Nat) : Int) * (G.n : Int) = (k : Int) * G.n + G.n := by rw [Int.natCast_succ, Int.add_mul, Int.one_mul]
  unfold ofK
  rw [e1]
  split <;> omega
theorem zoa (G : Pg) : ∀ k, 0 <= (wstK G k).2
 | 0 => Int.le_refl 0
 | k + 1 => by
  unfold wstK
  have := zoa G k
  have := (zpg G (k : Int) G.c.length).1
  split
  ·exact this
  ·assumption
theorem mssL_get {G : Pg} {m k : Nat} (h : k < m) : (mssL G m).getD k (0, 0) = ((k : Int), ofK G (k : Int) G.c.length) := by simp [mssL, List.getD_eq_getElem?_getD, h]
theorem zqf (G : Pg) (m : Nat) : ∀ k, k <= m -> bstK (mssL G m) k = wstK G k
 | 0 => fun _ => rfl
 | k + 1 => fun h => by
  have ih := zqf G m k (by omega)
  unfold bstK wstK
  rw [mssL_get (by omega), ih]
  by_cases hk : k = 0
  ·subst hk
   rw [if_pos (.inl rfl)]
   have := (zpg G ((0 : Nat) : Int) G.c.length).1
   by_cases h2 : ofK G ((0 : Nat) : Int) G.c.length > (wstK G 0).2
   ·rw [if_pos h2]
   ·rw [if_neg h2]
    have h3 : ofK G ((0 : Nat) : Int) G.c.length = 0 := by
     have : (wstK G 0).2 = 0 := rfl
     omega
    rw [h3]
    rfl
  ·by_cases h2 : ofK G (k : Int) G.c.length > (wstK G k).2
   ·rw [if_pos h2, if_pos (.inr h2)]
   ·rw [if_neg h2, if_neg (by intro q; rcases q with q | q; exact hk q; exact h2 q)]
noncomputable def wst (G : Pg) : Int × Int := wstK G G.people.toNat
theorem zlS (hK : NoK K) {G : Pg} {h : Heap} (hT : PgAt G h) (hs : zdD G) (hP : PgP G) :
  CallW Tryz.prog K 38 #[pgV G] h (IsV (if (wst G).2 = 0 then .tuple #[.int .i64 0, .int .i64 0, .int .i64 5] else .tuple #[.int .i64 (wst G).1, .int .i64 (wst G).2, .int .i64 0]) h) := by
 have hlm := zmi G G.people.toNat
 have hp := hP.people
 refine body (N := 19) Tryz.func38 rfl (hK _ _ _ rfl) rfl rfl ?_
 (repeat' (first|apply zar|apply zac|(apply O_at;rfl)|(apply zam;rfl)|apply zao|(apply zaR;rfl)|apply zaK|((first|apply zad|apply zbC|apply zas);rfl;rfl;rfl;rfl)|(apply zaL;rfl;rfl;rfl;rfl;exact za4 rfl;(focus repeat' first|exact zaa|assumption|(apply Ext.get;assumption));(first|exact Nat.le_of_ble_eq_true rfl|(simp;done)|(simp;omega));rfl)|(apply zbo;rfl;rfl;rfl;rfl;exact zal rfl;rfl;rfl)|(apply zap;rfl;rfl;rfl;rfl;rfl;rfl;exact yes (zgE hK (hT.ext (by repeat' first|exact Ext.refl _|assumption|apply Ext.push|refine Ext.trans ?_ (by assumption))) hs) hP;(rintro _ _ ⟨rfl,_⟩))|fail))
 rename_i h1 x1
 apply zap; rfl; rfl; rfl; rfl; rfl; rfl
 exact zpm hK (hT.ext (by repeat' first|exact Ext.refl _|assumption|apply Ext.push|refine Ext.trans ?_ (by assumption))) hP
 rintro _ h2 ⟨p, cap, rfl, r2, x2⟩
 have e0 : bstK (mssL G G.people.toNat) (mssL G G.people.toNat).length = wst G := by rw [hlm]; exact zqf G _ _ (Nat.le_refl _)
 (repeat' (first|apply zar|apply zac|(apply O_at;rfl)|(apply N_at;rfl)|(apply zam;rfl)|apply zao|(apply zbp;rfl)|(apply zaR;rfl)|(apply zbW;exact zaP (by decide +kernel))|apply zaK|apply zaS|(apply zcw;rfl;exact (.inl (Nat.le_refl 1)))|apply zbE|apply zaE|((first|apply zad|apply zbC|apply zas);rfl;rfl;rfl;rfl)|((first|apply P_fa|apply M_fa);rfl;rfl;rfl;rfl;exact zaN rfl;(first|exact Nat.zero_add _|exact Nat.add_zero _|rfl))|(apply ziT;rfl;rfl;rfl;rfl;rfl;all_goals intro _)|(apply zak;rfl;rfl;rfl;rfl;exact zax rfl;(focus repeat' first|exact zaa|assumption|(apply Ext.get;assumption));(first|rfl|assumption))|(apply zaO;rfl;rfl;rfl;rfl;exact zal rfl;rfl;rfl;rfl)|(apply zbr;rfl;rfl;rfl;rfl;exact zal rfl;rfl;rfl)|(((apply zbQ;rfl;rfl;rfl;rfl;exact zax rfl;exact zaY (by decide +kernel));(focus repeat' first|exact zaa|assumption|(apply Ext.get;assumption));(first|rfl|assumption));(first|assumption|exact za1 _ _|rfl|(focus simp [same,same.all2];done));(first|rfl|assumption|exact hwv _|(simp [within];omega)))|(apply zap;rfl;rfl;rfl;rfl;rfl;rfl;exact best_ok hK (l := mssL G G.people.toNat) (by omega) (r2.ext (by repeat' first|exact Ext.refl _|assumption|apply Ext.push|refine Ext.trans ?_ (by assumption)));(rintro _ _ ⟨rfl,_⟩))|fail))
 ·rename_i h3 x3 w
  rw [e0] at w
  rw [if_pos w]
  exact ⟨.inr rfl, _, rfl, rfl, by repeat' first|exact Ext.refl _|assumption|apply Ext.push|refine Ext.trans ?_ (by assumption)⟩
 ·rename_i h3 x3 w
  rw [e0] at w
  rw [if_neg w, <- e0]
  exact ⟨.inr rfl, _, rfl, rfl, by repeat' first|exact Ext.refl _|assumption|apply Ext.push|refine Ext.trans ?_ (by assumption)⟩
end Go.AX.Sa

namespace Go.AX.Sa
open Go.Proofs
set_option maxRecDepth 100000
variable {K : Known}
abbrev TrueB : Value -> Heap -> Prop := fun v _ => v = .bool true
end Go.AX.Sa

namespace Go.AX.Sa
open Go.Proofs
set_option maxRecDepth 100000
variable {K : Known}
instance (e : Ent) (q : Int) : Decidable (zcF e q) := by unfold zcF; infer_instance
def hitP (G : Pg) (q : Int) (x : Int × Int) : Prop := zcF (ent (G.c.getD x.1.toNat cop0)) q
instance (G : Pg) (q : Int) (x : Int × Int) : Decidable (hitP G q x) := by unfold hitP; infer_instance
def cntL (G : Pg) (q : Int) (l : List (Int × Int)) : Nat := (l.filter fun x => decide (hitP G q x)).length
theorem ze7 (G : Pg) (q : Int) (l : List (Int × Int)) (x : Int × Int) : cntL G q (l ++ [x]) = cntL G q l + if hitP G q x then 1 else 0 := by
 unfold cntL
 rw [List.filter_append, List.length_append]
 by_cases h : hitP G q x <;> simp [h]
theorem cntL_le (G : Pg) (q : Int) (l : List (Int × Int)) : cntL G q l <= l.length := List.length_filter_le _ _
theorem misL_mem {G : Pg} {i : Nat} {x : Int} (h : x ∈ misL G i) : ∃ j : Nat, j < G.n /\ x = (j : Int) /\ MsP G i j := filL_mem.1 h
theorem missK_mem {G : Pg} {x : Int × Int} : ∀ {k : Nat}, x ∈ zcV G k ↔ ∃ i : Nat, i < k /\ ∃ j : Nat, j < G.n /\ x = ((i : Int), (j : Int)) /\ MsP G i j
 | 0 => ⟨fun h => (by cases h), fun ⟨i, h, _⟩ => by omega⟩
 | k + 1 => by
  unfold zcV
  rw [List.mem_append, missK_mem (k := k)]
  constructor
  ·rintro (⟨i, h1, h2⟩ | h)
   ·exact ⟨i, by omega, h2⟩
   ·unfold tag at h
    obtain ⟨y, hy, rfl⟩ := List.mem_map.1 h
    obtain ⟨j, h1, rfl, h2⟩ := misL_mem hy
    exact ⟨k, by omega, j, h1, rfl, h2⟩
  ·rintro ⟨i, h1, j, h2, rfl, h3⟩
   by_cases hik : i = k
   ·subst hik
    exact .inr (List.mem_map.2 ⟨(j : Int), filL_mem.2 ⟨j, h2, rfl, h3⟩, rfl⟩)
   ·exact .inl ⟨i, by omega, j, h2, rfl, h3⟩
theorem zp0 (G : Pg) (q : Int) (k : Nat) : ∀ l : List Int, cntL G q (tag k l) = if zcF (ent (G.c.getD k cop0)) q then l.length else 0
 | [] => by simp [cntL, tag]
 | x :: l => by
  have ih := zp0 G q k l
  unfold cntL tag at ih ⊢
  rw [List.map_cons, List.filter_cons]
  have e1 : hitP G q ((k : Int), x) ↔ zcF (ent (G.c.getD k cop0)) q := by unfold hitP; rw [show ((k : Int), x).1.toNat = k from Int.toNat_natCast k]
  by_cases h : zcF (ent (G.c.getD k cop0)) q
  ·rw [if_pos h] at ih ⊢
   rw [if_pos (by simpa using e1.2 h), List.length_cons, ih, List.length_cons]
  ·rw [if_neg h] at ih ⊢
   rw [if_neg (by simpa using fun w => h (e1.1 w)), ih]
theorem zj7 (G : Pg) (q : Int) : ∀ k, (cntL G q (zcV G k) : Int) = ofK G q k
 | 0 => rfl
 | k + 1 => by
  have ih := zj7 G q k
  unfold zcV ofK
  have e1 : cntL G q (zcV G k ++ tag k (misL G k)) = cntL G q (zcV G k) + cntL G q (tag k (misL G k)) := by unfold cntL; rw [List.filter_append, List.length_append]
  rw [e1, zp0, Int.natCast_add, ih]
  congr 1
  by_cases h1 : (G.c.getD k cop0).par = 1
  ·by_cases h : zcF (ent (G.c.getD k cop0)) q
   ·rw [if_pos h, if_pos ⟨h1, h⟩]
   ·rw [if_neg h, if_neg (fun w : RdrP (G.c.getD k cop0) q => h w.2)]; rfl
  ·have e0 : misL G k = [] := zj1 fun j _ w => h1 w.1.1
   rw [if_neg (fun w : RdrP (G.c.getD k cop0) q => h1 w.1), e0]
   split <;> rfl
theorem zpn {G : Pg} (hP : PgP G) : (zcV G G.c.length).length <= 1000 := by have := zeu hP (Nat.le_refl _); omega
end Go.AX.Sa

namespace Go.AX.Sa
open Go.Proofs
set_option maxRecDepth 100000
variable {K : Known}
theorem zmK : ∀ l : List Cop, (zaX l).all oneB = true
 | [] => rfl
 | c :: l => by
  show (true && (true && (zaX l).all oneB)) = true
  rw [zmK l]; rfl
def SpotN (G : Pg) : Prop := ∀ a, G.pg = some a -> a.spot = none
def withG (G : Pg) (b k : Nat) (x : Cop) : Pg := { G with pg := some ⟨b, 0, none⟩, kg := k, c := G.c ++ [x] }
def RoomP (G : Pg) (x : Cop) : Prop := zdD G /\ PgP G /\ x.r.s.length <= 6 /\ G.c.length < 10 /\ EntP G.people G.n (ent x)
theorem zd1 (hK : NoK K) {G : Pg} {h : Heap} (hT : PgAt G h) : CallW Tryz.prog K 42 #[pgV G] h (IfB (zdD G /\ PgP G) h) := by
 refine body (N := 9) Tryz.func42 rfl (hK _ _ _ rfl) rfl rfl ?_
 by_cases hs : zdD G
 ·(repeat' (first|apply zar|apply zac|(apply O_at;rfl)|(apply zam;rfl)|apply zao|apply zaS|apply zaE|((first|apply zah|apply zad);rfl;rfl;rfl;rfl)|(apply zaW;rfl;rfl;rfl;rfl;rfl;rfl)|(apply zaL;rfl;rfl;rfl;rfl;exact za4 rfl;(focus repeat' first|exact zaa|assumption|(apply Ext.get;assumption));(first|exact Nat.le_of_ble_eq_true rfl|(simp;done)|(simp;omega));rfl)|(apply zbo;rfl;rfl;rfl;rfl;exact zal rfl;rfl;rfl)|(apply zap;rfl;rfl;rfl;rfl;rfl;rfl;exact yes (zl1 hK (hT.ext (by repeat' first|exact Ext.refl _|assumption|apply Ext.push|refine Ext.trans ?_ (by assumption)))) hs;(rintro _ _ ⟨rfl,_⟩))|(apply zap;rfl;rfl;rfl;rfl;rfl;rfl;exact znq hK (hT.ext (by repeat' first|exact Ext.refl _|assumption|apply Ext.push|refine Ext.trans ?_ (by assumption))) hs;(rintro _ _ (⟨rfl,_,_⟩|⟨rfl,_,_⟩)))|fail))
  ·rename_i w _
   exact ⟨.inr rfl, _, rfl, .inl ⟨rfl, ⟨hs, w⟩, by repeat' first|exact Ext.refl _|assumption|apply Ext.push|refine Ext.trans ?_ (by assumption)⟩⟩
  ·rename_i w _
   exact ⟨.inr rfl, _, rfl, .inr ⟨rfl, fun q => w q.2, by repeat' first|exact Ext.refl _|assumption|apply Ext.push|refine Ext.trans ?_ (by assumption)⟩⟩
 ·(repeat' (first|apply zar|apply zac|(apply O_at;rfl)|(apply zam;rfl)|apply zao|apply zaS|apply zaE|(apply zbs;rfl;rfl;rfl)|((first|apply zah|apply zad);rfl;rfl;rfl;rfl)|(apply zaW;rfl;rfl;rfl;rfl;rfl;rfl)|(apply zaL;rfl;rfl;rfl;rfl;exact za4 rfl;(focus repeat' first|exact zaa|assumption|(apply Ext.get;assumption));(first|exact Nat.le_of_ble_eq_true rfl|(simp;done)|(simp;omega));rfl)|(apply zbo;rfl;rfl;rfl;rfl;exact zal rfl;rfl;rfl)|(apply zap;rfl;rfl;rfl;rfl;rfl;rfl;exact no (zl1 hK (hT.ext (by repeat' first|exact Ext.refl _|assumption|apply Ext.push|refine Ext.trans ?_ (by assumption)))) hs;(rintro _ _ ⟨rfl,_⟩))|fail))
  exact ⟨.inr rfl, _, rfl, .inr ⟨rfl, fun q => hs q.1, by repeat' first|exact Ext.refl _|assumption|apply Ext.push|refine Ext.trans ?_ (by assumption)⟩⟩
end Go.AX.Sa

namespace Go.AX.Sa
open Go.Proofs
set_option maxRecDepth 100000
variable {K : Known}
theorem lin_nat {n : Nat} {q : Int} (h : LinP n q) : ∃ j : Nat, q = (j : Nat) /\ j < n := by
 unfold LinP at h
 exact ⟨q.toNat, by omega, by omega⟩
end Go.AX.Sa

namespace Go.AX.Sa
open Go.Proofs
set_option maxRecDepth 100000
variable {K : Known}
end Go.AX.Sa

namespace Go.AX.Sa
open Go.Proofs
set_option maxRecDepth 100000
variable {K : Known}
end Go.AX.Sa

namespace Go.AX.Sa
open Go.Proofs
set_option maxRecDepth 100000
variable {K : Known}
def wthC (l : List Int) (c : List Cop) (k : Nat) : List Cop := ((List.range k).filter fun i => decide (((i : Nat) : Int) ∉ l)).map fun i => c.getD i cop0
def wthG (G : Pg) (l : List Int) (q : Option Addr) (k : Nat) : Pg := { G with pg := q, kg := k, c := wthC l G.c G.c.length }
end Go.AX.Sa

namespace Go.AX
theorem app_pre {P : Program} {h : Heap} {ts : Array TypeId} {t t' e e' : TypeId} {s m b cap : Nat} {c : List Value} {e0 : TypeId} {own : Bool} (h0 : ts[0]? = some t) (h1 : ts[1]? = some t') (hc : zj9 P s t = some e) (hc' : P.underlying t' = some (.slice e')) (hb : h.get? b = some (.cells c e0 own)) (hl : m * s <= c.length) (hpos : 0 < m) (hle : m <= 1000000) (hone : c.all oneB = true) :
  zbh P h ts (.slice none 0 0) (.slice (some ⟨b, 0, none⟩) m cap) = some (.slice (some ⟨h.n, 0, none⟩) m unk, h.push (.cells (c.take (m * s)) e true)) := by
 obtain ⟨k, by_, z, rfl, hu, hs, hby, hz, h64, hz1⟩ := zhQ hc
 unfold zbh
 simp only [h0, h1, hu, hc']
 unfold zcb
 have hne : m * (k + 1) ≠ 0 := Nat.ne_of_gt (Nat.mul_pos hpos (Nat.succ_pos k))
 have hr : rowB h (k + 1) m (.slice (some ⟨b, 0, none⟩) m cap) = some (c.take (m * (k + 1))) := by
  unfold rowB
  simp only [hb]
  rw [if_neg (Nat.lt_irrefl m), if_neg hne, if_pos (by omega), List.drop_zero]
 simp only [hs, hby, hz, lenB, hr]
 have hbd : (0 + m) * (by_ + 1) <= 70368744177664 := Nat.le_trans (Nat.mul_le_mul (by omega : 0 + m <= 1000000) (by omega : by_ + 1 <= 65)) (by decide)
 have ho : (c.take (m * (k + 1))).all oneB = true := by
  rw [List.all_eq_true] at hone ⊢
  exact fun x hx => hone x (List.mem_of_mem_take hx)
 rw [if_pos ⟨hz1, ho, hbd⟩, if_neg (by omega)]
 simp
theorem app_pre0 {P : Program} {h : Heap} {ts : Array TypeId} {t t' e e' : TypeId} {s b cap : Nat} (h0 : ts[0]? = some t) (h1 : ts[1]? = some t') (hc : zj9 P s t = some e) (hc' : P.underlying t' = some (.slice e')) :
  zbh P h ts (.slice none 0 0) (.slice (some ⟨b, 0, none⟩) 0 cap) = some (.slice none 0 0, h) :=
 zql h0 h1 hc hc' (fun a q => by cases q; rfl) (Nat.le_refl _) (by omega)
end Go.AX
namespace Go.AX.Sa
open Go.Proofs
set_option maxRecDepth 100000
variable {K : Known}
theorem znP (l : List Cop) : ∀ i, (zaX l).take (i * 2) = zaX (l.take i) := by
 induction l with
 | nil => intro i; simp [zaX]
 | cons c l ih =>
  intro i
  cases i with
  | zero => rfl
  | succ i =>
   rw [show (i + 1) * 2 = i * 2 + 2 by omega]
   simp only [zaX, List.take_succ_cons, ih]
section
variable {P : Program} {x : Ctx} {N : Nat} {E : Env} {h : Heap} {ops : Array Oper} {F : Ex -> Env -> Heap -> Prop} {i : Nat} {d : Nat} {ty : TypeId} {pos : String} {af : Array Edge} {g : Option (Nat × Bool)}
theorem P_appPre {args : Array Operand} {ts : Array TypeId} {t t' e e' : TypeId} {a b : Operand} {bg m cap : Nat} {c : List Cop} {e0 : TypeId} {own : Bool} (hN : Nat.blt d N = true) (hg : gval ops E g = some true) (hk : zag P ⟨some d, .call ⟨.builtin .append, args, ts⟩, ty, pos, af, g⟩ = true) (hargs : args.toList = [a, b])
  (ha : E.ev a = some (.slice none 0 0)) (hb : E.ev b = some (.slice (some ⟨bg, 0, none⟩) m cap)) (h0' : ts[0]? = some t) (h1' : ts[1]? = some t') (hc : zj9 P 2 t = some e) (hc' : P.underlying t' = some (.slice e'))
  (hy : h.get? bg = some (.cells (zaX c) e0 own)) (hm : m <= c.length) (hle : c.length <= 1000)
  (k : ∀ q c2 h1, Rd h1 q (zaX (c.take m)) -> (∀ a, q = some a -> h.n <= a.block /\ a.block < h1.n) -> Ext h h1 -> R1 P K x N ops F (i + 1) ((d, .slice q (c.take m).length c2) :: E) h1) : R2 P K x N ops F i ⟨some d, .call ⟨.builtin .append, args, ts⟩, ty, pos, af, g⟩ E h := by
 rw [List.length_take, Nat.min_eq_left hm] at k
 by_cases h0 : m = 0
 ·subst h0
  exact zee hN hg hk hargs ha hb (app_pre0 h0' h1' hc hc') (k _ _ _ (.inl rfl) (fun a q => by cases q) (Ext.refl h))
 ·refine zee hN hg hk hargs ha hb (app_pre h0' h1' hc hc' hy (by rw [zaD]; omega) (by omega) (by omega) (zmK c)) (k _ _ _ (.inr ⟨h.n, e, true, rfl, ?_⟩) (fun a q => by cases q; exact ⟨Nat.le_refl _, Nat.lt_succ_self _⟩) ((Ext.refl h).push _))
  rw [<- znP]
  exact zaa
end
def zdH (G : Pg) (i : Nat) (q : Option Addr) (k : Nat) : Pg := { G with pg := q, kg := k, c := G.c.take i }
theorem zf9 {l : List Cop} {i j : Nat} (h : j < i) : (l.take i).getD j cop0 = l.getD j cop0 := by simp [List.getD_eq_getElem?_getD, h]
theorem takeAt {G : Pg} {i : Nat} {q : Option Addr} {k : Nat} {h : Heap} (hT : PgAt G h) (hq : Rd h q (zaX (G.c.take i))) (hb : ∀ a, q = some a -> a.block < h.n) : PgAt (zdH G i q k) h :=
 ⟨hT.len, hT.rl, hq, fun j hj => by
  have hj' : j < i /\ j < G.c.length := by simp only [zdH, List.length_take] at hj; omega
  rw [show (zdH G i q k).c.getD j cop0 = G.c.getD j cop0 from zf9 hj'.1]
  exact hT.each j hj'.2, hT.bl, hb⟩
theorem takeP {G : Pg} {i : Nat} {q : Option Addr} {k : Nat} (hP : PgP G) : PgP (zdH G i q k) :=
 ⟨hP.people, hP.n, by have := hP.c; simp only [zdH, List.length_take]; omega, fun j hj => hP.line j hj, fun j hj => by
  have hj' : j < i /\ j < G.c.length := by simp only [zdH, List.length_take] at hj; omega
  rw [show (zdH G i q k).c.getD j cop0 = G.c.getD j cop0 from zf9 hj'.1]
  exact hP.ent j hj'.2⟩
theorem takeS {G : Pg} {i : Nat} {q : Option Addr} {k : Nat} (hs : zdD G) : zdD (zdH G i q k) :=
 ⟨hs.1, by have := hs.2.1; simp only [zdH, List.length_take]; omega, fun j hj => by
  have hj' : j < i /\ j < G.c.length := by simp only [zdH, List.length_take] at hj; omega
  rw [show (zdH G i q k).c.getD j cop0 = G.c.getD j cop0 from zf9 hj'.1]
  exact hs.2.2 j hj'.2⟩
theorem takeL {G : Pg} {i : Nat} {q : Option Addr} {k : Nat} : logL (zdH G i q k) = (logL G).take i := by simp [logL, zdH, List.map_take]
theorem zhZ (G : Pg) : ∀ m (q : Nat), q < m -> ofK G (q : Int) G.c.length <= (wstK G m).2
 | 0 => fun q h => by omega
 | m + 1 => fun q h => by
  have ih := zhZ G m q
  unfold wstK
  by_cases hq : q = m
  ·subst hq
   split
   ·exact Int.le_refl _
   ·omega
  ·have := ih (by omega)
   split
   ·dsimp only; omega
   ·exact this
theorem zob (G : Pg) : ∀ m, 0 < (wstK G m).2 -> ∃ q : Nat, q < m /\ wstK G m = ((q : Int), ofK G (q : Int) G.c.length) /\ ∀ j : Nat, j < q -> ofK G (j : Int) G.c.length < ofK G (q : Int) G.c.length
 | 0 => fun h => by cases h
 | m + 1 => fun h => by
  unfold wstK at h ⊢
  by_cases hm : ofK G (m : Int) G.c.length > (wstK G m).2
  ·rw [if_pos hm]
   exact ⟨m, by omega, rfl, fun j hj => by have := zhZ G m j hj; omega⟩
  ·rw [if_neg hm] at h ⊢
   obtain ⟨q, h1, h2, h3⟩ := zob G m h
   exact ⟨q, by omega, h2, h3⟩
theorem zhY {G : Pg} (hP : PgP G) : (wst G).2 = 0 ↔ zcV G G.c.length = [] := by
 have hp := hP.people
 constructor
 ·intro h
  cases hl : zcV G G.c.length with
  | nil => rfl
  | cons x l =>
   exfalso
   have hx : x ∈ zcV G G.c.length := by rw [hl]; simp
   obtain ⟨i, hi, j, hj, rfl, hm⟩ := missK_mem.1 hx
   have h1 : (G.c.getD i cop0).par = 1 := hm.1.1
   have z := ent1.1 (show EntP G.people G.n (1, (G.c.getD i cop0).r.s) from by rw [<- h1]; exact hP.ent i hi)
   obtain ⟨q, hq⟩ : ∃ q : Nat, (G.c.getD i cop0).r.s.getD 0 0 = (q : Nat) := ⟨((G.c.getD i cop0).r.s.getD 0 0).toNat, by omega⟩
   have hle := zhZ G G.people.toNat q (by omega)
   have hc := zj7 G (q : Int) G.c.length
   have hpos : 0 < cntL G (q : Int) (zcV G G.c.length) := by
    unfold cntL
    refine List.length_pos_of_mem (a := ((i : Int), (j : Int))) (List.mem_filter.2 ⟨hx, ?_⟩)
    simp only [decide_eq_true_eq]
    unfold hitP
    rw [show ((i : Int), (j : Int)).1.toNat = i from Int.toNat_natCast i]
    exact .inl hq
   unfold wst at h
   omega
 ·intro h
  have key : ∀ m, wstK G m = (0, 0) := by
   intro m
   induction m with
   | zero => rfl
   | succ m ih =>
    unfold wstK
    rw [if_neg (by rw [<- zj7, h, ih]; simp [cntL]), ih]
  unfold wst
  rw [key]
end Go.AX.Sa
