/- The law ProofPasses at the reading: what the functions that it calls answer (3). -/
import Derived.Test.YtliligceejfakaaGreatDoorProofPassesTextB
namespace Go.AX.Sa
open Go.Proofs
set_option maxRecDepth 100000
variable {K : Known}
def wholeE (G : Pg) (p : Int × Int) : Ent := (1, [p.1, p.2, 0, (G.n : Int) - 1])
def logP (G : Pg) (ps : List (Int × Int)) : List Ent := logL G ++ ps.map (wholeE G)
def PairsP (G : Pg) (ps : List (Int × Int)) : Prop := ∀ k, k < ps.length → PairP G (ps.getD k (0, 0)).1 (ps.getD k (0, 0)).2
theorem zfQ {G : Pg} (hn : 1 ≤ (G.n : Int)) {p : Int × Int} (h : PairP G p.1 p.2) : EntP G.people G.n (wholeE G p) := by
  obtain ⟨h1, h2, h3⟩ := h
  unfold PersP at h1 h2
  refine ent1.2 ⟨rfl, ?_, ?_, ?_, ?_, ?_, ?_⟩ <;> simp <;> omega
theorem log_ent {G : Pg} (hP : PgP G) {ps : List (Int × Int)} (hp : PairsP G ps) : ∀ e ∈ logP G ps, EntP G.people G.n e := by
  intro e he
  rcases List.mem_append.1 he with q | q
  · obtain ⟨c, hc, rfl⟩ := List.mem_map.1 q
    obtain ⟨j, hj⟩ := List.getElem?_of_mem hc
    have hl := (List.getElem?_eq_some_iff.1 hj).1
    have := hP.ent j hl
    simpa [List.getD_eq_getElem?_getD, hj] using this
  · obtain ⟨c, hc, rfl⟩ := List.mem_map.1 q
    obtain ⟨j, hj⟩ := List.getElem?_of_mem hc
    have hl := (List.getElem?_eq_some_iff.1 hj).1
    have := hp j hl
    rw [show ps.getD j (0, 0) = c by simp [List.getD_eq_getElem?_getD, hj]] at this
    exact zfQ hP.n.1 this
theorem ze0 {G : Pg} (hP : PgP G) {L : List Ent} (hL : ∀ e ∈ L, EntP G.people G.n e) {j : Nat} (hj : j < G.n) : NumP (numA G L j) := zjg (hP.line j hj).2.2 L hL
theorem zeS {L : List Ent} {k : Nat} (h : k < L.length) : L.take (k + 1) = L.take k ++ [L[k]'h] := by rw [List.take_add_one, List.getElem?_eq_getElem h]; rfl
set_option maxHeartbeats 600000 in
theorem after_ok (hK : NoK K) {G : Pg} {ps : List (Int × Int)} {q : Option Addr} {kq : Nat} {h : Heap} (hT : PgAt G h) (hP : PgP G) (hq : Rd h q (spanCells ps)) (hl : ps.length ≤ 1000) (hp : PairsP G ps) :
    CallW Tryz.prog K 61 #[pgV G, .slice q ps.length kq] h (fun v h1 => ∃ s bn bs r, v = .pointer (some ⟨s, 0, none⟩) ∧ StL G (logP G ps) s bn bs r h1 ∧ bn ≠ bs ∧ (h.n ≤ s ∧ h.n ≤ bn ∧ h.n ≤ bs ∧ h.n ≤ r) ∧ Ext h h1) := by
  have hT' := hT
  have hP' := hP
  have hlog := log_ent hP hp
  have hnn := hP.n
  have hpp := hP.people
  have hcc := hP.c
  obtain ⟨people, pl, kl, n, l, p, kc, c⟩ := G
  obtain ⟨len, rl, rc, each, hbl, hpb⟩ := hT
  dsimp only [pgV] at len rl rc each hbl hpb hnn hpp hcc ⊢
  have hlen : (logP ⟨people, pl, kl, n, l, p, kc, c⟩ ps).length = c.length + ps.length := by simp [logP, logL]
  refine body (N := 46) Tryz.func61 rfl (hK _ _ _ rfl) rfl rfl ?_
  (repeat' (first | apply zam | apply zac | (apply O_at; rfl) | (apply zai; rfl) | apply zaj | ((first | apply zae | apply zad); rfl; rfl; rfl; rfl) | (apply zaC; rfl; rfl; rfl; rfl; exact zaQ rfl; (focus repeat' first | exact zaa | assumption | apply zab | (apply Ext.get; assumption)); (first | exact Nat.le_of_ble_eq_true rfl | (rw [zay]; omega) | (simp; done) | (simp; omega) | (rw [za5]; omega)); (first | exact zbK (by omega) | exact zaE (by omega) | rfl)) | (apply zaN; rfl; rfl; rfl; rfl; exact zah rfl; rfl; rfl) | fail))
  apply zal; rfl; rfl; rfl; rfl; rfl; rfl; exact zln (G := ⟨people, pl, kl, n, l, p, kc, c⟩) hK (hT'.ext (by (focus repeat' first | exact Ext.refl _ | assumption | apply Ext.push | (refine Ext.trans ?_ (by assumption))))) ⟨by dsimp only; omega, by dsimp only; omega⟩
  rintro _ h2 ⟨s, bn, bs, r, rfl, S2, hns, ⟨b1, b2, b3, b4⟩, x2⟩
  have hn2 := x2.n
  have b2' : h.n < bn := b2
  have b3' : h.n < bs := b3
  have b4' : h.n < r := b4
  have b1' : h.n < s := b1
  (repeat' (first | apply zam | apply zac | (apply O_at; rfl) | (apply zai; rfl) | apply zaj | apply zap | ((first | apply zae | apply zad); rfl; rfl; rfl; rfl) | (apply P_fa; rfl; rfl; rfl; rfl; exact zav rfl; (first | exact Nat.zero_add _ | exact Nat.add_zero _ | rfl)) | (apply zbh; rfl; rfl; rfl; rfl; rfl; rfl; exact zat rfl) | (apply zak; rfl; rfl; rfl; rfl; exact zar rfl; (focus repeat' first | exact zaa | assumption | apply zab | (apply Ext.get; assumption)); (first | rfl | assumption)) | fail))
  refine za7 (fun k : Nat => [(16, .int .i64 (k : Nat)), (15, .int .i64 (c.length : Nat)), (14, .slice p c.length kc), (5, .pointer (some ⟨s, 0, none⟩)), (2, .pointer (some ⟨h.n, 0, none⟩)), (1, .slice q ps.length kq)])
    (fun k h' => k ≤ c.length ∧ StL ⟨people, pl, kl, n, l, p, kc, c⟩ ((logP ⟨people, pl, kl, n, l, p, kc, c⟩ ps).take k) s bn bs r h' ∧ Ext (h.push (.cells [.int .i64 people, .slice pl n kl, .slice p c.length kc] 25 true)) h') (fun k => c.length - k) ?_ 0 ?_ ?_
  · rintro k h' ⟨hk, S, hx⟩ ih
    have g0 := hx.get zaa
    by_cases hlt : k < c.length
    · obtain ⟨b, e, own, rfl, hg⟩ := rc.at (by rw [zay]; omega)
      have hg' := hx.get (zab hg)
      have eR := each k hlt
      have ek : (logP ⟨people, pl, kl, n, l, some ⟨b, 0, none⟩, kc, c⟩ ps)[k]'(by omega) = ent (c.getD k cop0) := by
        simp [logP, logL, List.getElem_append_left, hlt]
      have eP := hP'.ent k hlt
      (repeat' (first | apply zam | apply zac | (apply O_at; rfl) | (apply zai; rfl) | apply zaj | (apply za3; rfl) | apply zap | apply zau | ((first | apply zae | apply zad); rfl; rfl; rfl; rfl) | (apply zbl; rfl; rfl; rfl; rfl; rfl; omega) | (apply zbT; rfl; rfl; rfl; rfl; rfl; exact zat rfl; exact zah rfl; (first | assumption | rfl | exact (Int.toNat_of_nonneg (by omega)).symm); omega) | (apply zaC; rfl; rfl; rfl; rfl; exact zaQ rfl; (focus repeat' first | exact zaa | assumption | apply zab | (apply Ext.get; assumption)); (first | exact Nat.le_of_ble_eq_true rfl | (rw [zay]; omega) | (simp; done) | (simp; omega) | (rw [za5]; omega)); (first | exact zbK (by omega) | exact zaE (by omega) | rfl)) | (apply zaA; rfl; rfl; rfl; rfl; exact zah rfl; rfl; rfl; rfl) | (apply za9; rfl; rfl; rfl; rfl; exact zah rfl; rfl; rfl) | fail))
      have y1 : Ext h' (h'.push (.cells [.int .i64 (c.getD k cop0).par, .slice (c.getD k cop0).r.q (c.getD k cop0).r.s.length (c.getD k cop0).r.k] 37 true)) := by (focus repeat' first | exact Ext.refl _ | assumption | apply Ext.push | (refine Ext.trans ?_ (by assumption)))
      apply zal; rfl; rfl; rfl; rfl; rfl; rfl
      · refine zis (G := ⟨people, pl, kl, n, l, some ⟨b, 0, none⟩, kc, c⟩) (c := c.getD k cop0) hK (L := (logP ⟨people, pl, kl, n, l, some ⟨b, 0, none⟩, kc, c⟩ ps).take k) (s := s) (bn := bn) (bs := bs) (r := r) ?_ hns hpp (by dsimp only; omega) ?_ eP (fun j hj => ze0 hP' (fun e he => hlog e (List.mem_of_mem_take he)) hj)
        · obtain ⟨f, S, hf⟩ := S
          exact ⟨f, S.ext y1, hf⟩
        · exact eR.ext (by (focus repeat' first | exact Ext.refl _ | assumption | apply Ext.push | (refine Ext.trans ?_ (by assumption))))
      rintro _ h3 ⟨S3, k3⟩
      (repeat' (first | apply zac | (apply O_at; rfl) | (apply zai; rfl) | apply zaj | apply zaB | ((first | apply zae | apply zad); rfl; rfl; rfl; rfl) | (apply zbH; rfl; rfl; rfl; rfl; rfl; (unfold fit; omega)) | fail))
      have y3 : Ext (h.push (.cells [.int .i64 people, .slice pl n kl, .slice (some ⟨b, 0, none⟩) c.length kc] 25 true)) h3 := k3.ext (hx.trans y1) b2 b3 b4
      refine zaD (ih (k + 1) _ (by omega) ⟨hlt, ?_, y3⟩) (by (focus repeat' first | rfl | exact trivial | apply And.intro))
      rw [zeS (by omega), ek]
      exact S3
    · obtain rfl : k = c.length := by omega
      (repeat' (first | apply zam | apply zac | (apply O_at; rfl) | (apply zai; rfl) | apply zaj | (apply zaG; rfl) | apply zap | apply zbi | apply zbj | apply zaV | apply zaW | ((first | apply zae | apply zad); rfl; rfl; rfl; rfl) | (apply zbh; rfl; rfl; rfl; rfl; rfl; rfl; exact zat rfl) | (apply zbo; rfl; rfl; rfl; rfl; rfl; omega) | fail))
      refine za7 (fun k : Nat => [(26, .int .i64 (k : Nat)), (25, .int .i64 (ps.length : Nat)), (24, .slice q ps.length kq), (5, .pointer (some ⟨s, 0, none⟩)), (2, .pointer (some ⟨h.n, 0, none⟩))])
        (fun k h' => k ≤ ps.length ∧ StL ⟨people, pl, kl, n, l, p, kc, c⟩ ((logP ⟨people, pl, kl, n, l, p, kc, c⟩ ps).take (c.length + k)) s bn bs r h' ∧ Ext (h.push (.cells [.int .i64 people, .slice pl n kl, .slice p c.length kc] 25 true)) h') (fun k => ps.length - k) ?_ 0 ?_ ?_
      · rintro i h5 ⟨hi, S5, hx5⟩ ih5
        have g05 := hx5.get zaa
        by_cases hlt5 : i < ps.length
        · obtain ⟨b, e, own, rfl, hg⟩ := hq.at (by rw [za5]; omega)
          have hg' := hx5.get (zab hg)
          have ek : (logP ⟨people, pl, kl, n, l, p, kc, c⟩ ps)[c.length + i]'(by omega) = wholeE ⟨people, pl, kl, n, l, p, kc, c⟩ (ps.getD i (0, 0)) := by
            simp [logP, logL, List.getElem_append_right, hlt5]
          have eP := zfQ (G := ⟨people, pl, kl, n, l, p, kc, c⟩) hnn.1 (hp i hlt5)
          (repeat' (first | apply zam | apply zac | (apply O_at; rfl) | (apply zai; rfl) | apply zaj | (apply za3; rfl) | apply zap | apply zau | ((first | apply zae | apply zad); rfl; rfl; rfl; rfl) | (apply P_fa; rfl; rfl; rfl; rfl; exact zav rfl; (first | exact Nat.zero_add _ | exact Nat.add_zero _ | rfl)) | (apply zbl; rfl; rfl; rfl; rfl; rfl; omega) | (apply zbT; rfl; rfl; rfl; rfl; rfl; exact zat rfl; exact zah rfl; (first | assumption | rfl | exact (Int.toNat_of_nonneg (by omega)).symm); omega) | (apply zak; rfl; rfl; rfl; rfl; exact zar rfl; (focus repeat' first | exact zaa | assumption | apply zab | (apply Ext.get; assumption)); (first | rfl | assumption)) | (apply zaC; rfl; rfl; rfl; rfl; exact zaQ rfl; (focus repeat' first | exact zaa | assumption | apply zab | (apply Ext.get; assumption)); (first | exact Nat.le_of_ble_eq_true rfl | (rw [zay]; omega) | (simp; done) | (simp; omega) | (rw [za5]; omega)); (first | exact zbK (by omega) | exact zaE (by omega) | rfl)) | (apply zaA; rfl; rfl; rfl; rfl; exact zah rfl; rfl; rfl; rfl) | (apply zjI; rfl; rfl; rfl; rfl) | (apply P_bs_i4; rfl; rfl; rfl; rfl) | (apply za9; rfl; rfl; rfl; rfl; exact zah rfl; rfl; rfl) | (apply zal; rfl; rfl; rfl; rfl; rfl; rfl; exact zeA (G := ⟨people, pl, kl, n, l, p, kc, c⟩) hK (by dsimp only; omega); (rintro _ _ ⟨rfl, _⟩)) | fail))
          rename_i h6 x6
          have y6 : Ext h5 ((h6.push (.cells [.int .i64 0, .int .i64 ((n : Int) - 1)] 140 true)).push (.cells (ints [(ps.getD i (0, 0)).1, (ps.getD i (0, 0)).2, 0, (n : Int) - 1]) 3 true)) := by (focus repeat' first | exact Ext.refl _ | assumption | apply Ext.push | (refine Ext.trans ?_ (by assumption)))
          apply zal; rfl; rfl; rfl; rfl; rfl; rfl
          · refine zis (G := ⟨people, pl, kl, n, l, p, kc, c⟩) (c := ⟨1, ⟨some ⟨h6.n + 1, 0, none⟩, 4, [(ps.getD i (0, 0)).1, (ps.getD i (0, 0)).2, 0, (n : Int) - 1]⟩⟩) hK (L := (logP ⟨people, pl, kl, n, l, p, kc, c⟩ ps).take (c.length + i)) (s := s) (bn := bn) (bs := bs) (r := r) ?_ hns hpp (by dsimp only; omega) ?_ eP (fun j hj => ze0 hP' (fun e he => hlog e (List.mem_of_mem_take he)) hj)
            · obtain ⟨f, S, hf⟩ := S5
              exact ⟨f, S.ext y6, hf⟩
            · exact ⟨.inr ⟨h6.n + 1, _, _, rfl, zaa⟩, fun a q => by cases q; exact Nat.lt_succ_self _, fun _ => Nat.le_refl _⟩
          rintro _ h7 ⟨S7, k7⟩
          (repeat' (first | apply zac | (apply O_at; rfl) | (apply zai; rfl) | apply zaj | apply zaB | ((first | apply zae | apply zad); rfl; rfl; rfl; rfl) | (apply zbH; rfl; rfl; rfl; rfl; rfl; (unfold fit; omega)) | fail))
          have y7 : Ext (h.push (.cells [.int .i64 people, .slice pl n kl, .slice p c.length kc] 25 true)) h7 := k7.ext (hx5.trans y6) b2 b3 b4
          refine zaD (ih5 (i + 1) _ (by omega) ⟨hlt5, ?_, y7⟩) (by (focus repeat' first | rfl | exact trivial | apply And.intro))
          rw [show c.length + (i + 1) = (c.length + i) + 1 by omega, zeS (by omega), ek]
          exact S7
        · obtain rfl : i = ps.length := by omega
          rw [List.take_of_length_le (by omega)] at S5
          (repeat' (first | apply zam | apply zac | (apply O_at; rfl) | (apply zai; rfl) | apply zaj | (apply zaG; rfl) | apply zbi | apply zaz | apply zbj | apply zaV | apply zaW | apply zas | ((first | apply zae | apply zad); rfl; rfl; rfl; rfl) | (apply zbo; rfl; rfl; rfl; rfl; rfl; omega) | fail))
          exact ⟨.inr rfl, _, rfl, s, bn, bs, r, rfl, S5, hns, ⟨by omega, by omega, by omega, by omega⟩, by (focus repeat' first | exact Ext.refl _ | assumption | apply Ext.push | (refine Ext.trans ?_ (by assumption)))⟩
      · exact ⟨Nat.zero_le _, S, hx⟩
      · (focus repeat' first | rfl | exact trivial | apply And.intro)
  · exact ⟨Nat.zero_le _, S2, x2⟩
  · (focus repeat' first | rfl | exact trivial | apply And.intro)
end Go.AX.Sa

namespace Go.AX.Sa
open Go.Proofs
set_option maxRecDepth 100000
variable {K : Known}
theorem StL.ext {G : Pg} {L : List Ent} {s bn bs r : Nat} {h h1 : Heap} (x : StL G L s bn bs r h) (e : Ext h h1) : StL G L s bn bs r h1 := by
  obtain ⟨f, S, hf⟩ := x
  exact ⟨f, S.ext e, hf⟩
theorem zjb (hK : NoK K) {G : Pg} {L : List Ent} {s bn bs r : Nat} {j : Nat} {jj : Int} {h : Heap} (hS : StL G L s bn bs r h) (hp : 2 ≤ G.people ∧ G.people ≤ 6) (hj : j < G.n) (_ : G.n ≤ 1000) (hjj : jj = (j : Nat)) :
    CallW Tryz.prog K 68 #[.pointer (some ⟨s, 0, none⟩), .int .i64 jj] h (IsL (rdA G L j) h) := by
  subst hjj
  obtain ⟨f, ⟨box, nums, sets, hrd, nl, sl⟩, hf⟩ := hS
  unfold rdA
  obtain ⟨m, hm⟩ : ∃ m : Nat, G.people = m := ⟨G.people.toNat, by omega⟩
  have hm' : G.people.toNat = m := by omega
  rw [hm']
  have hset := zfh (G := G) (L := L) hj
  refine body (N := 40) Tryz.func68 rfl (hK _ _ _ rfl) rfl rfl ?_
  unfold stC at box
  rw [hm] at box
  (repeat' (first | apply zam | apply zac | (apply O_at; rfl) | (apply zai; rfl) | apply zaj | apply zap | ((first | apply zae | apply zad); rfl; rfl; rfl; rfl) | (apply P_fa; rfl; rfl; rfl; rfl; exact zav rfl; (first | exact Nat.zero_add _ | exact Nat.add_zero _ | rfl)) | (apply zak; rfl; rfl; rfl; rfl; exact zar rfl; (focus repeat' first | exact zaa | assumption | (apply Ext.get; assumption)); (first | exact zaf (by omega) | rfl | assumption)) | (apply zeP; rfl; rfl; rfl; rfl) | fail))
  refine za7 (fun a : Nat × Value => [(12, .int .i64 (a.1 : Nat)), (11, .int .i64 (m : Nat)), (5, a.2), (0, .pointer (some ⟨s, 0, none⟩)), (1, .int .i64 (j : Nat))])
    (fun a h' => a.1 ≤ m ∧ Ext h h' ∧ OutI 3 h h' a.2 (rdrs a.1 L (j : Nat) (setA G L j))) (fun a => m - a.1) ?_ (0, .slice none 0 0) ?_ ?_
  · rintro ⟨k, v⟩ h' ⟨hk, hx, ho⟩ ih
    dsimp only at hk hx ho ih ⊢
    have q1 := hx.get box
    have q2 := hx.get sets
    have hl := zdH k L (j : Nat) (setA G L j)
    by_cases hlt : k < m
    · have hfk := hf ((j : Nat), (k : Nat)) (by dsimp only; omega) (by dsimp only; omega)
      have hjs : j < (setsL G L).length := by omega
      (repeat' (first | apply zam | apply zac | (apply O_at; rfl) | (apply zai; rfl) | apply zaj | (apply za3; rfl) | (apply zaG; rfl) | apply zap | apply zau | apply zaB | (apply zbn; rfl; rfl; rfl) | ((first | apply zae | apply zad); rfl; rfl; rfl; rfl) | (apply P_fa; rfl; rfl; rfl; rfl; exact zav rfl; (first | exact Nat.zero_add _ | exact Nat.add_zero _ | rfl)) | (apply za2; rfl; rfl; rfl; rfl; rfl; rfl) | (apply zbl; rfl; rfl; rfl; rfl; rfl; omega) | (apply zlt; rfl; rfl; rfl; rfl; rfl; all_goals intro _) | (apply zbH; rfl; rfl; rfl; rfl; rfl; (unfold fit; omega)) | (apply zcA; rfl; rfl; rfl; rfl; rfl; exact zat rfl; exact zah rfl; (first | assumption | rfl | exact (Int.toNat_of_nonneg (by omega)).symm); omega) | (apply zak; rfl; rfl; rfl; rfl; exact zar rfl; (focus repeat' first | exact zaa | assumption | (apply Ext.get; assumption)); (first | exact zaf (by omega) | rfl | assumption)) | (apply zdR; rfl; rfl; rfl; rfl; rfl; rfl; rfl; exact zdA rfl) | (apply ziG; rfl; rfl; rfl; rfl; rfl; rfl; rfl; rfl; exact zdA rfl; exact zat rfl; (focus repeat' first | exact zaa | assumption | (apply Ext.get; assumption)); (apply OutI.ext; assumption; (focus repeat' first | exact Ext.refl _ | assumption | apply Ext.push)); (focus repeat' first | exact Ext.refl _ | assumption | apply Ext.push); (first | omega | (simp; omega)); (intro _ _ _ _)) | (apply zdk; rfl; rfl; rfl; rfl) | (apply zeP; rfl; rfl; rfl; rfl) | (apply zlv; rfl; rfl; rfl; rfl; rfl; exact mapB85; (first | assumption | (apply MapB.ext; assumption; (focus repeat' first | exact Ext.refl _ | assumption | apply Ext.push))); all_goals intro _) | fail))
      · rename_i w1 w2 v2 h2 o2 x2
        refine zaD (ih (k + 1, v2) _ (by dsimp only; omega) ⟨hlt, x2, ?_⟩) (by (focus repeat' first | rfl | exact trivial | apply And.intro))
        rw [zb2, if_pos ⟨by rw [← hfk]; exact w1, by rw [← hset]; exact w2⟩]
        exact o2
      · rename_i w1 w2
        refine zaD (ih (k + 1, v) _ (by dsimp only; omega) ⟨hlt, by (focus repeat' first | exact Ext.refl _ | assumption | apply Ext.push), ?_⟩) (by (focus repeat' first | rfl | exact trivial | apply And.intro))
        rw [zb2, if_neg (fun z => z.2 (by rw [← hset]; omega)), List.append_nil]
        exact ho
      · rename_i w1
        refine zaD (ih (k + 1, v) _ (by dsimp only; omega) ⟨hlt, by (focus repeat' first | exact Ext.refl _ | assumption | apply Ext.push), ?_⟩) (by (focus repeat' first | rfl | exact trivial | apply And.intro))
        rw [zb2, if_neg (fun z => by rw [← hfk, w1] at z; exact absurd z.1 (by simp)), List.append_nil]
        exact ho
    · obtain rfl : k = m := by omega
      (repeat' (first | apply zam | apply zac | (apply O_at; rfl) | (apply zai; rfl) | apply zaj | (apply zaG; rfl) | apply zbi | apply zaz | apply zbj | apply zaV | apply zaW | apply zas | ((first | apply zae | apply zad); rfl; rfl; rfl; rfl) | (apply zbo; rfl; rfl; rfl; rfl; rfl; omega) | fail))
      exact ⟨.inr rfl, _, rfl, ho.isL hx⟩
  · exact ⟨Nat.zero_le _, Ext.refl _, .inl ⟨rfl, rfl⟩⟩
  · (focus repeat' first | rfl | exact trivial | apply And.intro)
theorem zec (hK : NoK K) {G : Pg} {L : List Ent} {s bn bs r : Nat} {j : Nat} {h : Heap} (hS : StL G L s bn bs r h) (hp : 2 ≤ G.people ∧ G.people ≤ 6) (hj : j < G.n) (hn : G.n ≤ 1000) :
    CallW Tryz.prog K 110 #[.pointer (some ⟨s, 0, none⟩), .int .i64 (j : Nat)] h (IfB (PassP G L j) h) := by
  refine body (N := 10) Tryz.func110 rfl (hK _ _ _ rfl) rfl rfl ?_
  have hl := zdH G.people.toNat L (j : Nat) (setA G L j)
  (repeat' (first | apply zam | apply zac | (apply O_at; rfl) | (apply zai; rfl) | apply zaj | apply zaz | apply zas | ((first | apply zae | apply zad); rfl; rfl; rfl; rfl) | (apply zbh; rfl; rfl; rfl; rfl; rfl; rfl; exact zat rfl) | (apply P_geq; rfl; rfl; rfl; rfl; rfl; all_goals intro _) | (apply zal; rfl; rfl; rfl; rfl; rfl; rfl; exact zjb hK (hS.ext (by (focus repeat' first | exact Ext.refl _ | assumption))) hp hj hn rfl; (rintro _ _ ⟨_, _, rfl, _, _⟩)) | fail))
  all_goals (refine ⟨.inr rfl, _, rfl, ?_⟩; first | (refine .inl ⟨rfl, by unfold PassP at *; omega, ?_⟩; (focus repeat' first | exact Ext.refl _ | assumption | apply Ext.push | (refine Ext.trans ?_ (by assumption)) | (refine Ext.set ?_ (Nat.le_succ _) (zab zaa) _) | (refine Ext.ofBut ?_ (by assumption) (by first | exact Nat.le_refl _ | omega))); done) | (refine .inr ⟨rfl, by unfold PassP at *; omega, ?_⟩; (focus repeat' first | exact Ext.refl _ | assumption | apply Ext.push | (refine Ext.trans ?_ (by assumption)) | (refine Ext.set ?_ (Nat.le_succ _) (zab zaa) _) | (refine Ext.ofBut ?_ (by assumption) (by first | exact Nat.le_refl _ | omega))); done))
theorem zjc (hK : NoK K) {G : Pg} {L : List Ent} {s bn bs r : Nat} {h : Heap} (hS : StL G L s bn bs r h) (hp : 2 ≤ G.people ∧ G.people ≤ 6) (hn : G.n ≤ 1000) :
    CallW Tryz.prog K 71 #[.pointer (some ⟨s, 0, none⟩)] h (IsL (passL G L) h) := by
  have hS' := hS
  obtain ⟨f, ⟨box, nums, sets, hrd, nl, sl⟩, hf⟩ := hS
  refine body (N := 23) Tryz.func71 rfl (hK _ _ _ rfl) rfl rfl ?_
  unfold stC at box
  (repeat' (first | apply zam | apply zac | (apply O_at; rfl) | (apply zai; rfl) | apply zaj | apply zap | ((first | apply zae | apply zad); rfl; rfl; rfl; rfl) | (apply P_fa; rfl; rfl; rfl; rfl; exact zav rfl; (first | exact Nat.zero_add _ | exact Nat.add_zero _ | rfl)) | (apply zbh; rfl; rfl; rfl; rfl; rfl; rfl; exact zat rfl) | (apply zak; rfl; rfl; rfl; rfl; exact zar rfl; (focus repeat' first | exact zaa | assumption); (first | rfl | assumption)) | (apply zeP; rfl; rfl; rfl; rfl) | fail))
  refine za7 (fun a : Nat × Value => [(11, .int .i64 (a.1 : Nat)), (10, .int .i64 (G.n : Nat)), (3, a.2), (0, .pointer (some ⟨s, 0, none⟩))])
    (fun a h' => a.1 ≤ G.n ∧ Ext h h' ∧ OutI 3 h h' a.2 (filL (PassP G L) a.1)) (fun a => G.n - a.1) ?_ (0, .slice none 0 0) ?_ ?_
  · rintro ⟨k, v⟩ h' ⟨hk, hx, ho⟩ ih
    dsimp only at hk hx ho ih ⊢
    have hl := zdM (PassP G L) k
    by_cases hlt : k < G.n
    · (repeat' (first | apply zam | apply zac | (apply O_at; rfl) | (apply zai; rfl) | apply zaj | (apply za3; rfl) | (apply zaG; rfl) | apply zap | apply zau | apply zaB | ((first | apply zae | apply zad); rfl; rfl; rfl; rfl) | (apply zbl; rfl; rfl; rfl; rfl; rfl; omega) | (apply zbH; rfl; rfl; rfl; rfl; rfl; (unfold fit; omega)) | (apply zdR; rfl; rfl; rfl; rfl; rfl; rfl; rfl; exact zdA rfl) | (apply ziG; rfl; rfl; rfl; rfl; rfl; rfl; rfl; rfl; exact zdA rfl; exact zat rfl; (focus repeat' first | exact zaa | assumption); (apply OutI.ext; assumption; (focus repeat' first | exact Ext.refl _ | assumption | apply Ext.push | (refine Ext.trans ?_ (by assumption)))); (focus repeat' first | exact Ext.refl _ | assumption | apply Ext.push | (refine Ext.trans ?_ (by assumption))); (first | omega | (simp; omega)); (intro _ _ _ _)) | (apply zal; rfl; rfl; rfl; rfl; rfl; rfl; exact zec hK (hS'.ext (by (focus repeat' first | exact Ext.refl _ | assumption | apply Ext.push | (refine Ext.trans ?_ (by assumption))))) hp hlt hn; (rintro _ _ (⟨rfl, _, _⟩ | ⟨rfl, _, _⟩))) | fail))
      · rename_i w x2 v2 h2 o2 x3
        refine zaD (ih (k + 1, v2) _ (by dsimp only; omega) ⟨hlt, x3, ?_⟩) (by (focus repeat' first | rfl | exact trivial | apply And.intro))
        rw [zc0, if_pos (by assumption)]
        exact o2
      · rename_i w x2
        refine zaD (ih (k + 1, v) _ (by dsimp only; omega) ⟨hlt, by (focus repeat' first | exact Ext.refl _ | assumption | apply Ext.push | (refine Ext.trans ?_ (by assumption))), ?_⟩) (by (focus repeat' first | rfl | exact trivial | apply And.intro))
        rw [zc0, if_neg (by assumption), List.append_nil]
        exact ho.ext x2
    · obtain rfl : k = G.n := by omega
      (repeat' (first | apply zam | apply zac | (apply O_at; rfl) | (apply zai; rfl) | apply zaj | (apply zaG; rfl) | apply zbi | apply zaz | apply zbj | apply zaV | apply zaW | apply zas | ((first | apply zae | apply zad); rfl; rfl; rfl; rfl) | (apply zbo; rfl; rfl; rfl; rfl; rfl; omega) | fail))
      exact ⟨.inr rfl, _, rfl, ho.isL hx⟩
  · exact ⟨Nat.zero_le _, Ext.refl _, .inl ⟨rfl, rfl⟩⟩
  · (focus repeat' first | rfl | exact trivial | apply And.intro)
end Go.AX.Sa

namespace Go.AX.Sa
open Go.Proofs
set_option maxRecDepth 100000
variable {K : Known}
/-! Whether the page passes. -/
theorem fill149 : fillB Tryz.prog 149 [] = some (.agg #[]) := by kernel_rfl
def fewV : Value := .iface 149 (.agg #[])
def fewCh : List PanicEntry := [⟨fewV, false, false⟩]
theorem zhM : assertB Tryz.prog .nilIface 149 true = some (.tuple #[.agg #[], .bool false]) := by kernel_rfl
theorem assertF : assertB Tryz.prog fewV 149 true = some (.tuple #[.agg #[], .bool true]) := by kernel_rfl
theorem few_fin {b : Nat} {v : Value} {h : Heap} (_hg : h.get? b = some (.cells [v] 4 true)) :
    ∃ h1, CallD Tryz.prog K 111 #[.pointer (some ⟨b, 0, none⟩)] .returning h .returning h1 ∧ Ext h h1 := by
  apply bodyD (u := .returning) (N := 9) Tryz.func111; rfl; rfl; rfl; rfl; rfl; rfl; rfl
  show R1 _ _ _ _ _ _ _ ((4, .nilIface) :: _) _
  (repeat' (first | (apply O_at; rfl) | fail))
  apply ziE; rfl; rfl; rfl; rfl; exact zhM
  (repeat' (first | apply zam | apply zac | (apply O_at; rfl) | (apply zai; rfl) | apply zaj | (apply zaG; rfl) | apply zau | apply zas | ((first | apply zae | apply zad); rfl; rfl; rfl; rfl) | (apply zcp; rfl; rfl; rfl; rfl; rfl) | (apply zaA; rfl; rfl; rfl; rfl; exact zah rfl; rfl; rfl; rfl) | (apply za9; rfl; rfl; rfl; rfl; exact zah rfl; rfl; rfl) | fail))
  exact ⟨.inl rfl, by (focus repeat' first | exact Ext.refl _ | assumption | apply Ext.push)⟩
theorem few_pan {b : Nat} {v : Value} {h : Heap} (hg : h.get? b = some (.cells [v] 4 true)) {h0 : Heap} (hx : Ext h0 h) (hb : h0.n ≤ b) :
    ∃ h1, CallD Tryz.prog K 111 #[.pointer (some ⟨b, 0, none⟩)] (.panicking fewCh) h (.panicking [⟨fewV, true, false⟩]) h1 ∧ (h1.get? b = some (.cells [.bool false] 4 true) ∧ Ext h0 h1) := by
  apply bodyD (u := .panicking fewCh) (N := 9) Tryz.func111; rfl; rfl; rfl; rfl; rfl; rfl; rfl
  show R1 _ _ _ _ _ _ _ ((4, fewV) :: _) _
  (repeat' (first | (apply O_at; rfl) | fail))
  apply ziE; rfl; rfl; rfl; rfl; exact assertF
  (repeat' (first | apply zam | apply zac | (apply O_at; rfl) | (apply zai; rfl) | apply zaj | (apply za3; rfl) | apply zas | ((first | apply zae | apply zad); rfl; rfl; rfl; rfl) | (apply zcp; rfl; rfl; rfl; rfl; rfl) | (apply zaA; rfl; rfl; rfl; rfl; exact zah rfl; rfl; rfl; rfl) | (apply za9; rfl; rfl; rfl; rfl; exact zah rfl; rfl; rfl) | (apply ziB; rfl; rfl; rfl; rfl; (focus repeat' first | assumption | apply zab); exact zah rfl; rfl; (first | rfl | exact zag _); rfl; (intro _ _ _)) | fail))
  rename_i h1 g1 x1
  exact ⟨.inl rfl, g1, Ext.ofBut (by (focus repeat' first | assumption | apply Ext.push | (refine Ext.ofBut ?_ (by assumption) (by first | exact Nat.le_refl _ | omega)))) x1 hb⟩
def AllP (G : Pg) (L : List Ent) : Prop := ∀ j, j < G.n → PassP G L j
theorem zgm (hK : NoK K) {G : Pg} {L : List Ent} {s bn bs r : Nat} {h : Heap} (hS : StL G L s bn bs r h) (hp : 2 ≤ G.people ∧ G.people ≤ 6) (hn : G.n ≤ 1000) (hA : AllP G L) :
    CallW Tryz.prog K 112 #[.pointer (some ⟨s, 0, none⟩)] h (fun _ h1 => Ext h h1) := by
  have hS' := hS
  obtain ⟨f, ⟨box, nums, sets, hrd, nl, sl⟩, hf⟩ := hS
  refine body (N := 19) Tryz.func112 rfl (hK _ _ _ rfl) rfl rfl ?_
  unfold stC at box
  (repeat' (first | apply zam | apply zac | (apply O_at; rfl) | (apply zai; rfl) | apply zaj | apply zap | ((first | apply zae | apply zad | apply zbd); rfl; rfl; rfl; rfl) | (apply P_fa; rfl; rfl; rfl; rfl; exact zav rfl; (first | exact Nat.zero_add _ | exact Nat.add_zero _ | rfl)) | (apply zbh; rfl; rfl; rfl; rfl; rfl; rfl; exact zat rfl) | (apply zak; rfl; rfl; rfl; rfl; exact zar rfl; (focus repeat' first | assumption); (first | rfl | assumption)) | (apply zeP; rfl; rfl; rfl; rfl) | fail))
  refine za7 (fun k : Nat => [(9, .int .i64 (k : Nat)), (8, .int .i64 (G.n : Nat)), (0, .pointer (some ⟨s, 0, none⟩))])
    (fun k h' => k ≤ G.n ∧ Ext h h') (fun k => G.n - k) ?_ 0 ?_ ?_
  · rintro k h' ⟨hk, hx⟩ ih
    by_cases hlt : k < G.n
    · (repeat' (first | apply zam | apply zac | (apply O_at; rfl) | (apply zai; rfl) | apply zaj | (apply za3; rfl) | (apply zaG; rfl) | apply zap | apply zau | apply zaB | ((first | apply zae | apply zad | apply zbd); rfl; rfl; rfl; rfl) | (apply zbl; rfl; rfl; rfl; rfl; rfl; omega) | (apply zbH; rfl; rfl; rfl; rfl; rfl; (unfold fit; omega)) | (apply zal; rfl; rfl; rfl; rfl; rfl; rfl; exact yes (zec hK (hS'.ext (by (focus repeat' first | exact Ext.refl _ | assumption | (refine Ext.trans ?_ (by assumption))))) hp hlt hn) (hA k hlt); (rintro _ _ ⟨rfl, _⟩)) | fail))
      exact zaD (ih (k + 1) _ (by omega) ⟨hlt, by (focus repeat' first | exact Ext.refl _ | assumption | (refine Ext.trans ?_ (by assumption)))⟩) (by (focus repeat' first | rfl | exact trivial | apply And.intro))
    · (repeat' (first | apply zam | apply zac | (apply O_at; rfl) | (apply zai; rfl) | apply zaj | (apply zaG; rfl) | apply zbi | apply zbj | apply zaV | apply zaW | apply zas | (apply zbo; rfl; rfl; rfl; rfl; rfl; omega) | fail))
      exact ⟨.inl rfl, _, rfl, hx⟩
  · exact ⟨Nat.zero_le _, Ext.refl _⟩
  · (focus repeat' first | rfl | exact trivial | apply And.intro)
theorem zhn (hK : NoK K) {G : Pg} {L : List Ent} {s bn bs r : Nat} {h : Heap} (hS : StL G L s bn bs r h) (hp : 2 ≤ G.people ∧ G.people ≤ 6) (hn : G.n ≤ 1000) (hA : ¬ AllP G L) :
    CallP Tryz.prog K 112 #[.pointer (some ⟨s, 0, none⟩)] h fewCh (Ext h) := by
  have hS' := hS
  obtain ⟨f, ⟨box, nums, sets, hrd, nl, sl⟩, hf⟩ := hS
  refine bodyP (N := 19) Tryz.func112 rfl (hK _ _ _ rfl) rfl rfl ?_
  unfold stC at box
  (repeat' (first | apply zam | apply zac | (apply O_at; rfl) | (apply zai; rfl) | apply zaj | apply zap | ((first | apply zae | apply zad | apply zbd); rfl; rfl; rfl; rfl) | (apply P_fa; rfl; rfl; rfl; rfl; exact zav rfl; (first | exact Nat.zero_add _ | exact Nat.add_zero _ | rfl)) | (apply zbh; rfl; rfl; rfl; rfl; rfl; rfl; exact zat rfl) | (apply zak; rfl; rfl; rfl; rfl; exact zar rfl; (focus repeat' first | assumption); (first | rfl | assumption)) | (apply zeP; rfl; rfl; rfl; rfl) | fail))
  refine za7 (fun k : Nat => [(9, .int .i64 (k : Nat)), (8, .int .i64 (G.n : Nat)), (0, .pointer (some ⟨s, 0, none⟩))])
    (fun k h' => k ≤ G.n ∧ Ext h h' ∧ ∀ j, j < k → PassP G L j) (fun k => G.n - k) ?_ 0 ?_ ?_
  · rintro k h' ⟨hk, hx, hj⟩ ih
    by_cases hlt : k < G.n
    · (repeat' (first | apply zam | apply zac | (apply O_at; rfl) | (apply zai; rfl) | apply zaj | (apply za3; rfl) | (apply zaG; rfl) | apply zap | apply zau | apply zaB | ((first | apply zae | apply zad | apply zbd); rfl; rfl; rfl; rfl) | (apply zbl; rfl; rfl; rfl; rfl; rfl; omega) | (apply zbH; rfl; rfl; rfl; rfl; rfl; (unfold fit; omega)) | (apply zal; rfl; rfl; rfl; rfl; rfl; rfl; exact zec hK (hS'.ext (by (focus repeat' first | exact Ext.refl _ | assumption | (refine Ext.trans ?_ (by assumption))))) hp hlt hn; (rintro _ _ (⟨rfl, _, _⟩ | ⟨rfl, _, _⟩))) | fail))
      · rename_i w x2
        refine zaD (ih (k + 1) _ (by omega) ⟨hlt, by (focus repeat' first | exact Ext.refl _ | assumption | (refine Ext.trans ?_ (by assumption))), fun j hj' => ?_⟩) (by (focus repeat' first | rfl | exact trivial | apply And.intro))
        by_cases hjk : j = k
        · subst hjk; exact w
        · exact hj j (by omega)
      · apply zdm; rfl; rfl; rfl; rfl; exact fill149
        (repeat' (first | (apply O_at; rfl) | fail))
        apply P_iface; rfl; rfl; rfl; rfl; kernel_rfl
        (repeat' (first | (apply O_at; rfl) | fail))
        apply P_panic; rfl; rfl; rfl
        repeat' first | apply C_panS | apply C_panL | apply C_panB
        refine zas ⟨rfl, ?_⟩
        (focus repeat' first | exact Ext.refl _ | assumption | (refine Ext.trans ?_ (by assumption)))
    · exact absurd (fun j q => hj j (by omega)) hA
  · exact ⟨Nat.zero_le _, Ext.refl _, fun j q => by omega⟩
  · (focus repeat' first | rfl | exact trivial | apply And.intro)
theorem ze9 (hK : NoK K) {G : Pg} {L : List Ent} {s bn bs r : Nat} {h : Heap} (hS : StL G L s bn bs r h) (hp : 2 ≤ G.people ∧ G.people ≤ 6) (hn : G.n ≤ 1000) :
    CallW Tryz.prog K 72 #[.pointer (some ⟨s, 0, none⟩)] h (IfB (AllP G L) h) := by
  apply zjA 1 (N := 6) Tryz.func72; rfl; exact hK _ _ _ rfl; rfl; rfl; rfl; rfl; rfl; rfl; rfl; rfl
  (repeat' (first | apply zam | apply zac | (apply O_at; rfl) | (apply zai; rfl) | apply zaj | apply zau | apply zas | (apply za9; rfl; rfl; rfl; rfl; exact zah rfl; rfl; rfl) | fail))
  refine .inr ⟨rfl, rfl, ?_⟩
  by_cases hA : AllP G L
  · (repeat' (first | apply zam | apply zac | (apply O_at; rfl) | (apply zae; rfl; rfl; rfl; rfl) | fail))
    apply zal; rfl; rfl; rfl; rfl; rfl; rfl; exact zgm hK (hS.ext (by (focus repeat' first | exact Ext.refl _ | assumption | apply Ext.push | (refine Ext.trans ?_ (by assumption)) | (refine Ext.ofBut ?_ (by assumption) (by first | exact Nat.le_refl _ | omega))))) hp hn hA
    intro _ h5 x5
    (repeat' (first | apply zam | apply zac | (apply O_at; rfl) | (apply zai; rfl) | apply zaj | apply zaz | apply zas | (apply ziB; rfl; rfl; rfl; rfl; (focus repeat' first | exact zaa | assumption | (apply Ext.get; assumption)); exact zah rfl; rfl; (first | rfl | exact zag _); rfl; (intro _ _ _)) | fail))
    rename_i h3 g3 x3
    obtain ⟨h6, hD, x6⟩ := few_fin (K := K) g3
    exact ⟨.returning, .returning, h6, rfl, hD, rfl, _, zf3 rfl (read1 (zar rfl) (x6.get g3) rfl) rfl, .inl ⟨rfl, hA, (Ext.ofBut (by (focus repeat' first | exact Ext.refl _ | assumption | apply Ext.push | (refine Ext.trans ?_ (by assumption)) | (refine Ext.ofBut ?_ (by assumption) (by first | exact Nat.le_refl _ | omega)))) x3 (Nat.le_refl _)).trans x6⟩⟩
  · (repeat' (first | apply zam | apply zac | (apply O_at; rfl) | (apply zae; rfl; rfl; rfl; rfl) | fail))
    apply P_callP; rfl; rfl; rfl; rfl; rfl; exact zhn hK (hS.ext (by (focus repeat' first | exact Ext.refl _ | assumption | apply Ext.push | (refine Ext.trans ?_ (by assumption)) | (refine Ext.ofBut ?_ (by assumption) (by first | exact Nat.le_refl _ | omega))))) hp hn hA
    intro h7 x7
    repeat' first | apply C_panS | apply C_panL | apply C_panB
    refine zas ?_
    obtain ⟨h5, hD, q2, e5⟩ := few_pan (K := K) (x7.get zaa) (((Ext.refl h).push _).trans x7) (Nat.le_refl _)
    exact ⟨_, _, h5, rfl, hD, rfl, _, zf3 rfl (read1 (zar rfl) q2 rfl) rfl, .inr ⟨rfl, hA, e5⟩⟩
end Go.AX.Sa

namespace Go.AX.Sa
open Go.Proofs
set_option maxRecDepth 100000
variable {K : Known}
/-! What the layer returns. -/
def IsE (l : List Int) (h : Heap) (v : Value) (h1 : Heap) : Prop := ∃ p cap, v = .tuple #[.slice p l.length cap, .int .i64 0] ∧ Rd h1 p (ints l) ∧ Ext h h1
def errL : Value := .tuple #[.slice none 0 0, .int .i64 2]
theorem zeB (hK : NoK K) {G : Pg} {h : Heap} (hT : PgAt G h) (hP : PgP G) :
    CallW Tryz.prog K 61 #[pgV G, .slice none 0 0] h (fun v h1 => ∃ s bn bs r, v = .pointer (some ⟨s, 0, none⟩) ∧ StL G (logL G) s bn bs r h1 ∧ Ext h h1) := by
  refine (after_ok (ps := []) (q := none) (kq := 0) hK hT hP (.inl rfl) (Nat.zero_le _) (fun k q => by simp at q)).mono ?_
  rintro _ h1 ⟨s, bn, bs, r, rfl, S, _, _, x⟩
  have e : logP G [] = logL G := by simp [logP]
  rw [e] at S
  exact ⟨s, bn, bs, r, rfl, S, x⟩
section
variable {G : Pg} {h : Heap}
theorem zeY (hK : NoK K) (hT : PgAt G h) (hs : ShortP G) (hP : PgP G) : CallW Tryz.prog K 33 #[pgV G] h (IsE (passL G (logL G)) h) := by
  refine body (N := 10) Tryz.func33 rfl (hK _ _ _ rfl) rfl rfl ?_
  have hn := hP.n
  (repeat' (first | (apply zam) | (apply zac) | (apply O_at; rfl) | (apply zai; rfl) | (apply zaj) | (apply zaG; rfl) | (apply zau) | (apply zad; rfl; rfl; rfl; rfl) | (apply zbd; rfl; rfl; rfl; rfl) | (apply zaC; rfl; rfl; rfl; rfl; exact zaQ rfl; (focus repeat' first | exact zaa | assumption | apply zab | (apply Ext.get; assumption) | (apply ExtBut.get; assumption; (first | assumption | omega | (simp only [Heap.push]; omega)))); (first | exact Nat.le_of_ble_eq_true rfl | (rw [zh8]; omega) | (rw [zay]; omega) | (simp; done) | (simp; omega) | (rw [za5]; omega) | (rw [zag]; omega)); (first | exact zbK (by omega) | exact zbO (by omega) | exact zaE (by omega) | rfl)) | (apply zaN; rfl; rfl; rfl; rfl; exact zah rfl; rfl; rfl) | (apply zal; rfl; rfl; rfl; rfl; rfl; rfl; exact yes (zck hK (hT.ext (by (focus repeat' first | exact Ext.refl _ | assumption | apply Ext.push | (refine Ext.trans ?_ (by assumption)) | (refine Ext.set ?_ (Nat.le_succ _) (zab zaa) _) | (refine Ext.ofBut ?_ (by assumption) (by first | exact Nat.le_refl _ | omega))))) hs) hP; (rintro _ _ ⟨rfl, _⟩)) | fail))
  apply zal; rfl; rfl; rfl; rfl; rfl; rfl; exact zeB hK (hT.ext (by (focus repeat' first | exact Ext.refl _ | assumption | apply Ext.push | (refine Ext.trans ?_ (by assumption)) | (refine Ext.set ?_ (Nat.le_succ _) (zab zaa) _) | (refine Ext.ofBut ?_ (by assumption) (by first | exact Nat.le_refl _ | omega))))) hP
  rintro _ h2 ⟨s, bn, bs, r, rfl, S, x⟩
  (repeat' (first | (apply O_at; rfl) | (apply zai; rfl) | (apply zaj) | (apply zaz) | (apply zas) | (apply zad; rfl; rfl; rfl; rfl) | (apply zal; rfl; rfl; rfl; rfl; rfl; rfl; exact zjc hK (S.ext (by (focus repeat' first | exact Ext.refl _ | assumption | apply Ext.push | (refine Ext.trans ?_ (by assumption)) | (refine Ext.set ?_ (Nat.le_succ _) (zab zaa) _) | (refine Ext.ofBut ?_ (by assumption) (by first | exact Nat.le_refl _ | omega))))) hP.people (by omega); (rintro _ _ ⟨_, _, rfl, _, _⟩)) | fail))
  exact ⟨.inr rfl, _, rfl, _, _, rfl, by assumption, by (focus repeat' first | exact Ext.refl _ | assumption | apply Ext.push | (refine Ext.trans ?_ (by assumption)) | (refine Ext.set ?_ (Nat.le_succ _) (zab zaa) _) | (refine Ext.ofBut ?_ (by assumption) (by first | exact Nat.le_refl _ | omega)))⟩
theorem zjd (hK : NoK K) (hT : PgAt G h) (hs : ShortP G) (hP : ¬ PgP G) : CallW Tryz.prog K 33 #[pgV G] h (IsV errL h) := by
  refine body (N := 10) Tryz.func33 rfl (hK _ _ _ rfl) rfl rfl ?_
  (repeat' (first | (apply zam) | (apply zac) | (apply O_at; rfl) | (apply zai; rfl) | (apply zaj) | (apply za3; rfl) | (apply zaz) | (apply zba) | (apply zas) | (apply zad; rfl; rfl; rfl; rfl) | (apply zbd; rfl; rfl; rfl; rfl) | (apply zaC; rfl; rfl; rfl; rfl; exact zaQ rfl; (focus repeat' first | exact zaa | assumption | apply zab | (apply Ext.get; assumption) | (apply ExtBut.get; assumption; (first | assumption | omega | (simp only [Heap.push]; omega)))); (first | exact Nat.le_of_ble_eq_true rfl | (rw [zh8]; omega) | (rw [zay]; omega) | (simp; done) | (simp; omega) | (rw [za5]; omega) | (rw [zag]; omega)); (first | exact zbK (by omega) | exact zbO (by omega) | exact zaE (by omega) | rfl)) | (apply zaN; rfl; rfl; rfl; rfl; exact zah rfl; rfl; rfl) | (apply zal; rfl; rfl; rfl; rfl; rfl; rfl; exact no (zck hK (hT.ext (by (focus repeat' first | exact Ext.refl _ | assumption | apply Ext.push | (refine Ext.trans ?_ (by assumption)) | (refine Ext.set ?_ (Nat.le_succ _) (zab zaa) _) | (refine Ext.ofBut ?_ (by assumption) (by first | exact Nat.le_refl _ | omega))))) hs) hP; (rintro _ _ ⟨rfl, _⟩)) | fail))
  exact ⟨.inr rfl, _, rfl, rfl, by (focus repeat' first | exact Ext.refl _ | assumption | apply Ext.push | (refine Ext.trans ?_ (by assumption)) | (refine Ext.set ?_ (Nat.le_succ _) (zab zaa) _) | (refine Ext.ofBut ?_ (by assumption) (by first | exact Nat.le_refl _ | omega)))⟩
theorem pass_yes (hK : NoK K) (hT : PgAt G h) (hs : ShortP G) (hP : PgP G) (hA : AllP G (logL G)) : CallW Tryz.prog K 34 #[pgV G] h (IsV (.tuple #[.bool true, .int .i64 0]) h) := by
  refine body (N := 10) Tryz.func34 rfl (hK _ _ _ rfl) rfl rfl ?_
  have hn := hP.n
  (repeat' (first | apply zam | apply zac | (apply O_at; rfl) | (apply zai; rfl) | apply zaj | (apply zaG; rfl) | apply zau | ((first | apply zad | apply zbd); rfl; rfl; rfl; rfl) | (apply zaC; rfl; rfl; rfl; rfl; exact zaQ rfl; (focus repeat' first | exact zaa | assumption | (apply Ext.get; assumption)); (first | exact Nat.le_of_ble_eq_true rfl | (simp; done) | (simp; omega)); rfl) | (apply zaN; rfl; rfl; rfl; rfl; exact zah rfl; rfl; rfl) | (apply zal; rfl; rfl; rfl; rfl; rfl; rfl; exact yes (zck hK (hT.ext (by (focus repeat' first | exact Ext.refl _ | assumption | apply Ext.push | (refine Ext.trans ?_ (by assumption))))) hs) hP; (rintro _ _ ⟨rfl, _⟩)) | fail))
  apply zal; rfl; rfl; rfl; rfl; rfl; rfl; exact zeB hK (hT.ext (by (focus repeat' first | exact Ext.refl _ | assumption | apply Ext.push | (refine Ext.trans ?_ (by assumption))))) hP
  rintro _ h2 ⟨s, bn, bs, r, rfl, S, x⟩
  (repeat' (first | (apply O_at; rfl) | (apply zai; rfl) | apply zaj | apply zaz | apply zas | ((first | apply zad | apply zbd); rfl; rfl; rfl; rfl) | (apply zal; rfl; rfl; rfl; rfl; rfl; rfl; exact yes (ze9 hK (S.ext (by (focus repeat' first | exact Ext.refl _ | assumption | apply Ext.push | (refine Ext.trans ?_ (by assumption))))) hP.people (by omega)) hA; (rintro _ _ ⟨rfl, _⟩)) | fail))
  exact ⟨.inr rfl, _, rfl, rfl, by (focus repeat' first | exact Ext.refl _ | assumption | apply Ext.push | (refine Ext.trans ?_ (by assumption)))⟩
theorem pass_not (hK : NoK K) (hT : PgAt G h) (hs : ShortP G) (hP : PgP G) (hA : ¬ AllP G (logL G)) : CallW Tryz.prog K 34 #[pgV G] h (IsV (.tuple #[.bool false, .int .i64 0]) h) := by
  refine body (N := 10) Tryz.func34 rfl (hK _ _ _ rfl) rfl rfl ?_
  have hn := hP.n
  (repeat' (first | apply zam | apply zac | (apply O_at; rfl) | (apply zai; rfl) | apply zaj | (apply zaG; rfl) | apply zau | ((first | apply zad | apply zbd); rfl; rfl; rfl; rfl) | (apply zaC; rfl; rfl; rfl; rfl; exact zaQ rfl; (focus repeat' first | exact zaa | assumption | (apply Ext.get; assumption)); (first | exact Nat.le_of_ble_eq_true rfl | (simp; done) | (simp; omega)); rfl) | (apply zaN; rfl; rfl; rfl; rfl; exact zah rfl; rfl; rfl) | (apply zal; rfl; rfl; rfl; rfl; rfl; rfl; exact yes (zck hK (hT.ext (by (focus repeat' first | exact Ext.refl _ | assumption | apply Ext.push | (refine Ext.trans ?_ (by assumption))))) hs) hP; (rintro _ _ ⟨rfl, _⟩)) | fail))
  apply zal; rfl; rfl; rfl; rfl; rfl; rfl; exact zeB hK (hT.ext (by (focus repeat' first | exact Ext.refl _ | assumption | apply Ext.push | (refine Ext.trans ?_ (by assumption))))) hP
  rintro _ h2 ⟨s, bn, bs, r, rfl, S, x⟩
  (repeat' (first | (apply O_at; rfl) | (apply zai; rfl) | apply zaj | apply zaz | apply zas | ((first | apply zad | apply zbd); rfl; rfl; rfl; rfl) | (apply zal; rfl; rfl; rfl; rfl; rfl; rfl; exact no (ze9 hK (S.ext (by (focus repeat' first | exact Ext.refl _ | assumption | apply Ext.push | (refine Ext.trans ?_ (by assumption))))) hP.people (by omega)) hA; (rintro _ _ ⟨rfl, _⟩)) | fail))
  exact ⟨.inr rfl, _, rfl, rfl, by (focus repeat' first | exact Ext.refl _ | assumption | apply Ext.push | (refine Ext.trans ?_ (by assumption)))⟩
theorem pass_no (hK : NoK K) (hT : PgAt G h) (hs : ShortP G) (hP : ¬ PgP G) : CallW Tryz.prog K 34 #[pgV G] h (IsV (.tuple #[.bool false, .int .i64 2]) h) := by
  refine body (N := 10) Tryz.func34 rfl (hK _ _ _ rfl) rfl rfl ?_
  (repeat' (first | apply zam | apply zac | (apply O_at; rfl) | (apply zai; rfl) | apply zaj | (apply za3; rfl) | apply zaz | apply zba | apply zas | ((first | apply zad | apply zbd); rfl; rfl; rfl; rfl) | (apply zaC; rfl; rfl; rfl; rfl; exact zaQ rfl; (focus repeat' first | exact zaa | assumption); (first | exact Nat.le_of_ble_eq_true rfl | (simp; done) | (simp; omega)); rfl) | (apply zaN; rfl; rfl; rfl; rfl; exact zah rfl; rfl; rfl) | (apply zal; rfl; rfl; rfl; rfl; rfl; rfl; exact no (zck hK (hT.ext (by (focus repeat' first | exact Ext.refl _ | assumption | apply Ext.push | (refine Ext.trans ?_ (by assumption))))) hs) hP; (rintro _ _ ⟨rfl, _⟩)) | fail))
  exact ⟨.inr rfl, _, rfl, rfl, by (focus repeat' first | exact Ext.refl _ | assumption | apply Ext.push | (refine Ext.trans ?_ (by assumption)))⟩
end
end Go.AX.Sa

namespace Go.AX.Sa
open Go.Proofs
set_option maxRecDepth 100000
variable {K : Known}
abbrev TrueB : Value → Heap → Prop := fun v _ => v = .bool true
end Go.AX.Sa

namespace Go.AX.Sa
open Go.Proofs
set_option maxRecDepth 100000
variable {K : Known}
theorem pass_len (G : Pg) (L : List Ent) : (passL G L).length ≤ G.n := zdM _ _
theorem zeJ (hK : NoK K) (hKn : Kn K) {G : Pg} {h : Heap} (hT : PgAt G h) : CallW Tryz.prog K 7 #[pgV G] h TrueB := by
  refine body (N := 63) Tryz.func7 rfl (hK _ _ _ rfl) rfl rfl ?_
  by_cases hs : ShortP G
  · by_cases hP : PgP G
    · have l1 := pass_len G (logL G)
      have hn := hP.n
      by_cases hA : AllP G (logL G)
      · (repeat' (first | apply zam | apply zac | (apply O_at; rfl) | (apply zai; rfl) | apply zaj | (apply zaG; rfl) | apply zau | ((first | apply zae | apply zad | apply zbd); rfl; rfl; rfl; rfl) | (apply zcp; rfl; rfl; rfl; rfl; rfl) | (apply zbE; rfl; rfl; rfl; rfl; rfl; omega) | (apply zaC; rfl; rfl; rfl; rfl; exact zaQ rfl; (focus repeat' first | exact zaa | assumption | (apply Ext.get; assumption)); (first | exact Nat.le_of_ble_eq_true rfl | (simp; done) | (simp; omega)); rfl) | (apply zaN; rfl; rfl; rfl; rfl; exact zah rfl; rfl; rfl) | (apply zal; rfl; rfl; rfl; rfl; rfl; rfl; exact yes (zdF hK (hT.ext (by (focus repeat' first | exact Ext.refl _ | assumption | apply Ext.push | (refine Ext.trans ?_ (by assumption)))))) hs; (rintro _ _ ⟨rfl, _⟩)) | (apply zal; rfl; rfl; rfl; rfl; rfl; rfl; exact zeY hK (hT.ext (by (focus repeat' first | exact Ext.refl _ | assumption | apply Ext.push | (refine Ext.trans ?_ (by assumption))))) hs hP; (rintro _ _ ⟨_, _, rfl, _, _⟩)) | (apply zal; rfl; rfl; rfl; rfl; rfl; rfl; exact pass_yes hK (hT.ext (by (focus repeat' first | exact Ext.refl _ | assumption | apply Ext.push | (refine Ext.trans ?_ (by assumption))))) hs hP hA; (rintro _ _ ⟨rfl, _⟩)) | (apply zal; rfl; rfl; rfl; rfl; rfl; rfl; exact yes (zdb hK (hT.ext (by (focus repeat' first | exact Ext.refl _ | assumption | apply Ext.push | (refine Ext.trans ?_ (by assumption))))) hs) hP; (rintro _ _ ⟨rfl, _⟩)) | (apply zal; rfl; rfl; rfl; rfl; rfl; rfl; exact zcf hK (hT.ext (by (focus repeat' first | exact Ext.refl _ | assumption | apply Ext.push | (refine Ext.trans ?_ (by assumption))))) hP; (rintro _ _ ⟨_, _, rfl, _, _⟩)) | fail))
        rename_i h1 p1 c1 r1 x1 h2 x2 h3 x3 h4 p4 c4 r4 x4
        (repeat' (first | (apply O_at; rfl) | (apply zai; rfl) | apply zaj | apply zaz | apply zas | ((first | apply zae | apply zad | apply zbd); rfl; rfl; rfl; rfl) | (apply za2; rfl; rfl; rfl; rfl; rfl; rfl) | (apply zbE; rfl; rfl; rfl; rfl; rfl; omega) | (apply zaC; rfl; rfl; rfl; rfl; exact zaQ rfl; (focus repeat' first | exact zaa | assumption | (apply Ext.get; assumption)); (first | exact Nat.le_of_ble_eq_true rfl | (simp; done) | (simp; omega)); rfl) | (apply P_eqlB; rfl; rfl; rfl; rfl; rfl; rfl) | (apply zal; rfl; rfl; rfl; rfl; rfl; rfl; exact yes (zka hK (by omega) (by omega) (r1.ext (by (focus repeat' first | exact Ext.refl _ | assumption | apply Ext.push | (refine Ext.trans ?_ (by assumption))))) (r4.ext (by (focus repeat' first | exact Ext.refl _ | assumption | apply Ext.push | (refine Ext.trans ?_ (by assumption)))))) rfl; (rintro _ _ ⟨rfl, _⟩)) | (apply zal; rfl; rfl; rfl; rfl; rfl; rfl; exact yes (zeV hK (hT.ext (by (focus repeat' first | exact Ext.refl _ | assumption | apply Ext.push | (refine Ext.trans ?_ (by assumption))))) hP) hA; (rintro _ _ ⟨rfl, _⟩)) | (apply zal; rfl; rfl; rfl; rfl; rfl; rfl; exact zcW hKn; (rintro _ _ ⟨rfl, _⟩)) | fail))
        exact ⟨.inr rfl, _, rfl, rfl⟩
      · (repeat' (first | apply zam | apply zac | (apply O_at; rfl) | (apply zai; rfl) | apply zaj | (apply zaG; rfl) | apply zau | ((first | apply zae | apply zad | apply zbd); rfl; rfl; rfl; rfl) | (apply zcp; rfl; rfl; rfl; rfl; rfl) | (apply zbE; rfl; rfl; rfl; rfl; rfl; omega) | (apply zaC; rfl; rfl; rfl; rfl; exact zaQ rfl; (focus repeat' first | exact zaa | assumption | (apply Ext.get; assumption)); (first | exact Nat.le_of_ble_eq_true rfl | (simp; done) | (simp; omega)); rfl) | (apply zaN; rfl; rfl; rfl; rfl; exact zah rfl; rfl; rfl) | (apply zal; rfl; rfl; rfl; rfl; rfl; rfl; exact yes (zdF hK (hT.ext (by (focus repeat' first | exact Ext.refl _ | assumption | apply Ext.push | (refine Ext.trans ?_ (by assumption)))))) hs; (rintro _ _ ⟨rfl, _⟩)) | (apply zal; rfl; rfl; rfl; rfl; rfl; rfl; exact zeY hK (hT.ext (by (focus repeat' first | exact Ext.refl _ | assumption | apply Ext.push | (refine Ext.trans ?_ (by assumption))))) hs hP; (rintro _ _ ⟨_, _, rfl, _, _⟩)) | (apply zal; rfl; rfl; rfl; rfl; rfl; rfl; exact pass_not hK (hT.ext (by (focus repeat' first | exact Ext.refl _ | assumption | apply Ext.push | (refine Ext.trans ?_ (by assumption))))) hs hP hA; (rintro _ _ ⟨rfl, _⟩)) | (apply zal; rfl; rfl; rfl; rfl; rfl; rfl; exact yes (zdb hK (hT.ext (by (focus repeat' first | exact Ext.refl _ | assumption | apply Ext.push | (refine Ext.trans ?_ (by assumption))))) hs) hP; (rintro _ _ ⟨rfl, _⟩)) | (apply zal; rfl; rfl; rfl; rfl; rfl; rfl; exact zcf hK (hT.ext (by (focus repeat' first | exact Ext.refl _ | assumption | apply Ext.push | (refine Ext.trans ?_ (by assumption))))) hP; (rintro _ _ ⟨_, _, rfl, _, _⟩)) | fail))
        rename_i h1 p1 c1 r1 x1 h2 x2 h3 x3 h4 p4 c4 r4 x4
        (repeat' (first | (apply O_at; rfl) | (apply zai; rfl) | apply zaj | apply zaz | apply zas | ((first | apply zae | apply zad | apply zbd); rfl; rfl; rfl; rfl) | (apply za2; rfl; rfl; rfl; rfl; rfl; rfl) | (apply zbE; rfl; rfl; rfl; rfl; rfl; omega) | (apply zaC; rfl; rfl; rfl; rfl; exact zaQ rfl; (focus repeat' first | exact zaa | assumption | (apply Ext.get; assumption)); (first | exact Nat.le_of_ble_eq_true rfl | (simp; done) | (simp; omega)); rfl) | (apply P_eqlB; rfl; rfl; rfl; rfl; rfl; rfl) | (apply zal; rfl; rfl; rfl; rfl; rfl; rfl; exact yes (zka hK (by omega) (by omega) (r1.ext (by (focus repeat' first | exact Ext.refl _ | assumption | apply Ext.push | (refine Ext.trans ?_ (by assumption))))) (r4.ext (by (focus repeat' first | exact Ext.refl _ | assumption | apply Ext.push | (refine Ext.trans ?_ (by assumption)))))) rfl; (rintro _ _ ⟨rfl, _⟩)) | (apply zal; rfl; rfl; rfl; rfl; rfl; rfl; exact no (zeV hK (hT.ext (by (focus repeat' first | exact Ext.refl _ | assumption | apply Ext.push | (refine Ext.trans ?_ (by assumption))))) hP) hA; (rintro _ _ ⟨rfl, _⟩)) | (apply zal; rfl; rfl; rfl; rfl; rfl; rfl; exact zcW hKn; (rintro _ _ ⟨rfl, _⟩)) | fail))
        exact ⟨.inr rfl, _, rfl, rfl⟩
    · (repeat' (first | apply zam | apply zac | (apply O_at; rfl) | (apply zai; rfl) | apply zaj | (apply za3; rfl) | (apply zaG; rfl) | apply zau | apply zaz | apply zba | apply zas | ((first | apply zae | apply zad | apply zbd); rfl; rfl; rfl; rfl) | (apply zbh; rfl; rfl; rfl; rfl; rfl; rfl; exact zat rfl) | (apply za2; rfl; rfl; rfl; rfl; rfl; rfl) | (apply zcp; rfl; rfl; rfl; rfl; rfl) | (apply zbE; rfl; rfl; rfl; rfl; rfl; omega) | (apply zaC; rfl; rfl; rfl; rfl; exact zaQ rfl; (focus repeat' first | exact zaa | assumption | (apply Ext.get; assumption)); (first | exact Nat.le_of_ble_eq_true rfl | (simp; done) | (simp; omega)); rfl) | (apply zaN; rfl; rfl; rfl; rfl; exact zah rfl; rfl; rfl) | (apply zal; rfl; rfl; rfl; rfl; rfl; rfl; exact yes (zdF hK (hT.ext (by (focus repeat' first | exact Ext.refl _ | assumption | apply Ext.push | (refine Ext.trans ?_ (by assumption)))))) hs; (rintro _ _ ⟨rfl, _⟩)) | (apply zal; rfl; rfl; rfl; rfl; rfl; rfl; exact zjd hK (hT.ext (by (focus repeat' first | exact Ext.refl _ | assumption | apply Ext.push | (refine Ext.trans ?_ (by assumption))))) hs hP; (rintro _ _ ⟨rfl, _⟩)) | (apply zal; rfl; rfl; rfl; rfl; rfl; rfl; exact pass_no hK (hT.ext (by (focus repeat' first | exact Ext.refl _ | assumption | apply Ext.push | (refine Ext.trans ?_ (by assumption))))) hs hP; (rintro _ _ ⟨rfl, _⟩)) | (apply zal; rfl; rfl; rfl; rfl; rfl; rfl; exact no (zdb hK (hT.ext (by (focus repeat' first | exact Ext.refl _ | assumption | apply Ext.push | (refine Ext.trans ?_ (by assumption))))) hs) hP; (rintro _ _ ⟨rfl, _⟩)) | (apply zal; rfl; rfl; rfl; rfl; rfl; rfl; exact zcW hKn; (rintro _ _ ⟨rfl, _⟩)) | fail))
      exact ⟨.inr rfl, _, rfl, rfl⟩
  · (repeat' (first | apply zam | apply zac | (apply O_at; rfl) | (apply zai; rfl) | apply zaj | (apply za3; rfl) | apply zaz | apply zba | apply zas | ((first | apply zae | apply zad | apply zbd); rfl; rfl; rfl; rfl) | (apply zaC; rfl; rfl; rfl; rfl; exact zaQ rfl; (focus repeat' first | exact zaa | assumption | (apply Ext.get; assumption)); (first | exact Nat.le_of_ble_eq_true rfl | (simp; done) | (simp; omega)); rfl) | (apply zaN; rfl; rfl; rfl; rfl; exact zah rfl; rfl; rfl) | (apply zal; rfl; rfl; rfl; rfl; rfl; rfl; exact no (zdF hK (hT.ext (by (focus repeat' first | exact Ext.refl _ | assumption | apply Ext.push | (refine Ext.trans ?_ (by assumption)))))) hs; (rintro _ _ ⟨rfl, _⟩)) | (apply zal; rfl; rfl; rfl; rfl; rfl; rfl; exact zcW hKn; (rintro _ _ ⟨rfl, _⟩)) | fail))
    exact ⟨.inr rfl, _, rfl, rfl⟩
end Go.AX.Sa
