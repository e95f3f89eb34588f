/- The law ProofReaders at the reading: what the functions that it calls answer (3). -/
import Derived.Test.YtliligceejfakaaGreatDoorProofReadersTextB
namespace Go.AX.Sa
open Go.Proofs
set_option maxRecDepth 100000
variable {K : Known}
def wholeE (G : Pg) (p : Int × Int) : Ent := (1, [p.1, p.2, 0, (G.n : Int) - 1])
def logP (G : Pg) (ps : List (Int × Int)) : List Ent := logL G ++ ps.map (wholeE G)
def PairsP (G : Pg) (ps : List (Int × Int)) : Prop := ∀ k, k < ps.length → PairP G (ps.getD k (0, 0)).1 (ps.getD k (0, 0)).2
theorem zfJ {G : Pg} (hn : 1 ≤ (G.n : Int)) {p : Int × Int} (h : PairP G p.1 p.2) : EntP G.people G.n (wholeE G p) := by
  obtain ⟨h1, h2, h3⟩ := h
  unfold PersP at h1 h2
  refine ent1.2 ⟨rfl, ?_, ?_, ?_, ?_, ?_, ?_⟩ <;> simp <;> omega
theorem log_ent {G : Pg} (hP : PgP G) {ps : List (Int × Int)} (hp : PairsP G ps) : ∀ e ∈ logP G ps, EntP G.people G.n e := by
  intro e he
  rcases List.mem_append.1 he with q | q
  · obtain ⟨c, hc, rfl⟩ := List.mem_map.1 q
    obtain ⟨j, hj⟩ := List.getElem?_of_mem hc
    have hl := (List.getElem?_eq_some_iff.1 hj).1
    have := hP.ent j hl
    simpa [List.getD_eq_getElem?_getD, hj] using this
  · obtain ⟨c, hc, rfl⟩ := List.mem_map.1 q
    obtain ⟨j, hj⟩ := List.getElem?_of_mem hc
    have hl := (List.getElem?_eq_some_iff.1 hj).1
    have := hp j hl
    rw [show ps.getD j (0, 0) = c by simp [List.getD_eq_getElem?_getD, hj]] at this
    exact zfJ hP.n.1 this
theorem zeV {G : Pg} (hP : PgP G) {L : List Ent} (hL : ∀ e ∈ L, EntP G.people G.n e) {j : Nat} (hj : j < G.n) : NumP (numA G L j) := zi4 (hP.line j hj).2.2 L hL
theorem zeO {L : List Ent} {k : Nat} (h : k < L.length) : L.take (k + 1) = L.take k ++ [L[k]'h] := by rw [List.take_add_one, List.getElem?_eq_getElem h]; rfl
set_option maxHeartbeats 600000 in
theorem after_ok (hK : NoK K) {G : Pg} {ps : List (Int × Int)} {q : Option Addr} {kq : Nat} {h : Heap} (hT : PgAt G h) (hP : PgP G) (hq : Rd h q (spanCells ps)) (hl : ps.length ≤ 1000) (hp : PairsP G ps) :
    CallW Tryz.prog K 61 #[pgV G, .slice q ps.length kq] h (fun v h1 => ∃ s bn bs r, v = .pointer (some ⟨s, 0, none⟩) ∧ StL G (logP G ps) s bn bs r h1 ∧ bn ≠ bs ∧ (h.n ≤ s ∧ h.n ≤ bn ∧ h.n ≤ bs ∧ h.n ≤ r) ∧ Ext h h1) := by
  have hT' := hT
  have hP' := hP
  have hlog := log_ent hP hp
  have hnn := hP.n
  have hpp := hP.people
  have hcc := hP.c
  obtain ⟨people, pl, kl, n, l, p, kc, c⟩ := G
  obtain ⟨len, rl, rc, each, hbl, hpb⟩ := hT
  dsimp only [pgV] at len rl rc each hbl hpb hnn hpp hcc ⊢
  have hlen : (logP ⟨people, pl, kl, n, l, p, kc, c⟩ ps).length = c.length + ps.length := by simp [logP, logL]
  refine body (N := 46) Tryz.func61 rfl (hK _ _ _ rfl) rfl rfl ?_
  (repeat' (first | apply zam | apply zac | (apply O_at; rfl) | (apply zaj; rfl) | apply zak | ((first | apply zaf | apply zad); rfl; rfl; rfl; rfl) | (apply zaz; rfl; rfl; rfl; rfl; exact zaT rfl; (focus repeat' first | exact zaa | assumption | apply zab | (apply Ext.get; assumption)); (first | exact Nat.le_of_ble_eq_true rfl | (rw [zat]; omega) | (simp; done) | (simp; omega) | (rw [zaF]; omega)); (first | exact za8 (by omega) | exact zav (by omega) | rfl)) | (apply zaM; rfl; rfl; rfl; rfl; exact zai rfl; rfl; rfl) | fail))
  apply zal; rfl; rfl; rfl; rfl; rfl; rfl; exact zld (G := ⟨people, pl, kl, n, l, p, kc, c⟩) hK (hT'.ext (by (focus repeat' first | exact Ext.refl _ | assumption | apply Ext.push | (refine Ext.trans ?_ (by assumption))))) ⟨by dsimp only; omega, by dsimp only; omega⟩
  rintro _ h2 ⟨s, bn, bs, r, rfl, S2, hns, ⟨b1, b2, b3, b4⟩, x2⟩
  have hn2 := x2.n
  have b2' : h.n < bn := b2
  have b3' : h.n < bs := b3
  have b4' : h.n < r := b4
  have b1' : h.n < s := b1
  (repeat' (first | apply zam | apply zac | (apply O_at; rfl) | (apply zaj; rfl) | apply zak | apply zaq | ((first | apply zaf | apply zad); rfl; rfl; rfl; rfl) | (apply P_fa; rfl; rfl; rfl; rfl; exact zaw rfl; (first | exact Nat.zero_add _ | exact Nat.add_zero _ | rfl)) | (apply zbe; rfl; rfl; rfl; rfl; rfl; rfl; exact zas rfl) | (apply zah; rfl; rfl; rfl; rfl; exact zar rfl; (focus repeat' first | exact zaa | assumption | apply zab | (apply Ext.get; assumption)); (first | rfl | assumption)) | fail))
  refine zbb (fun k : Nat => [(16, .int .i64 (k : Nat)), (15, .int .i64 (c.length : Nat)), (14, .slice p c.length kc), (5, .pointer (some ⟨s, 0, none⟩)), (2, .pointer (some ⟨h.n, 0, none⟩)), (1, .slice q ps.length kq)])
    (fun k h' => k ≤ c.length ∧ StL ⟨people, pl, kl, n, l, p, kc, c⟩ ((logP ⟨people, pl, kl, n, l, p, kc, c⟩ ps).take k) s bn bs r h' ∧ Ext (h.push (.cells [.int .i64 people, .slice pl n kl, .slice p c.length kc] 25 true)) h') (fun k => c.length - k) ?_ 0 ?_ ?_
  · rintro k h' ⟨hk, S, hx⟩ ih
    have g0 := hx.get zaa
    by_cases hlt : k < c.length
    · obtain ⟨b, e, own, rfl, hg⟩ := rc.at (by rw [zat]; omega)
      have hg' := hx.get (zab hg)
      have eR := each k hlt
      have ek : (logP ⟨people, pl, kl, n, l, some ⟨b, 0, none⟩, kc, c⟩ ps)[k]'(by omega) = ent (c.getD k cop0) := by
        simp [logP, logL, List.getElem_append_left, hlt]
      have eP := hP'.ent k hlt
      (repeat' (first | apply zam | apply zac | (apply O_at; rfl) | (apply zaj; rfl) | apply zak | (apply za4; rfl) | apply zaq | apply zax | ((first | apply zaf | apply zad); rfl; rfl; rfl; rfl) | (apply zbo; rfl; rfl; rfl; rfl; rfl; omega) | (apply zbT; rfl; rfl; rfl; rfl; rfl; exact zas rfl; exact zai rfl; (first | assumption | rfl | exact (Int.toNat_of_nonneg (by omega)).symm); omega) | (apply zaz; rfl; rfl; rfl; rfl; exact zaT rfl; (focus repeat' first | exact zaa | assumption | apply zab | (apply Ext.get; assumption)); (first | exact Nat.le_of_ble_eq_true rfl | (rw [zat]; omega) | (simp; done) | (simp; omega) | (rw [zaF]; omega)); (first | exact za8 (by omega) | exact zav (by omega) | rfl)) | (apply zaD; rfl; rfl; rfl; rfl; exact zai rfl; rfl; rfl; rfl) | (apply zbi; rfl; rfl; rfl; rfl; exact zai rfl; rfl; rfl) | fail))
      have y1 : Ext h' (h'.push (.cells [.int .i64 (c.getD k cop0).par, .slice (c.getD k cop0).r.q (c.getD k cop0).r.s.length (c.getD k cop0).r.k] 37 true)) := by (focus repeat' first | exact Ext.refl _ | assumption | apply Ext.push | (refine Ext.trans ?_ (by assumption)))
      apply zal; rfl; rfl; rfl; rfl; rfl; rfl
      · refine zil (G := ⟨people, pl, kl, n, l, some ⟨b, 0, none⟩, kc, c⟩) (c := c.getD k cop0) hK (L := (logP ⟨people, pl, kl, n, l, some ⟨b, 0, none⟩, kc, c⟩ ps).take k) (s := s) (bn := bn) (bs := bs) (r := r) ?_ hns hpp (by dsimp only; omega) ?_ eP (fun j hj => zeV hP' (fun e he => hlog e (List.mem_of_mem_take he)) hj)
        · obtain ⟨f, S, hf⟩ := S
          exact ⟨f, S.ext y1, hf⟩
        · exact eR.ext (by (focus repeat' first | exact Ext.refl _ | assumption | apply Ext.push | (refine Ext.trans ?_ (by assumption))))
      rintro _ h3 ⟨S3, k3⟩
      (repeat' (first | apply zac | (apply O_at; rfl) | (apply zaj; rfl) | apply zak | apply zaB | ((first | apply zaf | apply zad); rfl; rfl; rfl; rfl) | (apply zbN; rfl; rfl; rfl; rfl; rfl; (unfold fit; omega)) | fail))
      have y3 : Ext (h.push (.cells [.int .i64 people, .slice pl n kl, .slice (some ⟨b, 0, none⟩) c.length kc] 25 true)) h3 := k3.ext (hx.trans y1) b2 b3 b4
      refine zaH (ih (k + 1) _ (by omega) ⟨hlt, ?_, y3⟩) (by (focus repeat' first | rfl | exact trivial | apply And.intro))
      rw [zeO (by omega), ek]
      exact S3
    · obtain rfl : k = c.length := by omega
      (repeat' (first | apply zam | apply zac | (apply O_at; rfl) | (apply zaj; rfl) | apply zak | (apply zaK; rfl) | apply zaq | apply zbj | apply zbk | apply zaZ | apply za0 | ((first | apply zaf | apply zad); rfl; rfl; rfl; rfl) | (apply zbe; rfl; rfl; rfl; rfl; rfl; rfl; exact zas rfl) | (apply zbr; rfl; rfl; rfl; rfl; rfl; omega) | fail))
      refine zbb (fun k : Nat => [(26, .int .i64 (k : Nat)), (25, .int .i64 (ps.length : Nat)), (24, .slice q ps.length kq), (5, .pointer (some ⟨s, 0, none⟩)), (2, .pointer (some ⟨h.n, 0, none⟩))])
        (fun k h' => k ≤ ps.length ∧ StL ⟨people, pl, kl, n, l, p, kc, c⟩ ((logP ⟨people, pl, kl, n, l, p, kc, c⟩ ps).take (c.length + k)) s bn bs r h' ∧ Ext (h.push (.cells [.int .i64 people, .slice pl n kl, .slice p c.length kc] 25 true)) h') (fun k => ps.length - k) ?_ 0 ?_ ?_
      · rintro i h5 ⟨hi, S5, hx5⟩ ih5
        have g05 := hx5.get zaa
        by_cases hlt5 : i < ps.length
        · obtain ⟨b, e, own, rfl, hg⟩ := hq.at (by rw [zaF]; omega)
          have hg' := hx5.get (zab hg)
          have ek : (logP ⟨people, pl, kl, n, l, p, kc, c⟩ ps)[c.length + i]'(by omega) = wholeE ⟨people, pl, kl, n, l, p, kc, c⟩ (ps.getD i (0, 0)) := by
            simp [logP, logL, List.getElem_append_right, hlt5]
          have eP := zfJ (G := ⟨people, pl, kl, n, l, p, kc, c⟩) hnn.1 (hp i hlt5)
          (repeat' (first | apply zam | apply zac | (apply O_at; rfl) | (apply zaj; rfl) | apply zak | (apply za4; rfl) | apply zaq | apply zax | ((first | apply zaf | apply zad); rfl; rfl; rfl; rfl) | (apply P_fa; rfl; rfl; rfl; rfl; exact zaw rfl; (first | exact Nat.zero_add _ | exact Nat.add_zero _ | rfl)) | (apply zbo; rfl; rfl; rfl; rfl; rfl; omega) | (apply zbT; rfl; rfl; rfl; rfl; rfl; exact zas rfl; exact zai rfl; (first | assumption | rfl | exact (Int.toNat_of_nonneg (by omega)).symm); omega) | (apply zah; rfl; rfl; rfl; rfl; exact zar rfl; (focus repeat' first | exact zaa | assumption | apply zab | (apply Ext.get; assumption)); (first | rfl | assumption)) | (apply zaz; rfl; rfl; rfl; rfl; exact zaT rfl; (focus repeat' first | exact zaa | assumption | apply zab | (apply Ext.get; assumption)); (first | exact Nat.le_of_ble_eq_true rfl | (rw [zat]; omega) | (simp; done) | (simp; omega) | (rw [zaF]; omega)); (first | exact za8 (by omega) | exact zav (by omega) | rfl)) | (apply zaD; rfl; rfl; rfl; rfl; exact zai rfl; rfl; rfl; rfl) | (apply zjv; rfl; rfl; rfl; rfl) | (apply P_bs_i4; rfl; rfl; rfl; rfl) | (apply zbi; rfl; rfl; rfl; rfl; exact zai rfl; rfl; rfl) | (apply zal; rfl; rfl; rfl; rfl; rfl; rfl; exact zew (G := ⟨people, pl, kl, n, l, p, kc, c⟩) hK (by dsimp only; omega); (rintro _ _ ⟨rfl, _⟩)) | fail))
          rename_i h6 x6
          have y6 : Ext h5 ((h6.push (.cells [.int .i64 0, .int .i64 ((n : Int) - 1)] 140 true)).push (.cells (ints [(ps.getD i (0, 0)).1, (ps.getD i (0, 0)).2, 0, (n : Int) - 1]) 3 true)) := by (focus repeat' first | exact Ext.refl _ | assumption | apply Ext.push | (refine Ext.trans ?_ (by assumption)))
          apply zal; rfl; rfl; rfl; rfl; rfl; rfl
          · refine zil (G := ⟨people, pl, kl, n, l, p, kc, c⟩) (c := ⟨1, ⟨some ⟨h6.n + 1, 0, none⟩, 4, [(ps.getD i (0, 0)).1, (ps.getD i (0, 0)).2, 0, (n : Int) - 1]⟩⟩) hK (L := (logP ⟨people, pl, kl, n, l, p, kc, c⟩ ps).take (c.length + i)) (s := s) (bn := bn) (bs := bs) (r := r) ?_ hns hpp (by dsimp only; omega) ?_ eP (fun j hj => zeV hP' (fun e he => hlog e (List.mem_of_mem_take he)) hj)
            · obtain ⟨f, S, hf⟩ := S5
              exact ⟨f, S.ext y6, hf⟩
            · exact ⟨.inr ⟨h6.n + 1, _, _, rfl, zaa⟩, fun a q => by cases q; exact Nat.lt_succ_self _, fun _ => Nat.le_refl _⟩
          rintro _ h7 ⟨S7, k7⟩
          (repeat' (first | apply zac | (apply O_at; rfl) | (apply zaj; rfl) | apply zak | apply zaB | ((first | apply zaf | apply zad); rfl; rfl; rfl; rfl) | (apply zbN; rfl; rfl; rfl; rfl; rfl; (unfold fit; omega)) | fail))
          have y7 : Ext (h.push (.cells [.int .i64 people, .slice pl n kl, .slice p c.length kc] 25 true)) h7 := k7.ext (hx5.trans y6) b2 b3 b4
          refine zaH (ih5 (i + 1) _ (by omega) ⟨hlt5, ?_, y7⟩) (by (focus repeat' first | rfl | exact trivial | apply And.intro))
          rw [show c.length + (i + 1) = (c.length + i) + 1 by omega, zeO (by omega), ek]
          exact S7
        · obtain rfl : i = ps.length := by omega
          rw [List.take_of_length_le (by omega)] at S5
          (repeat' (first | apply zam | apply zac | (apply O_at; rfl) | (apply zaj; rfl) | apply zak | (apply zaK; rfl) | apply zbj | apply zaA | apply zbk | apply zaZ | apply za0 | apply zau | ((first | apply zaf | apply zad); rfl; rfl; rfl; rfl) | (apply zbr; rfl; rfl; rfl; rfl; rfl; omega) | fail))
          exact ⟨.inr rfl, _, rfl, s, bn, bs, r, rfl, S5, hns, ⟨by omega, by omega, by omega, by omega⟩, by (focus repeat' first | exact Ext.refl _ | assumption | apply Ext.push | (refine Ext.trans ?_ (by assumption)))⟩
      · exact ⟨Nat.zero_le _, S, hx⟩
      · (focus repeat' first | rfl | exact trivial | apply And.intro)
  · exact ⟨Nat.zero_le _, S2, x2⟩
  · (focus repeat' first | rfl | exact trivial | apply And.intro)
end Go.AX.Sa

namespace Go.AX.Sa
open Go.Proofs
set_option maxRecDepth 100000
variable {K : Known}
theorem StL.ext {G : Pg} {L : List Ent} {s bn bs r : Nat} {h h1 : Heap} (x : StL G L s bn bs r h) (e : Ext h h1) : StL G L s bn bs r h1 := by
  obtain ⟨f, S, hf⟩ := x
  exact ⟨f, S.ext e, hf⟩
theorem zeS (hK : NoK K) {G : Pg} {L : List Ent} {s bn bs r : Nat} {j : Nat} {jj : Int} {h : Heap} (hS : StL G L s bn bs r h) (hp : 2 ≤ G.people ∧ G.people ≤ 6) (hj : j < G.n) (_ : G.n ≤ 1000) (hjj : jj = (j : Nat)) :
    CallW Tryz.prog K 68 #[.pointer (some ⟨s, 0, none⟩), .int .i64 jj] h (IsL (rdA G L j) h) := by
  subst hjj
  obtain ⟨f, ⟨box, nums, sets, hrd, nl, sl⟩, hf⟩ := hS
  unfold rdA
  obtain ⟨m, hm⟩ : ∃ m : Nat, G.people = m := ⟨G.people.toNat, by omega⟩
  have hm' : G.people.toNat = m := by omega
  rw [hm']
  have hset := zfb (G := G) (L := L) hj
  refine body (N := 40) Tryz.func68 rfl (hK _ _ _ rfl) rfl rfl ?_
  unfold stC at box
  rw [hm] at box
  (repeat' (first | apply zam | apply zac | (apply O_at; rfl) | (apply zaj; rfl) | apply zak | apply zaq | ((first | apply zaf | apply zad); rfl; rfl; rfl; rfl) | (apply P_fa; rfl; rfl; rfl; rfl; exact zaw rfl; (first | exact Nat.zero_add _ | exact Nat.add_zero _ | rfl)) | (apply zah; rfl; rfl; rfl; rfl; exact zar rfl; (focus repeat' first | exact zaa | assumption | (apply Ext.get; assumption)); (first | exact zae (by omega) | rfl | assumption)) | (apply zhL; rfl; rfl; rfl; rfl) | fail))
  refine zbb (fun a : Nat × Value => [(12, .int .i64 (a.1 : Nat)), (11, .int .i64 (m : Nat)), (5, a.2), (0, .pointer (some ⟨s, 0, none⟩)), (1, .int .i64 (j : Nat))])
    (fun a h' => a.1 ≤ m ∧ Ext h h' ∧ OutI 3 h h' a.2 (rdrs a.1 L (j : Nat) (setA G L j))) (fun a => m - a.1) ?_ (0, .slice none 0 0) ?_ ?_
  · rintro ⟨k, v⟩ h' ⟨hk, hx, ho⟩ ih
    dsimp only at hk hx ho ih ⊢
    have q1 := hx.get box
    have q2 := hx.get sets
    have hl := zcQ k L (j : Nat) (setA G L j)
    by_cases hlt : k < m
    · have hfk := hf ((j : Nat), (k : Nat)) (by dsimp only; omega) (by dsimp only; omega)
      have hjs : j < (setsL G L).length := by omega
      (repeat' (first | apply zam | apply zac | (apply O_at; rfl) | (apply zaj; rfl) | apply zak | (apply za4; rfl) | (apply zaK; rfl) | apply zaq | apply zax | apply zaB | (apply zbn; rfl; rfl; rfl) | ((first | apply zaf | apply zad); rfl; rfl; rfl; rfl) | (apply P_fa; rfl; rfl; rfl; rfl; exact zaw rfl; (first | exact Nat.zero_add _ | exact Nat.add_zero _ | rfl)) | (apply zaR; rfl; rfl; rfl; rfl; rfl; rfl) | (apply zbo; rfl; rfl; rfl; rfl; rfl; omega) | (apply zlk; rfl; rfl; rfl; rfl; rfl; all_goals intro _) | (apply zbN; rfl; rfl; rfl; rfl; rfl; (unfold fit; omega)) | (apply zcz; rfl; rfl; rfl; rfl; rfl; exact zas rfl; exact zai rfl; (first | assumption | rfl | exact (Int.toNat_of_nonneg (by omega)).symm); omega) | (apply zah; rfl; rfl; rfl; rfl; exact zar rfl; (focus repeat' first | exact zaa | assumption | (apply Ext.get; assumption)); (first | exact zae (by omega) | rfl | assumption)) | (apply zdM; rfl; rfl; rfl; rfl; rfl; rfl; rfl; exact zdy rfl) | (apply ziz; rfl; rfl; rfl; rfl; rfl; rfl; rfl; rfl; exact zdy rfl; exact zas rfl; (focus repeat' first | exact zaa | assumption | (apply Ext.get; assumption)); (apply OutI.ext; assumption; (focus repeat' first | exact Ext.refl _ | assumption | apply Ext.push)); (focus repeat' first | exact Ext.refl _ | assumption | apply Ext.push); (first | omega | (simp; omega)); (intro _ _ _ _)) | (apply zdj; rfl; rfl; rfl; rfl) | (apply zhL; rfl; rfl; rfl; rfl) | (apply zlm; rfl; rfl; rfl; rfl; rfl; exact mapB85; (first | assumption | (apply MapB.ext; assumption; (focus repeat' first | exact Ext.refl _ | assumption | apply Ext.push))); all_goals intro _) | fail))
      · rename_i w1 w2 v2 h2 o2 x2
        refine zaH (ih (k + 1, v2) _ (by dsimp only; omega) ⟨hlt, x2, ?_⟩) (by (focus repeat' first | rfl | exact trivial | apply And.intro))
        rw [zb2, if_pos ⟨by rw [← hfk]; exact w1, by rw [← hset]; exact w2⟩]
        exact o2
      · rename_i w1 w2
        refine zaH (ih (k + 1, v) _ (by dsimp only; omega) ⟨hlt, by (focus repeat' first | exact Ext.refl _ | assumption | apply Ext.push), ?_⟩) (by (focus repeat' first | rfl | exact trivial | apply And.intro))
        rw [zb2, if_neg (fun z => z.2 (by rw [← hset]; omega)), List.append_nil]
        exact ho
      · rename_i w1
        refine zaH (ih (k + 1, v) _ (by dsimp only; omega) ⟨hlt, by (focus repeat' first | exact Ext.refl _ | assumption | apply Ext.push), ?_⟩) (by (focus repeat' first | rfl | exact trivial | apply And.intro))
        rw [zb2, if_neg (fun z => by rw [← hfk, w1] at z; exact absurd z.1 (by simp)), List.append_nil]
        exact ho
    · obtain rfl : k = m := by omega
      (repeat' (first | apply zam | apply zac | (apply O_at; rfl) | (apply zaj; rfl) | apply zak | (apply zaK; rfl) | apply zbj | apply zaA | apply zbk | apply zaZ | apply za0 | apply zau | ((first | apply zaf | apply zad); rfl; rfl; rfl; rfl) | (apply zbr; rfl; rfl; rfl; rfl; rfl; omega) | fail))
      exact ⟨.inr rfl, _, rfl, ho.isL hx⟩
  · exact ⟨Nat.zero_le _, Ext.refl _, .inl ⟨rfl, rfl⟩⟩
  · (focus repeat' first | rfl | exact trivial | apply And.intro)
end Go.AX.Sa

namespace Go.AX.Sa
open Go.Proofs
set_option maxRecDepth 100000
variable {K : Known}
/-! Whether the page passes. -/
def fewV : Value := .iface 149 (.agg #[])
def fewCh : List PanicEntry := [⟨fewV, false, false⟩]
def AllP (G : Pg) (L : List Ent) : Prop := ∀ j, j < G.n → PassP G L j
end Go.AX.Sa

namespace Go.AX.Sa
open Go.Proofs
set_option maxRecDepth 100000
variable {K : Known}
/-! What the layer returns. -/
def IsE (l : List Int) (h : Heap) (v : Value) (h1 : Heap) : Prop := ∃ p cap, v = .tuple #[.slice p l.length cap, .int .i64 0] ∧ Rd h1 p (ints l) ∧ Ext h h1
def errL : Value := .tuple #[.slice none 0 0, .int .i64 2]
theorem zgF (hK : NoK K) {G : Pg} {h : Heap} (hT : PgAt G h) (hP : PgP G) :
    CallW Tryz.prog K 61 #[pgV G, .slice none 0 0] h (fun v h1 => ∃ s bn bs r, v = .pointer (some ⟨s, 0, none⟩) ∧ StL G (logL G) s bn bs r h1 ∧ Ext h h1) := by
  refine (after_ok (ps := []) (q := none) (kq := 0) hK hT hP (.inl rfl) (Nat.zero_le _) (fun k q => by simp at q)).mono ?_
  rintro _ h1 ⟨s, bn, bs, r, rfl, S, _, _, x⟩
  have e : logP G [] = logL G := by simp [logP]
  rw [e] at S
  exact ⟨s, bn, bs, r, rfl, S, x⟩
section
variable {G : Pg} {h : Heap}
theorem zg8 (hK : NoK K) (hT : PgAt G h) (hs : ShortP G) (hP : PgP G) {j : Nat} {jj : Int} (hjj : jj = (j : Nat)) (hj : j < G.n) : CallW Tryz.prog K 27 #[pgV G, .int .i64 jj] h (IsE (rdA G (logL G) j) h) := by
  refine body (N := 19) Tryz.func27 rfl (hK _ _ _ rfl) rfl rfl ?_
  have hn := hP.n
  (repeat' (first | (apply zam) | (apply zac) | (apply O_at; rfl) | (apply zaj; rfl) | (apply zak) | (apply zaK; rfl) | (apply zax) | (apply zaf; rfl; rfl; rfl; rfl) | (apply zad; rfl; rfl; rfl; rfl) | (apply zaR; rfl; rfl; rfl; rfl; rfl; rfl) | (apply zbl; rfl; rfl; rfl; rfl) | (apply zaz; rfl; rfl; rfl; rfl; exact zaT rfl; (focus repeat' first | exact zaa | assumption | apply zab | (apply Ext.get; assumption) | (apply ExtBut.get; assumption; (first | assumption | omega | (simp only [Heap.push]; omega)))); (first | exact Nat.le_of_ble_eq_true rfl | (rw [zcO]; omega) | (rw [zat]; omega) | (simp; done) | (simp; omega) | (rw [zaF]; omega) | (rw [zag]; omega)); (first | exact za8 (by omega) | exact zbm (by omega) | exact zav (by omega) | rfl)) | (apply zaM; rfl; rfl; rfl; rfl; exact zai rfl; rfl; rfl) | (apply zal; rfl; rfl; rfl; rfl; rfl; rfl; exact yes (zck hK (hT.ext (by (focus repeat' first | exact Ext.refl _ | assumption | apply Ext.push | (refine Ext.trans ?_ (by assumption)) | (refine Ext.set ?_ (Nat.le_succ _) (zab zaa) _) | (refine Ext.ofBut ?_ (by assumption) (by first | exact Nat.le_refl _ | omega))))) hs) hP; (rintro _ _ ⟨rfl, _⟩)) | (apply zal; rfl; rfl; rfl; rfl; rfl; rfl; exact yes (zgl hK (by omega)) (by unfold LinP; omega); (rintro _ _ ⟨rfl, _⟩)) | fail))
  apply zal; rfl; rfl; rfl; rfl; rfl; rfl; exact zgF hK (hT.ext (by (focus repeat' first | exact Ext.refl _ | assumption | apply Ext.push | (refine Ext.trans ?_ (by assumption)) | (refine Ext.set ?_ (Nat.le_succ _) (zab zaa) _) | (refine Ext.ofBut ?_ (by assumption) (by first | exact Nat.le_refl _ | omega))))) hP
  rintro _ h2 ⟨s, bn, bs, r, rfl, S, x⟩
  (repeat' (first | (apply O_at; rfl) | (apply zaj; rfl) | (apply zak) | (apply zaA) | (apply zau) | (apply zaf; rfl; rfl; rfl; rfl) | (apply zad; rfl; rfl; rfl; rfl) | (apply zal; rfl; rfl; rfl; rfl; rfl; rfl; exact zeS hK (S.ext (by (focus repeat' first | exact Ext.refl _ | assumption | apply Ext.push | (refine Ext.trans ?_ (by assumption)) | (refine Ext.set ?_ (Nat.le_succ _) (zab zaa) _) | (refine Ext.ofBut ?_ (by assumption) (by first | exact Nat.le_refl _ | omega))))) hP.people hj (by omega) hjj; (rintro _ _ ⟨_, _, rfl, _, _⟩)) | fail))
  exact ⟨.inr rfl, _, rfl, _, _, rfl, by assumption, by (focus repeat' first | exact Ext.refl _ | assumption | apply Ext.push | (refine Ext.trans ?_ (by assumption)) | (refine Ext.set ?_ (Nat.le_succ _) (zab zaa) _) | (refine Ext.ofBut ?_ (by assumption) (by first | exact Nat.le_refl _ | omega)))⟩
theorem zd1 (hK : NoK K) (hT : PgAt G h) (hs : ShortP G) {jj : Int} (hP : ¬ (PgP G ∧ LinP G.n jj)) (hn : G.n ≤ 1000) : CallW Tryz.prog K 27 #[pgV G, .int .i64 jj] h (IsV errL h) := by
  refine body (N := 19) Tryz.func27 rfl (hK _ _ _ rfl) rfl rfl ?_
  by_cases hp : PgP G
  · (repeat' (first | (apply zam) | (apply zac) | (apply O_at; rfl) | (apply zaj; rfl) | (apply zak) | (apply za4; rfl) | (apply zaA) | (apply za5) | (apply zau) | (apply zaf; rfl; rfl; rfl; rfl) | (apply zad; rfl; rfl; rfl; rfl) | (apply zaR; rfl; rfl; rfl; rfl; rfl; rfl) | (apply zbl; rfl; rfl; rfl; rfl) | (apply zaz; rfl; rfl; rfl; rfl; exact zaT rfl; (focus repeat' first | exact zaa | assumption | apply zab | (apply Ext.get; assumption) | (apply ExtBut.get; assumption; (first | assumption | omega | (simp only [Heap.push]; omega)))); (first | exact Nat.le_of_ble_eq_true rfl | (rw [zcO]; omega) | (rw [zat]; omega) | (simp; done) | (simp; omega) | (rw [zaF]; omega) | (rw [zag]; omega)); (first | exact za8 (by omega) | exact zbm (by omega) | exact zav (by omega) | rfl)) | (apply zaM; rfl; rfl; rfl; rfl; exact zai rfl; rfl; rfl) | (apply zal; rfl; rfl; rfl; rfl; rfl; rfl; exact yes (zck hK (hT.ext (by (focus repeat' first | exact Ext.refl _ | assumption | apply Ext.push | (refine Ext.trans ?_ (by assumption)) | (refine Ext.set ?_ (Nat.le_succ _) (zab zaa) _) | (refine Ext.ofBut ?_ (by assumption) (by first | exact Nat.le_refl _ | omega))))) hs) hp; (rintro _ _ ⟨rfl, _⟩)) | (apply zal; rfl; rfl; rfl; rfl; rfl; rfl; exact no (zgl hK hn) (fun q => hP ⟨hp, q⟩); (rintro _ _ ⟨rfl, _⟩)) | fail))
    exact ⟨.inr rfl, _, rfl, rfl, by (focus repeat' first | exact Ext.refl _ | assumption | apply Ext.push | (refine Ext.trans ?_ (by assumption)) | (refine Ext.set ?_ (Nat.le_succ _) (zab zaa) _) | (refine Ext.ofBut ?_ (by assumption) (by first | exact Nat.le_refl _ | omega)))⟩
  · (repeat' (first | (apply zam) | (apply zac) | (apply O_at; rfl) | (apply zaj; rfl) | (apply zak) | (apply za4; rfl) | (apply zaA) | (apply za5) | (apply zau) | (apply zbn; rfl; rfl; rfl) | (apply zaf; rfl; rfl; rfl; rfl) | (apply zad; rfl; rfl; rfl; rfl) | (apply zaR; rfl; rfl; rfl; rfl; rfl; rfl) | (apply zbl; rfl; rfl; rfl; rfl) | (apply zaz; rfl; rfl; rfl; rfl; exact zaT rfl; (focus repeat' first | exact zaa | assumption | apply zab | (apply Ext.get; assumption) | (apply ExtBut.get; assumption; (first | assumption | omega | (simp only [Heap.push]; omega)))); (first | exact Nat.le_of_ble_eq_true rfl | (rw [zcO]; omega) | (rw [zat]; omega) | (simp; done) | (simp; omega) | (rw [zaF]; omega) | (rw [zag]; omega)); (first | exact za8 (by omega) | exact zbm (by omega) | exact zav (by omega) | rfl)) | (apply zaM; rfl; rfl; rfl; rfl; exact zai rfl; rfl; rfl) | (apply zal; rfl; rfl; rfl; rfl; rfl; rfl; exact no (zck hK (hT.ext (by (focus repeat' first | exact Ext.refl _ | assumption | apply Ext.push | (refine Ext.trans ?_ (by assumption)) | (refine Ext.set ?_ (Nat.le_succ _) (zab zaa) _) | (refine Ext.ofBut ?_ (by assumption) (by first | exact Nat.le_refl _ | omega))))) hs) hp; (rintro _ _ ⟨rfl, _⟩)) | fail))
    exact ⟨.inr rfl, _, rfl, rfl, by (focus repeat' first | exact Ext.refl _ | assumption | apply Ext.push | (refine Ext.trans ?_ (by assumption)) | (refine Ext.set ?_ (Nat.le_succ _) (zab zaa) _) | (refine Ext.ofBut ?_ (by assumption) (by first | exact Nat.le_refl _ | omega)))⟩
theorem zg0 (G : Pg) (L : List Ent) (k : Nat) : ((List.range (k + 1)).map fun j => max 0 (2 - ((rdA G L j).length : Int))) = ((List.range k).map fun j => max 0 (2 - ((rdA G L j).length : Int))) ++ [max 0 (2 - ((rdA G L k).length : Int))] := by simp [List.range_succ]
theorem zfP (hK : NoK K) (hT : PgAt G h) (hs : ShortP G) (hP : PgP G) : CallW Tryz.prog K 28 #[pgV G] h (IsE (shortL G (logL G)) h) := by
  refine body (N := 29) Tryz.func28 rfl (hK _ _ _ rfl) rfl rfl ?_
  have hn := hP.n
  (repeat' (first | (apply zam) | (apply zac) | (apply O_at; rfl) | (apply zaj; rfl) | (apply zak) | (apply zaK; rfl) | (apply zax) | (apply zad; rfl; rfl; rfl; rfl) | (apply zbl; rfl; rfl; rfl; rfl) | (apply zaz; rfl; rfl; rfl; rfl; exact zaT rfl; (focus repeat' first | exact zaa | assumption | apply zab | (apply Ext.get; assumption) | (apply ExtBut.get; assumption; (first | assumption | omega | (simp only [Heap.push]; omega)))); (first | exact Nat.le_of_ble_eq_true rfl | (rw [zcO]; omega) | (rw [zat]; omega) | (simp; done) | (simp; omega) | (rw [zaF]; omega) | (rw [zag]; omega)); (first | exact za8 (by omega) | exact zbm (by omega) | exact zav (by omega) | rfl)) | (apply zaM; rfl; rfl; rfl; rfl; exact zai rfl; rfl; rfl) | (apply zal; rfl; rfl; rfl; rfl; rfl; rfl; exact yes (zck hK (hT.ext (by (focus repeat' first | exact Ext.refl _ | assumption | apply Ext.push | (refine Ext.trans ?_ (by assumption)) | (refine Ext.set ?_ (Nat.le_succ _) (zab zaa) _) | (refine Ext.ofBut ?_ (by assumption) (by first | exact Nat.le_refl _ | omega))))) hs) hP; (rintro _ _ ⟨rfl, _⟩)) | fail))
  apply zal; rfl; rfl; rfl; rfl; rfl; rfl; exact zgF hK (hT.ext (by (focus repeat' first | exact Ext.refl _ | assumption | apply Ext.push | (refine Ext.trans ?_ (by assumption)) | (refine Ext.set ?_ (Nat.le_succ _) (zab zaa) _) | (refine Ext.ofBut ?_ (by assumption) (by first | exact Nat.le_refl _ | omega))))) hP
  rintro _ h2 ⟨s, bn, bs, r, rfl, S, x⟩
  (repeat' (first | (apply zam) | (apply zac) | (apply O_at; rfl) | (apply zaj; rfl) | (apply zak) | (apply zaq) | (apply zaf; rfl; rfl; rfl; rfl) | (apply zad; rfl; rfl; rfl; rfl) | (apply P_fa; rfl; rfl; rfl; rfl; exact zaw rfl; (first | exact Nat.zero_add _ | exact Nat.add_zero _ | rfl)) | (apply zbe; rfl; rfl; rfl; rfl; rfl; rfl; exact zas rfl) | (apply zah; rfl; rfl; rfl; rfl; exact zar rfl; (focus repeat' first | exact zaa | assumption | apply zab | (apply Ext.get; assumption) | (apply ExtBut.get; assumption; (first | assumption | omega | (simp only [Heap.push]; omega)))); (first | exact zae (by omega) | exact rows_get (by omega) | exact cops_par (by omega) | exact zdI (by omega) | exact spans_lo (by omega) | exact spans_hi (by omega) | rfl | assumption)) | fail))
  refine zbb (fun a : Nat × Value => [(15, .int .i64 (a.1 : Nat)), (14, .int .i64 (G.n : Nat)), (4, a.2), (5, .pointer (some ⟨s, 0, none⟩)), (1, .pointer (some ⟨h.n, 0, none⟩))])
    (fun a h' => a.1 ≤ G.n ∧ Ext h2 h' ∧ OutI 3 h2 h' a.2 ((List.range a.1).map fun j => max 0 (2 - ((rdA G (logL G) j).length : Int)))) (fun a => G.n - a.1) ?_ (0, .slice none 0 0) ?_ ?_
  · rintro ⟨k, v⟩ h' ⟨hk, hx, ho⟩ ih
    dsimp only at hk hx ho ih ⊢
    by_cases hlt : k < G.n
    · have hl := zcQ G.people.toNat (logL G) (k : Nat) (setA G (logL G) k)
      have hpp := hP.people
      have hl' : (rdA G (logL G) k).length ≤ 1000 := by unfold rdA; omega
      (repeat' (first | (apply zam) | (apply zac) | (apply O_at; rfl) | (apply zaj; rfl) | (apply zak) | (apply za4; rfl) | (apply zaq) | (apply zax) | (apply zaB) | (apply zaf; rfl; rfl; rfl; rfl) | (apply zad; rfl; rfl; rfl; rfl) | (apply zbe; rfl; rfl; rfl; rfl; rfl; rfl; exact zas rfl) | (apply zbo; rfl; rfl; rfl; rfl; rfl; omega) | (apply zbN; rfl; rfl; rfl; rfl; rfl; (unfold fit; omega)) | (apply zeL; rfl; rfl; rfl; rfl; rfl; (unfold fit; omega)) | (apply zdM; rfl; rfl; rfl; rfl; rfl; rfl; rfl; exact zdy rfl) | (apply ziz; rfl; rfl; rfl; rfl; rfl; rfl; rfl; rfl; exact zdy rfl; exact zas rfl; (focus repeat' first | exact zaa | assumption | apply zab | (apply Ext.get; assumption) | (apply ExtBut.get; assumption; (first | assumption | omega | (simp only [Heap.push]; omega)))); (apply OutI.ext; assumption; (focus repeat' first | exact Ext.refl _ | assumption | apply Ext.push | (refine Ext.trans ?_ (by assumption)) | (refine Ext.set ?_ (Nat.le_succ _) (zab zaa) _) | (refine Ext.ofBut ?_ (by assumption) (by first | exact Nat.le_refl _ | omega)))); (focus repeat' first | exact Ext.refl _ | assumption | apply Ext.push | (refine Ext.trans ?_ (by assumption)) | (refine Ext.set ?_ (Nat.le_succ _) (zab zaa) _) | (refine Ext.ofBut ?_ (by assumption) (by first | exact Nat.le_refl _ | omega))); (first | omega | (simp; omega)); (intro _ _ _ _)) | (apply P_max; rfl; rfl; rfl; rfl; rfl; rfl) | (apply zal; rfl; rfl; rfl; rfl; rfl; rfl; exact zeS hK (S.ext (by (focus repeat' first | exact Ext.refl _ | assumption | apply Ext.push | (refine Ext.trans ?_ (by assumption)) | (refine Ext.set ?_ (Nat.le_succ _) (zab zaa) _) | (refine Ext.ofBut ?_ (by assumption) (by first | exact Nat.le_refl _ | omega))))) hP.people hlt (by omega) rfl; (rintro _ _ ⟨_, _, rfl, _, _⟩)) | fail))
      rename_i p3 c3 r3 x3 v4 h4 o4 x4
      refine zaH (ih (k + 1, v4) _ (by dsimp only; omega) ⟨hlt, x4, ?_⟩) (by (focus repeat' first | rfl | exact trivial | apply And.intro))
      rw [zg0]
      exact o4
    · obtain rfl : k = G.n := by omega
      (repeat' (first | (apply zam) | (apply zac) | (apply O_at; rfl) | (apply zaj; rfl) | (apply zak) | (apply zaK; rfl) | (apply zbj) | (apply zaA) | (apply zbk) | (apply zaZ) | (apply za0) | (apply zau) | (apply zaf; rfl; rfl; rfl; rfl) | (apply zad; rfl; rfl; rfl; rfl) | (apply zbr; rfl; rfl; rfl; rfl; rfl; omega) | fail))
      obtain ⟨p5, c5, rfl, r5, x5⟩ := ho.isL hx
      exact ⟨.inr rfl, _, rfl, _, _, rfl, r5, by (focus repeat' first | exact Ext.refl _ | assumption | apply Ext.push | (refine Ext.trans ?_ (by assumption)) | (refine Ext.set ?_ (Nat.le_succ _) (zab zaa) _) | (refine Ext.ofBut ?_ (by assumption) (by first | exact Nat.le_refl _ | omega)))⟩
  · exact ⟨Nat.zero_le _, Ext.refl _, .inl ⟨rfl, rfl⟩⟩
  · (focus repeat' first | rfl | exact trivial | apply And.intro)
theorem zjV (hK : NoK K) (hT : PgAt G h) (hs : ShortP G) (hP : ¬ PgP G) : CallW Tryz.prog K 28 #[pgV G] h (IsV errL h) := by
  refine body (N := 29) Tryz.func28 rfl (hK _ _ _ rfl) rfl rfl ?_
  (repeat' (first | (apply zam) | (apply zac) | (apply O_at; rfl) | (apply zaj; rfl) | (apply zak) | (apply za4; rfl) | (apply zaA) | (apply za5) | (apply zau) | (apply zad; rfl; rfl; rfl; rfl) | (apply zbl; rfl; rfl; rfl; rfl) | (apply zaz; rfl; rfl; rfl; rfl; exact zaT rfl; (focus repeat' first | exact zaa | assumption | apply zab | (apply Ext.get; assumption) | (apply ExtBut.get; assumption; (first | assumption | omega | (simp only [Heap.push]; omega)))); (first | exact Nat.le_of_ble_eq_true rfl | (rw [zcO]; omega) | (rw [zat]; omega) | (simp; done) | (simp; omega) | (rw [zaF]; omega) | (rw [zag]; omega)); (first | exact za8 (by omega) | exact zbm (by omega) | exact zav (by omega) | rfl)) | (apply zaM; rfl; rfl; rfl; rfl; exact zai rfl; rfl; rfl) | (apply zal; rfl; rfl; rfl; rfl; rfl; rfl; exact no (zck hK (hT.ext (by (focus repeat' first | exact Ext.refl _ | assumption | apply Ext.push | (refine Ext.trans ?_ (by assumption)) | (refine Ext.set ?_ (Nat.le_succ _) (zab zaa) _) | (refine Ext.ofBut ?_ (by assumption) (by first | exact Nat.le_refl _ | omega))))) hs) hP; (rintro _ _ ⟨rfl, _⟩)) | fail))
  exact ⟨.inr rfl, _, rfl, rfl, by (focus repeat' first | exact Ext.refl _ | assumption | apply Ext.push | (refine Ext.trans ?_ (by assumption)) | (refine Ext.set ?_ (Nat.le_succ _) (zab zaa) _) | (refine Ext.ofBut ?_ (by assumption) (by first | exact Nat.le_refl _ | omega)))⟩
end
end Go.AX.Sa

namespace Go.AX.Sa
open Go.Proofs
set_option maxRecDepth 100000
variable {K : Known}
abbrev TrueB : Value → Heap → Prop := fun v _ => v = .bool true
end Go.AX.Sa

namespace Go.AX.Sa
open Go.Proofs
set_option maxRecDepth 100000
variable {K : Known}
theorem rd_len (G : Pg) (L : List Ent) (j : Nat) (hp : 2 ≤ G.people ∧ G.people ≤ 6) : (rdA G L j).length ≤ 6 := by
  have := zcQ G.people.toNat L (j : Nat) (setA G L j)
  unfold rdA
  omega
theorem zjU (G : Pg) (L : List Ent) : (shortL G L).length = G.n := by simp [shortL]
theorem lin_nat {n : Nat} {q : Int} (h : LinP n q) : ∃ j : Nat, q = (j : Nat) ∧ j < n := by
  unfold LinP at h
  exact ⟨q.toNat, by omega, by omega⟩
theorem zd4 (hK : NoK K) (hKn : Kn K) {G : Pg} {n : Int} {h : Heap} (hT : PgAt G h) : CallW Tryz.prog K 5 #[pgV G, .int .i64 n] h TrueB := by
  refine body (N := 81) Tryz.func5 rfl (hK _ _ _ rfl) rfl rfl ?_
  by_cases hs : ShortP G
  · have hn8 : G.n ≤ 1000 := by have := hs.1; omega
    by_cases hP : PgP G
    · have l1 := zjU G (logL G)
      have hn := hP.n
      by_cases hl : LinP G.n n
      · obtain ⟨j, rfl, hj⟩ := lin_nat hl
        have l2 := rd_len G (logL G) j hP.people
        (repeat' (first | apply zam | apply zac | (apply O_at; rfl) | (apply zaj; rfl) | apply zak | (apply zaK; rfl) | apply zax | ((first | apply zaf | apply zad | apply zbl); rfl; rfl; rfl; rfl) | (apply zex; rfl; rfl; rfl; rfl; rfl) | (apply ziw; rfl; rfl; rfl; rfl; rfl; omega) | (apply zaz; rfl; rfl; rfl; rfl; exact zaT rfl; (focus repeat' first | exact zaa | assumption | (apply Ext.get; assumption)); (first | exact Nat.le_of_ble_eq_true rfl | (simp; done) | (simp; omega)); rfl) | (apply zaM; rfl; rfl; rfl; rfl; exact zai rfl; rfl; rfl) | (apply zal; rfl; rfl; rfl; rfl; rfl; rfl; exact yes (zdD hK (hT.ext (by (focus repeat' first | exact Ext.refl _ | assumption | apply Ext.push | (refine Ext.trans ?_ (by assumption)))))) hs; (rintro _ _ ⟨rfl, _⟩)) | (apply zal; rfl; rfl; rfl; rfl; rfl; rfl; exact zg8 hK (hT.ext (by (focus repeat' first | exact Ext.refl _ | assumption | apply Ext.push | (refine Ext.trans ?_ (by assumption))))) hs hP rfl hj; (rintro _ _ ⟨_, _, rfl, _, _⟩)) | (apply zal; rfl; rfl; rfl; rfl; rfl; rfl; exact zfP hK (hT.ext (by (focus repeat' first | exact Ext.refl _ | assumption | apply Ext.push | (refine Ext.trans ?_ (by assumption))))) hs hP; (rintro _ _ ⟨_, _, rfl, _, _⟩)) | (apply zal; rfl; rfl; rfl; rfl; rfl; rfl; exact yes (zc9 hK (hT.ext (by (focus repeat' first | exact Ext.refl _ | assumption | apply Ext.push | (refine Ext.trans ?_ (by assumption))))) hs) hP; (rintro _ _ ⟨rfl, _⟩)) | (apply zal; rfl; rfl; rfl; rfl; rfl; rfl; exact zdY hK (hT.ext (by (focus repeat' first | exact Ext.refl _ | assumption | apply Ext.push | (refine Ext.trans ?_ (by assumption))))) hP; (rintro _ _ ⟨_, _, rfl, _, _⟩)) | fail))
        rename_i h1 p1 c1 r1 x1 h2 p2 c2 r2 x2 h3 x3 h4 p4 c4 r4 x4
        (repeat' (first | apply zam | apply zac | (apply O_at; rfl) | (apply zaj; rfl) | apply zak | (apply zaK; rfl) | apply zax | ((first | apply zaf | apply zad | apply zbl); rfl; rfl; rfl; rfl) | (apply zaR; rfl; rfl; rfl; rfl; rfl; rfl) | (apply zbM; rfl; rfl; rfl; rfl; rfl; omega) | (apply zaz; rfl; rfl; rfl; rfl; exact zaT rfl; (focus repeat' first | exact zaa | assumption | (apply Ext.get; assumption)); (first | exact Nat.le_of_ble_eq_true rfl | (simp; done) | (simp; omega)); rfl) | (apply zal; rfl; rfl; rfl; rfl; rfl; rfl; exact yes (zg1 hK (by omega) (by omega) (r2.ext (by (focus repeat' first | exact Ext.refl _ | assumption | apply Ext.push | (refine Ext.trans ?_ (by assumption))))) (r4.ext (by (focus repeat' first | exact Ext.refl _ | assumption | apply Ext.push | (refine Ext.trans ?_ (by assumption)))))) rfl; (rintro _ _ ⟨rfl, _⟩)) | (apply zal; rfl; rfl; rfl; rfl; rfl; rfl; exact yes (zda hK hn8) hl; (rintro _ _ ⟨rfl, _⟩)) | (apply zal; rfl; rfl; rfl; rfl; rfl; rfl; exact zcP hK (hT.ext (by (focus repeat' first | exact Ext.refl _ | assumption | apply Ext.push | (refine Ext.trans ?_ (by assumption))))) hP hj; (rintro _ _ ⟨_, _, rfl, _, _⟩)) | fail))
        rename_i h5 x5 h6 x6 h7 p7 c7 r7 x7
        (repeat' (first | (apply O_at; rfl) | (apply zaj; rfl) | apply zak | apply zaA | apply zau | ((first | apply zaf | apply zad | apply zbl); rfl; rfl; rfl; rfl) | (apply zaR; rfl; rfl; rfl; rfl; rfl; rfl) | (apply zal; rfl; rfl; rfl; rfl; rfl; rfl; exact yes (zg1 hK (by omega) (by omega) (r1.ext (by (focus repeat' first | exact Ext.refl _ | assumption | apply Ext.push | (refine Ext.trans ?_ (by assumption))))) (r7.ext (by (focus repeat' first | exact Ext.refl _ | assumption | apply Ext.push | (refine Ext.trans ?_ (by assumption)))))) rfl; (rintro _ _ ⟨rfl, _⟩)) | (apply zal; rfl; rfl; rfl; rfl; rfl; rfl; exact zcW hKn; (rintro _ _ ⟨rfl, _⟩)) | fail))
        exact ⟨.inr rfl, _, rfl, rfl⟩
      · (repeat' (first | apply zam | apply zac | (apply O_at; rfl) | (apply zaj; rfl) | apply zak | (apply zaK; rfl) | apply zax | ((first | apply zaf | apply zad | apply zbl); rfl; rfl; rfl; rfl) | (apply zex; rfl; rfl; rfl; rfl; rfl) | (apply ziw; rfl; rfl; rfl; rfl; rfl; omega) | (apply zaz; rfl; rfl; rfl; rfl; exact zaT rfl; (focus repeat' first | exact zaa | assumption | (apply Ext.get; assumption)); (first | exact Nat.le_of_ble_eq_true rfl | (simp; done) | (simp; omega)); rfl) | (apply zaM; rfl; rfl; rfl; rfl; exact zai rfl; rfl; rfl) | (apply zal; rfl; rfl; rfl; rfl; rfl; rfl; exact yes (zdD hK (hT.ext (by (focus repeat' first | exact Ext.refl _ | assumption | apply Ext.push | (refine Ext.trans ?_ (by assumption)))))) hs; (rintro _ _ ⟨rfl, _⟩)) | (apply zal; rfl; rfl; rfl; rfl; rfl; rfl; exact zd1 hK (hT.ext (by (focus repeat' first | exact Ext.refl _ | assumption | apply Ext.push | (refine Ext.trans ?_ (by assumption))))) hs (fun q => hl q.2) hn8; (rintro _ _ ⟨rfl, _⟩)) | (apply zal; rfl; rfl; rfl; rfl; rfl; rfl; exact zfP hK (hT.ext (by (focus repeat' first | exact Ext.refl _ | assumption | apply Ext.push | (refine Ext.trans ?_ (by assumption))))) hs hP; (rintro _ _ ⟨_, _, rfl, _, _⟩)) | (apply zal; rfl; rfl; rfl; rfl; rfl; rfl; exact yes (zc9 hK (hT.ext (by (focus repeat' first | exact Ext.refl _ | assumption | apply Ext.push | (refine Ext.trans ?_ (by assumption))))) hs) hP; (rintro _ _ ⟨rfl, _⟩)) | (apply zal; rfl; rfl; rfl; rfl; rfl; rfl; exact zdY hK (hT.ext (by (focus repeat' first | exact Ext.refl _ | assumption | apply Ext.push | (refine Ext.trans ?_ (by assumption))))) hP; (rintro _ _ ⟨_, _, rfl, _, _⟩)) | fail))
        rename_i h2 p2 c2 r2 x2 h3 x3 h4 p4 c4 r4 x4
        (repeat' (first | apply zam | apply zac | (apply O_at; rfl) | (apply zaj; rfl) | apply zak | (apply za4; rfl) | (apply zaK; rfl) | apply zax | apply zaA | apply za5 | apply zau | ((first | apply zaf | apply zad | apply zbl); rfl; rfl; rfl; rfl) | (apply zbe; rfl; rfl; rfl; rfl; rfl; rfl; exact zas rfl) | (apply zaR; rfl; rfl; rfl; rfl; rfl; rfl) | (apply zbM; rfl; rfl; rfl; rfl; rfl; omega) | (apply zaz; rfl; rfl; rfl; rfl; exact zaT rfl; (focus repeat' first | exact zaa | assumption | (apply Ext.get; assumption)); (first | exact Nat.le_of_ble_eq_true rfl | (simp; done) | (simp; omega)); rfl) | (apply zal; rfl; rfl; rfl; rfl; rfl; rfl; exact yes (zg1 hK (by omega) (by omega) (r2.ext (by (focus repeat' first | exact Ext.refl _ | assumption | apply Ext.push | (refine Ext.trans ?_ (by assumption))))) (r4.ext (by (focus repeat' first | exact Ext.refl _ | assumption | apply Ext.push | (refine Ext.trans ?_ (by assumption)))))) rfl; (rintro _ _ ⟨rfl, _⟩)) | (apply zal; rfl; rfl; rfl; rfl; rfl; rfl; exact no (zda hK hn8) hl; (rintro _ _ ⟨rfl, _⟩)) | (apply zal; rfl; rfl; rfl; rfl; rfl; rfl; exact zcW hKn; (rintro _ _ ⟨rfl, _⟩)) | fail))
        exact ⟨.inr rfl, _, rfl, rfl⟩
    · (repeat' (first | apply zam | apply zac | (apply O_at; rfl) | (apply zaj; rfl) | apply zak | (apply za4; rfl) | (apply zaK; rfl) | apply zax | apply zaA | apply za5 | apply zau | ((first | apply zaf | apply zad | apply zbl); rfl; rfl; rfl; rfl) | (apply zbe; rfl; rfl; rfl; rfl; rfl; rfl; exact zas rfl) | (apply zaR; rfl; rfl; rfl; rfl; rfl; rfl) | (apply zex; rfl; rfl; rfl; rfl; rfl) | (apply zbM; rfl; rfl; rfl; rfl; rfl; omega) | (apply zaz; rfl; rfl; rfl; rfl; exact zaT rfl; (focus repeat' first | exact zaa | assumption | (apply Ext.get; assumption)); (first | exact Nat.le_of_ble_eq_true rfl | (simp; done) | (simp; omega)); rfl) | (apply zaM; rfl; rfl; rfl; rfl; exact zai rfl; rfl; rfl) | (apply zal; rfl; rfl; rfl; rfl; rfl; rfl; exact yes (zdD hK (hT.ext (by (focus repeat' first | exact Ext.refl _ | assumption | apply Ext.push | (refine Ext.trans ?_ (by assumption)))))) hs; (rintro _ _ ⟨rfl, _⟩)) | (apply zal; rfl; rfl; rfl; rfl; rfl; rfl; exact zd1 hK (hT.ext (by (focus repeat' first | exact Ext.refl _ | assumption | apply Ext.push | (refine Ext.trans ?_ (by assumption))))) hs (fun q => hP q.1) hn8; (rintro _ _ ⟨rfl, _⟩)) | (apply zal; rfl; rfl; rfl; rfl; rfl; rfl; exact zjV hK (hT.ext (by (focus repeat' first | exact Ext.refl _ | assumption | apply Ext.push | (refine Ext.trans ?_ (by assumption))))) hs hP; (rintro _ _ ⟨rfl, _⟩)) | (apply zal; rfl; rfl; rfl; rfl; rfl; rfl; exact no (zc9 hK (hT.ext (by (focus repeat' first | exact Ext.refl _ | assumption | apply Ext.push | (refine Ext.trans ?_ (by assumption))))) hs) hP; (rintro _ _ ⟨rfl, _⟩)) | (apply zal; rfl; rfl; rfl; rfl; rfl; rfl; exact zcW hKn; (rintro _ _ ⟨rfl, _⟩)) | fail))
      exact ⟨.inr rfl, _, rfl, rfl⟩
  · (repeat' (first | apply zam | apply zac | (apply O_at; rfl) | (apply zaj; rfl) | apply zak | (apply za4; rfl) | apply zaA | apply za5 | apply zau | ((first | apply zaf | apply zad | apply zbl); rfl; rfl; rfl; rfl) | (apply zaz; rfl; rfl; rfl; rfl; exact zaT rfl; (focus repeat' first | exact zaa | assumption | (apply Ext.get; assumption)); (first | exact Nat.le_of_ble_eq_true rfl | (simp; done) | (simp; omega)); rfl) | (apply zaM; rfl; rfl; rfl; rfl; exact zai rfl; rfl; rfl) | (apply zal; rfl; rfl; rfl; rfl; rfl; rfl; exact no (zdD hK (hT.ext (by (focus repeat' first | exact Ext.refl _ | assumption | apply Ext.push | (refine Ext.trans ?_ (by assumption)))))) hs; (rintro _ _ ⟨rfl, _⟩)) | (apply zal; rfl; rfl; rfl; rfl; rfl; rfl; exact zcW hKn; (rintro _ _ ⟨rfl, _⟩)) | fail))
    exact ⟨.inr rfl, _, rfl, rfl⟩
end Go.AX.Sa
