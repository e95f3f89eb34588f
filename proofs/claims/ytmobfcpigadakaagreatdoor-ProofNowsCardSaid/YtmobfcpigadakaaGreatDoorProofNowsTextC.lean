/- The law ProofNows at the reading: what the functions that it calls answer (3). -/
import Derived.Test.YtmobfcpigadakaaGreatDoorProofNowsTextB
namespace Go.AX.Sa
open Go.Proofs
set_option maxRecDepth 100000
variable {K : Known}
/-- What an entry makes of what stands. -/
structure StL (G : Pg) (L : List Ent) (s bn bs r : Nat) (h : Heap) : Prop where
  st : ∃ f, StB G (numsL G L) (setsL G L) f s bn bs r h ∧ ∀ q : Int × Int, 0 ≤ q.2 → q.2 < G.people → f q = hrdF L q
theorem zix (hK : NoK K) {G : Pg} {L : List Ent} {s bn bs r : Nat} {c : Cop} {h : Heap} (hS : StL G L s bn bs r h) (hns : bn ≠ bs) (hp : 2 ≤ G.people ∧ G.people ≤ 6) (hn : G.n ≤ 1000) (hc : RowIn c.r h) (hP : EntP G.people G.n (ent c)) (hN : ∀ j, j < G.n → NumP (numA G L j)) :
    CallW Tryz.prog K 105 #[.pointer (some ⟨s, 0, none⟩), enV c] h (fun _ h1 => StL G (L ++ [ent c]) s bn bs r h1 ∧ Keep3 bn bs r h h1) := by
  obtain ⟨f, hS, hf⟩ := hS
  have hcb := hc.b
  have hP' := hP
  obtain ⟨par, ⟨q, k, t⟩⟩ := c
  dsimp only [enV, ent] at hP hcb ⊢
  refine body (N := 14) Tryz.func105 rfl (hK _ _ _ rfl) rfl rfl ?_
  rcases ent0 hP with h1 | h1 | h1
  · dsimp only at h1
    subst h1
    (repeat' (first | apply zau | apply zac | (apply O_at; rfl) | (apply N_at; rfl) | (apply zat; rfl) | apply zav | (apply zaS; exact zao (by decide +kernel)) | (apply zaI; rfl; exact (.inl (Nat.le_refl 1))) | (apply zaI; rfl; refine .inr ?_; (focus repeat' first | exact trivial | apply And.intro | rfl)) | apply zaw | (apply zak; rfl; rfl; rfl; rfl; exact zad rfl; rfl; rfl; rfl) | (apply zb6; rfl; rfl; rfl; rfl) | (apply zaF; rfl; rfl; rfl; rfl; exact zad rfl; rfl; rfl) | (apply zaP; rfl; rfl; rfl; rfl; exact zad rfl; rfl; rfl) | (apply za2; rfl; rfl; rfl; rfl) | (apply M_fa; rfl; rfl; rfl; rfl; exact zaG rfl; (first | exact Nat.zero_add _ | exact Nat.add_zero _ | rfl)) | (apply zjH; rfl; rfl; rfl; rfl; rfl; (unfold fit; omega)) | ((first | ((apply zaR; rfl; rfl; rfl; rfl; exact zal rfl; exact zaq (by decide +kernel)); (focus repeat' first | exact zaa | assumption | apply zab); (first | rfl | assumption)) | ((apply zbL; rfl; rfl; rfl; rfl; exact zaE rfl; exact zaq (by decide +kernel)); (focus repeat' first | exact zaa | assumption | apply zab); (first | exact Nat.le_of_ble_eq_true rfl | (simp; done) | (simp; omega)); rfl)); (first | assumption | exact zas _ _ | exact zb2 _ _ _ _ | rfl | (focus simp [same, same.all2]; done)); (first | rfl | assumption | exact hwv _ | exact zbp (by assumption) (by (focus repeat' first | exact Ext.refl _ | assumption | apply Ext.push)) | (simp [within]; omega))) | (apply zfl; rfl; rfl; rfl; rfl; rfl; exact zjE rfl; exact zad rfl; (first | assumption | exact zq0 | exact zq1 | exact zq2 | rfl | exact (Int.toNat_of_nonneg (by omega)).symm); omega) | fail))
    apply za8; rfl; rfl; rfl; rfl; rfl; rfl; rfl; exact read_ok hK (c := ⟨1, ⟨q, k, t⟩⟩) (hS.ext (by (focus repeat' first | exact Ext.refl _ | assumption | apply Ext.push))) hns hn (hc.ext (by (focus repeat' first | exact Ext.refl _ | assumption | apply Ext.push))) hP' rfl
    rintro _ h2 ⟨S2, k2⟩
    (repeat' (first | apply zau | apply zac | (apply O_at; rfl) | (apply N_at; rfl) | (apply zat; rfl) | apply zav | (apply zaS; exact zao (by decide +kernel)) | (apply zaI; rfl; exact (.inl (Nat.le_refl 1))) | (apply zaI; rfl; refine .inr ?_; (focus repeat' first | exact trivial | apply And.intro | rfl)) | apply zaw | (apply zak; rfl; rfl; rfl; rfl; exact zad rfl; rfl; rfl; rfl) | (apply zb6; rfl; rfl; rfl; rfl) | (apply zaF; rfl; rfl; rfl; rfl; exact zad rfl; rfl; rfl) | (apply zaP; rfl; rfl; rfl; rfl; exact zad rfl; rfl; rfl) | (apply za2; rfl; rfl; rfl; rfl) | (apply M_fa; rfl; rfl; rfl; rfl; exact zaG rfl; (first | exact Nat.zero_add _ | exact Nat.add_zero _ | rfl)) | (apply zjH; rfl; rfl; rfl; rfl; rfl; (unfold fit; omega)) | ((first | ((apply zaR; rfl; rfl; rfl; rfl; exact zal rfl; exact zaq (by decide +kernel)); (focus repeat' first | exact zaa | assumption | apply zab); (first | rfl | assumption)) | ((apply zbL; rfl; rfl; rfl; rfl; exact zaE rfl; exact zaq (by decide +kernel)); (focus repeat' first | exact zaa | assumption | apply zab); (first | exact Nat.le_of_ble_eq_true rfl | (simp; done) | (simp; omega)); rfl)); (first | assumption | exact zas _ _ | exact zb2 _ _ _ _ | rfl | (focus simp [same, same.all2]; done)); (first | rfl | assumption | exact hwv _ | exact zbp (by assumption) (by (focus repeat' first | exact Ext.refl _ | assumption | apply Ext.push)) | (simp [within]; omega))) | (apply zfl; rfl; rfl; rfl; rfl; rfl; exact zjE rfl; exact zad rfl; (first | assumption | exact zq0 | exact zq1 | exact zq2 | rfl | exact (Int.toNat_of_nonneg (by omega)).symm); omega) | fail))
    refine ⟨.inl rfl, _, rfl, ⟨_, by rw [zkG rfl, ze2 (by simp)]; exact S2, fun y y0 y1 => ?_⟩, (Keep3.of (by (focus repeat' first | exact Ext.refl _ | assumption | apply Ext.push))).trans k2⟩
    rw [zes, hrdS, if_neg (fun u => u.elim (fun w => absurd w.1 (by simp)) fun w => absurd w.1 (by simp))]
    unfold readF
    rw [hf y y0 y1]
    simp only [rdL_mem, ent]
  · dsimp only at h1
    subst h1
    have z := ent2.1 hP
    obtain ⟨j, hj⟩ : ∃ j : Nat, t.getD 1 0 = (j : Nat) := ⟨(t.getD 1 0).toNat, by omega⟩
    have hjn : j < G.n := by omega
    (repeat' (first | apply zau | apply zac | (apply O_at; rfl) | (apply N_at; rfl) | (apply zat; rfl) | apply zav | (apply zaS; exact zao (by decide +kernel)) | (apply zaI; rfl; exact (.inl (Nat.le_refl 1))) | (apply zaI; rfl; refine .inr ?_; (focus repeat' first | exact trivial | apply And.intro | rfl)) | apply zaw | (apply zak; rfl; rfl; rfl; rfl; exact zad rfl; rfl; rfl; rfl) | (apply zb6; rfl; rfl; rfl; rfl) | (apply zaF; rfl; rfl; rfl; rfl; exact zad rfl; rfl; rfl) | (apply zaP; rfl; rfl; rfl; rfl; exact zad rfl; rfl; rfl) | (apply za2; rfl; rfl; rfl; rfl) | (apply M_fa; rfl; rfl; rfl; rfl; exact zaG rfl; (first | exact Nat.zero_add _ | exact Nat.add_zero _ | rfl)) | (apply zjH; rfl; rfl; rfl; rfl; rfl; (unfold fit; omega)) | ((first | ((apply zaR; rfl; rfl; rfl; rfl; exact zal rfl; exact zaq (by decide +kernel)); (focus repeat' first | exact zaa | assumption | apply zab); (first | rfl | assumption)) | ((apply zbL; rfl; rfl; rfl; rfl; exact zaE rfl; exact zaq (by decide +kernel)); (focus repeat' first | exact zaa | assumption | apply zab); (first | exact Nat.le_of_ble_eq_true rfl | (simp; done) | (simp; omega)); rfl)); (first | assumption | exact zas _ _ | exact zb2 _ _ _ _ | rfl | (focus simp [same, same.all2]; done)); (first | rfl | assumption | exact hwv _ | exact zbp (by assumption) (by (focus repeat' first | exact Ext.refl _ | assumption | apply Ext.push)) | (simp [within]; omega))) | (apply zfl; rfl; rfl; rfl; rfl; rfl; exact zjE rfl; exact zad rfl; (first | assumption | exact zq0 | exact zq1 | exact zq2 | rfl | exact (Int.toNat_of_nonneg (by omega)).symm); omega) | fail))
    apply za8; rfl; rfl; rfl; rfl; rfl; rfl; rfl; exact mend_ok hK (c := ⟨2, ⟨q, k, t⟩⟩) (hS.ext (by (focus repeat' first | exact Ext.refl _ | assumption | apply Ext.push))) hns hp hn (hc.ext (by (focus repeat' first | exact Ext.refl _ | assumption | apply Ext.push))) z.1 hj hjn
    rintro _ h2 ⟨S2, k2⟩
    (repeat' (first | apply zau | apply zac | (apply O_at; rfl) | (apply N_at; rfl) | (apply zat; rfl) | apply zav | (apply zaS; exact zao (by decide +kernel)) | (apply zaI; rfl; exact (.inl (Nat.le_refl 1))) | (apply zaI; rfl; refine .inr ?_; (focus repeat' first | exact trivial | apply And.intro | rfl)) | apply zaw | (apply zak; rfl; rfl; rfl; rfl; exact zad rfl; rfl; rfl; rfl) | (apply zb6; rfl; rfl; rfl; rfl) | (apply zaF; rfl; rfl; rfl; rfl; exact zad rfl; rfl; rfl) | (apply zaP; rfl; rfl; rfl; rfl; exact zad rfl; rfl; rfl) | (apply za2; rfl; rfl; rfl; rfl) | (apply M_fa; rfl; rfl; rfl; rfl; exact zaG rfl; (first | exact Nat.zero_add _ | exact Nat.add_zero _ | rfl)) | (apply zjH; rfl; rfl; rfl; rfl; rfl; (unfold fit; omega)) | ((first | ((apply zaR; rfl; rfl; rfl; rfl; exact zal rfl; exact zaq (by decide +kernel)); (focus repeat' first | exact zaa | assumption | apply zab); (first | rfl | assumption)) | ((apply zbL; rfl; rfl; rfl; rfl; exact zaE rfl; exact zaq (by decide +kernel)); (focus repeat' first | exact zaa | assumption | apply zab); (first | exact Nat.le_of_ble_eq_true rfl | (simp; done) | (simp; omega)); rfl)); (first | assumption | exact zas _ _ | exact zb2 _ _ _ _ | rfl | (focus simp [same, same.all2]; done)); (first | rfl | assumption | exact hwv _ | exact zbp (by assumption) (by (focus repeat' first | exact Ext.refl _ | assumption | apply Ext.push)) | (simp [within]; omega))) | (apply zfl; rfl; rfl; rfl; rfl; rfl; exact zjE rfl; exact zad rfl; (first | assumption | exact zq0 | exact zq1 | exact zq2 | rfl | exact (Int.toNat_of_nonneg (by omega)).symm); omega) | fail))
    refine ⟨.inl rfl, _, rfl, ⟨_, by rw [zkH (e := (2, t)) rfl hj hjn, zj4 (e := (2, t)) rfl hj hjn]; exact S2, fun y y0 y1 => ?_⟩, (Keep3.of (by (focus repeat' first | exact Ext.refl _ | assumption | apply Ext.push))).trans k2⟩
    rw [zes, hrdS]
    unfold keepCh
    by_cases hy : y.1 = (j : Nat)
    · rw [if_pos ⟨hy, y0, y1⟩, if_pos (.inl ⟨rfl, hj.trans hy.symm⟩)]
    · rw [if_neg (fun w => hy w.1), if_neg (fun u => u.elim (fun w => hy (w.2.symm.trans hj)) fun w => absurd w.1 (by simp)), if_neg (fun w => absurd w.1.1 (by simp))]
      exact hf y y0 y1
  · dsimp only at h1
    subst h1
    have z := ent3.1 hP
    obtain ⟨j, hj⟩ : ∃ j : Nat, t.getD 0 0 = (j : Nat) := ⟨(t.getD 0 0).toNat, by omega⟩
    have hjn : j < G.n := by omega
    (repeat' (first | apply zau | apply zac | (apply O_at; rfl) | (apply N_at; rfl) | (apply zat; rfl) | apply zav | (apply zaS; exact zao (by decide +kernel)) | (apply zaI; rfl; exact (.inl (Nat.le_refl 1))) | (apply zaI; rfl; refine .inr ?_; (focus repeat' first | exact trivial | apply And.intro | rfl)) | apply zaw | (apply zak; rfl; rfl; rfl; rfl; exact zad rfl; rfl; rfl; rfl) | (apply zb6; rfl; rfl; rfl; rfl) | (apply zaF; rfl; rfl; rfl; rfl; exact zad rfl; rfl; rfl) | (apply zaP; rfl; rfl; rfl; rfl; exact zad rfl; rfl; rfl) | (apply za2; rfl; rfl; rfl; rfl) | (apply M_fa; rfl; rfl; rfl; rfl; exact zaG rfl; (first | exact Nat.zero_add _ | exact Nat.add_zero _ | rfl)) | (apply zjH; rfl; rfl; rfl; rfl; rfl; (unfold fit; omega)) | ((first | ((apply zaR; rfl; rfl; rfl; rfl; exact zal rfl; exact zaq (by decide +kernel)); (focus repeat' first | exact zaa | assumption | apply zab); (first | rfl | assumption)) | ((apply zbL; rfl; rfl; rfl; rfl; exact zaE rfl; exact zaq (by decide +kernel)); (focus repeat' first | exact zaa | assumption | apply zab); (first | exact Nat.le_of_ble_eq_true rfl | (simp; done) | (simp; omega)); rfl)); (first | assumption | exact zas _ _ | exact zb2 _ _ _ _ | rfl | (focus simp [same, same.all2]; done)); (first | rfl | assumption | exact hwv _ | exact zbp (by assumption) (by (focus repeat' first | exact Ext.refl _ | assumption | apply Ext.push)) | (simp [within]; omega))) | (apply zfl; rfl; rfl; rfl; rfl; rfl; exact zjE rfl; exact zad rfl; (first | assumption | exact zq0 | exact zq1 | exact zq2 | rfl | exact (Int.toNat_of_nonneg (by omega)).symm); omega) | fail))
    apply za8; rfl; rfl; rfl; rfl; rfl; rfl; rfl; exact fall_ok hK (c := ⟨3, ⟨q, k, t⟩⟩) (hS.ext (by (focus repeat' first | exact Ext.refl _ | assumption | apply Ext.push))) hns hp hn (hc.ext (by (focus repeat' first | exact Ext.refl _ | assumption | apply Ext.push))) z.1 hj hjn (by rw [zcN hjn]; exact hN j hjn)
    rintro _ h2 ⟨S2, k2⟩
    rw [zcN hjn] at S2
    (repeat' (first | apply zau | apply zac | (apply O_at; rfl) | (apply N_at; rfl) | (apply zat; rfl) | apply zav | (apply zaS; exact zao (by decide +kernel)) | (apply zaI; rfl; exact (.inl (Nat.le_refl 1))) | (apply zaI; rfl; refine .inr ?_; (focus repeat' first | exact trivial | apply And.intro | rfl)) | apply zaw | (apply zak; rfl; rfl; rfl; rfl; exact zad rfl; rfl; rfl; rfl) | (apply zb6; rfl; rfl; rfl; rfl) | (apply zaF; rfl; rfl; rfl; rfl; exact zad rfl; rfl; rfl) | (apply zaP; rfl; rfl; rfl; rfl; exact zad rfl; rfl; rfl) | (apply za2; rfl; rfl; rfl; rfl) | (apply M_fa; rfl; rfl; rfl; rfl; exact zaG rfl; (first | exact Nat.zero_add _ | exact Nat.add_zero _ | rfl)) | (apply zjH; rfl; rfl; rfl; rfl; rfl; (unfold fit; omega)) | ((first | ((apply zaR; rfl; rfl; rfl; rfl; exact zal rfl; exact zaq (by decide +kernel)); (focus repeat' first | exact zaa | assumption | apply zab); (first | rfl | assumption)) | ((apply zbL; rfl; rfl; rfl; rfl; exact zaE rfl; exact zaq (by decide +kernel)); (focus repeat' first | exact zaa | assumption | apply zab); (first | exact Nat.le_of_ble_eq_true rfl | (simp; done) | (simp; omega)); rfl)); (first | assumption | exact zas _ _ | exact zb2 _ _ _ _ | rfl | (focus simp [same, same.all2]; done)); (first | rfl | assumption | exact hwv _ | exact zbp (by assumption) (by (focus repeat' first | exact Ext.refl _ | assumption | apply Ext.push)) | (simp [within]; omega))) | (apply zfl; rfl; rfl; rfl; rfl; rfl; exact zjE rfl; exact zad rfl; (first | assumption | exact zq0 | exact zq1 | exact zq2 | rfl | exact (Int.toNat_of_nonneg (by omega)).symm); omega) | fail))
    refine ⟨.inl rfl, _, rfl, ⟨_, by rw [zkI (e := (3, t)) rfl hj hjn, ze2 (by simp)]; exact S2, fun y y0 y1 => ?_⟩, (Keep3.of (by (focus repeat' first | exact Ext.refl _ | assumption | apply Ext.push))).trans k2⟩
    rw [zes, hrdS]
    unfold keepCh
    by_cases hy : y.1 = (j : Nat)
    · rw [if_pos ⟨hy, y0, y1⟩, if_pos (.inr ⟨rfl, hj.trans hy.symm⟩)]
    · rw [if_neg (fun w => hy w.1), if_neg (fun u => u.elim (fun w => absurd w.1 (by simp)) fun w => hy (w.2.symm.trans hj)), if_neg (fun w => absurd w.1.1 (by simp))]
      exact hf y y0 y1
end Go.AX.Sa

namespace Go.AX.Sa
open Go.Proofs
set_option maxRecDepth 100000
/-! Lists that grow beside each other. -/
/-- The value reads as this list and lies in this block alone. -/
def Own (h : Heap) (v : Value) (l : List Int) (b : Nat) : Prop := (v = .slice none 0 0 ∧ l = []) ∨ (l ≠ [] ∧ v = .slice (some ⟨b, 0, none⟩) l.length unk ∧ h.get? b = some (.cells (ints l) 3 true))
theorem Own.ext {h h1 : Heap} {v : Value} {l : List Int} {b : Nat} (o : Own h v l b) (x : Ext h h1) : Own h1 v l b := o.imp id fun q => ⟨q.1, q.2.1, x.get q.2.2⟩
theorem Own.but {h h1 : Heap} {v : Value} {l : List Int} {b c : Nat} (o : Own h v l b) (x : ExtBut c h h1) (hne : b ≠ c) : Own h1 v l b := o.imp id fun q => ⟨q.1, q.2.1, x.get hne q.2.2⟩
/-- What stays when a list in this block grows. -/
structure KeptX (l : List Int) (b : Nat) (h h1 : Heap) : Prop where
  n : h1.n = h.n + 1
  get' : ∀ c y, (l = [] ∨ c ≠ b) → h.get? c = some y → h1.get? c = some y
theorem Own.kept {h h1 : Heap} {v : Value} {l l' : List Int} {b b' : Nat} (o : Own h v l b) (x : KeptX l' b' h h1) (hne : l' = [] ∨ b ≠ b') : Own h1 v l b := by
  rcases o with o | ⟨o0, o1, o2⟩
  · exact .inl o
  · rcases hne with hn | hn
    · exact .inr ⟨o0, o1, x.get' _ _ (.inl hn) o2⟩
    · exact .inr ⟨o0, o1, x.get' _ _ (.inr hn) o2⟩
theorem Own.one {h : Heap} {v : Value} {l : List Int} {b : Nat} (o : Own h v l b) : oneB v = true ∧ v.cells = #[v] := by
  rcases o with ⟨rfl, _⟩ | ⟨_, rfl, _⟩ <;> exact ⟨rfl, rfl⟩
theorem Own.same {h : Heap} {v : Value} {l : List Int} {b : Nat} (o : Own h v l b) : AX.same 20 v v = true := by
  rcases o with ⟨rfl, _⟩ | ⟨_, rfl, _⟩ <;> simp [AX.same]
theorem Own.within {h : Heap} {v : Value} {l : List Int} {b : Nat} (o : Own h v l b) {m : Nat} (hm : h.n ≤ m) : AX.within 20 m v = true := by
  rcases o with ⟨rfl, _⟩ | ⟨_, rfl, g⟩
  · rfl
  · have := Heap.get_lt g
    simp [AX.within]; omega
section
variable {P : Program} {K : Known} {x : Ctx} {N : Nat} {E : Env} {h : Heap} {ops : Array Oper} {F : Ex → Env → Heap → Prop} {i : Nat} {Hs : List Heap} {L : List Heap → Prop} {nw : List (Nat × Nat × Blk)}
variable {d : Nat} {ty : TypeId} {pos : String} {af : Array Edge} {g : Option (Nat × Bool)}
theorem own_app {ts : Array TypeId} {t t' e' : TypeId} {by_ cap bv : Nat} {e0 : TypeId} {own : Bool} {n : Int} {v : Value} {l : List Int} (h0' : ts[0]? = some t) (h1' : ts[1]? = some t') (hc : cell1 P t = some 3) (hc' : P.underlying t' = some (.slice e'))
    (hy : h.get? by_ = some (.cells [.int .i64 n] e0 own)) (ho : Own h v l bv) (hle : l.length ≤ 10000) : ∃ v' h1, appendB P h ts v (.slice (some ⟨by_, 0, none⟩) 1 cap) = some (v', h1) ∧ Own h1 v' (l ++ [n]) h.n ∧ KeptX l bv h h1 := by
  rcases ho with ⟨rfl, rfl⟩ | ⟨hne0, rfl, h2⟩
  · exact ⟨_, _, zlp h0' h1' hc hc' hy rfl (by omega) (by omega) rfl, .inr ⟨by simp, rfl, zaa⟩, ⟨rfl, fun _ _ _ g => zab g⟩⟩
  · refine ⟨_, _, zlo h0' h1' hc hc' hy rfl (by omega) (by omega) rfl h2 (zaf _), .inr ⟨by simp, by simp, ?_⟩, ⟨rfl, fun c y hne q => ?_⟩⟩
    · have : (h.set bv .dead).n = h.n := rfl
      rw [← this, show ints (l ++ [n]) = ints l ++ [Value.int .i64 n] from (AX.ints_app l [n]).symm]
      exact zaa
    · by_cases hb : c = bv
      · subst hb
        rcases hne with hn | hn
        · exact absurd hn hne0
        · exact absurd rfl hn
      · exact zab (zbb h2 hb q)
theorem appOwnM {args : Array Operand} {ts : Array TypeId} {t t' e' : TypeId} {a b : Operand} {by_ cap bv : Nat} {e0 : TypeId} {own : Bool} {n : Int} {v : Value} {l : List Int} (hN : Nat.blt d N = true) (hg : gval ops E g = some true) (hk : opsOK P ⟨some d, .call ⟨.builtin .append, args, ts⟩, ty, pos, af, g⟩ = true) (hargs : args.toList = [a, b])
    (ha : E.ev a = some v) (hb : E.ev b = some (.slice (some ⟨by_, 0, none⟩) 1 cap)) (h0' : ts[0]? = some t) (h1' : ts[1]? = some t') (hc : cell1 P t = some 3) (hc' : P.underlying t' = some (.slice e'))
    (hy : h.get? by_ = some (.cells [.int .i64 n] e0 own)) (ho : Own h v l bv) (hle : l.length ≤ 10000) (hnw : unseen (preds ops.toList) nw i = [])
    (k : ∀ v' h1, Own h1 v' (l ++ [n]) h.n → KeptX l bv h h1 → S1 P K x N ops F (i + 1) ((d, v') :: E) h1 (h1 :: Hs) L nw) : S2 P K x N ops F i ⟨some d, .call ⟨.builtin .append, args, ts⟩, ty, pos, af, g⟩ E h Hs L nw := by
  obtain ⟨v', h1, e, o, q⟩ := own_app (P := P) (e' := e') h0' h1' hc hc' hy ho hle
  exact M_append hN hg hk hargs ha hb e hnw (k v' h1 o q)
end
variable {K : Known}
def sets0 (G : Pg) (k : Nat) : List Int := (List.range k).map (sett G)
def setr0 (G : Pg) (k : Nat) : List Int := (List.range k).map (setr G)
theorem zi5 (G : Pg) (k : Nat) : sets0 G (k + 1) = sets0 G k ++ [sett G k] := by simp [sets0, List.range_succ]
theorem zi6 (G : Pg) (k : Nat) : setr0 G (k + 1) = setr0 G k ++ [setr G k] := by simp [setr0, List.range_succ]
theorem zd7 (G : Pg) (k : Nat) : (sets0 G k).length = k := by simp [sets0]
theorem zd8 (G : Pg) (k : Nat) : (setr0 G k).length = k := by simp [setr0]
theorem zln (hK : NoK K) {G : Pg} {h : Heap} (hT : PgAt G h) (hn : 0 < G.n ∧ G.n ≤ 1000) :
    CallW Tryz.prog K 104 #[pgV G] h (fun v h1 => ∃ s bn bs r, v = .pointer (some ⟨s, 0, none⟩) ∧ StL G [] s bn bs r h1 ∧ bn ≠ bs ∧ (h.n ≤ s ∧ h.n ≤ bn ∧ h.n ≤ bs ∧ h.n ≤ r) ∧ Ext h h1) := by
  obtain ⟨people, pl, kl, n, l, p, kc, c'⟩ := G
  obtain ⟨len, rl, rc, each, hbl, hpb⟩ := hT
  dsimp only [pgV] at len rl rc each hbl hpb hn ⊢
  obtain ⟨b, e, own, rfl, hg⟩ := rl.at (by rw [zaf]; omega)
  have hbl' := Heap.get_lt hg
  refine body (N := 41) Tryz.func104 rfl (hK _ _ _ rfl) rfl rfl ?_
  (repeat' (first | apply zau | apply zac | (apply O_at; rfl) | (apply N_at; rfl) | (apply zat; rfl) | apply zav | (apply zaL; rfl) | (apply zaK; rfl) | (apply zaS; exact zao (by decide +kernel)) | apply zar | apply zam | apply zaM | apply zaJ | (apply zaI; rfl; exact (.inl (Nat.le_refl 1))) | (apply zaI; rfl; refine .inr ?_; (focus repeat' first | exact trivial | apply And.intro | rfl | (refine (List.forall_mem_cons (p := fun hk => MapB hk _ _)).2 ?_) | exact List.forall_mem_nil _ | (apply MapB.ext; assumption; (focus repeat' first | exact Ext.refl _ | assumption | apply Ext.push | (refine Ext.trans ?_ (by assumption)))) | (apply MapB.but; assumption; assumption; omega))) | apply zaO | apply zax | apply zay | apply zaj | apply zaw | ((first | apply zan | apply zae | apply za2); rfl; rfl; rfl; rfl) | ((first | apply P_fa | apply M_fa); rfl; rfl; rfl; rfl; exact zaG rfl; (first | exact Nat.zero_add _ | exact Nat.add_zero _ | rfl)) | (apply zaZ; rfl; rfl; rfl; rfl; rfl; rfl; exact zai rfl) | (apply zaU; rfl; rfl; rfl; rfl; rfl; omega) | (apply zaT; rfl; rfl; rfl; rfl; rfl; omega) | (apply za0; rfl; rfl; rfl; rfl; rfl; (unfold fit; omega)) | (apply za1; rfl; rfl; rfl; rfl; rfl; exact zai rfl; exact zad rfl; (first | assumption | rfl | exact (Int.toNat_of_nonneg (by omega)).symm); omega) | (apply zah; rfl; rfl; rfl; rfl; exact zal rfl; (focus repeat' first | exact zaa | assumption | apply zab | (apply Ext.get; assumption) | (apply ExtBut.get; assumption; (first | assumption | omega | (simp only [Heap.push]; omega)))); (first | rfl | assumption)) | (apply zap; rfl; rfl; rfl; rfl; exact zaE rfl; (focus repeat' first | exact zaa | assumption | apply zab | (apply Ext.get; assumption) | (apply ExtBut.get; assumption; (first | assumption | omega | (simp only [Heap.push]; omega)))); (first | exact Nat.le_of_ble_eq_true rfl | (simp; done) | (simp; omega) | (rw [zaf]; omega)); (first | exact zaY (by omega) | rfl)) | (apply zak; rfl; rfl; rfl; rfl; exact zad rfl; rfl; rfl; rfl) | (apply zbR; rfl; rfl; rfl; rfl) | (apply zaF; rfl; rfl; rfl; rfl; exact zad rfl; rfl; rfl) | (apply zaP; rfl; rfl; rfl; rfl; exact zad rfl; rfl; rfl) | (apply zbQ; rfl; rfl; rfl; (intro _ _ _ _)) | (apply zct; rfl; rfl; rfl; rfl; rfl; rfl; rfl; exact zci rfl) | (((apply zaR; rfl; rfl; rfl; rfl; exact zal rfl; exact zaq (by decide +kernel)); (focus repeat' first | exact zaa | assumption | apply zab | (apply Ext.get; assumption) | (apply ExtBut.get; assumption; (first | assumption | omega | (simp only [Heap.push]; omega)))); (first | rfl | assumption)); (first | assumption | exact zas _ _ | rfl | (focus simp [same, same.all2]; done)); (first | rfl | assumption | exact hwv _ | (simp [within]; omega))) | (apply zhY; rfl; rfl; rfl; rfl) | fail))
  rename_i h1 m1 x1 e1
  have hs1 : h1.n = h.n + 2 := e1
  refine zbG (fun a : Nat × Value × Nat × Value × Nat => [(13, .int .i64 (a.1 : Nat)), (12, .int .i64 (n : Nat)), (11, .slice (some ⟨b, 0, none⟩) n kl), (3, .pointer (some ⟨h1.n, 0, none⟩)), (1, .pointer (some ⟨h.n, 0, none⟩))])
    (fun a h' => a.1 ≤ n ∧ Ext h h' ∧ h.n + 3 ≤ h'.n ∧ h'.get? h1.n = some (.cells [.int .i64 people, .slice (some ⟨b, 0, none⟩) n kl, .slice p c'.length kc, a.2.1, a.2.2.2.1, .map (some (h.n + 1))] 87 true) ∧
      Own h' a.2.1 (sets0 ⟨people, some ⟨b, 0, none⟩, kl, n, l, p, kc, c'⟩ a.1) a.2.2.1 ∧ Own h' a.2.2.2.1 (setr0 ⟨people, some ⟨b, 0, none⟩, kl, n, l, p, kc, c'⟩ a.1) a.2.2.2.2 ∧ MapB h' (h.n + 1) (fun _ => false) ∧
      (a.1 = 0 ∨ (a.2.2.1 ≠ a.2.2.2.2 ∧ h.n + 3 ≤ a.2.2.1 ∧ h.n + 3 ≤ a.2.2.2.2 ∧ a.2.2.1 < h'.n ∧ a.2.2.2.2 < h'.n))) (fun a => n - a.1) ?_ (0, (.slice none 0 0), 0, (.slice none 0 0), 0) ?_ ?_
  · rintro ⟨k, vN, bN, vS, bS⟩ h' ⟨hk, hx, hn1, g1, oN, oS, m, hd⟩ ih
    dsimp only at hk hx hn1 g1 oN oS m hd ih ⊢
    by_cases hlt : k < n
    · have hg' := hx.get hg
      have sN := oN.same
      have hwv : ∀ q, AX.within 20 (h'.push q).n vN = true := fun q => oN.within (Nat.le_succ _)
      (repeat' (first | apply zau | apply zac | (apply O_at; rfl) | (apply N_at; rfl) | (apply zat; rfl) | apply zav | (apply zaL; rfl) | (apply zaK; rfl) | (apply zaS; exact zao (by decide +kernel)) | apply zar | apply zam | apply zaM | apply zaJ | (apply zaI; rfl; exact (.inl (Nat.le_refl 1))) | (apply zaI; rfl; refine .inr ?_; (focus repeat' first | exact trivial | apply And.intro | rfl | (refine (List.forall_mem_cons (p := fun hk => MapB hk _ _)).2 ?_) | exact List.forall_mem_nil _ | (apply MapB.ext; assumption; (focus repeat' first | exact Ext.refl _ | assumption | apply Ext.push | (refine Ext.trans ?_ (by assumption)))) | (apply MapB.but; assumption; assumption; omega))) | apply zaO | apply zax | apply zay | apply zaj | apply zaw | ((first | apply zan | apply zae | apply za2); rfl; rfl; rfl; rfl) | ((first | apply P_fa | apply M_fa); rfl; rfl; rfl; rfl; exact zaG rfl; (first | exact Nat.zero_add _ | exact Nat.add_zero _ | rfl)) | (apply zaZ; rfl; rfl; rfl; rfl; rfl; rfl; exact zai rfl) | (apply zaU; rfl; rfl; rfl; rfl; rfl; omega) | (apply zaT; rfl; rfl; rfl; rfl; rfl; omega) | (apply za0; rfl; rfl; rfl; rfl; rfl; (unfold fit; omega)) | (apply za1; rfl; rfl; rfl; rfl; rfl; exact zai rfl; exact zad rfl; (first | assumption | rfl | exact (Int.toNat_of_nonneg (by omega)).symm); omega) | (apply zah; rfl; rfl; rfl; rfl; exact zal rfl; (focus repeat' first | exact zaa | assumption | apply zab | (apply Ext.get; assumption) | (apply ExtBut.get; assumption; (first | assumption | omega | (simp only [Heap.push]; omega)))); (first | rfl | assumption)) | (apply zap; rfl; rfl; rfl; rfl; exact zaE rfl; (focus repeat' first | exact zaa | assumption | apply zab | (apply Ext.get; assumption) | (apply ExtBut.get; assumption; (first | assumption | omega | (simp only [Heap.push]; omega)))); (first | exact Nat.le_of_ble_eq_true rfl | (simp; done) | (simp; omega) | (rw [zaf]; omega)); (first | exact zaY (by omega) | rfl)) | (apply zak; rfl; rfl; rfl; rfl; exact zad rfl; rfl; rfl; rfl) | (apply zbR; rfl; rfl; rfl; rfl) | (apply zaF; rfl; rfl; rfl; rfl; exact zad rfl; rfl; rfl) | (apply zaP; rfl; rfl; rfl; rfl; exact zad rfl; rfl; rfl) | (apply zbQ; rfl; rfl; rfl; (intro _ _ _ _)) | (apply zct; rfl; rfl; rfl; rfl; rfl; rfl; rfl; exact zci rfl) | (((apply zaR; rfl; rfl; rfl; rfl; exact zal rfl; exact zaq (by decide +kernel)); (focus repeat' first | exact zaa | assumption | apply zab | (apply Ext.get; assumption) | (apply ExtBut.get; assumption; (first | assumption | omega | (simp only [Heap.push]; omega)))); (first | rfl | assumption)); (first | assumption | exact zas _ _ | rfl | (focus simp [same, same.all2]; done)); (first | rfl | assumption | exact hwv _ | (simp [within]; omega))) | (apply zhY; rfl; rfl; rfl; rfl) | fail))
      apply appOwnM; rfl; rfl; rfl; rfl; rfl; rfl; rfl; rfl; exact zci rfl; exact zai rfl; exact zaa; exact oN.ext (by (focus repeat' first | exact Ext.refl _ | assumption | apply Ext.push | (refine Ext.trans ?_ (by assumption)))); exact (by rw [zd7]; omega); rfl
      intro v2 h2 o2 k2
      have n2 : h2.n = h'.n + 3 := k2.n
      have nk : ∀ {c : Nat}, c < h.n + 3 → (sets0 ⟨people, some ⟨b, 0, none⟩, kl, n, l, p, kc, c'⟩ k = [] ∨ c ≠ bN) := fun hc => by
        rcases hd with rfl | hd
        · exact .inl rfl
        · exact .inr (by omega)
      have nS : sets0 ⟨people, some ⟨b, 0, none⟩, kl, n, l, p, kc, c'⟩ k = [] ∨ bS ≠ bN := by
        rcases hd with rfl | hd
        · exact .inl rfl
        · exact .inr (fun q => hd.1 q.symm)
      have old2 : ∀ {c y}, c < h.n + 3 → h'.get? c = some y → h2.get? c = some y := fun hc g => k2.get' _ _ (nk hc) (zab (zab g))
      have oS2 : Own h2 vS (setr0 ⟨people, some ⟨b, 0, none⟩, kl, n, l, p, kc, c'⟩ k) bS := (oS.ext (((Ext.refl h').push _).push _)).kept k2 nS
      have ln2 := k2.get' h'.n _ (by rcases hd with rfl | hd; exact .inl rfl; exact .inr (by omega)) (zab (zaa (h := h') (b := .cells (Value.agg #[.int .i64 (l.getD (k * 3) 0), .int .i64 (l.getD (k * 3 + 1) 0), .int .i64 (l.getD (k * 3 + 2) 0)]).cells.toList 92 true)))
      (repeat' (first | apply zau | apply zac | (apply O_at; rfl) | (apply N_at; rfl) | (apply zat; rfl) | apply zav | (apply zaL; rfl) | (apply zaK; rfl) | (apply zaS; exact zao (by decide +kernel)) | apply zar | apply zam | apply zaM | apply zaJ | (apply zaI; rfl; exact (.inl (Nat.le_refl 1))) | (apply zaI; rfl; refine .inr ?_; (focus repeat' first | exact trivial | apply And.intro | rfl | (refine (List.forall_mem_cons (p := fun hk => MapB hk _ _)).2 ?_) | exact List.forall_mem_nil _ | (apply MapB.ext; assumption; (focus repeat' first | exact Ext.refl _ | assumption | apply Ext.push | (refine Ext.trans ?_ (by assumption)))) | (apply MapB.but; assumption; assumption; omega))) | apply zaO | apply zax | apply zay | apply zaj | apply zaw | ((first | apply zan | apply zae | apply za2); rfl; rfl; rfl; rfl) | ((first | apply P_fa | apply M_fa); rfl; rfl; rfl; rfl; exact zaG rfl; (first | exact Nat.zero_add _ | exact Nat.add_zero _ | rfl)) | (apply zaZ; rfl; rfl; rfl; rfl; rfl; rfl; exact zai rfl) | (apply zaU; rfl; rfl; rfl; rfl; rfl; omega) | (apply zaT; rfl; rfl; rfl; rfl; rfl; omega) | (apply za0; rfl; rfl; rfl; rfl; rfl; (unfold fit; omega)) | (apply za1; rfl; rfl; rfl; rfl; rfl; exact zai rfl; exact zad rfl; (first | assumption | rfl | exact (Int.toNat_of_nonneg (by omega)).symm); omega) | (apply zah; rfl; rfl; rfl; rfl; exact zal rfl; (focus repeat' first | exact zaa | assumption | apply zab | (apply Ext.get; assumption) | (apply ExtBut.get; assumption; (first | assumption | omega | (simp only [Heap.push]; omega)))); (first | rfl | assumption)) | (apply zap; rfl; rfl; rfl; rfl; exact zaE rfl; (focus repeat' first | exact zaa | assumption | apply zab | (apply Ext.get; assumption) | (apply ExtBut.get; assumption; (first | assumption | omega | (simp only [Heap.push]; omega)))); (first | exact Nat.le_of_ble_eq_true rfl | (simp; done) | (simp; omega) | (rw [zaf]; omega)); (first | exact zaY (by omega) | rfl)) | (apply zak; rfl; rfl; rfl; rfl; exact zad rfl; rfl; rfl; rfl) | (apply zbR; rfl; rfl; rfl; rfl) | (apply zaF; rfl; rfl; rfl; rfl; exact zad rfl; rfl; rfl) | (apply zaP; rfl; rfl; rfl; rfl; exact zad rfl; rfl; rfl) | (apply zbQ; rfl; rfl; rfl; (intro _ _ _ _)) | (apply zct; rfl; rfl; rfl; rfl; rfl; rfl; rfl; exact zci rfl) | (((apply zaR; rfl; rfl; rfl; rfl; exact zal rfl; exact zaq (by decide +kernel)); (focus repeat' first | exact zaa | assumption | apply zab | (apply Ext.get; assumption) | (apply ExtBut.get; assumption; (first | assumption | omega | (simp only [Heap.push]; omega)))); (first | rfl | assumption)); (first | assumption | exact zas _ _ | rfl | (focus simp [same, same.all2]; done)); (first | rfl | assumption | exact hwv _ | (simp [within]; omega))) | (apply zhY; rfl; rfl; rfl; rfl) | fail))
      apply ziL (c' := [.int .i64 people, .slice (some ⟨b, 0, none⟩) n kl, .slice p c'.length kc, v2, vS, .map (some (h.n + 1))]); rfl; rfl; rfl; rfl; exact old2 (by omega) g1; exact zad rfl; (rw [o2.one.2]; rfl); exact Nat.le_of_ble_eq_true rfl; (rw [o2.one.2]; simp [o2.one.1]); (rw [o2.one.2]; rfl); rfl
      intro h3 g3 x3
      have n3 := x3.n
      have sS := oS.same
      have wS : AX.within 20 h3.n vS = true := oS2.within n3
      have ln3 := x3.get (show h'.n ≠ h1.n by omega) ln2
      (repeat' (first | apply zau | apply zac | (apply O_at; rfl) | (apply N_at; rfl) | (apply zat; rfl) | apply zav | (apply zaL; rfl) | (apply zaK; rfl) | (apply zaS; exact zao (by decide +kernel)) | apply zar | apply zam | apply zaM | apply zaJ | (apply zaI; rfl; exact (.inl (Nat.le_refl 1))) | (apply zaI; rfl; refine .inr ?_; (focus repeat' first | exact trivial | apply And.intro | rfl | (refine (List.forall_mem_cons (p := fun hk => MapB hk _ _)).2 ?_) | exact List.forall_mem_nil _ | (apply MapB.ext; assumption; (focus repeat' first | exact Ext.refl _ | assumption | apply Ext.push | (refine Ext.trans ?_ (by assumption)))) | (apply MapB.but; assumption; assumption; omega))) | apply zaO | apply zax | apply zay | apply zaj | apply zaw | ((first | apply zan | apply zae | apply za2); rfl; rfl; rfl; rfl) | ((first | apply P_fa | apply M_fa); rfl; rfl; rfl; rfl; exact zaG rfl; (first | exact Nat.zero_add _ | exact Nat.add_zero _ | rfl)) | (apply zaZ; rfl; rfl; rfl; rfl; rfl; rfl; exact zai rfl) | (apply zaU; rfl; rfl; rfl; rfl; rfl; omega) | (apply zaT; rfl; rfl; rfl; rfl; rfl; omega) | (apply za0; rfl; rfl; rfl; rfl; rfl; (unfold fit; omega)) | (apply za1; rfl; rfl; rfl; rfl; rfl; exact zai rfl; exact zad rfl; (first | assumption | rfl | exact (Int.toNat_of_nonneg (by omega)).symm); omega) | (apply zah; rfl; rfl; rfl; rfl; exact zal rfl; (focus repeat' first | exact zaa | assumption | apply zab | (apply Ext.get; assumption) | (apply ExtBut.get; assumption; (first | assumption | omega | (simp only [Heap.push]; omega)))); (first | rfl | assumption)) | (apply zap; rfl; rfl; rfl; rfl; exact zaE rfl; (focus repeat' first | exact zaa | assumption | apply zab | (apply Ext.get; assumption) | (apply ExtBut.get; assumption; (first | assumption | omega | (simp only [Heap.push]; omega)))); (first | exact Nat.le_of_ble_eq_true rfl | (simp; done) | (simp; omega) | (rw [zaf]; omega)); (first | exact zaY (by omega) | rfl)) | (apply zak; rfl; rfl; rfl; rfl; exact zad rfl; rfl; rfl; rfl) | (apply zbR; rfl; rfl; rfl; rfl) | (apply zaF; rfl; rfl; rfl; rfl; exact zad rfl; rfl; rfl) | (apply zaP; rfl; rfl; rfl; rfl; exact zad rfl; rfl; rfl) | (apply zbQ; rfl; rfl; rfl; (intro _ _ _ _)) | (apply zct; rfl; rfl; rfl; rfl; rfl; rfl; rfl; exact zci rfl) | (((apply zaR; rfl; rfl; rfl; rfl; exact zal rfl; exact zaq (by decide +kernel)); (focus repeat' first | exact zaa | assumption | apply zab | (apply Ext.get; assumption) | (apply ExtBut.get; assumption; (first | assumption | omega | (simp only [Heap.push]; omega)))); (first | rfl | assumption)); (first | assumption | exact zas _ _ | rfl | (focus simp [same, same.all2]; done)); (first | rfl | assumption | exact hwv _ | (simp [within]; omega))) | (apply zhY; rfl; rfl; rfl; rfl) | fail))
      have oS3 : Own h3 vS (setr0 ⟨people, some ⟨b, 0, none⟩, kl, n, l, p, kc, c'⟩ k) bS := by
        rcases hd with rfl | hd
        · exact oS2.imp id fun q => absurd rfl q.1
        · exact oS2.but x3 (by omega)
      apply appOwnM; rfl; rfl; rfl; rfl; rfl; rfl; rfl; rfl; exact zci rfl; exact zai rfl; exact zaa; exact oS3.ext (by (focus repeat' first | exact Ext.refl _ | assumption | apply Ext.push | (refine Ext.trans ?_ (by assumption)))); exact (by rw [zd8]; omega); rfl
      intro v4 h4 o4 k4
      have n4 : h4.n = h3.n + 1 + 1 := by have := k4.n; exact this
      have hS : ∀ {c : Nat}, c < h.n + 3 ∨ h'.n ≤ c → (setr0 ⟨people, some ⟨b, 0, none⟩, kl, n, l, p, kc, c'⟩ k = [] ∨ c ≠ bS) := fun hc => by
        rcases hd with rfl | hd
        · exact .inl rfl
        · exact .inr (by omega)
      have g4 := k4.get' _ _ (hS (c := h1.n) (.inl (by omega))) (zab g3)
      (repeat' (first | apply zau | apply zac | (apply O_at; rfl) | (apply N_at; rfl) | (apply zat; rfl) | apply zav | (apply zaL; rfl) | (apply zaK; rfl) | (apply zaS; exact zao (by decide +kernel)) | apply zar | apply zam | apply zaM | apply zaJ | (apply zaI; rfl; exact (.inl (Nat.le_refl 1))) | (apply zaI; rfl; refine .inr ?_; (focus repeat' first | exact trivial | apply And.intro | rfl | (refine (List.forall_mem_cons (p := fun hk => MapB hk _ _)).2 ?_) | exact List.forall_mem_nil _ | (apply MapB.ext; assumption; (focus repeat' first | exact Ext.refl _ | assumption | apply Ext.push | (refine Ext.trans ?_ (by assumption)))) | (apply MapB.but; assumption; assumption; omega))) | apply zaO | apply zax | apply zay | apply zaj | apply zaw | ((first | apply zan | apply zae | apply za2); rfl; rfl; rfl; rfl) | ((first | apply P_fa | apply M_fa); rfl; rfl; rfl; rfl; exact zaG rfl; (first | exact Nat.zero_add _ | exact Nat.add_zero _ | rfl)) | (apply zaZ; rfl; rfl; rfl; rfl; rfl; rfl; exact zai rfl) | (apply zaU; rfl; rfl; rfl; rfl; rfl; omega) | (apply zaT; rfl; rfl; rfl; rfl; rfl; omega) | (apply za0; rfl; rfl; rfl; rfl; rfl; (unfold fit; omega)) | (apply za1; rfl; rfl; rfl; rfl; rfl; exact zai rfl; exact zad rfl; (first | assumption | rfl | exact (Int.toNat_of_nonneg (by omega)).symm); omega) | (apply zah; rfl; rfl; rfl; rfl; exact zal rfl; (focus repeat' first | exact zaa | assumption | apply zab | (apply Ext.get; assumption) | (apply ExtBut.get; assumption; (first | assumption | omega | (simp only [Heap.push]; omega)))); (first | rfl | assumption)) | (apply zap; rfl; rfl; rfl; rfl; exact zaE rfl; (focus repeat' first | exact zaa | assumption | apply zab | (apply Ext.get; assumption) | (apply ExtBut.get; assumption; (first | assumption | omega | (simp only [Heap.push]; omega)))); (first | exact Nat.le_of_ble_eq_true rfl | (simp; done) | (simp; omega) | (rw [zaf]; omega)); (first | exact zaY (by omega) | rfl)) | (apply zak; rfl; rfl; rfl; rfl; exact zad rfl; rfl; rfl; rfl) | (apply zbR; rfl; rfl; rfl; rfl) | (apply zaF; rfl; rfl; rfl; rfl; exact zad rfl; rfl; rfl) | (apply zaP; rfl; rfl; rfl; rfl; exact zad rfl; rfl; rfl) | (apply zbQ; rfl; rfl; rfl; (intro _ _ _ _)) | (apply zct; rfl; rfl; rfl; rfl; rfl; rfl; rfl; exact zci rfl) | (((apply zaR; rfl; rfl; rfl; rfl; exact zal rfl; exact zaq (by decide +kernel)); (focus repeat' first | exact zaa | assumption | apply zab | (apply Ext.get; assumption) | (apply ExtBut.get; assumption; (first | assumption | omega | (simp only [Heap.push]; omega)))); (first | rfl | assumption)); (first | assumption | exact zas _ _ | rfl | (focus simp [same, same.all2]; done)); (first | rfl | assumption | exact hwv _ | (simp [within]; omega))) | (apply zhY; rfl; rfl; rfl; rfl) | fail))
      apply ziL (c' := [.int .i64 people, .slice (some ⟨b, 0, none⟩) n kl, .slice p c'.length kc, v2, v4, .map (some (h.n + 1))]); rfl; rfl; rfl; rfl; exact g4; exact zad rfl; (rw [o4.one.2]; rfl); exact Nat.le_of_ble_eq_true rfl; (rw [o4.one.2]; simp [o4.one.1]); (rw [o4.one.2]; rfl); rfl
      intro h5 g5 x5
      have n5 := x5.n
      (repeat' (first | apply zau | apply zac | (apply O_at; rfl) | (apply N_at; rfl) | (apply zat; rfl) | apply zav | (apply zaL; rfl) | (apply zaK; rfl) | (apply zaS; exact zao (by decide +kernel)) | apply zar | apply zam | apply zaM | apply zaJ | (apply zaI; rfl; exact (.inl (Nat.le_refl 1))) | (apply zaI; rfl; refine .inr ?_; (focus repeat' first | exact trivial | apply And.intro | rfl | (refine (List.forall_mem_cons (p := fun hk => MapB hk _ _)).2 ?_) | exact List.forall_mem_nil _ | (apply MapB.ext; assumption; (focus repeat' first | exact Ext.refl _ | assumption | apply Ext.push | (refine Ext.trans ?_ (by assumption)))) | (apply MapB.but; assumption; assumption; omega))) | apply zaO | apply zax | apply zay | apply zaj | apply zaw | ((first | apply zan | apply zae | apply za2); rfl; rfl; rfl; rfl) | ((first | apply P_fa | apply M_fa); rfl; rfl; rfl; rfl; exact zaG rfl; (first | exact Nat.zero_add _ | exact Nat.add_zero _ | rfl)) | (apply zaZ; rfl; rfl; rfl; rfl; rfl; rfl; exact zai rfl) | (apply zaU; rfl; rfl; rfl; rfl; rfl; omega) | (apply zaT; rfl; rfl; rfl; rfl; rfl; omega) | (apply za0; rfl; rfl; rfl; rfl; rfl; (unfold fit; omega)) | (apply za1; rfl; rfl; rfl; rfl; rfl; exact zai rfl; exact zad rfl; (first | assumption | rfl | exact (Int.toNat_of_nonneg (by omega)).symm); omega) | (apply zah; rfl; rfl; rfl; rfl; exact zal rfl; (focus repeat' first | exact zaa | assumption | apply zab | (apply Ext.get; assumption) | (apply ExtBut.get; assumption; (first | assumption | omega | (simp only [Heap.push]; omega)))); (first | rfl | assumption)) | (apply zap; rfl; rfl; rfl; rfl; exact zaE rfl; (focus repeat' first | exact zaa | assumption | apply zab | (apply Ext.get; assumption) | (apply ExtBut.get; assumption; (first | assumption | omega | (simp only [Heap.push]; omega)))); (first | exact Nat.le_of_ble_eq_true rfl | (simp; done) | (simp; omega) | (rw [zaf]; omega)); (first | exact zaY (by omega) | rfl)) | (apply zak; rfl; rfl; rfl; rfl; exact zad rfl; rfl; rfl; rfl) | (apply zbR; rfl; rfl; rfl; rfl) | (apply zaF; rfl; rfl; rfl; rfl; exact zad rfl; rfl; rfl) | (apply zaP; rfl; rfl; rfl; rfl; exact zad rfl; rfl; rfl) | (apply zbQ; rfl; rfl; rfl; (intro _ _ _ _)) | (apply zct; rfl; rfl; rfl; rfl; rfl; rfl; rfl; exact zci rfl) | (((apply zaR; rfl; rfl; rfl; rfl; exact zal rfl; exact zaq (by decide +kernel)); (focus repeat' first | exact zaa | assumption | apply zab | (apply Ext.get; assumption) | (apply ExtBut.get; assumption; (first | assumption | omega | (simp only [Heap.push]; omega)))); (first | rfl | assumption)); (first | assumption | exact zas _ _ | rfl | (focus simp [same, same.all2]; done)); (first | rfl | assumption | exact hwv _ | (simp [within]; omega))) | (apply zhY; rfl; rfl; rfl; rfl) | fail))
      have al : ∀ {c : Nat} {y : Blk}, c < h.n + 3 → c ≠ h1.n → h'.get? c = some y → h5.get? c = some y := fun hc hne g =>
        x5.get hne (k4.get' _ _ (hS (.inl hc)) (zab (x3.get hne (old2 hc g))))
      refine zbH (ih (k + 1, v2, h'.n + 2, v4, h3.n + 1) _ (by dsimp only; omega) ⟨hlt, ⟨?_, fun c y g => ?_⟩, by omega, g5, ?_, ?_, ?_, .inr ⟨by dsimp only; omega, by dsimp only; omega, by dsimp only; omega, by dsimp only; omega, by dsimp only; omega⟩⟩) (by (focus repeat' first | rfl | exact trivial | apply And.intro))
      · have := hx.n; omega
      · have := Heap.get_lt g
        exact al (by omega) (by omega) (hx.get g)
      · rw [zi5]
        have o2' : Own h2 v2 (sets0 ⟨people, some ⟨b, 0, none⟩, kl, n, l, p, kc, c'⟩ k ++ [sett ⟨people, some ⟨b, 0, none⟩, kl, n, l, p, kc, c'⟩ k]) (h'.n + 2) := o2
        have q3 : Own h3 v2 (sets0 ⟨people, some ⟨b, 0, none⟩, kl, n, l, p, kc, c'⟩ k ++ [sett ⟨people, some ⟨b, 0, none⟩, kl, n, l, p, kc, c'⟩ k]) (h'.n + 2) := o2'.but x3 (by omega)
        exact ((q3.ext ((Ext.refl h3).push _)).kept k4 (hS (.inr (by omega)))).but x5 (by omega)
      · rw [zi6]
        exact Own.but o4 x5 (by show h3.n + 1 ≠ h1.n; omega)
      · exact m.keep fun q g => al (by omega) (by omega) g
    · obtain rfl : k = n := by omega
      (repeat' (first | apply zau | apply zac | (apply O_at; rfl) | (apply N_at; rfl) | (apply zat; rfl) | apply zav | (apply zaL; rfl) | (apply zaK; rfl) | (apply zaS; exact zao (by decide +kernel)) | apply zar | apply zam | apply zaM | apply zaJ | (apply zaI; rfl; exact (.inl (Nat.le_refl 1))) | (apply zaI; rfl; refine .inr ?_; (focus repeat' first | exact trivial | apply And.intro | rfl | (refine (List.forall_mem_cons (p := fun hk => MapB hk _ _)).2 ?_) | exact List.forall_mem_nil _ | (apply MapB.ext; assumption; (focus repeat' first | exact Ext.refl _ | assumption | apply Ext.push | (refine Ext.trans ?_ (by assumption)))) | (apply MapB.but; assumption; assumption; omega))) | apply zaO | apply zax | apply zay | apply zaj | apply zaw | ((first | apply zan | apply zae | apply za2); rfl; rfl; rfl; rfl) | ((first | apply P_fa | apply M_fa); rfl; rfl; rfl; rfl; exact zaG rfl; (first | exact Nat.zero_add _ | exact Nat.add_zero _ | rfl)) | (apply zaZ; rfl; rfl; rfl; rfl; rfl; rfl; exact zai rfl) | (apply zaU; rfl; rfl; rfl; rfl; rfl; omega) | (apply zaT; rfl; rfl; rfl; rfl; rfl; omega) | (apply za0; rfl; rfl; rfl; rfl; rfl; (unfold fit; omega)) | (apply za1; rfl; rfl; rfl; rfl; rfl; exact zai rfl; exact zad rfl; (first | assumption | rfl | exact (Int.toNat_of_nonneg (by omega)).symm); omega) | (apply zah; rfl; rfl; rfl; rfl; exact zal rfl; (focus repeat' first | exact zaa | assumption | apply zab | (apply Ext.get; assumption) | (apply ExtBut.get; assumption; (first | assumption | omega | (simp only [Heap.push]; omega)))); (first | rfl | assumption)) | (apply zap; rfl; rfl; rfl; rfl; exact zaE rfl; (focus repeat' first | exact zaa | assumption | apply zab | (apply Ext.get; assumption) | (apply ExtBut.get; assumption; (first | assumption | omega | (simp only [Heap.push]; omega)))); (first | exact Nat.le_of_ble_eq_true rfl | (simp; done) | (simp; omega) | (rw [zaf]; omega)); (first | exact zaY (by omega) | rfl)) | (apply zak; rfl; rfl; rfl; rfl; exact zad rfl; rfl; rfl; rfl) | (apply zbR; rfl; rfl; rfl; rfl) | (apply zaF; rfl; rfl; rfl; rfl; exact zad rfl; rfl; rfl) | (apply zaP; rfl; rfl; rfl; rfl; exact zad rfl; rfl; rfl) | (apply zbQ; rfl; rfl; rfl; (intro _ _ _ _)) | (apply zct; rfl; rfl; rfl; rfl; rfl; rfl; rfl; exact zci rfl) | (((apply zaR; rfl; rfl; rfl; rfl; exact zal rfl; exact zaq (by decide +kernel)); (focus repeat' first | exact zaa | assumption | apply zab | (apply Ext.get; assumption) | (apply ExtBut.get; assumption; (first | assumption | omega | (simp only [Heap.push]; omega)))); (first | rfl | assumption)); (first | assumption | exact zas _ _ | rfl | (focus simp [same, same.all2]; done)); (first | rfl | assumption | exact hwv _ | (simp [within]; omega))) | (apply zhY; rfl; rfl; rfl; rfl) | fail))
      rcases oN with ⟨_, q⟩ | ⟨_, rfl, oN⟩
      · have := congrArg List.length q; rw [zd7] at this; simp at this; omega
      rcases oS with ⟨_, q⟩ | ⟨_, rfl, oS⟩
      · have := congrArg List.length q; rw [zd8] at this; simp at this; omega
      rw [zd7] at g1
      rw [zd8] at g1
      refine ⟨.inr rfl, _, rfl, h1.n, bN, bS, h.n + 1, rfl, ⟨⟨fun _ => false, ⟨g1, oN, oS, m, by simp [numsL], by simp [setsL]⟩, fun _ _ _ => rfl⟩⟩, by omega, by omega, hx⟩
  · exact ⟨Nat.zero_le _, by (focus repeat' first | exact Ext.refl _ | assumption | apply Ext.push | (refine Ext.trans ?_ (by assumption))), by show h.n + 3 ≤ h1.n + 1; omega, by dsimp only; exact zaa, .inl ⟨rfl, rfl⟩, .inl ⟨rfl, rfl⟩, m1.ext (by (focus repeat' first | exact Ext.refl _ | assumption | apply Ext.push | (refine Ext.trans ?_ (by assumption)))), .inl rfl⟩
  · (focus repeat' first | rfl | exact trivial | apply And.intro)
end Go.AX.Sa

namespace Go.AX.Sa
open Go.Proofs
set_option maxRecDepth 100000
variable {K : Known}
def wholeE (G : Pg) (p : Int × Int) : Ent := (1, [p.1, p.2, 0, (G.n : Int) - 1])
def logP (G : Pg) (ps : List (Int × Int)) : List Ent := logL G ++ ps.map (wholeE G)
def PairsP (G : Pg) (ps : List (Int × Int)) : Prop := ∀ k, k < ps.length → PairP G (ps.getD k (0, 0)).1 (ps.getD k (0, 0)).2
theorem zfY {G : Pg} (hn : 1 ≤ (G.n : Int)) {p : Int × Int} (h : PairP G p.1 p.2) : EntP G.people G.n (wholeE G p) := by
  obtain ⟨h1, h2, h3⟩ := h
  unfold PersP at h1 h2
  refine ent1.2 ⟨rfl, ?_, ?_, ?_, ?_, ?_, ?_⟩ <;> simp <;> omega
theorem log_ent {G : Pg} (hP : PgP G) {ps : List (Int × Int)} (hp : PairsP G ps) : ∀ e ∈ logP G ps, EntP G.people G.n e := by
  intro e he
  rcases List.mem_append.1 he with q | q
  · obtain ⟨c, hc, rfl⟩ := List.mem_map.1 q
    obtain ⟨j, hj⟩ := List.getElem?_of_mem hc
    have hl := (List.getElem?_eq_some_iff.1 hj).1
    have := hP.ent j hl
    simpa [List.getD_eq_getElem?_getD, hj] using this
  · obtain ⟨c, hc, rfl⟩ := List.mem_map.1 q
    obtain ⟨j, hj⟩ := List.getElem?_of_mem hc
    have hl := (List.getElem?_eq_some_iff.1 hj).1
    have := hp j hl
    rw [show ps.getD j (0, 0) = c by simp [List.getD_eq_getElem?_getD, hj]] at this
    exact zfY hP.n.1 this
theorem ze8 {G : Pg} (hP : PgP G) {L : List Ent} (hL : ∀ e ∈ L, EntP G.people G.n e) {j : Nat} (hj : j < G.n) : NumP (numA G L j) := ze7 (hP.line j hj).2.2 L hL
theorem ze0 {L : List Ent} {k : Nat} (h : k < L.length) : L.take (k + 1) = L.take k ++ [L[k]'h] := by rw [List.take_add_one, List.getElem?_eq_getElem h]; rfl
set_option maxHeartbeats 600000 in
theorem after_ok (hK : NoK K) {G : Pg} {ps : List (Int × Int)} {q : Option Addr} {kq : Nat} {h : Heap} (hT : PgAt G h) (hP : PgP G) (hq : Rd h q (spanCells ps)) (hl : ps.length ≤ 1000) (hp : PairsP G ps) :
    CallW Tryz.prog K 61 #[pgV G, .slice q ps.length kq] h (fun v h1 => ∃ s bn bs r, v = .pointer (some ⟨s, 0, none⟩) ∧ StL G (logP G ps) s bn bs r h1 ∧ bn ≠ bs ∧ (h.n ≤ s ∧ h.n ≤ bn ∧ h.n ≤ bs ∧ h.n ≤ r) ∧ Ext h h1) := by
  have hT' := hT
  have hP' := hP
  have hlog := log_ent hP hp
  have hnn := hP.n
  have hpp := hP.people
  have hcc := hP.c
  obtain ⟨people, pl, kl, n, l, p, kc, c⟩ := G
  obtain ⟨len, rl, rc, each, hbl, hpb⟩ := hT
  dsimp only [pgV] at len rl rc each hbl hpb hnn hpp hcc ⊢
  have hlen : (logP ⟨people, pl, kl, n, l, p, kc, c⟩ ps).length = c.length + ps.length := by simp [logP, logL]
  refine body (N := 46) Tryz.func61 rfl (hK _ _ _ rfl) rfl rfl ?_
  (repeat' (first | apply zau | apply zac | (apply O_at; rfl) | (apply zat; rfl) | apply zav | (apply zaL; rfl) | (apply zaK; rfl) | apply zar | apply zam | apply zaM | apply zaJ | apply zaO | apply zax | apply zay | apply zaj | apply zaw | ((first | apply zan | apply zae); rfl; rfl; rfl; rfl) | (apply P_fa; rfl; rfl; rfl; rfl; exact zaG rfl; (first | exact Nat.zero_add _ | exact Nat.add_zero _ | rfl)) | (apply zaZ; rfl; rfl; rfl; rfl; rfl; rfl; exact zai rfl) | (apply zaU; rfl; rfl; rfl; rfl; rfl; omega) | (apply zaT; rfl; rfl; rfl; rfl; rfl; omega) | (apply za0; rfl; rfl; rfl; rfl; rfl; (unfold fit; omega)) | (apply za1; rfl; rfl; rfl; rfl; rfl; exact zai rfl; exact zad rfl; (first | assumption | rfl | exact (Int.toNat_of_nonneg (by omega)).symm); omega) | (apply zah; rfl; rfl; rfl; rfl; exact zal rfl; (focus repeat' first | exact zaa | assumption | apply zab | (apply Ext.get; assumption)); (first | rfl | assumption)) | (apply zap; rfl; rfl; rfl; rfl; exact zaE rfl; (focus repeat' first | exact zaa | assumption | apply zab | (apply Ext.get; assumption)); (first | exact Nat.le_of_ble_eq_true rfl | (rw [zaA]; omega) | (simp; done) | (simp; omega) | (rw [zaV]; omega)); (first | exact zbt (by omega) | exact zaz (by omega) | rfl)) | (apply zak; rfl; rfl; rfl; rfl; exact zad rfl; rfl; rfl; rfl) | (apply zbI; rfl; rfl; rfl; rfl) | (apply zcK; rfl; rfl; rfl; rfl) | (apply zaF; rfl; rfl; rfl; rfl; exact zad rfl; rfl; rfl) | (apply zaP; rfl; rfl; rfl; rfl; exact zad rfl; rfl; rfl) | fail))
  apply zaC; rfl; rfl; rfl; rfl; rfl; rfl; exact zln (G := ⟨people, pl, kl, n, l, p, kc, c⟩) hK (hT'.ext (by (focus repeat' first | exact Ext.refl _ | assumption | apply Ext.push | (refine Ext.trans ?_ (by assumption))))) ⟨by dsimp only; omega, by dsimp only; omega⟩
  rintro _ h2 ⟨s, bn, bs, r, rfl, S2, hns, ⟨b1, b2, b3, b4⟩, x2⟩
  have hn2 := x2.n
  have b2' : h.n < bn := b2
  have b3' : h.n < bs := b3
  have b4' : h.n < r := b4
  have b1' : h.n < s := b1
  (repeat' (first | apply zau | apply zac | (apply O_at; rfl) | (apply zat; rfl) | apply zav | (apply zaL; rfl) | (apply zaK; rfl) | apply zar | apply zam | apply zaM | apply zaJ | apply zaO | apply zax | apply zay | apply zaj | apply zaw | ((first | apply zan | apply zae); rfl; rfl; rfl; rfl) | (apply P_fa; rfl; rfl; rfl; rfl; exact zaG rfl; (first | exact Nat.zero_add _ | exact Nat.add_zero _ | rfl)) | (apply zaZ; rfl; rfl; rfl; rfl; rfl; rfl; exact zai rfl) | (apply zaU; rfl; rfl; rfl; rfl; rfl; omega) | (apply zaT; rfl; rfl; rfl; rfl; rfl; omega) | (apply za0; rfl; rfl; rfl; rfl; rfl; (unfold fit; omega)) | (apply za1; rfl; rfl; rfl; rfl; rfl; exact zai rfl; exact zad rfl; (first | assumption | rfl | exact (Int.toNat_of_nonneg (by omega)).symm); omega) | (apply zah; rfl; rfl; rfl; rfl; exact zal rfl; (focus repeat' first | exact zaa | assumption | apply zab | (apply Ext.get; assumption)); (first | rfl | assumption)) | (apply zap; rfl; rfl; rfl; rfl; exact zaE rfl; (focus repeat' first | exact zaa | assumption | apply zab | (apply Ext.get; assumption)); (first | exact Nat.le_of_ble_eq_true rfl | (rw [zaA]; omega) | (simp; done) | (simp; omega) | (rw [zaV]; omega)); (first | exact zbt (by omega) | exact zaz (by omega) | rfl)) | (apply zak; rfl; rfl; rfl; rfl; exact zad rfl; rfl; rfl; rfl) | (apply zbI; rfl; rfl; rfl; rfl) | (apply zcK; rfl; rfl; rfl; rfl) | (apply zaF; rfl; rfl; rfl; rfl; exact zad rfl; rfl; rfl) | (apply zaP; rfl; rfl; rfl; rfl; exact zad rfl; rfl; rfl) | fail))
  refine zbG (fun k : Nat => [(16, .int .i64 (k : Nat)), (15, .int .i64 (c.length : Nat)), (14, .slice p c.length kc), (5, .pointer (some ⟨s, 0, none⟩)), (2, .pointer (some ⟨h.n, 0, none⟩)), (1, .slice q ps.length kq)])
    (fun k h' => k ≤ c.length ∧ StL ⟨people, pl, kl, n, l, p, kc, c⟩ ((logP ⟨people, pl, kl, n, l, p, kc, c⟩ ps).take k) s bn bs r h' ∧ Ext (h.push (.cells [.int .i64 people, .slice pl n kl, .slice p c.length kc] 25 true)) h') (fun k => c.length - k) ?_ 0 ?_ ?_
  · rintro k h' ⟨hk, S, hx⟩ ih
    have g0 := hx.get zaa
    by_cases hlt : k < c.length
    · obtain ⟨b, e, own, rfl, hg⟩ := rc.at (by rw [zaA]; omega)
      have hg' := hx.get (zab hg)
      have eR := each k hlt
      have ek : (logP ⟨people, pl, kl, n, l, some ⟨b, 0, none⟩, kc, c⟩ ps)[k]'(by omega) = ent (c.getD k cop0) := by
        simp [logP, logL, List.getElem_append_left, hlt]
      have eP := hP'.ent k hlt
      (repeat' (first | apply zau | apply zac | (apply O_at; rfl) | (apply zat; rfl) | apply zav | (apply zaL; rfl) | (apply zaK; rfl) | apply zar | apply zam | apply zaM | apply zaJ | apply zaO | apply zax | apply zay | apply zaj | apply zaw | ((first | apply zan | apply zae); rfl; rfl; rfl; rfl) | (apply P_fa; rfl; rfl; rfl; rfl; exact zaG rfl; (first | exact Nat.zero_add _ | exact Nat.add_zero _ | rfl)) | (apply zaZ; rfl; rfl; rfl; rfl; rfl; rfl; exact zai rfl) | (apply zaU; rfl; rfl; rfl; rfl; rfl; omega) | (apply zaT; rfl; rfl; rfl; rfl; rfl; omega) | (apply za0; rfl; rfl; rfl; rfl; rfl; (unfold fit; omega)) | (apply za1; rfl; rfl; rfl; rfl; rfl; exact zai rfl; exact zad rfl; (first | assumption | rfl | exact (Int.toNat_of_nonneg (by omega)).symm); omega) | (apply zah; rfl; rfl; rfl; rfl; exact zal rfl; (focus repeat' first | exact zaa | assumption | apply zab | (apply Ext.get; assumption)); (first | rfl | assumption)) | (apply zap; rfl; rfl; rfl; rfl; exact zaE rfl; (focus repeat' first | exact zaa | assumption | apply zab | (apply Ext.get; assumption)); (first | exact Nat.le_of_ble_eq_true rfl | (rw [zaA]; omega) | (simp; done) | (simp; omega) | (rw [zaV]; omega)); (first | exact zbt (by omega) | exact zaz (by omega) | rfl)) | (apply zak; rfl; rfl; rfl; rfl; exact zad rfl; rfl; rfl; rfl) | (apply zbI; rfl; rfl; rfl; rfl) | (apply zcK; rfl; rfl; rfl; rfl) | (apply zaF; rfl; rfl; rfl; rfl; exact zad rfl; rfl; rfl) | (apply zaP; rfl; rfl; rfl; rfl; exact zad rfl; rfl; rfl) | fail))
      have y1 : Ext h' (h'.push (.cells [.int .i64 (c.getD k cop0).par, .slice (c.getD k cop0).r.q (c.getD k cop0).r.s.length (c.getD k cop0).r.k] 37 true)) := by (focus repeat' first | exact Ext.refl _ | assumption | apply Ext.push | (refine Ext.trans ?_ (by assumption)))
      apply zaC; rfl; rfl; rfl; rfl; rfl; rfl
      · refine zix (G := ⟨people, pl, kl, n, l, some ⟨b, 0, none⟩, kc, c⟩) (c := c.getD k cop0) hK (L := (logP ⟨people, pl, kl, n, l, some ⟨b, 0, none⟩, kc, c⟩ ps).take k) (s := s) (bn := bn) (bs := bs) (r := r) ?_ hns hpp (by dsimp only; omega) ?_ eP (fun j hj => ze8 hP' (fun e he => hlog e (List.mem_of_mem_take he)) hj)
        · obtain ⟨f, S, hf⟩ := S
          exact ⟨f, S.ext y1, hf⟩
        · exact eR.ext (by (focus repeat' first | exact Ext.refl _ | assumption | apply Ext.push | (refine Ext.trans ?_ (by assumption))))
      rintro _ h3 ⟨S3, k3⟩
      (repeat' (first | apply zau | apply zac | (apply O_at; rfl) | (apply zat; rfl) | apply zav | (apply zaL; rfl) | (apply zaK; rfl) | apply zar | apply zam | apply zaM | apply zaJ | apply zaO | apply zax | apply zay | apply zaj | apply zaw | ((first | apply zan | apply zae); rfl; rfl; rfl; rfl) | (apply P_fa; rfl; rfl; rfl; rfl; exact zaG rfl; (first | exact Nat.zero_add _ | exact Nat.add_zero _ | rfl)) | (apply zaZ; rfl; rfl; rfl; rfl; rfl; rfl; exact zai rfl) | (apply zaU; rfl; rfl; rfl; rfl; rfl; omega) | (apply zaT; rfl; rfl; rfl; rfl; rfl; omega) | (apply za0; rfl; rfl; rfl; rfl; rfl; (unfold fit; omega)) | (apply za1; rfl; rfl; rfl; rfl; rfl; exact zai rfl; exact zad rfl; (first | assumption | rfl | exact (Int.toNat_of_nonneg (by omega)).symm); omega) | (apply zah; rfl; rfl; rfl; rfl; exact zal rfl; (focus repeat' first | exact zaa | assumption | apply zab | (apply Ext.get; assumption)); (first | rfl | assumption)) | (apply zap; rfl; rfl; rfl; rfl; exact zaE rfl; (focus repeat' first | exact zaa | assumption | apply zab | (apply Ext.get; assumption)); (first | exact Nat.le_of_ble_eq_true rfl | (rw [zaA]; omega) | (simp; done) | (simp; omega) | (rw [zaV]; omega)); (first | exact zbt (by omega) | exact zaz (by omega) | rfl)) | (apply zak; rfl; rfl; rfl; rfl; exact zad rfl; rfl; rfl; rfl) | (apply zbI; rfl; rfl; rfl; rfl) | (apply zcK; rfl; rfl; rfl; rfl) | (apply zaF; rfl; rfl; rfl; rfl; exact zad rfl; rfl; rfl) | (apply zaP; rfl; rfl; rfl; rfl; exact zad rfl; rfl; rfl) | fail))
      have y3 : Ext (h.push (.cells [.int .i64 people, .slice pl n kl, .slice (some ⟨b, 0, none⟩) c.length kc] 25 true)) h3 := k3.ext (hx.trans y1) b2 b3 b4
      refine zbH (ih (k + 1) _ (by omega) ⟨hlt, ?_, y3⟩) (by (focus repeat' first | rfl | exact trivial | apply And.intro))
      rw [ze0 (by omega), ek]
      exact S3
    · obtain rfl : k = c.length := by omega
      (repeat' (first | apply zau | apply zac | (apply O_at; rfl) | (apply zat; rfl) | apply zav | (apply zaL; rfl) | (apply zaK; rfl) | apply zar | apply zam | apply zaM | apply zaJ | apply zaO | apply zax | apply zay | apply zaj | apply zaw | ((first | apply zan | apply zae); rfl; rfl; rfl; rfl) | (apply P_fa; rfl; rfl; rfl; rfl; exact zaG rfl; (first | exact Nat.zero_add _ | exact Nat.add_zero _ | rfl)) | (apply zaZ; rfl; rfl; rfl; rfl; rfl; rfl; exact zai rfl) | (apply zaU; rfl; rfl; rfl; rfl; rfl; omega) | (apply zaT; rfl; rfl; rfl; rfl; rfl; omega) | (apply za0; rfl; rfl; rfl; rfl; rfl; (unfold fit; omega)) | (apply za1; rfl; rfl; rfl; rfl; rfl; exact zai rfl; exact zad rfl; (first | assumption | rfl | exact (Int.toNat_of_nonneg (by omega)).symm); omega) | (apply zah; rfl; rfl; rfl; rfl; exact zal rfl; (focus repeat' first | exact zaa | assumption | apply zab | (apply Ext.get; assumption)); (first | rfl | assumption)) | (apply zap; rfl; rfl; rfl; rfl; exact zaE rfl; (focus repeat' first | exact zaa | assumption | apply zab | (apply Ext.get; assumption)); (first | exact Nat.le_of_ble_eq_true rfl | (rw [zaA]; omega) | (simp; done) | (simp; omega) | (rw [zaV]; omega)); (first | exact zbt (by omega) | exact zaz (by omega) | rfl)) | (apply zak; rfl; rfl; rfl; rfl; exact zad rfl; rfl; rfl; rfl) | (apply zbI; rfl; rfl; rfl; rfl) | (apply zcK; rfl; rfl; rfl; rfl) | (apply zaF; rfl; rfl; rfl; rfl; exact zad rfl; rfl; rfl) | (apply zaP; rfl; rfl; rfl; rfl; exact zad rfl; rfl; rfl) | fail))
      refine zbG (fun k : Nat => [(26, .int .i64 (k : Nat)), (25, .int .i64 (ps.length : Nat)), (24, .slice q ps.length kq), (5, .pointer (some ⟨s, 0, none⟩)), (2, .pointer (some ⟨h.n, 0, none⟩))])
        (fun k h' => k ≤ ps.length ∧ StL ⟨people, pl, kl, n, l, p, kc, c⟩ ((logP ⟨people, pl, kl, n, l, p, kc, c⟩ ps).take (c.length + k)) s bn bs r h' ∧ Ext (h.push (.cells [.int .i64 people, .slice pl n kl, .slice p c.length kc] 25 true)) h') (fun k => ps.length - k) ?_ 0 ?_ ?_
      · rintro i h5 ⟨hi, S5, hx5⟩ ih5
        have g05 := hx5.get zaa
        by_cases hlt5 : i < ps.length
        · obtain ⟨b, e, own, rfl, hg⟩ := hq.at (by rw [zaV]; omega)
          have hg' := hx5.get (zab hg)
          have ek : (logP ⟨people, pl, kl, n, l, p, kc, c⟩ ps)[c.length + i]'(by omega) = wholeE ⟨people, pl, kl, n, l, p, kc, c⟩ (ps.getD i (0, 0)) := by
            simp [logP, logL, List.getElem_append_right, hlt5]
          have eP := zfY (G := ⟨people, pl, kl, n, l, p, kc, c⟩) hnn.1 (hp i hlt5)
          (repeat' (first | apply zau | apply zac | (apply O_at; rfl) | (apply zat; rfl) | apply zav | (apply zaL; rfl) | (apply zaK; rfl) | apply zar | apply zam | apply zaM | apply zaJ | apply zaO | apply zax | apply zay | apply zaj | apply zaw | ((first | apply zan | apply zae); rfl; rfl; rfl; rfl) | (apply P_fa; rfl; rfl; rfl; rfl; exact zaG rfl; (first | exact Nat.zero_add _ | exact Nat.add_zero _ | rfl)) | (apply zaZ; rfl; rfl; rfl; rfl; rfl; rfl; exact zai rfl) | (apply zaU; rfl; rfl; rfl; rfl; rfl; omega) | (apply zaT; rfl; rfl; rfl; rfl; rfl; omega) | (apply za0; rfl; rfl; rfl; rfl; rfl; (unfold fit; omega)) | (apply za1; rfl; rfl; rfl; rfl; rfl; exact zai rfl; exact zad rfl; (first | assumption | rfl | exact (Int.toNat_of_nonneg (by omega)).symm); omega) | (apply zah; rfl; rfl; rfl; rfl; exact zal rfl; (focus repeat' first | exact zaa | assumption | apply zab | (apply Ext.get; assumption)); (first | rfl | assumption)) | (apply zap; rfl; rfl; rfl; rfl; exact zaE rfl; (focus repeat' first | exact zaa | assumption | apply zab | (apply Ext.get; assumption)); (first | exact Nat.le_of_ble_eq_true rfl | (rw [zaA]; omega) | (simp; done) | (simp; omega) | (rw [zaV]; omega)); (first | exact zbt (by omega) | exact zaz (by omega) | rfl)) | (apply zak; rfl; rfl; rfl; rfl; exact zad rfl; rfl; rfl; rfl) | (apply zbI; rfl; rfl; rfl; rfl) | (apply zcK; rfl; rfl; rfl; rfl) | (apply zaF; rfl; rfl; rfl; rfl; exact zad rfl; rfl; rfl) | (apply zaP; rfl; rfl; rfl; rfl; exact zad rfl; rfl; rfl) | (apply zaC; rfl; rfl; rfl; rfl; rfl; rfl; exact zeH (G := ⟨people, pl, kl, n, l, p, kc, c⟩) hK (by dsimp only; omega); (rintro _ _ ⟨rfl, _⟩)) | fail))
          rename_i h6 x6
          have y6 : Ext h5 ((h6.push (.cells [.int .i64 0, .int .i64 ((n : Int) - 1)] 140 true)).push (.cells (ints [(ps.getD i (0, 0)).1, (ps.getD i (0, 0)).2, 0, (n : Int) - 1]) 3 true)) := by (focus repeat' first | exact Ext.refl _ | assumption | apply Ext.push | (refine Ext.trans ?_ (by assumption)))
          apply zaC; rfl; rfl; rfl; rfl; rfl; rfl
          · refine zix (G := ⟨people, pl, kl, n, l, p, kc, c⟩) (c := ⟨1, ⟨some ⟨h6.n + 1, 0, none⟩, 4, [(ps.getD i (0, 0)).1, (ps.getD i (0, 0)).2, 0, (n : Int) - 1]⟩⟩) hK (L := (logP ⟨people, pl, kl, n, l, p, kc, c⟩ ps).take (c.length + i)) (s := s) (bn := bn) (bs := bs) (r := r) ?_ hns hpp (by dsimp only; omega) ?_ eP (fun j hj => ze8 hP' (fun e he => hlog e (List.mem_of_mem_take he)) hj)
            · obtain ⟨f, S, hf⟩ := S5
              exact ⟨f, S.ext y6, hf⟩
            · exact ⟨.inr ⟨h6.n + 1, _, _, rfl, zaa⟩, fun a q => by cases q; exact Nat.lt_succ_self _, fun _ => Nat.le_refl _⟩
          rintro _ h7 ⟨S7, k7⟩
          (repeat' (first | apply zau | apply zac | (apply O_at; rfl) | (apply zat; rfl) | apply zav | (apply zaL; rfl) | (apply zaK; rfl) | apply zar | apply zam | apply zaM | apply zaJ | apply zaO | apply zax | apply zay | apply zaj | apply zaw | ((first | apply zan | apply zae); rfl; rfl; rfl; rfl) | (apply P_fa; rfl; rfl; rfl; rfl; exact zaG rfl; (first | exact Nat.zero_add _ | exact Nat.add_zero _ | rfl)) | (apply zaZ; rfl; rfl; rfl; rfl; rfl; rfl; exact zai rfl) | (apply zaU; rfl; rfl; rfl; rfl; rfl; omega) | (apply zaT; rfl; rfl; rfl; rfl; rfl; omega) | (apply za0; rfl; rfl; rfl; rfl; rfl; (unfold fit; omega)) | (apply za1; rfl; rfl; rfl; rfl; rfl; exact zai rfl; exact zad rfl; (first | assumption | rfl | exact (Int.toNat_of_nonneg (by omega)).symm); omega) | (apply zah; rfl; rfl; rfl; rfl; exact zal rfl; (focus repeat' first | exact zaa | assumption | apply zab | (apply Ext.get; assumption)); (first | rfl | assumption)) | (apply zap; rfl; rfl; rfl; rfl; exact zaE rfl; (focus repeat' first | exact zaa | assumption | apply zab | (apply Ext.get; assumption)); (first | exact Nat.le_of_ble_eq_true rfl | (rw [zaA]; omega) | (simp; done) | (simp; omega) | (rw [zaV]; omega)); (first | exact zbt (by omega) | exact zaz (by omega) | rfl)) | (apply zak; rfl; rfl; rfl; rfl; exact zad rfl; rfl; rfl; rfl) | (apply zbI; rfl; rfl; rfl; rfl) | (apply zcK; rfl; rfl; rfl; rfl) | (apply zaF; rfl; rfl; rfl; rfl; exact zad rfl; rfl; rfl) | (apply zaP; rfl; rfl; rfl; rfl; exact zad rfl; rfl; rfl) | fail))
          have y7 : Ext (h.push (.cells [.int .i64 people, .slice pl n kl, .slice p c.length kc] 25 true)) h7 := k7.ext (hx5.trans y6) b2 b3 b4
          refine zbH (ih5 (i + 1) _ (by omega) ⟨hlt5, ?_, y7⟩) (by (focus repeat' first | rfl | exact trivial | apply And.intro))
          rw [show c.length + (i + 1) = (c.length + i) + 1 by omega, ze0 (by omega), ek]
          exact S7
        · obtain rfl : i = ps.length := by omega
          rw [List.take_of_length_le (by omega)] at S5
          (repeat' (first | apply zau | apply zac | (apply O_at; rfl) | (apply zat; rfl) | apply zav | (apply zaL; rfl) | (apply zaK; rfl) | apply zar | apply zam | apply zaM | apply zaJ | apply zaO | apply zax | apply zay | apply zaj | apply zaw | ((first | apply zan | apply zae); rfl; rfl; rfl; rfl) | (apply P_fa; rfl; rfl; rfl; rfl; exact zaG rfl; (first | exact Nat.zero_add _ | exact Nat.add_zero _ | rfl)) | (apply zaZ; rfl; rfl; rfl; rfl; rfl; rfl; exact zai rfl) | (apply zaU; rfl; rfl; rfl; rfl; rfl; omega) | (apply zaT; rfl; rfl; rfl; rfl; rfl; omega) | (apply za0; rfl; rfl; rfl; rfl; rfl; (unfold fit; omega)) | (apply za1; rfl; rfl; rfl; rfl; rfl; exact zai rfl; exact zad rfl; (first | assumption | rfl | exact (Int.toNat_of_nonneg (by omega)).symm); omega) | (apply zah; rfl; rfl; rfl; rfl; exact zal rfl; (focus repeat' first | exact zaa | assumption | apply zab | (apply Ext.get; assumption)); (first | rfl | assumption)) | (apply zap; rfl; rfl; rfl; rfl; exact zaE rfl; (focus repeat' first | exact zaa | assumption | apply zab | (apply Ext.get; assumption)); (first | exact Nat.le_of_ble_eq_true rfl | (rw [zaA]; omega) | (simp; done) | (simp; omega) | (rw [zaV]; omega)); (first | exact zbt (by omega) | exact zaz (by omega) | rfl)) | (apply zak; rfl; rfl; rfl; rfl; exact zad rfl; rfl; rfl; rfl) | (apply zbI; rfl; rfl; rfl; rfl) | (apply zcK; rfl; rfl; rfl; rfl) | (apply zaF; rfl; rfl; rfl; rfl; exact zad rfl; rfl; rfl) | (apply zaP; rfl; rfl; rfl; rfl; exact zad rfl; rfl; rfl) | fail))
          exact ⟨.inr rfl, _, rfl, s, bn, bs, r, rfl, S5, hns, ⟨by omega, by omega, by omega, by omega⟩, by (focus repeat' first | exact Ext.refl _ | assumption | apply Ext.push | (refine Ext.trans ?_ (by assumption)))⟩
      · exact ⟨Nat.zero_le _, S, hx⟩
      · (focus repeat' first | rfl | exact trivial | apply And.intro)
  · exact ⟨Nat.zero_le _, S2, x2⟩
  · (focus repeat' first | rfl | exact trivial | apply And.intro)
end Go.AX.Sa

namespace Go.AX.Sa
open Go.Proofs
set_option maxRecDepth 100000
variable {K : Known}
theorem StL.ext {G : Pg} {L : List Ent} {s bn bs r : Nat} {h h1 : Heap} (x : StL G L s bn bs r h) (e : Ext h h1) : StL G L s bn bs r h1 := by
  obtain ⟨f, S, hf⟩ := x
  exact ⟨f, S.ext e, hf⟩
end Go.AX.Sa

namespace Go.AX.Sa
open Go.Proofs
set_option maxRecDepth 100000
variable {K : Known}
/-! Whether the page passes. -/
def fewV : Value := .iface 149 (.agg #[])
def fewCh : List PanicEntry := [⟨fewV, false, false⟩]
def AllP (G : Pg) (L : List Ent) : Prop := ∀ j, j < G.n → PassP G L j
end Go.AX.Sa

namespace Go.AX.Sa
open Go.Proofs
set_option maxRecDepth 100000
variable {K : Known}
/-! What the layer returns. -/
def IsE (l : List Int) (h : Heap) (v : Value) (h1 : Heap) : Prop := ∃ p cap, v = .tuple #[.slice p l.length cap, .int .i64 0] ∧ Rd h1 p (ints l) ∧ Ext h h1
def errL : Value := .tuple #[.slice none 0 0, .int .i64 2]
theorem zgU (hK : NoK K) {G : Pg} {h : Heap} (hT : PgAt G h) (hP : PgP G) :
    CallW Tryz.prog K 61 #[pgV G, .slice none 0 0] h (fun v h1 => ∃ s bn bs r, v = .pointer (some ⟨s, 0, none⟩) ∧ StL G (logL G) s bn bs r h1 ∧ Ext h h1) := by
  refine (after_ok (ps := []) (q := none) (kq := 0) hK hT hP (.inl rfl) (Nat.zero_le _) (fun k q => by simp at q)).mono ?_
  rintro _ h1 ⟨s, bn, bs, r, rfl, S, _, _, x⟩
  have e : logP G [] = logL G := by simp [logP]
  rw [e] at S
  exact ⟨s, bn, bs, r, rfl, S, x⟩
section
variable {G : Pg} {h : Heap}
theorem now_ok (hK : NoK K) (hT : PgAt G h) (hs : ShortP G) (hP : PgP G) : CallW Tryz.prog K 18 #[pgV G] h (IsE (numsL G (logL G)) h) := by
  refine body (N := 12) Tryz.func18 rfl (hK _ _ _ rfl) rfl rfl ?_
  (repeat' (first | apply zau | apply zac | (apply O_at; rfl) | (apply zat; rfl) | apply zav | (apply zaK; rfl) | apply zam | apply zaJ | apply zaw | ((first | apply zae | apply zbF); rfl; rfl; rfl; rfl) | (apply P_fa; rfl; rfl; rfl; rfl; exact zaG rfl; (first | exact Nat.zero_add _ | exact Nat.add_zero _ | rfl)) | (apply zah; rfl; rfl; rfl; rfl; exact zal rfl; (focus repeat' first | exact zaa | assumption | (apply Ext.get; assumption)); (first | rfl | assumption)) | (apply zap; rfl; rfl; rfl; rfl; exact zaE rfl; (focus repeat' first | exact zaa | assumption | (apply Ext.get; assumption)); (first | exact Nat.le_of_ble_eq_true rfl | (simp; done) | (simp; omega)); rfl) | (apply zcs; rfl; rfl; rfl; rfl) | (apply zaF; rfl; rfl; rfl; rfl; exact zad rfl; rfl; rfl) | (apply zaC; rfl; rfl; rfl; rfl; rfl; rfl; exact yes (zcl hK (hT.ext (by (focus repeat' first | exact Ext.refl _ | assumption | apply Ext.push | (refine Ext.trans ?_ (by assumption))))) hs) hP; (rintro _ _ ⟨rfl, _⟩)) | fail))
  apply zaC; rfl; rfl; rfl; rfl; rfl; rfl; exact zgU hK (hT.ext (by (focus repeat' first | exact Ext.refl _ | assumption | apply Ext.push | (refine Ext.trans ?_ (by assumption))))) hP
  rintro _ h2 ⟨s, bn, bs, r, rfl, ⟨f, ⟨box, nums, sets, hrd, nl, sl⟩, hf⟩, x⟩
  unfold stC at box
  (repeat' (first | apply zau | apply zac | (apply O_at; rfl) | (apply zat; rfl) | apply zav | (apply zaK; rfl) | apply zam | apply zaJ | apply zaw | ((first | apply zae | apply zbF); rfl; rfl; rfl; rfl) | (apply P_fa; rfl; rfl; rfl; rfl; exact zaG rfl; (first | exact Nat.zero_add _ | exact Nat.add_zero _ | rfl)) | (apply zah; rfl; rfl; rfl; rfl; exact zal rfl; (focus repeat' first | exact zaa | assumption | (apply Ext.get; assumption)); (first | rfl | assumption)) | (apply zap; rfl; rfl; rfl; rfl; exact zaE rfl; (focus repeat' first | exact zaa | assumption | (apply Ext.get; assumption)); (first | exact Nat.le_of_ble_eq_true rfl | (simp; done) | (simp; omega)); rfl) | (apply zcs; rfl; rfl; rfl; rfl) | (apply zaF; rfl; rfl; rfl; rfl; exact zad rfl; rfl; rfl) | fail))
  exact ⟨.inr rfl, _, rfl, some ⟨bn, 0, none⟩, unk, by rw [zcM]; rfl, .inr ⟨bn, _, _, rfl, nums⟩, by (focus repeat' first | exact Ext.refl _ | assumption | apply Ext.push | (refine Ext.trans ?_ (by assumption)))⟩
theorem now_no (hK : NoK K) (hT : PgAt G h) (hs : ShortP G) (hP : ¬ PgP G) : CallW Tryz.prog K 18 #[pgV G] h (IsV errL h) := by
  refine body (N := 12) Tryz.func18 rfl (hK _ _ _ rfl) rfl rfl ?_
  (repeat' (first | apply zau | apply zac | (apply O_at; rfl) | (apply zat; rfl) | apply zav | (apply zaL; rfl) | apply zaJ | apply zaN | apply zaw | ((first | apply zae | apply zbF); rfl; rfl; rfl; rfl) | (apply zap; rfl; rfl; rfl; rfl; exact zaE rfl; (focus repeat' first | exact zaa | assumption); (first | exact Nat.le_of_ble_eq_true rfl | (simp; done) | (simp; omega)); rfl) | (apply zaF; rfl; rfl; rfl; rfl; exact zad rfl; rfl; rfl) | (apply zaC; rfl; rfl; rfl; rfl; rfl; rfl; exact no (zcl hK (hT.ext (by (focus repeat' first | exact Ext.refl _ | assumption | apply Ext.push | (refine Ext.trans ?_ (by assumption))))) hs) hP; (rintro _ _ ⟨rfl, _⟩)) | fail))
  exact ⟨.inr rfl, _, rfl, rfl, by (focus repeat' first | exact Ext.refl _ | assumption | apply Ext.push | (refine Ext.trans ?_ (by assumption)))⟩
theorem zi2 (hK : NoK K) (hT : PgAt G h) (hs : ShortP G) (hP : PgP G) : CallW Tryz.prog K 19 #[pgV G] h (IsE (setsL G (logL G)) h) := by
  refine body (N := 12) Tryz.func19 rfl (hK _ _ _ rfl) rfl rfl ?_
  (repeat' (first | apply zau | apply zac | (apply O_at; rfl) | (apply zat; rfl) | apply zav | (apply zaK; rfl) | apply zam | apply zaJ | apply zaw | ((first | apply zae | apply zbF); rfl; rfl; rfl; rfl) | (apply P_fa; rfl; rfl; rfl; rfl; exact zaG rfl; (first | exact Nat.zero_add _ | exact Nat.add_zero _ | rfl)) | (apply zah; rfl; rfl; rfl; rfl; exact zal rfl; (focus repeat' first | exact zaa | assumption | (apply Ext.get; assumption)); (first | rfl | assumption)) | (apply zap; rfl; rfl; rfl; rfl; exact zaE rfl; (focus repeat' first | exact zaa | assumption | (apply Ext.get; assumption)); (first | exact Nat.le_of_ble_eq_true rfl | (simp; done) | (simp; omega)); rfl) | (apply zcs; rfl; rfl; rfl; rfl) | (apply zaF; rfl; rfl; rfl; rfl; exact zad rfl; rfl; rfl) | (apply zaC; rfl; rfl; rfl; rfl; rfl; rfl; exact yes (zcl hK (hT.ext (by (focus repeat' first | exact Ext.refl _ | assumption | apply Ext.push | (refine Ext.trans ?_ (by assumption))))) hs) hP; (rintro _ _ ⟨rfl, _⟩)) | fail))
  apply zaC; rfl; rfl; rfl; rfl; rfl; rfl; exact zgU hK (hT.ext (by (focus repeat' first | exact Ext.refl _ | assumption | apply Ext.push | (refine Ext.trans ?_ (by assumption))))) hP
  rintro _ h2 ⟨s, bn, bs, r, rfl, ⟨f, ⟨box, nums, sets, hrd, nl, sl⟩, hf⟩, x⟩
  unfold stC at box
  (repeat' (first | apply zau | apply zac | (apply O_at; rfl) | (apply zat; rfl) | apply zav | (apply zaK; rfl) | apply zam | apply zaJ | apply zaw | ((first | apply zae | apply zbF); rfl; rfl; rfl; rfl) | (apply P_fa; rfl; rfl; rfl; rfl; exact zaG rfl; (first | exact Nat.zero_add _ | exact Nat.add_zero _ | rfl)) | (apply zah; rfl; rfl; rfl; rfl; exact zal rfl; (focus repeat' first | exact zaa | assumption | (apply Ext.get; assumption)); (first | rfl | assumption)) | (apply zap; rfl; rfl; rfl; rfl; exact zaE rfl; (focus repeat' first | exact zaa | assumption | (apply Ext.get; assumption)); (first | exact Nat.le_of_ble_eq_true rfl | (simp; done) | (simp; omega)); rfl) | (apply zcs; rfl; rfl; rfl; rfl) | (apply zaF; rfl; rfl; rfl; rfl; exact zad rfl; rfl; rfl) | fail))
  exact ⟨.inr rfl, _, rfl, some ⟨bs, 0, none⟩, unk, by rw [zdU]; rfl, .inr ⟨bs, _, _, rfl, sets⟩, by (focus repeat' first | exact Ext.refl _ | assumption | apply Ext.push | (refine Ext.trans ?_ (by assumption)))⟩
theorem zi3 (hK : NoK K) (hT : PgAt G h) (hs : ShortP G) (hP : ¬ PgP G) : CallW Tryz.prog K 19 #[pgV G] h (IsV errL h) := by
  refine body (N := 12) Tryz.func19 rfl (hK _ _ _ rfl) rfl rfl ?_
  (repeat' (first | apply zau | apply zac | (apply O_at; rfl) | (apply zat; rfl) | apply zav | (apply zaL; rfl) | apply zaJ | apply zaN | apply zaw | ((first | apply zae | apply zbF); rfl; rfl; rfl; rfl) | (apply zap; rfl; rfl; rfl; rfl; exact zaE rfl; (focus repeat' first | exact zaa | assumption); (first | exact Nat.le_of_ble_eq_true rfl | (simp; done) | (simp; omega)); rfl) | (apply zaF; rfl; rfl; rfl; rfl; exact zad rfl; rfl; rfl) | (apply zaC; rfl; rfl; rfl; rfl; rfl; rfl; exact no (zcl hK (hT.ext (by (focus repeat' first | exact Ext.refl _ | assumption | apply Ext.push | (refine Ext.trans ?_ (by assumption))))) hs) hP; (rintro _ _ ⟨rfl, _⟩)) | fail))
  exact ⟨.inr rfl, _, rfl, rfl, by (focus repeat' first | exact Ext.refl _ | assumption | apply Ext.push | (refine Ext.trans ?_ (by assumption)))⟩
end
end Go.AX.Sa

namespace Go.AX.Sa
open Go.Proofs
set_option maxRecDepth 100000
variable {K : Known}
/-! What stands, line by line: the specification. -/
theorem zcr (hK : NoK K) {c : Cop} {people : Int} {n : Nat} {j : Int} {h : Heap} (hc : RowIn c.r h) (hP : EntP people n (ent c)) :
    CallW Tryz.prog K 109 #[enV c, .int .i64 j] h (IfB (changes (ent c) j) h) := by
  obtain ⟨rd, hcb, _⟩ := hc
  obtain ⟨par, q, k, t⟩ := c
  dsimp only [enV, ent] at rd hcb hP ⊢
  refine body (N := 29) Tryz.func109 rfl (hK _ _ _ rfl) rfl rfl ?_
  rcases ent0 hP with h1 | h1 | h1
  · dsimp only at h1
    subst h1
    (repeat' (first | apply zau | apply zac | (apply O_at; rfl) | (apply zat; rfl) | apply zav | apply zaJ | apply zaw | (apply zbj; rfl; rfl; rfl) | ((first | apply zan | apply zae); rfl; rfl; rfl; rfl) | (apply P_fa; rfl; rfl; rfl; rfl; exact zaG rfl; (first | exact Nat.zero_add _ | exact Nat.add_zero _ | rfl)) | (apply za5; rfl; rfl; rfl; rfl; rfl; rfl) | (apply zbw; rfl; rfl; rfl; rfl; rfl; omega) | (apply zbo; rfl; rfl; rfl; rfl; rfl; omega) | (apply zfU; rfl; rfl; rfl; rfl; rfl; all_goals intro _) | (apply zbr; rfl; rfl; rfl; rfl; rfl; exact zai rfl; exact zad rfl; (first | assumption | exact zq0 | exact zq1 | rfl | exact (Int.toNat_of_nonneg (by omega)).symm); omega) | (apply zah; rfl; rfl; rfl; rfl; exact zal rfl; (focus repeat' first | exact zaa | assumption | apply zab); (first | exact zag (by omega) | rfl | assumption)) | (apply zaF; rfl; rfl; rfl; rfl; exact zad rfl; rfl; rfl) | fail))
    exact ⟨.inr rfl, _, rfl, .inr ⟨rfl, by unfold changes; simp, by (focus repeat' first | exact Ext.refl _ | assumption | apply Ext.push)⟩⟩
  · dsimp only at h1
    subst h1
    have z := ent2.1 hP
    obtain ⟨b, e, own, rfl, hg⟩ := rd.at (by rw [zaf]; omega)
    (repeat' (first | apply zau | apply zac | (apply O_at; rfl) | (apply zat; rfl) | apply zav | apply zaJ | apply zaw | (apply zbj; rfl; rfl; rfl) | ((first | apply zan | apply zae); rfl; rfl; rfl; rfl) | (apply P_fa; rfl; rfl; rfl; rfl; exact zaG rfl; (first | exact Nat.zero_add _ | exact Nat.add_zero _ | rfl)) | (apply za5; rfl; rfl; rfl; rfl; rfl; rfl) | (apply zbw; rfl; rfl; rfl; rfl; rfl; omega) | (apply zbo; rfl; rfl; rfl; rfl; rfl; omega) | (apply zfU; rfl; rfl; rfl; rfl; rfl; all_goals intro _) | (apply zbr; rfl; rfl; rfl; rfl; rfl; exact zai rfl; exact zad rfl; (first | assumption | exact zq0 | exact zq1 | rfl | exact (Int.toNat_of_nonneg (by omega)).symm); omega) | (apply zah; rfl; rfl; rfl; rfl; exact zal rfl; (focus repeat' first | exact zaa | assumption | apply zab); (first | exact zag (by omega) | rfl | assumption)) | (apply zaF; rfl; rfl; rfl; rfl; exact zad rfl; rfl; rfl) | fail))
    · rename_i w
      exact ⟨.inr rfl, _, rfl, .inl ⟨rfl, .inl ⟨rfl, w⟩, by (focus repeat' first | exact Ext.refl _ | assumption | apply Ext.push)⟩⟩
    · rename_i w
      exact ⟨.inr rfl, _, rfl, .inr ⟨rfl, by unfold changes; simpa using w, by (focus repeat' first | exact Ext.refl _ | assumption | apply Ext.push)⟩⟩
  · dsimp only at h1
    subst h1
    have z := ent3.1 hP
    obtain ⟨b, e, own, rfl, hg⟩ := rd.at (by rw [zaf]; omega)
    (repeat' (first | apply zau | apply zac | (apply O_at; rfl) | (apply zat; rfl) | apply zav | apply zaJ | apply zaw | (apply zbj; rfl; rfl; rfl) | ((first | apply zan | apply zae); rfl; rfl; rfl; rfl) | (apply P_fa; rfl; rfl; rfl; rfl; exact zaG rfl; (first | exact Nat.zero_add _ | exact Nat.add_zero _ | rfl)) | (apply za5; rfl; rfl; rfl; rfl; rfl; rfl) | (apply zbw; rfl; rfl; rfl; rfl; rfl; omega) | (apply zbo; rfl; rfl; rfl; rfl; rfl; omega) | (apply zfU; rfl; rfl; rfl; rfl; rfl; all_goals intro _) | (apply zbr; rfl; rfl; rfl; rfl; rfl; exact zai rfl; exact zad rfl; (first | assumption | exact zq0 | exact zq1 | rfl | exact (Int.toNat_of_nonneg (by omega)).symm); omega) | (apply zah; rfl; rfl; rfl; rfl; exact zal rfl; (focus repeat' first | exact zaa | assumption | apply zab); (first | exact zag (by omega) | rfl | assumption)) | (apply zaF; rfl; rfl; rfl; rfl; exact zad rfl; rfl; rfl) | fail))
    · rename_i w
      exact ⟨.inr rfl, _, rfl, .inl ⟨rfl, .inr ⟨rfl, w⟩, by (focus repeat' first | exact Ext.refl _ | assumption | apply Ext.push)⟩⟩
    · rename_i w
      exact ⟨.inr rfl, _, rfl, .inr ⟨rfl, by unfold changes; simpa using w, by (focus repeat' first | exact Ext.refl _ | assumption | apply Ext.push)⟩⟩
theorem zkJ {G : Pg} {k : Nat} {j a : Int} (h : k < G.c.length) : numF ((logL G).take (k + 1)) j a = numS j (numF ((logL G).take k) j a) (ent (G.c.getD k cop0)) := by
  have e : (logL G).take (k + 1) = (logL G).take k ++ [ent (G.c.getD k cop0)] := by
    rw [List.take_add_one, zii h]; rfl
  rw [e, zcA]
theorem zj6 {G : Pg} {k : Nat} {j a : Int} (h : k < G.c.length) : setF ((logL G).take (k + 1)) j a = setS j (setF ((logL G).take k) j a) (ent (G.c.getD k cop0)) := by
  have e : (logL G).take (k + 1) = (logL G).take k ++ [ent (G.c.getD k cop0)] := by
    rw [List.take_add_one, zii h]; rfl
  rw [e, zd9]
theorem log_ent0 {G : Pg} (hP : PgP G) : ∀ e ∈ logL G, EntP G.people G.n e := by
  intro e he
  obtain ⟨c, hc, rfl⟩ := List.mem_map.1 he
  obtain ⟨j, hj⟩ := List.getElem?_of_mem hc
  have hl := (List.getElem?_eq_some_iff.1 hj).1
  have := hP.ent j hl
  simpa [List.getD_eq_getElem?_getD, hj] using this
theorem zgc (hK : NoK K) {G : Pg} {j : Nat} (hP : PgP G) (hj : j < G.n) : ∀ (k : Nat) (kk : Int) (h : Heap), kk = (k : Nat) → PgAt G h → k ≤ G.c.length →
    CallW Tryz.prog K 65 #[pgV G, .int .i64 (j : Nat), .int .i64 kk] h (IsV (.int .i64 (numF ((logL G).take k) (j : Nat) (sett G j))) h) := by
  intro k
  induction k with
  | zero =>
    intro kk h hkk hT _
    subst hkk
    have hnn := hP.n
    obtain ⟨people, pl, kl, n, l, p, kc, c⟩ := G
    obtain ⟨len, rl, rc, each, hbl, hpb⟩ := hT
    dsimp only [pgV] at len rl hnn hj ⊢
    obtain ⟨b, e, own, rfl, hg⟩ := rl.at (by rw [zaf]; omega)
    refine body (N := 44) Tryz.func65 rfl (hK _ _ _ rfl) rfl rfl ?_
    (repeat' (first | apply zau | apply zac | (apply O_at; rfl) | (apply zat; rfl) | apply zav | (apply zaL; rfl) | (apply zaK; rfl) | apply zam | apply zaJ | apply zaN | apply zaw | ((first | apply zan | apply zae | apply zbF); rfl; rfl; rfl; rfl) | (apply P_fa; rfl; rfl; rfl; rfl; exact zaG rfl; (first | exact Nat.zero_add _ | exact Nat.add_zero _ | rfl)) | (apply zbw; rfl; rfl; rfl; rfl; rfl; omega) | (apply zbo; rfl; rfl; rfl; rfl; rfl; omega) | (apply zdo; rfl; rfl; rfl; rfl; rfl; (unfold fit; omega)) | (apply zbr; rfl; rfl; rfl; rfl; rfl; exact zai rfl; exact zad rfl; (first | assumption | exact zq2 | rfl | exact (Int.toNat_of_nonneg (by omega)).symm); omega) | (apply za1; rfl; rfl; rfl; rfl; rfl; exact zai rfl; exact zad rfl; (first | assumption | exact zq2 | rfl | exact (Int.toNat_of_nonneg (by omega)).symm); omega) | (apply zah; rfl; rfl; rfl; rfl; exact zal rfl; (focus repeat' first | exact zaa | assumption | apply zab | (apply Ext.get; assumption)); (first | exact zag (by omega) | rfl | assumption)) | (apply zap; rfl; rfl; rfl; rfl; exact zaE rfl; (focus repeat' first | exact zaa | assumption | apply zab | (apply Ext.get; assumption)); (first | exact Nat.le_of_ble_eq_true rfl | (rw [zaA]; omega) | (simp; done) | (simp; omega) | (rw [zaf]; omega)); (first | exact zaz (by omega) | rfl)) | (apply zak; rfl; rfl; rfl; rfl; exact zad rfl; rfl; rfl; rfl) | (apply zaF; rfl; rfl; rfl; rfl; exact zad rfl; rfl; rfl) | (apply zaP; rfl; rfl; rfl; rfl; exact zad rfl; rfl; rfl) | fail))
    exact ⟨.inr rfl, _, rfl, rfl, by (focus repeat' first | exact Ext.refl _ | assumption | apply Ext.push | (refine Ext.trans ?_ (by assumption)))⟩
  | succ k ih =>
    intro kk h hkk hT hk
    subst hkk
    have hT' := hT
    have hP' := hP
    have hnn := hP.n
    have hcc := hP.c
    have hsm := ze7 (j := (j : Nat)) (hP.line j hj).2.2 ((logL G).take k) (fun e he => log_ent0 hP e (List.mem_of_mem_take he))
    have eP := hP.ent k hk
    rw [zkJ hk]
    obtain ⟨people, pl, kl, n, l, p, kc, c⟩ := G
    obtain ⟨len, rl, rc, each, hbl, hpb⟩ := hT
    dsimp only at len rl rc each hnn hj hcc hk eP ih hsm ⊢
    obtain ⟨b, e, own, rfl, hg⟩ := rc.at (by rw [zaA]; omega)
    have eR := each k hk
    have hk1 : ((k + 1 : Nat) : Int) - 1 = (k : Nat) := by omega
    have hq : fit ((numF ((logL ⟨people, pl, kl, n, l, some ⟨b, 0, none⟩, kc, c⟩).take k) (j : Nat) (sett ⟨people, pl, kl, n, l, some ⟨b, 0, none⟩, kc, c⟩ j)).tdiv 10) := by have := zdq hsm; unfold NumP at this; unfold fit; omega
    refine body (N := 44) Tryz.func65 rfl (hK _ _ _ rfl) rfl rfl ?_
    dsimp only [pgV]
    (repeat' (first | apply zau | apply zac | (apply O_at; rfl) | (apply zat; rfl) | apply zav | (apply zaL; rfl) | (apply zaK; rfl) | apply zam | apply zaJ | apply zaN | apply zaw | ((first | apply zan | apply zae | apply zbF); rfl; rfl; rfl; rfl) | (apply P_fa; rfl; rfl; rfl; rfl; exact zaG rfl; (first | exact Nat.zero_add _ | exact Nat.add_zero _ | rfl)) | (apply zbw; rfl; rfl; rfl; rfl; rfl; omega) | (apply zbo; rfl; rfl; rfl; rfl; rfl; omega) | (apply zdo; rfl; rfl; rfl; rfl; rfl; (unfold fit; omega)) | (apply zbr; rfl; rfl; rfl; rfl; rfl; exact zai rfl; exact zad rfl; (first | assumption | exact zq2 | rfl | exact (Int.toNat_of_nonneg (by omega)).symm); omega) | (apply za1; rfl; rfl; rfl; rfl; rfl; exact zai rfl; exact zad rfl; (first | assumption | exact zq2 | rfl | exact (Int.toNat_of_nonneg (by omega)).symm); omega) | (apply zah; rfl; rfl; rfl; rfl; exact zal rfl; (focus repeat' first | exact zaa | assumption | apply zab | (apply Ext.get; assumption)); (first | exact zag (by omega) | rfl | assumption)) | (apply zap; rfl; rfl; rfl; rfl; exact zaE rfl; (focus repeat' first | exact zaa | assumption | apply zab | (apply Ext.get; assumption)); (first | exact Nat.le_of_ble_eq_true rfl | (rw [zaA]; omega) | (simp; done) | (simp; omega) | (rw [zaf]; omega)); (first | exact zaz (by omega) | rfl)) | (apply zak; rfl; rfl; rfl; rfl; exact zad rfl; rfl; rfl; rfl) | (apply zaF; rfl; rfl; rfl; rfl; exact zad rfl; rfl; rfl) | (apply zaP; rfl; rfl; rfl; rfl; exact zad rfl; rfl; rfl) | fail))
    generalize hcd : c.getD k cop0 = C at *
    by_cases hch : changes (ent C) (j : Nat)
    · rcases hch with ⟨c1, c2⟩ | ⟨c1, c2⟩
      · have ec : changes (ent C) (j : Nat) := .inl ⟨c1, c2⟩
        obtain ⟨par, q, k1, t⟩ := C
        dsimp only [ent] at c1 c2 eP eR ec ⊢
        subst c1
        have z := ent2.1 eP
        obtain ⟨b2, e2, own2, rfl, hg2⟩ := eR.rd.at (by rw [zaf]; dsimp only; omega)
        dsimp only at hg2
        (repeat' (first | apply zau | apply zac | (apply O_at; rfl) | (apply zat; rfl) | apply zav | (apply zaL; rfl) | (apply zaK; rfl) | apply zam | apply zaJ | apply zaN | apply zaw | ((first | apply zan | apply zae | apply zbF); rfl; rfl; rfl; rfl) | (apply P_fa; rfl; rfl; rfl; rfl; exact zaG rfl; (first | exact Nat.zero_add _ | exact Nat.add_zero _ | rfl)) | (apply zbw; rfl; rfl; rfl; rfl; rfl; omega) | (apply zbo; rfl; rfl; rfl; rfl; rfl; omega) | (apply zdo; rfl; rfl; rfl; rfl; rfl; (unfold fit; omega)) | (apply zbr; rfl; rfl; rfl; rfl; rfl; exact zai rfl; exact zad rfl; (first | assumption | exact zq2 | rfl | exact (Int.toNat_of_nonneg (by omega)).symm); omega) | (apply za1; rfl; rfl; rfl; rfl; rfl; exact zai rfl; exact zad rfl; (first | assumption | exact zq2 | rfl | exact (Int.toNat_of_nonneg (by omega)).symm); omega) | (apply zah; rfl; rfl; rfl; rfl; exact zal rfl; (focus repeat' first | exact zaa | assumption | apply zab | (apply Ext.get; assumption)); (first | exact zag (by omega) | rfl | assumption)) | (apply zap; rfl; rfl; rfl; rfl; exact zaE rfl; (focus repeat' first | exact zaa | assumption | apply zab | (apply Ext.get; assumption)); (first | exact Nat.le_of_ble_eq_true rfl | (rw [zaA]; omega) | (simp; done) | (simp; omega) | (rw [zaf]; omega)); (first | exact zaz (by omega) | rfl)) | (apply zak; rfl; rfl; rfl; rfl; exact zad rfl; rfl; rfl; rfl) | (apply zaF; rfl; rfl; rfl; rfl; exact zad rfl; rfl; rfl) | (apply zaP; rfl; rfl; rfl; rfl; exact zad rfl; rfl; rfl) | (apply zaC; rfl; rfl; rfl; rfl; rfl; rfl; exact yes (zcr hK (c := ⟨2, ⟨some ⟨b2, 0, none⟩, k1, t⟩⟩) (eR.ext (by (focus repeat' first | exact Ext.refl _ | assumption | apply Ext.push | (refine Ext.trans ?_ (by assumption))))) eP) ec; (rintro _ _ ⟨rfl, _⟩)) | fail))
        refine ⟨.inr rfl, _, rfl, ?_, by (focus repeat' first | exact Ext.refl _ | assumption | apply Ext.push | (refine Ext.trans ?_ (by assumption)))⟩
        rw [numS, if_pos ⟨rfl, c2⟩]; rfl
      · have ec : changes (ent C) (j : Nat) := .inr ⟨c1, c2⟩
        obtain ⟨par, q, k1, t⟩ := C
        dsimp only [ent] at c1 c2 eP eR ec ⊢
        subst c1
        (repeat' (first | apply zau | apply zac | (apply O_at; rfl) | (apply zat; rfl) | apply zav | (apply zaL; rfl) | (apply zaK; rfl) | apply zam | apply zaJ | apply zaN | apply zaw | ((first | apply zan | apply zae | apply zbF); rfl; rfl; rfl; rfl) | (apply P_fa; rfl; rfl; rfl; rfl; exact zaG rfl; (first | exact Nat.zero_add _ | exact Nat.add_zero _ | rfl)) | (apply zbw; rfl; rfl; rfl; rfl; rfl; omega) | (apply zbo; rfl; rfl; rfl; rfl; rfl; omega) | (apply zdo; rfl; rfl; rfl; rfl; rfl; (unfold fit; omega)) | (apply zbr; rfl; rfl; rfl; rfl; rfl; exact zai rfl; exact zad rfl; (first | assumption | exact zq2 | rfl | exact (Int.toNat_of_nonneg (by omega)).symm); omega) | (apply za1; rfl; rfl; rfl; rfl; rfl; exact zai rfl; exact zad rfl; (first | assumption | exact zq2 | rfl | exact (Int.toNat_of_nonneg (by omega)).symm); omega) | (apply zah; rfl; rfl; rfl; rfl; exact zal rfl; (focus repeat' first | exact zaa | assumption | apply zab | (apply Ext.get; assumption)); (first | exact zag (by omega) | rfl | assumption)) | (apply zap; rfl; rfl; rfl; rfl; exact zaE rfl; (focus repeat' first | exact zaa | assumption | apply zab | (apply Ext.get; assumption)); (first | exact Nat.le_of_ble_eq_true rfl | (rw [zaA]; omega) | (simp; done) | (simp; omega) | (rw [zaf]; omega)); (first | exact zaz (by omega) | rfl)) | (apply zak; rfl; rfl; rfl; rfl; exact zad rfl; rfl; rfl; rfl) | (apply zaF; rfl; rfl; rfl; rfl; exact zad rfl; rfl; rfl) | (apply zaP; rfl; rfl; rfl; rfl; exact zad rfl; rfl; rfl) | (apply zaC; rfl; rfl; rfl; rfl; rfl; rfl; exact yes (zcr hK (c := ⟨3, ⟨q, k1, t⟩⟩) (eR.ext (by (focus repeat' first | exact Ext.refl _ | assumption | apply Ext.push | (refine Ext.trans ?_ (by assumption))))) eP) ec; (rintro _ _ ⟨rfl, _⟩)) | (apply zaC; rfl; rfl; rfl; rfl; rfl; rfl; exact ih _ _ (by omega) (hT'.ext (by (focus repeat' first | exact Ext.refl _ | assumption | apply Ext.push | (refine Ext.trans ?_ (by assumption))))) (by omega); (rintro _ _ ⟨rfl, _⟩)) | fail))
        apply P_quo; rfl; rfl; rfl; rfl; rfl; decide; exact hq
        (repeat' (first | apply zau | apply zac | (apply O_at; rfl) | (apply zat; rfl) | apply zav | (apply zaL; rfl) | (apply zaK; rfl) | apply zam | apply zaJ | apply zaN | apply zaw | ((first | apply zan | apply zae | apply zbF); rfl; rfl; rfl; rfl) | (apply P_fa; rfl; rfl; rfl; rfl; exact zaG rfl; (first | exact Nat.zero_add _ | exact Nat.add_zero _ | rfl)) | (apply zbw; rfl; rfl; rfl; rfl; rfl; omega) | (apply zbo; rfl; rfl; rfl; rfl; rfl; omega) | (apply zdo; rfl; rfl; rfl; rfl; rfl; (unfold fit; omega)) | (apply zbr; rfl; rfl; rfl; rfl; rfl; exact zai rfl; exact zad rfl; (first | assumption | exact zq2 | rfl | exact (Int.toNat_of_nonneg (by omega)).symm); omega) | (apply za1; rfl; rfl; rfl; rfl; rfl; exact zai rfl; exact zad rfl; (first | assumption | exact zq2 | rfl | exact (Int.toNat_of_nonneg (by omega)).symm); omega) | (apply zah; rfl; rfl; rfl; rfl; exact zal rfl; (focus repeat' first | exact zaa | assumption | apply zab | (apply Ext.get; assumption)); (first | exact zag (by omega) | rfl | assumption)) | (apply zap; rfl; rfl; rfl; rfl; exact zaE rfl; (focus repeat' first | exact zaa | assumption | apply zab | (apply Ext.get; assumption)); (first | exact Nat.le_of_ble_eq_true rfl | (rw [zaA]; omega) | (simp; done) | (simp; omega) | (rw [zaf]; omega)); (first | exact zaz (by omega) | rfl)) | (apply zak; rfl; rfl; rfl; rfl; exact zad rfl; rfl; rfl; rfl) | (apply zaF; rfl; rfl; rfl; rfl; exact zad rfl; rfl; rfl) | (apply zaP; rfl; rfl; rfl; rfl; exact zad rfl; rfl; rfl) | fail))
        refine ⟨.inr rfl, _, rfl, ?_, by (focus repeat' first | exact Ext.refl _ | assumption | apply Ext.push | (refine Ext.trans ?_ (by assumption)))⟩
        rw [numS, if_neg (by simp), if_pos ⟨rfl, c2⟩]; rfl
    · obtain ⟨par, q, k1, t⟩ := C
      dsimp only [ent] at hch eP eR ⊢
      (repeat' (first | apply zau | apply zac | (apply O_at; rfl) | (apply zat; rfl) | apply zav | (apply zaL; rfl) | (apply zaK; rfl) | apply zam | apply zaJ | apply zaN | apply zaw | ((first | apply zan | apply zae | apply zbF); rfl; rfl; rfl; rfl) | (apply P_fa; rfl; rfl; rfl; rfl; exact zaG rfl; (first | exact Nat.zero_add _ | exact Nat.add_zero _ | rfl)) | (apply zbw; rfl; rfl; rfl; rfl; rfl; omega) | (apply zbo; rfl; rfl; rfl; rfl; rfl; omega) | (apply zdo; rfl; rfl; rfl; rfl; rfl; (unfold fit; omega)) | (apply zbr; rfl; rfl; rfl; rfl; rfl; exact zai rfl; exact zad rfl; (first | assumption | exact zq2 | rfl | exact (Int.toNat_of_nonneg (by omega)).symm); omega) | (apply za1; rfl; rfl; rfl; rfl; rfl; exact zai rfl; exact zad rfl; (first | assumption | exact zq2 | rfl | exact (Int.toNat_of_nonneg (by omega)).symm); omega) | (apply zah; rfl; rfl; rfl; rfl; exact zal rfl; (focus repeat' first | exact zaa | assumption | apply zab | (apply Ext.get; assumption)); (first | exact zag (by omega) | rfl | assumption)) | (apply zap; rfl; rfl; rfl; rfl; exact zaE rfl; (focus repeat' first | exact zaa | assumption | apply zab | (apply Ext.get; assumption)); (first | exact Nat.le_of_ble_eq_true rfl | (rw [zaA]; omega) | (simp; done) | (simp; omega) | (rw [zaf]; omega)); (first | exact zaz (by omega) | rfl)) | (apply zak; rfl; rfl; rfl; rfl; exact zad rfl; rfl; rfl; rfl) | (apply zaF; rfl; rfl; rfl; rfl; exact zad rfl; rfl; rfl) | (apply zaP; rfl; rfl; rfl; rfl; exact zad rfl; rfl; rfl) | (apply zaC; rfl; rfl; rfl; rfl; rfl; rfl; exact no (zcr hK (c := ⟨par, ⟨q, k1, t⟩⟩) (eR.ext (by (focus repeat' first | exact Ext.refl _ | assumption | apply Ext.push | (refine Ext.trans ?_ (by assumption))))) eP) hch; (rintro _ _ ⟨rfl, _⟩)) | (apply zaC; rfl; rfl; rfl; rfl; rfl; rfl; exact ih _ _ (by omega) (hT'.ext (by (focus repeat' first | exact Ext.refl _ | assumption | apply Ext.push | (refine Ext.trans ?_ (by assumption))))) (by omega); (rintro _ _ ⟨rfl, _⟩)) | fail))
      refine ⟨.inr rfl, _, rfl, ?_, by (focus repeat' first | exact Ext.refl _ | assumption | apply Ext.push | (refine Ext.trans ?_ (by assumption)))⟩
      rw [numS, if_neg (fun w => hch (.inl w)), if_neg (fun w => hch (.inr w))]; rfl
theorem zgb (hK : NoK K) {G : Pg} {j : Nat} (hP : PgP G) (hj : j < G.n) : ∀ (k : Nat) (kk : Int) (h : Heap), kk = (k : Nat) → PgAt G h → k ≤ G.c.length →
    CallW Tryz.prog K 66 #[pgV G, .int .i64 (j : Nat), .int .i64 kk] h (IsV (.int .i64 (setF ((logL G).take k) (j : Nat) (setr G j))) h) := by
  intro k
  induction k with
  | zero =>
    intro kk h hkk hT _
    subst hkk
    have hnn := hP.n
    obtain ⟨people, pl, kl, n, l, p, kc, c⟩ := G
    obtain ⟨len, rl, rc, each, hbl, hpb⟩ := hT
    dsimp only [pgV] at len rl hnn hj ⊢
    obtain ⟨b, e, own, rfl, hg⟩ := rl.at (by rw [zaf]; omega)
    refine body (N := 42) Tryz.func66 rfl (hK _ _ _ rfl) rfl rfl ?_
    (repeat' (first | apply zau | apply zac | (apply O_at; rfl) | (apply zat; rfl) | apply zav | (apply zaL; rfl) | (apply zaK; rfl) | apply zam | apply zaJ | apply zaN | apply zaw | (apply zbj; rfl; rfl; rfl) | ((first | apply zan | apply zae); rfl; rfl; rfl; rfl) | (apply P_fa; rfl; rfl; rfl; rfl; exact zaG rfl; (first | exact Nat.zero_add _ | exact Nat.add_zero _ | rfl)) | (apply za5; rfl; rfl; rfl; rfl; rfl; rfl) | (apply zbw; rfl; rfl; rfl; rfl; rfl; omega) | (apply zbo; rfl; rfl; rfl; rfl; rfl; omega) | (apply zfU; rfl; rfl; rfl; rfl; rfl; all_goals intro _) | (apply zdo; rfl; rfl; rfl; rfl; rfl; (unfold fit; omega)) | (apply zbr; rfl; rfl; rfl; rfl; rfl; exact zai rfl; exact zad rfl; (first | assumption | exact zq0 | exact zq1 | rfl | exact (Int.toNat_of_nonneg (by omega)).symm); omega) | (apply za1; rfl; rfl; rfl; rfl; rfl; exact zai rfl; exact zad rfl; (first | assumption | exact zq0 | exact zq1 | rfl | exact (Int.toNat_of_nonneg (by omega)).symm); omega) | (apply zah; rfl; rfl; rfl; rfl; exact zal rfl; (focus repeat' first | exact zaa | assumption | apply zab); (first | exact zag (by omega) | rfl | assumption)) | (apply zap; rfl; rfl; rfl; rfl; exact zaE rfl; (focus repeat' first | exact zaa | assumption | apply zab); (first | exact Nat.le_of_ble_eq_true rfl | (rw [zaA]; omega) | (simp; done) | (simp; omega) | (rw [zaf]; omega)); (first | exact zaz (by omega) | rfl)) | (apply zak; rfl; rfl; rfl; rfl; exact zad rfl; rfl; rfl; rfl) | (apply zaF; rfl; rfl; rfl; rfl; exact zad rfl; rfl; rfl) | (apply zaP; rfl; rfl; rfl; rfl; exact zad rfl; rfl; rfl) | fail))
    exact ⟨.inr rfl, _, rfl, rfl, by (focus repeat' first | exact Ext.refl _ | assumption | apply Ext.push | (refine Ext.trans ?_ (by assumption)))⟩
  | succ k ih =>
    intro kk h hkk hT hk
    subst hkk
    have hT' := hT
    have hnn := hP.n
    have hcc := hP.c
    have eP := hP.ent k hk
    rw [zj6 hk]
    obtain ⟨people, pl, kl, n, l, p, kc, c⟩ := G
    obtain ⟨len, rl, rc, each, hbl, hpb⟩ := hT
    dsimp only at len rl rc each hnn hj hcc hk eP ih ⊢
    obtain ⟨b, e, own, rfl, hg⟩ := rc.at (by rw [zaA]; omega)
    have eR := each k hk
    have hk1 : ((k + 1 : Nat) : Int) - 1 = (k : Nat) := by omega
    refine body (N := 42) Tryz.func66 rfl (hK _ _ _ rfl) rfl rfl ?_
    dsimp only [pgV]
    by_cases h2 : (c.getD k cop0).par = 2
    · have z : (c.getD k cop0).r.s.length = 3 := by
        have w := eP
        unfold ent at w
        rw [h2] at w
        exact (ent2.1 w).1
      obtain ⟨b2, e2, own2, hq2, hg2⟩ := eR.rd.at (by rw [zaf]; omega)
      (repeat' (first | apply zau | apply zac | (apply O_at; rfl) | (apply zat; rfl) | apply zav | (apply zaL; rfl) | (apply zaK; rfl) | apply zam | apply zaJ | apply zaN | apply zaw | (apply zbj; rfl; rfl; rfl) | ((first | apply zan | apply zae); rfl; rfl; rfl; rfl) | (apply P_fa; rfl; rfl; rfl; rfl; exact zaG rfl; (first | exact Nat.zero_add _ | exact Nat.add_zero _ | rfl)) | (apply za5; rfl; rfl; rfl; rfl; rfl; rfl) | (apply zbw; rfl; rfl; rfl; rfl; rfl; omega) | (apply zbo; rfl; rfl; rfl; rfl; rfl; omega) | (apply zfU; rfl; rfl; rfl; rfl; rfl; all_goals intro _) | (apply zdo; rfl; rfl; rfl; rfl; rfl; (unfold fit; omega)) | (apply zbr; rfl; rfl; rfl; rfl; rfl; exact zai rfl; exact zad rfl; (first | assumption | exact zq0 | exact zq1 | rfl | exact (Int.toNat_of_nonneg (by omega)).symm); omega) | (apply za1; rfl; rfl; rfl; rfl; rfl; exact zai rfl; exact zad rfl; (first | assumption | exact zq0 | exact zq1 | rfl | exact (Int.toNat_of_nonneg (by omega)).symm); omega) | (apply zah; rfl; rfl; rfl; rfl; exact zal rfl; (focus repeat' first | exact zaa | assumption | apply zab); (first | exact zag (by omega) | rfl | assumption)) | (apply zap; rfl; rfl; rfl; rfl; exact zaE rfl; (focus repeat' first | exact zaa | assumption | apply zab); (first | exact Nat.le_of_ble_eq_true rfl | (rw [zaA]; omega) | (simp; done) | (simp; omega) | (rw [zaf]; omega)); (first | exact zaz (by omega) | rfl)) | (apply zak; rfl; rfl; rfl; rfl; exact zad rfl; rfl; rfl; rfl) | (apply zaF; rfl; rfl; rfl; rfl; exact zad rfl; rfl; rfl) | (apply zaP; rfl; rfl; rfl; rfl; exact zad rfl; rfl; rfl) | fail))
      rw [hq2]
      (repeat' (first | apply zau | apply zac | (apply O_at; rfl) | (apply zat; rfl) | apply zav | (apply zaL; rfl) | (apply zaK; rfl) | apply zam | apply zaJ | apply zaN | apply zaw | (apply zbj; rfl; rfl; rfl) | ((first | apply zan | apply zae); rfl; rfl; rfl; rfl) | (apply P_fa; rfl; rfl; rfl; rfl; exact zaG rfl; (first | exact Nat.zero_add _ | exact Nat.add_zero _ | rfl)) | (apply za5; rfl; rfl; rfl; rfl; rfl; rfl) | (apply zbw; rfl; rfl; rfl; rfl; rfl; omega) | (apply zbo; rfl; rfl; rfl; rfl; rfl; omega) | (apply zfU; rfl; rfl; rfl; rfl; rfl; all_goals intro _) | (apply zdo; rfl; rfl; rfl; rfl; rfl; (unfold fit; omega)) | (apply zbr; rfl; rfl; rfl; rfl; rfl; exact zai rfl; exact zad rfl; (first | assumption | exact zq0 | exact zq1 | rfl | exact (Int.toNat_of_nonneg (by omega)).symm); omega) | (apply za1; rfl; rfl; rfl; rfl; rfl; exact zai rfl; exact zad rfl; (first | assumption | exact zq0 | exact zq1 | rfl | exact (Int.toNat_of_nonneg (by omega)).symm); omega) | (apply zah; rfl; rfl; rfl; rfl; exact zal rfl; (focus repeat' first | exact zaa | assumption | apply zab); (first | exact zag (by omega) | rfl | assumption)) | (apply zap; rfl; rfl; rfl; rfl; exact zaE rfl; (focus repeat' first | exact zaa | assumption | apply zab); (first | exact Nat.le_of_ble_eq_true rfl | (rw [zaA]; omega) | (simp; done) | (simp; omega) | (rw [zaf]; omega)); (first | exact zaz (by omega) | rfl)) | (apply zak; rfl; rfl; rfl; rfl; exact zad rfl; rfl; rfl; rfl) | (apply zaF; rfl; rfl; rfl; rfl; exact zad rfl; rfl; rfl) | (apply zaP; rfl; rfl; rfl; rfl; exact zad rfl; rfl; rfl) | (apply zaC; rfl; rfl; rfl; rfl; rfl; rfl; exact ih _ _ (by omega) (hT'.ext (by (focus repeat' first | exact Ext.refl _ | assumption | apply Ext.push | (refine Ext.trans ?_ (by assumption))))) (by omega); (rintro _ _ ⟨rfl, _⟩)) | fail))
      · rename_i w
        refine ⟨.inr rfl, _, rfl, ?_, by (focus repeat' first | exact Ext.refl _ | assumption | apply Ext.push | (refine Ext.trans ?_ (by assumption)))⟩
        rw [setS, if_pos ⟨h2, w⟩]; rfl
      · rename_i w _ _
        refine ⟨.inr rfl, _, rfl, ?_, by (focus repeat' first | exact Ext.refl _ | assumption | apply Ext.push | (refine Ext.trans ?_ (by assumption)))⟩
        rw [setS, if_neg (fun y => w y.2)]; rfl
    · (repeat' (first | apply zau | apply zac | (apply O_at; rfl) | (apply zat; rfl) | apply zav | (apply zaL; rfl) | (apply zaK; rfl) | apply zam | apply zaJ | apply zaN | apply zaw | (apply zbj; rfl; rfl; rfl) | ((first | apply zan | apply zae); rfl; rfl; rfl; rfl) | (apply P_fa; rfl; rfl; rfl; rfl; exact zaG rfl; (first | exact Nat.zero_add _ | exact Nat.add_zero _ | rfl)) | (apply za5; rfl; rfl; rfl; rfl; rfl; rfl) | (apply zbw; rfl; rfl; rfl; rfl; rfl; omega) | (apply zbo; rfl; rfl; rfl; rfl; rfl; omega) | (apply zfU; rfl; rfl; rfl; rfl; rfl; all_goals intro _) | (apply zdo; rfl; rfl; rfl; rfl; rfl; (unfold fit; omega)) | (apply zbr; rfl; rfl; rfl; rfl; rfl; exact zai rfl; exact zad rfl; (first | assumption | exact zq0 | exact zq1 | rfl | exact (Int.toNat_of_nonneg (by omega)).symm); omega) | (apply za1; rfl; rfl; rfl; rfl; rfl; exact zai rfl; exact zad rfl; (first | assumption | exact zq0 | exact zq1 | rfl | exact (Int.toNat_of_nonneg (by omega)).symm); omega) | (apply zah; rfl; rfl; rfl; rfl; exact zal rfl; (focus repeat' first | exact zaa | assumption | apply zab); (first | exact zag (by omega) | rfl | assumption)) | (apply zap; rfl; rfl; rfl; rfl; exact zaE rfl; (focus repeat' first | exact zaa | assumption | apply zab); (first | exact Nat.le_of_ble_eq_true rfl | (rw [zaA]; omega) | (simp; done) | (simp; omega) | (rw [zaf]; omega)); (first | exact zaz (by omega) | rfl)) | (apply zak; rfl; rfl; rfl; rfl; exact zad rfl; rfl; rfl; rfl) | (apply zaF; rfl; rfl; rfl; rfl; exact zad rfl; rfl; rfl) | (apply zaP; rfl; rfl; rfl; rfl; exact zad rfl; rfl; rfl) | (apply zaC; rfl; rfl; rfl; rfl; rfl; rfl; exact ih _ _ (by omega) (hT'.ext (by (focus repeat' first | exact Ext.refl _ | assumption | apply Ext.push | (refine Ext.trans ?_ (by assumption))))) (by omega); (rintro _ _ ⟨rfl, _⟩)) | fail))
      refine ⟨.inr rfl, _, rfl, ?_, by (focus repeat' first | exact Ext.refl _ | assumption | apply Ext.push | (refine Ext.trans ?_ (by assumption)))⟩
      rw [setS, if_neg (fun y => h2 y.1)]; rfl
theorem zj8 (hK : NoK K) {l m : List Int} {p q : Option Addr} {cap cap' : Nat} {h : Heap} (hn : l.length ≤ 1000) (_hm : m.length ≤ 1000) (hr : Rd h p (ints l)) (hq : Rd h q (ints m)) :
    CallW Tryz.prog K 21 #[.slice p l.length cap, .slice q m.length cap'] h (IfB (l = m) h) := by
  refine body (N := 26) Tryz.func21 rfl (hK _ _ _ rfl) rfl rfl ?_
  by_cases hl : l.length = m.length
  · (repeat' (first | apply zau | apply zac | (apply O_at; rfl) | (apply N_at; rfl) | (apply zat; rfl) | apply zav | (apply zaL; rfl) | (apply zaK; rfl) | (apply zaS; exact zao (by decide +kernel)) | apply zar | apply zam | apply zaM | apply zaJ | (apply zaI; rfl; exact (.inl (Nat.le_refl 1))) | (apply zaI; rfl; refine .inr ?_; (focus repeat' first | exact trivial | apply And.intro | rfl)) | apply zaN | apply zbE | apply zbs | apply zaO | apply zax | apply zay | apply zaj | apply zaw | ((first | apply zan | apply zae | apply za2); rfl; rfl; rfl; rfl) | (apply zaZ; rfl; rfl; rfl; rfl; rfl; rfl; exact zai rfl) | (apply zaU; rfl; rfl; rfl; rfl; rfl; omega) | (apply zaT; rfl; rfl; rfl; rfl; rfl; omega) | (apply zdN; rfl; rfl; rfl; rfl; rfl; omega) | (apply zdM; rfl; rfl; rfl; rfl; rfl; omega) | (apply za0; rfl; rfl; rfl; rfl; rfl; (unfold fit; omega)) | (apply M_neq; rfl; rfl; rfl; rfl; rfl; all_goals intro _) | (apply zbx; rfl; rfl; rfl; rfl; rfl; exact zai rfl; exact zad rfl; (first | assumption | rfl | exact (Int.toNat_of_nonneg (by omega)).symm); omega) | (((apply zaR; rfl; rfl; rfl; rfl; exact zal rfl; exact zaq (by decide +kernel)); (focus repeat' first | assumption | (apply Ext.get; assumption)); (first | exact zag (by omega) | rfl | assumption)); (first | assumption | exact zas _ _ | rfl | (focus simp [same, same.all2]; done)); (first | rfl | assumption | exact hwv _ | (simp [within]; omega))) | fail))
    refine zbG (fun k : Nat => [(0, .slice p l.length cap), (1, .slice q m.length cap'), (5, .int .i64 (k : Nat))])
      (fun k h' => k ≤ l.length ∧ Ext h h' ∧ ∀ j, j < k → l.getD j 0 = m.getD j 0) (fun k => l.length - k) ?_ 0 ?_ ?_
    · intro k h' ⟨hk, hx, hj⟩ ih
      by_cases hlt : k < l.length
      · obtain ⟨b, e, own', rfl, hg⟩ := hr.at (by rw [zaf]; omega)
        obtain ⟨b2, e2, own2, rfl, hg2⟩ := hq.at (by rw [zaf]; omega)
        (repeat' (first | apply zau | apply zac | (apply O_at; rfl) | (apply N_at; rfl) | (apply zat; rfl) | apply zav | (apply zaL; rfl) | (apply zaK; rfl) | (apply zaS; exact zao (by decide +kernel)) | apply zar | apply zam | apply zaM | apply zaJ | (apply zaI; rfl; exact (.inl (Nat.le_refl 1))) | (apply zaI; rfl; refine .inr ?_; (focus repeat' first | exact trivial | apply And.intro | rfl)) | apply zaN | apply zbE | apply zbs | apply zaO | apply zax | apply zay | apply zaj | apply zaw | ((first | apply zan | apply zae | apply za2); rfl; rfl; rfl; rfl) | (apply zaZ; rfl; rfl; rfl; rfl; rfl; rfl; exact zai rfl) | (apply zaU; rfl; rfl; rfl; rfl; rfl; omega) | (apply zaT; rfl; rfl; rfl; rfl; rfl; omega) | (apply zdN; rfl; rfl; rfl; rfl; rfl; omega) | (apply zdM; rfl; rfl; rfl; rfl; rfl; omega) | (apply za0; rfl; rfl; rfl; rfl; rfl; (unfold fit; omega)) | (apply M_neq; rfl; rfl; rfl; rfl; rfl; all_goals intro _) | (apply zbx; rfl; rfl; rfl; rfl; rfl; exact zai rfl; exact zad rfl; (first | assumption | rfl | exact (Int.toNat_of_nonneg (by omega)).symm); omega) | (((apply zaR; rfl; rfl; rfl; rfl; exact zal rfl; exact zaq (by decide +kernel)); (focus repeat' first | assumption | (apply Ext.get; assumption)); (first | exact zag (by omega) | rfl | assumption)); (first | assumption | exact zas _ _ | rfl | (focus simp [same, same.all2]; done)); (first | rfl | assumption | exact hwv _ | (simp [within]; omega))) | fail))
        · rename_i w
          exact ⟨.inr rfl, _, rfl, .inr ⟨rfl, fun z => w (by rw [z]), by (focus repeat' first | exact Ext.refl _ | assumption)⟩⟩
        · rename_i w
          refine zbH (ih (k + 1) _ ?_ ⟨hlt, ?_, fun j hj' => ?_⟩) ?_
          · omega
          · (focus repeat' first | exact Ext.refl _ | assumption)
          · by_cases hjk : j = k
            · subst hjk; exact w
            · exact hj j (by omega)
          · (focus repeat' first | rfl | exact trivial | apply And.intro)
      · (repeat' (first | apply zau | apply zac | (apply O_at; rfl) | (apply N_at; rfl) | (apply zat; rfl) | apply zav | (apply zaL; rfl) | (apply zaK; rfl) | (apply zaS; exact zao (by decide +kernel)) | apply zar | apply zam | apply zaM | apply zaJ | (apply zaI; rfl; exact (.inl (Nat.le_refl 1))) | (apply zaI; rfl; refine .inr ?_; (focus repeat' first | exact trivial | apply And.intro | rfl)) | apply zaN | apply zbE | apply zbs | apply zaO | apply zax | apply zay | apply zaj | apply zaw | ((first | apply zan | apply zae | apply za2); rfl; rfl; rfl; rfl) | (apply zaZ; rfl; rfl; rfl; rfl; rfl; rfl; exact zai rfl) | (apply zaU; rfl; rfl; rfl; rfl; rfl; omega) | (apply zaT; rfl; rfl; rfl; rfl; rfl; omega) | (apply zdN; rfl; rfl; rfl; rfl; rfl; omega) | (apply zdM; rfl; rfl; rfl; rfl; rfl; omega) | (apply za0; rfl; rfl; rfl; rfl; rfl; (unfold fit; omega)) | (apply M_neq; rfl; rfl; rfl; rfl; rfl; all_goals intro _) | (apply zbx; rfl; rfl; rfl; rfl; rfl; exact zai rfl; exact zad rfl; (first | assumption | rfl | exact (Int.toNat_of_nonneg (by omega)).symm); omega) | (((apply zaR; rfl; rfl; rfl; rfl; exact zal rfl; exact zaq (by decide +kernel)); (focus repeat' first | assumption | (apply Ext.get; assumption)); (first | exact zag (by omega) | rfl | assumption)); (first | assumption | exact zas _ _ | rfl | (focus simp [same, same.all2]; done)); (first | rfl | assumption | exact hwv _ | (simp [within]; omega))) | fail))
        refine ⟨.inr rfl, _, rfl, .inl ⟨rfl, ?_, by (focus repeat' first | exact Ext.refl _ | assumption)⟩⟩
        apply List.ext_getElem hl
        intro j h1 h2
        have := hj j (by omega)
        simpa [h1, h2] using this
    · exact ⟨Nat.zero_le _, Ext.refl _, fun j hj => by omega⟩
    · (focus repeat' first | rfl | exact trivial | apply And.intro)
  · (repeat' (first | apply zau | apply zac | (apply O_at; rfl) | (apply N_at; rfl) | (apply zat; rfl) | apply zav | (apply zaL; rfl) | (apply zaK; rfl) | (apply zaS; exact zao (by decide +kernel)) | apply zar | apply zam | apply zaM | apply zaJ | (apply zaI; rfl; exact (.inl (Nat.le_refl 1))) | (apply zaI; rfl; refine .inr ?_; (focus repeat' first | exact trivial | apply And.intro | rfl)) | apply zaN | apply zbE | apply zbs | apply zaO | apply zax | apply zay | apply zaj | apply zaw | ((first | apply zan | apply zae | apply za2); rfl; rfl; rfl; rfl) | (apply zaZ; rfl; rfl; rfl; rfl; rfl; rfl; exact zai rfl) | (apply zaU; rfl; rfl; rfl; rfl; rfl; omega) | (apply zaT; rfl; rfl; rfl; rfl; rfl; omega) | (apply zdN; rfl; rfl; rfl; rfl; rfl; omega) | (apply zdM; rfl; rfl; rfl; rfl; rfl; omega) | (apply za0; rfl; rfl; rfl; rfl; rfl; (unfold fit; omega)) | (apply M_neq; rfl; rfl; rfl; rfl; rfl; all_goals intro _) | (apply zbx; rfl; rfl; rfl; rfl; rfl; exact zai rfl; exact zad rfl; (first | assumption | rfl | exact (Int.toNat_of_nonneg (by omega)).symm); omega) | (((apply zaR; rfl; rfl; rfl; rfl; exact zal rfl; exact zaq (by decide +kernel)); (focus repeat' first | assumption | (apply Ext.get; assumption)); (first | exact zag (by omega) | rfl | assumption)); (first | assumption | exact zas _ _ | rfl | (focus simp [same, same.all2]; done)); (first | rfl | assumption | exact hwv _ | (simp [within]; omega))) | fail))
    exact ⟨.inr rfl, _, rfl, .inr ⟨rfl, fun q => hl (by rw [q]), by (focus repeat' first | exact Ext.refl _ | assumption)⟩⟩
end Go.AX.Sa
