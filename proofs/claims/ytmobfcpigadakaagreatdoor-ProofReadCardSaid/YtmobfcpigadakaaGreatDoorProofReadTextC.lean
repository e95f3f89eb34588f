/- The law ProofRead at the reading: what the functions that it calls answer (3). -/
import Derived.Test.YtmobfcpigadakaaGreatDoorProofReadTextB
namespace Go.AX.Sa
open Go.Proofs
set_option maxRecDepth 100000
variable {K : Known}
/-- What an entry makes of what stands. -/
structure StL (G : Pg) (L : List Ent) (s bn bs r : Nat) (h : Heap) : Prop where
 st : ∃ f, StB G (zeR G L) (zeM G L) f s bn bs r h ∧ ∀ q : Int × Int, 0 ≤ q.2 → q.2 < G.people → f q = hrdF L q
theorem zms (hK : NoK K) {G : Pg} {L : List Ent} {s bn bs r : Nat} {c : Cop} {h : Heap} (hS : StL G L s bn bs r h) (hns : bn ≠ bs) (hp : 2 ≤ G.people ∧ G.people ≤ 6) (hn : G.n ≤ 1000) (hc : RowIn c.r h) (hP : EntP G.people G.n (ent c)) (hN : ∀ j, j < G.n → NumP (numA G L j)) :
  CallW Tryz.prog K 105 #[.pointer (some ⟨s, 0, none⟩), enV c] h (fun _ h1 => StL G (L ++ [ent c]) s bn bs r h1 ∧ Keep3 bn bs r h h1) := by
 obtain ⟨f, hS, hf⟩ := hS
 have hcb := hc.b
 have hP' := hP
 obtain ⟨par, ⟨q, k, t⟩⟩ := c
 dsimp only [enV, ent] at hP hcb ⊢
 refine body (N := 14) Tryz.func105 rfl (hK _ _ _ rfl) rfl rfl ?_
 rcases ent0 hP with h1 | h1 | h1
 ·dsimp only at h1
  subst h1
  (repeat' (first | apply zaC | apply zac | (apply O_at; rfl) | (apply N_at; rfl) | (apply zaB; rfl) | apply zaD | (apply zaT; exact zam (by decide +kernel)) | (apply zay; rfl; exact (.inl (Nat.le_refl 1))) | (apply zay; rfl; refine .inr ?_; (focus repeat' first | exact trivial | apply And.intro | rfl)) | apply zaE | (apply zaF; rfl; rfl; rfl; rfl; exact zae rfl; rfl; rfl; rfl) | (apply zdb; rfl; rfl; rfl; rfl) | (apply zaQ; rfl; rfl; rfl; rfl; exact zae rfl; rfl; rfl) | (apply za5; rfl; rfl; rfl; rfl; exact zae rfl; rfl; rfl) | (apply zbb; rfl; rfl; rfl; rfl) | (apply M_fa; rfl; rfl; rfl; rfl; exact zaL rfl; (first | exact Nat.zero_add _ | exact Nat.add_zero _ | rfl)) | (apply zd1; rfl; rfl; rfl; rfl; rfl; (unfold fit; omega)) | ((first | ((apply zaH; rfl; rfl; rfl; rfl; exact zao rfl; exact zaj (by decide +kernel)); (focus repeat' first | exact zaa | assumption | apply zab); (first | rfl | assumption)) | ((apply zbs; rfl; rfl; rfl; rfl; exact zaA rfl; exact zaj (by decide +kernel)); (focus repeat' first | exact zaa | assumption | apply zab); (first | exact Nat.le_of_ble_eq_true rfl | (simp; done) | (simp; omega)); rfl)); (first | assumption | exact zaq _ _ | exact zch _ _ _ _ | rfl | (focus simp [same, same.all2]; done)); (first | rfl | assumption | exact hwv _ | exact zbi (by assumption) (by (focus repeat' first | exact Ext.refl _ | assumption | apply Ext.push)) | (simp [within]; omega))) | (apply zh6; rfl; rfl; rfl; rfl; rfl; exact znQ rfl; exact zae rfl; (first | assumption | exact zq0 | exact zq1 | exact zq2 | rfl | exact (Int.toNat_of_nonneg (by omega)).symm); omega) | fail))
  apply za7; rfl; rfl; rfl; rfl; rfl; rfl; rfl; exact read_ok hK (c := ⟨1, ⟨q, k, t⟩⟩) (hS.ext (by (focus repeat' first | exact Ext.refl _ | assumption | apply Ext.push))) hns hn (hc.ext (by (focus repeat' first | exact Ext.refl _ | assumption | apply Ext.push))) hP' rfl
  rintro _ h2 ⟨S2, k2⟩
  (repeat' (first | apply zaC | apply zac | (apply O_at; rfl) | (apply N_at; rfl) | (apply zaB; rfl) | apply zaD | (apply zaT; exact zam (by decide +kernel)) | (apply zay; rfl; exact (.inl (Nat.le_refl 1))) | (apply zay; rfl; refine .inr ?_; (focus repeat' first | exact trivial | apply And.intro | rfl)) | apply zaE | (apply zaF; rfl; rfl; rfl; rfl; exact zae rfl; rfl; rfl; rfl) | (apply zdb; rfl; rfl; rfl; rfl) | (apply zaQ; rfl; rfl; rfl; rfl; exact zae rfl; rfl; rfl) | (apply za5; rfl; rfl; rfl; rfl; exact zae rfl; rfl; rfl) | (apply zbb; rfl; rfl; rfl; rfl) | (apply M_fa; rfl; rfl; rfl; rfl; exact zaL rfl; (first | exact Nat.zero_add _ | exact Nat.add_zero _ | rfl)) | (apply zd1; rfl; rfl; rfl; rfl; rfl; (unfold fit; omega)) | ((first | ((apply zaH; rfl; rfl; rfl; rfl; exact zao rfl; exact zaj (by decide +kernel)); (focus repeat' first | exact zaa | assumption | apply zab); (first | rfl | assumption)) | ((apply zbs; rfl; rfl; rfl; rfl; exact zaA rfl; exact zaj (by decide +kernel)); (focus repeat' first | exact zaa | assumption | apply zab); (first | exact Nat.le_of_ble_eq_true rfl | (simp; done) | (simp; omega)); rfl)); (first | assumption | exact zaq _ _ | exact zch _ _ _ _ | rfl | (focus simp [same, same.all2]; done)); (first | rfl | assumption | exact hwv _ | exact zbi (by assumption) (by (focus repeat' first | exact Ext.refl _ | assumption | apply Ext.push)) | (simp [within]; omega))) | (apply zh6; rfl; rfl; rfl; rfl; rfl; exact znQ rfl; exact zae rfl; (first | assumption | exact zq0 | exact zq1 | exact zq2 | rfl | exact (Int.toNat_of_nonneg (by omega)).symm); omega) | fail))
  refine ⟨.inl rfl, _, rfl, ⟨_, by rw [zoX rfl, zhP (by simp)]; exact S2, fun y y0 y1 => ?_⟩, (Keep3.of (by (focus repeat' first | exact Ext.refl _ | assumption | apply Ext.push))).trans k2⟩
  rw [zef, hrdS, if_neg (fun u => u.elim (fun w => absurd w.1 (by simp)) fun w => absurd w.1 (by simp))]
  unfold readF
  rw [hf y y0 y1]
  simp only [rdL_mem, ent]
 ·dsimp only at h1
  subst h1
  have z := ent2.1 hP
  obtain ⟨j, hj⟩ : ∃ j : Nat, t.getD 1 0 = (j : Nat) := ⟨(t.getD 1 0).toNat, by omega⟩
  have hjn : j < G.n := by omega
  (repeat' (first | apply zaC | apply zac | (apply O_at; rfl) | (apply N_at; rfl) | (apply zaB; rfl) | apply zaD | (apply zaT; exact zam (by decide +kernel)) | (apply zay; rfl; exact (.inl (Nat.le_refl 1))) | (apply zay; rfl; refine .inr ?_; (focus repeat' first | exact trivial | apply And.intro | rfl)) | apply zaE | (apply zaF; rfl; rfl; rfl; rfl; exact zae rfl; rfl; rfl; rfl) | (apply zdb; rfl; rfl; rfl; rfl) | (apply zaQ; rfl; rfl; rfl; rfl; exact zae rfl; rfl; rfl) | (apply za5; rfl; rfl; rfl; rfl; exact zae rfl; rfl; rfl) | (apply zbb; rfl; rfl; rfl; rfl) | (apply M_fa; rfl; rfl; rfl; rfl; exact zaL rfl; (first | exact Nat.zero_add _ | exact Nat.add_zero _ | rfl)) | (apply zd1; rfl; rfl; rfl; rfl; rfl; (unfold fit; omega)) | ((first | ((apply zaH; rfl; rfl; rfl; rfl; exact zao rfl; exact zaj (by decide +kernel)); (focus repeat' first | exact zaa | assumption | apply zab); (first | rfl | assumption)) | ((apply zbs; rfl; rfl; rfl; rfl; exact zaA rfl; exact zaj (by decide +kernel)); (focus repeat' first | exact zaa | assumption | apply zab); (first | exact Nat.le_of_ble_eq_true rfl | (simp; done) | (simp; omega)); rfl)); (first | assumption | exact zaq _ _ | exact zch _ _ _ _ | rfl | (focus simp [same, same.all2]; done)); (first | rfl | assumption | exact hwv _ | exact zbi (by assumption) (by (focus repeat' first | exact Ext.refl _ | assumption | apply Ext.push)) | (simp [within]; omega))) | (apply zh6; rfl; rfl; rfl; rfl; rfl; exact znQ rfl; exact zae rfl; (first | assumption | exact zq0 | exact zq1 | exact zq2 | rfl | exact (Int.toNat_of_nonneg (by omega)).symm); omega) | fail))
  apply za7; rfl; rfl; rfl; rfl; rfl; rfl; rfl; exact mend_ok hK (c := ⟨2, ⟨q, k, t⟩⟩) (hS.ext (by (focus repeat' first | exact Ext.refl _ | assumption | apply Ext.push))) hns hp hn (hc.ext (by (focus repeat' first | exact Ext.refl _ | assumption | apply Ext.push))) z.1 hj hjn
  rintro _ h2 ⟨S2, k2⟩
  (repeat' (first | apply zaC | apply zac | (apply O_at; rfl) | (apply N_at; rfl) | (apply zaB; rfl) | apply zaD | (apply zaT; exact zam (by decide +kernel)) | (apply zay; rfl; exact (.inl (Nat.le_refl 1))) | (apply zay; rfl; refine .inr ?_; (focus repeat' first | exact trivial | apply And.intro | rfl)) | apply zaE | (apply zaF; rfl; rfl; rfl; rfl; exact zae rfl; rfl; rfl; rfl) | (apply zdb; rfl; rfl; rfl; rfl) | (apply zaQ; rfl; rfl; rfl; rfl; exact zae rfl; rfl; rfl) | (apply za5; rfl; rfl; rfl; rfl; exact zae rfl; rfl; rfl) | (apply zbb; rfl; rfl; rfl; rfl) | (apply M_fa; rfl; rfl; rfl; rfl; exact zaL rfl; (first | exact Nat.zero_add _ | exact Nat.add_zero _ | rfl)) | (apply zd1; rfl; rfl; rfl; rfl; rfl; (unfold fit; omega)) | ((first | ((apply zaH; rfl; rfl; rfl; rfl; exact zao rfl; exact zaj (by decide +kernel)); (focus repeat' first | exact zaa | assumption | apply zab); (first | rfl | assumption)) | ((apply zbs; rfl; rfl; rfl; rfl; exact zaA rfl; exact zaj (by decide +kernel)); (focus repeat' first | exact zaa | assumption | apply zab); (first | exact Nat.le_of_ble_eq_true rfl | (simp; done) | (simp; omega)); rfl)); (first | assumption | exact zaq _ _ | exact zch _ _ _ _ | rfl | (focus simp [same, same.all2]; done)); (first | rfl | assumption | exact hwv _ | exact zbi (by assumption) (by (focus repeat' first | exact Ext.refl _ | assumption | apply Ext.push)) | (simp [within]; omega))) | (apply zh6; rfl; rfl; rfl; rfl; rfl; exact znQ rfl; exact zae rfl; (first | assumption | exact zq0 | exact zq1 | exact zq2 | rfl | exact (Int.toNat_of_nonneg (by omega)).symm); omega) | fail))
  refine ⟨.inl rfl, _, rfl, ⟨_, by rw [zoY (e := (2, t)) rfl hj hjn, zoi (e := (2, t)) rfl hj hjn]; exact S2, fun y y0 y1 => ?_⟩, (Keep3.of (by (focus repeat' first | exact Ext.refl _ | assumption | apply Ext.push))).trans k2⟩
  rw [zef, hrdS]
  unfold zeH
  by_cases hy : y.1 = (j : Nat)
  ·rw [if_pos ⟨hy, y0, y1⟩, if_pos (.inl ⟨rfl, hj.trans hy.symm⟩)]
  ·rw [if_neg (fun w => hy w.1), if_neg (fun u => u.elim (fun w => hy (w.2.symm.trans hj)) fun w => absurd w.1 (by simp)), if_neg (fun w => absurd w.1.1 (by simp))]
   exact hf y y0 y1
 ·dsimp only at h1
  subst h1
  have z := ent3.1 hP
  obtain ⟨j, hj⟩ : ∃ j : Nat, t.getD 0 0 = (j : Nat) := ⟨(t.getD 0 0).toNat, by omega⟩
  have hjn : j < G.n := by omega
  (repeat' (first | apply zaC | apply zac | (apply O_at; rfl) | (apply N_at; rfl) | (apply zaB; rfl) | apply zaD | (apply zaT; exact zam (by decide +kernel)) | (apply zay; rfl; exact (.inl (Nat.le_refl 1))) | (apply zay; rfl; refine .inr ?_; (focus repeat' first | exact trivial | apply And.intro | rfl)) | apply zaE | (apply zaF; rfl; rfl; rfl; rfl; exact zae rfl; rfl; rfl; rfl) | (apply zdb; rfl; rfl; rfl; rfl) | (apply zaQ; rfl; rfl; rfl; rfl; exact zae rfl; rfl; rfl) | (apply za5; rfl; rfl; rfl; rfl; exact zae rfl; rfl; rfl) | (apply zbb; rfl; rfl; rfl; rfl) | (apply M_fa; rfl; rfl; rfl; rfl; exact zaL rfl; (first | exact Nat.zero_add _ | exact Nat.add_zero _ | rfl)) | (apply zd1; rfl; rfl; rfl; rfl; rfl; (unfold fit; omega)) | ((first | ((apply zaH; rfl; rfl; rfl; rfl; exact zao rfl; exact zaj (by decide +kernel)); (focus repeat' first | exact zaa | assumption | apply zab); (first | rfl | assumption)) | ((apply zbs; rfl; rfl; rfl; rfl; exact zaA rfl; exact zaj (by decide +kernel)); (focus repeat' first | exact zaa | assumption | apply zab); (first | exact Nat.le_of_ble_eq_true rfl | (simp; done) | (simp; omega)); rfl)); (first | assumption | exact zaq _ _ | exact zch _ _ _ _ | rfl | (focus simp [same, same.all2]; done)); (first | rfl | assumption | exact hwv _ | exact zbi (by assumption) (by (focus repeat' first | exact Ext.refl _ | assumption | apply Ext.push)) | (simp [within]; omega))) | (apply zh6; rfl; rfl; rfl; rfl; rfl; exact znQ rfl; exact zae rfl; (first | assumption | exact zq0 | exact zq1 | exact zq2 | rfl | exact (Int.toNat_of_nonneg (by omega)).symm); omega) | fail))
  apply za7; rfl; rfl; rfl; rfl; rfl; rfl; rfl; exact fall_ok hK (c := ⟨3, ⟨q, k, t⟩⟩) (hS.ext (by (focus repeat' first | exact Ext.refl _ | assumption | apply Ext.push))) hns hp hn (hc.ext (by (focus repeat' first | exact Ext.refl _ | assumption | apply Ext.push))) z.1 hj hjn (by rw [zet hjn]; exact hN j hjn)
  rintro _ h2 ⟨S2, k2⟩
  rw [zet hjn] at S2
  (repeat' (first | apply zaC | apply zac | (apply O_at; rfl) | (apply N_at; rfl) | (apply zaB; rfl) | apply zaD | (apply zaT; exact zam (by decide +kernel)) | (apply zay; rfl; exact (.inl (Nat.le_refl 1))) | (apply zay; rfl; refine .inr ?_; (focus repeat' first | exact trivial | apply And.intro | rfl)) | apply zaE | (apply zaF; rfl; rfl; rfl; rfl; exact zae rfl; rfl; rfl; rfl) | (apply zdb; rfl; rfl; rfl; rfl) | (apply zaQ; rfl; rfl; rfl; rfl; exact zae rfl; rfl; rfl) | (apply za5; rfl; rfl; rfl; rfl; exact zae rfl; rfl; rfl) | (apply zbb; rfl; rfl; rfl; rfl) | (apply M_fa; rfl; rfl; rfl; rfl; exact zaL rfl; (first | exact Nat.zero_add _ | exact Nat.add_zero _ | rfl)) | (apply zd1; rfl; rfl; rfl; rfl; rfl; (unfold fit; omega)) | ((first | ((apply zaH; rfl; rfl; rfl; rfl; exact zao rfl; exact zaj (by decide +kernel)); (focus repeat' first | exact zaa | assumption | apply zab); (first | rfl | assumption)) | ((apply zbs; rfl; rfl; rfl; rfl; exact zaA rfl; exact zaj (by decide +kernel)); (focus repeat' first | exact zaa | assumption | apply zab); (first | exact Nat.le_of_ble_eq_true rfl | (simp; done) | (simp; omega)); rfl)); (first | assumption | exact zaq _ _ | exact zch _ _ _ _ | rfl | (focus simp [same, same.all2]; done)); (first | rfl | assumption | exact hwv _ | exact zbi (by assumption) (by (focus repeat' first | exact Ext.refl _ | assumption | apply Ext.push)) | (simp [within]; omega))) | (apply zh6; rfl; rfl; rfl; rfl; rfl; exact znQ rfl; exact zae rfl; (first | assumption | exact zq0 | exact zq1 | exact zq2 | rfl | exact (Int.toNat_of_nonneg (by omega)).symm); omega) | fail))
  refine ⟨.inl rfl, _, rfl, ⟨_, by rw [zoZ (e := (3, t)) rfl hj hjn, zhP (by simp)]; exact S2, fun y y0 y1 => ?_⟩, (Keep3.of (by (focus repeat' first | exact Ext.refl _ | assumption | apply Ext.push))).trans k2⟩
  rw [zef, hrdS]
  unfold zeH
  by_cases hy : y.1 = (j : Nat)
  ·rw [if_pos ⟨hy, y0, y1⟩, if_pos (.inr ⟨rfl, hj.trans hy.symm⟩)]
  ·rw [if_neg (fun w => hy w.1), if_neg (fun u => u.elim (fun w => absurd w.1 (by simp)) fun w => hy (w.2.symm.trans hj)), if_neg (fun w => absurd w.1.1 (by simp))]
   exact hf y y0 y1
end Go.AX.Sa

namespace Go.AX.Sa
open Go.Proofs
set_option maxRecDepth 100000
/-! Lists that grow beside each other. -/
/-- The value reads as this list and lies in this block alone. -/
def Own (h : Heap) (v : Value) (l : List Int) (b : Nat) : Prop := (v = .slice none 0 0 ∧ l = []) ∨ (l ≠ [] ∧ v = .slice (some ⟨b, 0, none⟩) l.length unk ∧ h.get? b = some (.cells (ints l) 3 true))
theorem Own.ext {h h1 : Heap} {v : Value} {l : List Int} {b : Nat} (o : Own h v l b) (x : Ext h h1) : Own h1 v l b := o.imp id fun q => ⟨q.1, q.2.1, x.get q.2.2⟩
theorem Own.but {h h1 : Heap} {v : Value} {l : List Int} {b c : Nat} (o : Own h v l b) (x : ExtBut c h h1) (hne : b ≠ c) : Own h1 v l b := o.imp id fun q => ⟨q.1, q.2.1, x.get hne q.2.2⟩
/-- What stays when a list in this block grows. -/
structure KeptX (l : List Int) (b : Nat) (h h1 : Heap) : Prop where
 n : h1.n = h.n + 1
 get' : ∀ c y, (l = [] ∨ c ≠ b) → h.get? c = some y → h1.get? c = some y
theorem Own.kept {h h1 : Heap} {v : Value} {l l' : List Int} {b b' : Nat} (o : Own h v l b) (x : KeptX l' b' h h1) (hne : l' = [] ∨ b ≠ b') : Own h1 v l b := by
 rcases o with o | ⟨o0, o1, o2⟩
 ·exact .inl o
 ·rcases hne with hn | hn
  ·exact .inr ⟨o0, o1, x.get' _ _ (.inl hn) o2⟩
  ·exact .inr ⟨o0, o1, x.get' _ _ (.inr hn) o2⟩
theorem Own.one {h : Heap} {v : Value} {l : List Int} {b : Nat} (o : Own h v l b) : oneB v = true ∧ v.cells = #[v] := by
 rcases o with ⟨rfl, _⟩ | ⟨_, rfl, _⟩ <;> exact ⟨rfl, rfl⟩
theorem Own.same {h : Heap} {v : Value} {l : List Int} {b : Nat} (o : Own h v l b) : AX.same 20 v v = true := by
 rcases o with ⟨rfl, _⟩ | ⟨_, rfl, _⟩ <;> simp [AX.same]
theorem Own.within {h : Heap} {v : Value} {l : List Int} {b : Nat} (o : Own h v l b) {m : Nat} (hm : h.n ≤ m) : AX.within 20 m v = true := by
 rcases o with ⟨rfl, _⟩ | ⟨_, rfl, g⟩
 ·rfl
 ·have := Heap.get_lt g
  simp [AX.within]; omega
section
variable {P : Program} {K : Known} {x : Ctx} {N : Nat} {E : Env} {h : Heap} {ops : Array Oper} {F : Ex → Env → Heap → Prop} {i : Nat} {Hs : List Heap} {L : List Heap → Prop} {nw : List (Nat × Nat × Blk)}
variable {d : Nat} {ty : TypeId} {pos : String} {af : Array Edge} {g : Option (Nat × Bool)}
theorem own_app {ts : Array TypeId} {t t' e' : TypeId} {by_ cap bv : Nat} {e0 : TypeId} {own : Bool} {n : Int} {v : Value} {l : List Int} (h0' : ts[0]? = some t) (h1' : ts[1]? = some t') (hc : cell1 P t = some 3) (hc' : P.underlying t' = some (.slice e'))
  (hy : h.get? by_ = some (.cells [.int .i64 n] e0 own)) (ho : Own h v l bv) (hle : l.length ≤ 10000) : ∃ v' h1, zbE P h ts v (.slice (some ⟨by_, 0, none⟩) 1 cap) = some (v', h1) ∧ Own h1 v' (l ++ [n]) h.n ∧ KeptX l bv h h1 := by
 rcases ho with ⟨rfl, rfl⟩ | ⟨hne0, rfl, h2⟩
 ·exact ⟨_, _, zpT h0' h1' hc hc' hy rfl (by omega) (by omega) rfl, .inr ⟨by simp, rfl, zaa⟩, ⟨rfl, fun _ _ _ g => zab g⟩⟩
 ·refine ⟨_, _, zpS h0' h1' hc hc' hy rfl (by omega) (by omega) rfl h2 (zag _), .inr ⟨by simp, by simp, ?_⟩, ⟨rfl, fun c y hne q => ?_⟩⟩
  ·have : (h.set bv .dead).n = h.n := rfl
   rw [← this, show ints (l ++ [n]) = ints l ++ [Value.int .i64 n] from (AX.ints_app l [n]).symm]
   exact zaa
  ·by_cases hb : c = bv
   ·subst hb
    rcases hne with hn | hn
    ·exact absurd hn hne0
    ·exact absurd rfl hn
   ·exact zab (zbl h2 hb q)
theorem zpU {args : Array Operand} {ts : Array TypeId} {t t' e' : TypeId} {a b : Operand} {by_ cap bv : Nat} {e0 : TypeId} {own : Bool} {n : Int} {v : Value} {l : List Int} (hN : Nat.blt d N = true) (hg : gval ops E g = some true) (hk : zal P ⟨some d, .call ⟨.builtin .append, args, ts⟩, ty, pos, af, g⟩ = true) (hargs : args.toList = [a, b])
  (ha : E.ev a = some v) (hb : E.ev b = some (.slice (some ⟨by_, 0, none⟩) 1 cap)) (h0' : ts[0]? = some t) (h1' : ts[1]? = some t') (hc : cell1 P t = some 3) (hc' : P.underlying t' = some (.slice e'))
  (hy : h.get? by_ = some (.cells [.int .i64 n] e0 own)) (ho : Own h v l bv) (hle : l.length ≤ 10000) (hnw : unseen (preds ops.toList) nw i = [])
  (k : ∀ v' h1, Own h1 v' (l ++ [n]) h.n → KeptX l bv h h1 → S1 P K x N ops F (i + 1) ((d, v') :: E) h1 (h1 :: Hs) L nw) : S2 P K x N ops F i ⟨some d, .call ⟨.builtin .append, args, ts⟩, ty, pos, af, g⟩ E h Hs L nw := by
 obtain ⟨v', h1, e, o, q⟩ := own_app (P := P) (e' := e') h0' h1' hc hc' hy ho hle
 exact zmO hN hg hk hargs ha hb e hnw (k v' h1 o q)
end
variable {K : Known}
def sets0 (G : Pg) (k : Nat) : List Int := (List.range k).map (sett G)
def setr0 (G : Pg) (k : Nat) : List Int := (List.range k).map (setr G)
theorem zm7 (G : Pg) (k : Nat) : sets0 G (k + 1) = sets0 G k ++ [sett G k] := by simp [sets0, List.range_succ]
theorem zm8 (G : Pg) (k : Nat) : setr0 G (k + 1) = setr0 G k ++ [setr G k] := by simp [setr0, List.range_succ]
theorem zgw (G : Pg) (k : Nat) : (sets0 G k).length = k := by simp [sets0]
theorem zgx (G : Pg) (k : Nat) : (setr0 G k).length = k := by simp [setr0]
theorem zpR (hK : NoK K) {G : Pg} {h : Heap} (hT : PgAt G h) (hn : 0 < G.n ∧ G.n ≤ 1000) :
  CallW Tryz.prog K 104 #[pgV G] h (fun v h1 => ∃ s bn bs r, v = .pointer (some ⟨s, 0, none⟩) ∧ StL G [] s bn bs r h1 ∧ bn ≠ bs ∧ (h.n ≤ s ∧ h.n ≤ bn ∧ h.n ≤ bs ∧ h.n ≤ r) ∧ Ext h h1) := by
 obtain ⟨people, pl, kl, n, l, p, kc, c'⟩ := G
 obtain ⟨len, rl, rc, each, hbl, hpb⟩ := hT
 dsimp only [pgV] at len rl rc each hbl hpb hn ⊢
 obtain ⟨b, e, own, rfl, hg⟩ := rl.at (by rw [zag]; omega)
 have hbl' := Heap.get_lt hg
 refine body (N := 41) Tryz.func104 rfl (hK _ _ _ rfl) rfl rfl ?_
 (repeat' (first | apply zaC | apply zac | (apply O_at; rfl) | (apply N_at; rfl) | (apply zaB; rfl) | apply zaD | (apply za3; rfl) | (apply za2; rfl) | (apply zaT; exact zam (by decide +kernel)) | apply zar | apply zaw | apply zaR | apply zaU | (apply zay; rfl; exact (.inl (Nat.le_refl 1))) | (apply zay; rfl; refine .inr ?_; (focus repeat' first | exact trivial | apply And.intro | rfl | (refine (List.forall_mem_cons (p := fun hk => MapB hk _ _)).2 ?_) | exact List.forall_mem_nil _ | (apply MapB.ext; assumption; (focus repeat' first | exact Ext.refl _ | assumption | apply Ext.push | (refine Ext.trans ?_ (by assumption)))) | (apply MapB.but; assumption; assumption; omega))) | apply zaS | apply zat | apply zau | apply zan | apply zaE | ((first | apply zas | apply zah | apply zbb); rfl; rfl; rfl; rfl) | ((first | apply P_fa | apply M_fa); rfl; rfl; rfl; rfl; exact zaL rfl; (first | exact Nat.zero_add _ | exact Nat.add_zero _ | rfl)) | (apply zbn; rfl; rfl; rfl; rfl; rfl; rfl; exact zap rfl) | (apply za0; rfl; rfl; rfl; rfl; rfl; omega) | (apply zaZ; rfl; rfl; rfl; rfl; rfl; omega) | (apply zbh; rfl; rfl; rfl; rfl; rfl; (unfold fit; omega)) | (apply zb1; rfl; rfl; rfl; rfl; rfl; exact zap rfl; exact zae rfl; (first | assumption | rfl | exact (Int.toNat_of_nonneg (by omega)).symm); omega) | (apply zak; rfl; rfl; rfl; rfl; exact zao rfl; (focus repeat' first | exact zaa | assumption | apply zab | (apply Ext.get; assumption) | (apply ExtBut.get; assumption; (first | assumption | omega | (simp only [Heap.push]; omega)))); (first | rfl | assumption)) | (apply zav; rfl; rfl; rfl; rfl; exact zaA rfl; (focus repeat' first | exact zaa | assumption | apply zab | (apply Ext.get; assumption) | (apply ExtBut.get; assumption; (first | assumption | omega | (simp only [Heap.push]; omega)))); (first | exact Nat.le_of_ble_eq_true rfl | (simp; done) | (simp; omega) | (rw [zag]; omega)); (first | exact zbk (by omega) | rfl)) | (apply zaF; rfl; rfl; rfl; rfl; exact zae rfl; rfl; rfl; rfl) | (apply zcO; rfl; rfl; rfl; rfl) | (apply zaQ; rfl; rfl; rfl; rfl; exact zae rfl; rfl; rfl) | (apply za5; rfl; rfl; rfl; rfl; exact zae rfl; rfl; rfl) | (apply zcN; rfl; rfl; rfl; (intro _ _ _ _)) | (apply zdS; rfl; rfl; rfl; rfl; rfl; rfl; rfl; exact zeX rfl) | (((apply zaH; rfl; rfl; rfl; rfl; exact zao rfl; exact zaj (by decide +kernel)); (focus repeat' first | exact zaa | assumption | apply zab | (apply Ext.get; assumption) | (apply ExtBut.get; assumption; (first | assumption | omega | (simp only [Heap.push]; omega)))); (first | rfl | assumption)); (first | assumption | exact zaq _ _ | rfl | (focus simp [same, same.all2]; done)); (first | rfl | assumption | exact hwv _ | (simp [within]; omega))) | (apply zlD; rfl; rfl; rfl; rfl) | fail))
 rename_i h1 m1 x1 e1
 have hs1 : h1.n = h.n + 2 := e1
 refine zcs (fun a : Nat × Value × Nat × Value × Nat => [(13, .int .i64 (a.1 : Nat)), (12, .int .i64 (n : Nat)), (11, .slice (some ⟨b, 0, none⟩) n kl), (3, .pointer (some ⟨h1.n, 0, none⟩)), (1, .pointer (some ⟨h.n, 0, none⟩))])
  (fun a h' => a.1 ≤ n ∧ Ext h h' ∧ h.n + 3 ≤ h'.n ∧ h'.get? h1.n = some (.cells [.int .i64 people, .slice (some ⟨b, 0, none⟩) n kl, .slice p c'.length kc, a.2.1, a.2.2.2.1, .map (some (h.n + 1))] 87 true) ∧
   Own h' a.2.1 (sets0 ⟨people, some ⟨b, 0, none⟩, kl, n, l, p, kc, c'⟩ a.1) a.2.2.1 ∧ Own h' a.2.2.2.1 (setr0 ⟨people, some ⟨b, 0, none⟩, kl, n, l, p, kc, c'⟩ a.1) a.2.2.2.2 ∧ MapB h' (h.n + 1) (fun _ => false) ∧
   (a.1 = 0 ∨ (a.2.2.1 ≠ a.2.2.2.2 ∧ h.n + 3 ≤ a.2.2.1 ∧ h.n + 3 ≤ a.2.2.2.2 ∧ a.2.2.1 < h'.n ∧ a.2.2.2.2 < h'.n))) (fun a => n - a.1) ?_ (0, (.slice none 0 0), 0, (.slice none 0 0), 0) ?_ ?_
 ·rintro ⟨k, vN, bN, vS, bS⟩ h' ⟨hk, hx, hn1, g1, oN, oS, m, hd⟩ ih
  dsimp only at hk hx hn1 g1 oN oS m hd ih ⊢
  by_cases hlt : k < n
  ·have hg' := hx.get hg
   have sN := oN.same
   have hwv : ∀ q, AX.within 20 (h'.push q).n vN = true := fun q => oN.within (Nat.le_succ _)
   (repeat' (first | apply zaC | apply zac | (apply O_at; rfl) | (apply N_at; rfl) | (apply zaB; rfl) | apply zaD | (apply za3; rfl) | (apply za2; rfl) | (apply zaT; exact zam (by decide +kernel)) | apply zar | apply zaw | apply zaR | apply zaU | (apply zay; rfl; exact (.inl (Nat.le_refl 1))) | (apply zay; rfl; refine .inr ?_; (focus repeat' first | exact trivial | apply And.intro | rfl | (refine (List.forall_mem_cons (p := fun hk => MapB hk _ _)).2 ?_) | exact List.forall_mem_nil _ | (apply MapB.ext; assumption; (focus repeat' first | exact Ext.refl _ | assumption | apply Ext.push | (refine Ext.trans ?_ (by assumption)))) | (apply MapB.but; assumption; assumption; omega))) | apply zaS | apply zat | apply zau | apply zan | apply zaE | ((first | apply zas | apply zah | apply zbb); rfl; rfl; rfl; rfl) | ((first | apply P_fa | apply M_fa); rfl; rfl; rfl; rfl; exact zaL rfl; (first | exact Nat.zero_add _ | exact Nat.add_zero _ | rfl)) | (apply zbn; rfl; rfl; rfl; rfl; rfl; rfl; exact zap rfl) | (apply za0; rfl; rfl; rfl; rfl; rfl; omega) | (apply zaZ; rfl; rfl; rfl; rfl; rfl; omega) | (apply zbh; rfl; rfl; rfl; rfl; rfl; (unfold fit; omega)) | (apply zb1; rfl; rfl; rfl; rfl; rfl; exact zap rfl; exact zae rfl; (first | assumption | rfl | exact (Int.toNat_of_nonneg (by omega)).symm); omega) | (apply zak; rfl; rfl; rfl; rfl; exact zao rfl; (focus repeat' first | exact zaa | assumption | apply zab | (apply Ext.get; assumption) | (apply ExtBut.get; assumption; (first | assumption | omega | (simp only [Heap.push]; omega)))); (first | rfl | assumption)) | (apply zav; rfl; rfl; rfl; rfl; exact zaA rfl; (focus repeat' first | exact zaa | assumption | apply zab | (apply Ext.get; assumption) | (apply ExtBut.get; assumption; (first | assumption | omega | (simp only [Heap.push]; omega)))); (first | exact Nat.le_of_ble_eq_true rfl | (simp; done) | (simp; omega) | (rw [zag]; omega)); (first | exact zbk (by omega) | rfl)) | (apply zaF; rfl; rfl; rfl; rfl; exact zae rfl; rfl; rfl; rfl) | (apply zcO; rfl; rfl; rfl; rfl) | (apply zaQ; rfl; rfl; rfl; rfl; exact zae rfl; rfl; rfl) | (apply za5; rfl; rfl; rfl; rfl; exact zae rfl; rfl; rfl) | (apply zcN; rfl; rfl; rfl; (intro _ _ _ _)) | (apply zdS; rfl; rfl; rfl; rfl; rfl; rfl; rfl; exact zeX rfl) | (((apply zaH; rfl; rfl; rfl; rfl; exact zao rfl; exact zaj (by decide +kernel)); (focus repeat' first | exact zaa | assumption | apply zab | (apply Ext.get; assumption) | (apply ExtBut.get; assumption; (first | assumption | omega | (simp only [Heap.push]; omega)))); (first | rfl | assumption)); (first | assumption | exact zaq _ _ | rfl | (focus simp [same, same.all2]; done)); (first | rfl | assumption | exact hwv _ | (simp [within]; omega))) | (apply zlD; rfl; rfl; rfl; rfl) | fail))
   apply zpU; rfl; rfl; rfl; rfl; rfl; rfl; rfl; rfl; exact zeX rfl; exact zap rfl; exact zaa; exact oN.ext (by (focus repeat' first | exact Ext.refl _ | assumption | apply Ext.push | (refine Ext.trans ?_ (by assumption)))); exact (by rw [zgw]; omega); rfl
   intro v2 h2 o2 k2
   have n2 : h2.n = h'.n + 3 := k2.n
   have nk : ∀ {c : Nat}, c < h.n + 3 → (sets0 ⟨people, some ⟨b, 0, none⟩, kl, n, l, p, kc, c'⟩ k = [] ∨ c ≠ bN) := fun hc => by
    rcases hd with rfl | hd
    ·exact .inl rfl
    ·exact .inr (by omega)
   have nS : sets0 ⟨people, some ⟨b, 0, none⟩, kl, n, l, p, kc, c'⟩ k = [] ∨ bS ≠ bN := by
    rcases hd with rfl | hd
    ·exact .inl rfl
    ·exact .inr (fun q => hd.1 q.symm)
   have old2 : ∀ {c y}, c < h.n + 3 → h'.get? c = some y → h2.get? c = some y := fun hc g => k2.get' _ _ (nk hc) (zab (zab g))
   have oS2 : Own h2 vS (setr0 ⟨people, some ⟨b, 0, none⟩, kl, n, l, p, kc, c'⟩ k) bS := (oS.ext (((Ext.refl h').push _).push _)).kept k2 nS
   have ln2 := k2.get' h'.n _ (by rcases hd with rfl | hd; exact .inl rfl; exact .inr (by omega)) (zab (zaa (h := h') (b := .cells (Value.agg #[.int .i64 (l.getD (k * 3) 0), .int .i64 (l.getD (k * 3 + 1) 0), .int .i64 (l.getD (k * 3 + 2) 0)]).cells.toList 92 true)))
   (repeat' (first | apply zaC | apply zac | (apply O_at; rfl) | (apply N_at; rfl) | (apply zaB; rfl) | apply zaD | (apply za3; rfl) | (apply za2; rfl) | (apply zaT; exact zam (by decide +kernel)) | apply zar | apply zaw | apply zaR | apply zaU | (apply zay; rfl; exact (.inl (Nat.le_refl 1))) | (apply zay; rfl; refine .inr ?_; (focus repeat' first | exact trivial | apply And.intro | rfl | (refine (List.forall_mem_cons (p := fun hk => MapB hk _ _)).2 ?_) | exact List.forall_mem_nil _ | (apply MapB.ext; assumption; (focus repeat' first | exact Ext.refl _ | assumption | apply Ext.push | (refine Ext.trans ?_ (by assumption)))) | (apply MapB.but; assumption; assumption; omega))) | apply zaS | apply zat | apply zau | apply zan | apply zaE | ((first | apply zas | apply zah | apply zbb); rfl; rfl; rfl; rfl) | ((first | apply P_fa | apply M_fa); rfl; rfl; rfl; rfl; exact zaL rfl; (first | exact Nat.zero_add _ | exact Nat.add_zero _ | rfl)) | (apply zbn; rfl; rfl; rfl; rfl; rfl; rfl; exact zap rfl) | (apply za0; rfl; rfl; rfl; rfl; rfl; omega) | (apply zaZ; rfl; rfl; rfl; rfl; rfl; omega) | (apply zbh; rfl; rfl; rfl; rfl; rfl; (unfold fit; omega)) | (apply zb1; rfl; rfl; rfl; rfl; rfl; exact zap rfl; exact zae rfl; (first | assumption | rfl | exact (Int.toNat_of_nonneg (by omega)).symm); omega) | (apply zak; rfl; rfl; rfl; rfl; exact zao rfl; (focus repeat' first | exact zaa | assumption | apply zab | (apply Ext.get; assumption) | (apply ExtBut.get; assumption; (first | assumption | omega | (simp only [Heap.push]; omega)))); (first | rfl | assumption)) | (apply zav; rfl; rfl; rfl; rfl; exact zaA rfl; (focus repeat' first | exact zaa | assumption | apply zab | (apply Ext.get; assumption) | (apply ExtBut.get; assumption; (first | assumption | omega | (simp only [Heap.push]; omega)))); (first | exact Nat.le_of_ble_eq_true rfl | (simp; done) | (simp; omega) | (rw [zag]; omega)); (first | exact zbk (by omega) | rfl)) | (apply zaF; rfl; rfl; rfl; rfl; exact zae rfl; rfl; rfl; rfl) | (apply zcO; rfl; rfl; rfl; rfl) | (apply zaQ; rfl; rfl; rfl; rfl; exact zae rfl; rfl; rfl) | (apply za5; rfl; rfl; rfl; rfl; exact zae rfl; rfl; rfl) | (apply zcN; rfl; rfl; rfl; (intro _ _ _ _)) | (apply zdS; rfl; rfl; rfl; rfl; rfl; rfl; rfl; exact zeX rfl) | (((apply zaH; rfl; rfl; rfl; rfl; exact zao rfl; exact zaj (by decide +kernel)); (focus repeat' first | exact zaa | assumption | apply zab | (apply Ext.get; assumption) | (apply ExtBut.get; assumption; (first | assumption | omega | (simp only [Heap.push]; omega)))); (first | rfl | assumption)); (first | assumption | exact zaq _ _ | rfl | (focus simp [same, same.all2]; done)); (first | rfl | assumption | exact hwv _ | (simp [within]; omega))) | (apply zlD; rfl; rfl; rfl; rfl) | fail))
   apply zmN (c' := [.int .i64 people, .slice (some ⟨b, 0, none⟩) n kl, .slice p c'.length kc, v2, vS, .map (some (h.n + 1))]); rfl; rfl; rfl; rfl; exact old2 (by omega) g1; exact zae rfl; (rw [o2.one.2]; rfl); exact Nat.le_of_ble_eq_true rfl; (rw [o2.one.2]; simp [o2.one.1]); (rw [o2.one.2]; rfl); rfl
   intro h3 g3 x3
   have n3 := x3.n
   have sS := oS.same
   have wS : AX.within 20 h3.n vS = true := oS2.within n3
   have ln3 := x3.get (show h'.n ≠ h1.n by omega) ln2
   (repeat' (first | apply zaC | apply zac | (apply O_at; rfl) | (apply N_at; rfl) | (apply zaB; rfl) | apply zaD | (apply za3; rfl) | (apply za2; rfl) | (apply zaT; exact zam (by decide +kernel)) | apply zar | apply zaw | apply zaR | apply zaU | (apply zay; rfl; exact (.inl (Nat.le_refl 1))) | (apply zay; rfl; refine .inr ?_; (focus repeat' first | exact trivial | apply And.intro | rfl | (refine (List.forall_mem_cons (p := fun hk => MapB hk _ _)).2 ?_) | exact List.forall_mem_nil _ | (apply MapB.ext; assumption; (focus repeat' first | exact Ext.refl _ | assumption | apply Ext.push | (refine Ext.trans ?_ (by assumption)))) | (apply MapB.but; assumption; assumption; omega))) | apply zaS | apply zat | apply zau | apply zan | apply zaE | ((first | apply zas | apply zah | apply zbb); rfl; rfl; rfl; rfl) | ((first | apply P_fa | apply M_fa); rfl; rfl; rfl; rfl; exact zaL rfl; (first | exact Nat.zero_add _ | exact Nat.add_zero _ | rfl)) | (apply zbn; rfl; rfl; rfl; rfl; rfl; rfl; exact zap rfl) | (apply za0; rfl; rfl; rfl; rfl; rfl; omega) | (apply zaZ; rfl; rfl; rfl; rfl; rfl; omega) | (apply zbh; rfl; rfl; rfl; rfl; rfl; (unfold fit; omega)) | (apply zb1; rfl; rfl; rfl; rfl; rfl; exact zap rfl; exact zae rfl; (first | assumption | rfl | exact (Int.toNat_of_nonneg (by omega)).symm); omega) | (apply zak; rfl; rfl; rfl; rfl; exact zao rfl; (focus repeat' first | exact zaa | assumption | apply zab | (apply Ext.get; assumption) | (apply ExtBut.get; assumption; (first | assumption | omega | (simp only [Heap.push]; omega)))); (first | rfl | assumption)) | (apply zav; rfl; rfl; rfl; rfl; exact zaA rfl; (focus repeat' first | exact zaa | assumption | apply zab | (apply Ext.get; assumption) | (apply ExtBut.get; assumption; (first | assumption | omega | (simp only [Heap.push]; omega)))); (first | exact Nat.le_of_ble_eq_true rfl | (simp; done) | (simp; omega) | (rw [zag]; omega)); (first | exact zbk (by omega) | rfl)) | (apply zaF; rfl; rfl; rfl; rfl; exact zae rfl; rfl; rfl; rfl) | (apply zcO; rfl; rfl; rfl; rfl) | (apply zaQ; rfl; rfl; rfl; rfl; exact zae rfl; rfl; rfl) | (apply za5; rfl; rfl; rfl; rfl; exact zae rfl; rfl; rfl) | (apply zcN; rfl; rfl; rfl; (intro _ _ _ _)) | (apply zdS; rfl; rfl; rfl; rfl; rfl; rfl; rfl; exact zeX rfl) | (((apply zaH; rfl; rfl; rfl; rfl; exact zao rfl; exact zaj (by decide +kernel)); (focus repeat' first | exact zaa | assumption | apply zab | (apply Ext.get; assumption) | (apply ExtBut.get; assumption; (first | assumption | omega | (simp only [Heap.push]; omega)))); (first | rfl | assumption)); (first | assumption | exact zaq _ _ | rfl | (focus simp [same, same.all2]; done)); (first | rfl | assumption | exact hwv _ | (simp [within]; omega))) | (apply zlD; rfl; rfl; rfl; rfl) | fail))
   have oS3 : Own h3 vS (setr0 ⟨people, some ⟨b, 0, none⟩, kl, n, l, p, kc, c'⟩ k) bS := by
    rcases hd with rfl | hd
    ·exact oS2.imp id fun q => absurd rfl q.1
    ·exact oS2.but x3 (by omega)
   apply zpU; rfl; rfl; rfl; rfl; rfl; rfl; rfl; rfl; exact zeX rfl; exact zap rfl; exact zaa; exact oS3.ext (by (focus repeat' first | exact Ext.refl _ | assumption | apply Ext.push | (refine Ext.trans ?_ (by assumption)))); exact (by rw [zgx]; omega); rfl
   intro v4 h4 o4 k4
   have n4 : h4.n = h3.n + 1 + 1 := by have := k4.n; exact this
   have hS : ∀ {c : Nat}, c < h.n + 3 ∨ h'.n ≤ c → (setr0 ⟨people, some ⟨b, 0, none⟩, kl, n, l, p, kc, c'⟩ k = [] ∨ c ≠ bS) := fun hc => by
    rcases hd with rfl | hd
    ·exact .inl rfl
    ·exact .inr (by omega)
   have g4 := k4.get' _ _ (hS (c := h1.n) (.inl (by omega))) (zab g3)
   (repeat' (first | apply zaC | apply zac | (apply O_at; rfl) | (apply N_at; rfl) | (apply zaB; rfl) | apply zaD | (apply za3; rfl) | (apply za2; rfl) | (apply zaT; exact zam (by decide +kernel)) | apply zar | apply zaw | apply zaR | apply zaU | (apply zay; rfl; exact (.inl (Nat.le_refl 1))) | (apply zay; rfl; refine .inr ?_; (focus repeat' first | exact trivial | apply And.intro | rfl | (refine (List.forall_mem_cons (p := fun hk => MapB hk _ _)).2 ?_) | exact List.forall_mem_nil _ | (apply MapB.ext; assumption; (focus repeat' first | exact Ext.refl _ | assumption | apply Ext.push | (refine Ext.trans ?_ (by assumption)))) | (apply MapB.but; assumption; assumption; omega))) | apply zaS | apply zat | apply zau | apply zan | apply zaE | ((first | apply zas | apply zah | apply zbb); rfl; rfl; rfl; rfl) | ((first | apply P_fa | apply M_fa); rfl; rfl; rfl; rfl; exact zaL rfl; (first | exact Nat.zero_add _ | exact Nat.add_zero _ | rfl)) | (apply zbn; rfl; rfl; rfl; rfl; rfl; rfl; exact zap rfl) | (apply za0; rfl; rfl; rfl; rfl; rfl; omega) | (apply zaZ; rfl; rfl; rfl; rfl; rfl; omega) | (apply zbh; rfl; rfl; rfl; rfl; rfl; (unfold fit; omega)) | (apply zb1; rfl; rfl; rfl; rfl; rfl; exact zap rfl; exact zae rfl; (first | assumption | rfl | exact (Int.toNat_of_nonneg (by omega)).symm); omega) | (apply zak; rfl; rfl; rfl; rfl; exact zao rfl; (focus repeat' first | exact zaa | assumption | apply zab | (apply Ext.get; assumption) | (apply ExtBut.get; assumption; (first | assumption | omega | (simp only [Heap.push]; omega)))); (first | rfl | assumption)) | (apply zav; rfl; rfl; rfl; rfl; exact zaA rfl; (focus repeat' first | exact zaa | assumption | apply zab | (apply Ext.get; assumption) | (apply ExtBut.get; assumption; (first | assumption | omega | (simp only [Heap.push]; omega)))); (first | exact Nat.le_of_ble_eq_true rfl | (simp; done) | (simp; omega) | (rw [zag]; omega)); (first | exact zbk (by omega) | rfl)) | (apply zaF; rfl; rfl; rfl; rfl; exact zae rfl; rfl; rfl; rfl) | (apply zcO; rfl; rfl; rfl; rfl) | (apply zaQ; rfl; rfl; rfl; rfl; exact zae rfl; rfl; rfl) | (apply za5; rfl; rfl; rfl; rfl; exact zae rfl; rfl; rfl) | (apply zcN; rfl; rfl; rfl; (intro _ _ _ _)) | (apply zdS; rfl; rfl; rfl; rfl; rfl; rfl; rfl; exact zeX rfl) | (((apply zaH; rfl; rfl; rfl; rfl; exact zao rfl; exact zaj (by decide +kernel)); (focus repeat' first | exact zaa | assumption | apply zab | (apply Ext.get; assumption) | (apply ExtBut.get; assumption; (first | assumption | omega | (simp only [Heap.push]; omega)))); (first | rfl | assumption)); (first | assumption | exact zaq _ _ | rfl | (focus simp [same, same.all2]; done)); (first | rfl | assumption | exact hwv _ | (simp [within]; omega))) | (apply zlD; rfl; rfl; rfl; rfl) | fail))
   apply zmN (c' := [.int .i64 people, .slice (some ⟨b, 0, none⟩) n kl, .slice p c'.length kc, v2, v4, .map (some (h.n + 1))]); rfl; rfl; rfl; rfl; exact g4; exact zae rfl; (rw [o4.one.2]; rfl); exact Nat.le_of_ble_eq_true rfl; (rw [o4.one.2]; simp [o4.one.1]); (rw [o4.one.2]; rfl); rfl
   intro h5 g5 x5
   have n5 := x5.n
   (repeat' (first | apply zaC | apply zac | (apply O_at; rfl) | (apply N_at; rfl) | (apply zaB; rfl) | apply zaD | (apply za3; rfl) | (apply za2; rfl) | (apply zaT; exact zam (by decide +kernel)) | apply zar | apply zaw | apply zaR | apply zaU | (apply zay; rfl; exact (.inl (Nat.le_refl 1))) | (apply zay; rfl; refine .inr ?_; (focus repeat' first | exact trivial | apply And.intro | rfl | (refine (List.forall_mem_cons (p := fun hk => MapB hk _ _)).2 ?_) | exact List.forall_mem_nil _ | (apply MapB.ext; assumption; (focus repeat' first | exact Ext.refl _ | assumption | apply Ext.push | (refine Ext.trans ?_ (by assumption)))) | (apply MapB.but; assumption; assumption; omega))) | apply zaS | apply zat | apply zau | apply zan | apply zaE | ((first | apply zas | apply zah | apply zbb); rfl; rfl; rfl; rfl) | ((first | apply P_fa | apply M_fa); rfl; rfl; rfl; rfl; exact zaL rfl; (first | exact Nat.zero_add _ | exact Nat.add_zero _ | rfl)) | (apply zbn; rfl; rfl; rfl; rfl; rfl; rfl; exact zap rfl) | (apply za0; rfl; rfl; rfl; rfl; rfl; omega) | (apply zaZ; rfl; rfl; rfl; rfl; rfl; omega) | (apply zbh; rfl; rfl; rfl; rfl; rfl; (unfold fit; omega)) | (apply zb1; rfl; rfl; rfl; rfl; rfl; exact zap rfl; exact zae rfl; (first | assumption | rfl | exact (Int.toNat_of_nonneg (by omega)).symm); omega) | (apply zak; rfl; rfl; rfl; rfl; exact zao rfl; (focus repeat' first | exact zaa | assumption | apply zab | (apply Ext.get; assumption) | (apply ExtBut.get; assumption; (first | assumption | omega | (simp only [Heap.push]; omega)))); (first | rfl | assumption)) | (apply zav; rfl; rfl; rfl; rfl; exact zaA rfl; (focus repeat' first | exact zaa | assumption | apply zab | (apply Ext.get; assumption) | (apply ExtBut.get; assumption; (first | assumption | omega | (simp only [Heap.push]; omega)))); (first | exact Nat.le_of_ble_eq_true rfl | (simp; done) | (simp; omega) | (rw [zag]; omega)); (first | exact zbk (by omega) | rfl)) | (apply zaF; rfl; rfl; rfl; rfl; exact zae rfl; rfl; rfl; rfl) | (apply zcO; rfl; rfl; rfl; rfl) | (apply zaQ; rfl; rfl; rfl; rfl; exact zae rfl; rfl; rfl) | (apply za5; rfl; rfl; rfl; rfl; exact zae rfl; rfl; rfl) | (apply zcN; rfl; rfl; rfl; (intro _ _ _ _)) | (apply zdS; rfl; rfl; rfl; rfl; rfl; rfl; rfl; exact zeX rfl) | (((apply zaH; rfl; rfl; rfl; rfl; exact zao rfl; exact zaj (by decide +kernel)); (focus repeat' first | exact zaa | assumption | apply zab | (apply Ext.get; assumption) | (apply ExtBut.get; assumption; (first | assumption | omega | (simp only [Heap.push]; omega)))); (first | rfl | assumption)); (first | assumption | exact zaq _ _ | rfl | (focus simp [same, same.all2]; done)); (first | rfl | assumption | exact hwv _ | (simp [within]; omega))) | (apply zlD; rfl; rfl; rfl; rfl) | fail))
   have al : ∀ {c : Nat} {y : Blk}, c < h.n + 3 → c ≠ h1.n → h'.get? c = some y → h5.get? c = some y := fun hc hne g =>
    x5.get hne (k4.get' _ _ (hS (.inl hc)) (zab (x3.get hne (old2 hc g))))
   refine zb8 (ih (k + 1, v2, h'.n + 2, v4, h3.n + 1) _ (by dsimp only; omega) ⟨hlt, ⟨?_, fun c y g => ?_⟩, by omega, g5, ?_, ?_, ?_, .inr ⟨by dsimp only; omega, by dsimp only; omega, by dsimp only; omega, by dsimp only; omega, by dsimp only; omega⟩⟩) (by (focus repeat' first | rfl | exact trivial | apply And.intro))
   ·have := hx.n; omega
   ·have := Heap.get_lt g
    exact al (by omega) (by omega) (hx.get g)
   ·rw [zm7]
    have o2' : Own h2 v2 (sets0 ⟨people, some ⟨b, 0, none⟩, kl, n, l, p, kc, c'⟩ k ++ [sett ⟨people, some ⟨b, 0, none⟩, kl, n, l, p, kc, c'⟩ k]) (h'.n + 2) := o2
    have q3 : Own h3 v2 (sets0 ⟨people, some ⟨b, 0, none⟩, kl, n, l, p, kc, c'⟩ k ++ [sett ⟨people, some ⟨b, 0, none⟩, kl, n, l, p, kc, c'⟩ k]) (h'.n + 2) := o2'.but x3 (by omega)
    exact ((q3.ext ((Ext.refl h3).push _)).kept k4 (hS (.inr (by omega)))).but x5 (by omega)
   ·rw [zm8]
    exact Own.but o4 x5 (by show h3.n + 1 ≠ h1.n; omega)
   ·exact m.keep fun q g => al (by omega) (by omega) g
  ·obtain rfl : k = n := by omega
   (repeat' (first | apply zaC | apply zac | (apply O_at; rfl) | (apply N_at; rfl) | (apply zaB; rfl) | apply zaD | (apply za3; rfl) | (apply za2; rfl) | (apply zaT; exact zam (by decide +kernel)) | apply zar | apply zaw | apply zaR | apply zaU | (apply zay; rfl; exact (.inl (Nat.le_refl 1))) | (apply zay; rfl; refine .inr ?_; (focus repeat' first | exact trivial | apply And.intro | rfl | (refine (List.forall_mem_cons (p := fun hk => MapB hk _ _)).2 ?_) | exact List.forall_mem_nil _ | (apply MapB.ext; assumption; (focus repeat' first | exact Ext.refl _ | assumption | apply Ext.push | (refine Ext.trans ?_ (by assumption)))) | (apply MapB.but; assumption; assumption; omega))) | apply zaS | apply zat | apply zau | apply zan | apply zaE | ((first | apply zas | apply zah | apply zbb); rfl; rfl; rfl; rfl) | ((first | apply P_fa | apply M_fa); rfl; rfl; rfl; rfl; exact zaL rfl; (first | exact Nat.zero_add _ | exact Nat.add_zero _ | rfl)) | (apply zbn; rfl; rfl; rfl; rfl; rfl; rfl; exact zap rfl) | (apply za0; rfl; rfl; rfl; rfl; rfl; omega) | (apply zaZ; rfl; rfl; rfl; rfl; rfl; omega) | (apply zbh; rfl; rfl; rfl; rfl; rfl; (unfold fit; omega)) | (apply zb1; rfl; rfl; rfl; rfl; rfl; exact zap rfl; exact zae rfl; (first | assumption | rfl | exact (Int.toNat_of_nonneg (by omega)).symm); omega) | (apply zak; rfl; rfl; rfl; rfl; exact zao rfl; (focus repeat' first | exact zaa | assumption | apply zab | (apply Ext.get; assumption) | (apply ExtBut.get; assumption; (first | assumption | omega | (simp only [Heap.push]; omega)))); (first | rfl | assumption)) | (apply zav; rfl; rfl; rfl; rfl; exact zaA rfl; (focus repeat' first | exact zaa | assumption | apply zab | (apply Ext.get; assumption) | (apply ExtBut.get; assumption; (first | assumption | omega | (simp only [Heap.push]; omega)))); (first | exact Nat.le_of_ble_eq_true rfl | (simp; done) | (simp; omega) | (rw [zag]; omega)); (first | exact zbk (by omega) | rfl)) | (apply zaF; rfl; rfl; rfl; rfl; exact zae rfl; rfl; rfl; rfl) | (apply zcO; rfl; rfl; rfl; rfl) | (apply zaQ; rfl; rfl; rfl; rfl; exact zae rfl; rfl; rfl) | (apply za5; rfl; rfl; rfl; rfl; exact zae rfl; rfl; rfl) | (apply zcN; rfl; rfl; rfl; (intro _ _ _ _)) | (apply zdS; rfl; rfl; rfl; rfl; rfl; rfl; rfl; exact zeX rfl) | (((apply zaH; rfl; rfl; rfl; rfl; exact zao rfl; exact zaj (by decide +kernel)); (focus repeat' first | exact zaa | assumption | apply zab | (apply Ext.get; assumption) | (apply ExtBut.get; assumption; (first | assumption | omega | (simp only [Heap.push]; omega)))); (first | rfl | assumption)); (first | assumption | exact zaq _ _ | rfl | (focus simp [same, same.all2]; done)); (first | rfl | assumption | exact hwv _ | (simp [within]; omega))) | (apply zlD; rfl; rfl; rfl; rfl) | fail))
   rcases oN with ⟨_, q⟩ | ⟨_, rfl, oN⟩
   ·have := congrArg List.length q; rw [zgw] at this; simp at this; omega
   rcases oS with ⟨_, q⟩ | ⟨_, rfl, oS⟩
   ·have := congrArg List.length q; rw [zgx] at this; simp at this; omega
   rw [zgw] at g1
   rw [zgx] at g1
   refine ⟨.inr rfl, _, rfl, h1.n, bN, bS, h.n + 1, rfl, ⟨⟨fun _ => false, ⟨g1, oN, oS, m, by simp [zeR], by simp [zeM]⟩, fun _ _ _ => rfl⟩⟩, by omega, by omega, hx⟩
 ·exact ⟨Nat.zero_le _, by (focus repeat' first | exact Ext.refl _ | assumption | apply Ext.push | (refine Ext.trans ?_ (by assumption))), by show h.n + 3 ≤ h1.n + 1; omega, by dsimp only; exact zaa, .inl ⟨rfl, rfl⟩, .inl ⟨rfl, rfl⟩, m1.ext (by (focus repeat' first | exact Ext.refl _ | assumption | apply Ext.push | (refine Ext.trans ?_ (by assumption)))), .inl rfl⟩
 ·(focus repeat' first | rfl | exact trivial | apply And.intro)
end Go.AX.Sa

namespace Go.AX.Sa
open Go.Proofs
set_option maxRecDepth 100000
variable {K : Known}
def znW (G : Pg) (p : Int × Int) : Ent := (1, [p.1, p.2, 0, (G.n : Int) - 1])
def logP (G : Pg) (ps : List (Int × Int)) : List Ent := logL G ++ ps.map (znW G)
def PairsP (G : Pg) (ps : List (Int × Int)) : Prop := ∀ k, k < ps.length → zp0 G (ps.getD k (0, 0)).1 (ps.getD k (0, 0)).2
theorem zi2 {G : Pg} (hn : 1 ≤ (G.n : Int)) {p : Int × Int} (h : zp0 G p.1 p.2) : EntP G.people G.n (znW G p) := by
 obtain ⟨h1, h2, h3⟩ := h
 unfold zf8 at h1 h2
 refine ent1.2 ⟨rfl, ?_, ?_, ?_, ?_, ?_, ?_⟩ <;> simp <;> omega
theorem log_ent {G : Pg} (hP : PgP G) {ps : List (Int × Int)} (hp : PairsP G ps) : ∀ e ∈ logP G ps, EntP G.people G.n e := by
 intro e he
 rcases List.mem_append.1 he with q | q
 ·obtain ⟨c, hc, rfl⟩ := List.mem_map.1 q
  obtain ⟨j, hj⟩ := List.getElem?_of_mem hc
  have hl := (List.getElem?_eq_some_iff.1 hj).1
  have := hP.ent j hl
  simpa [List.getD_eq_getElem?_getD, hj] using this
 ·obtain ⟨c, hc, rfl⟩ := List.mem_map.1 q
  obtain ⟨j, hj⟩ := List.getElem?_of_mem hc
  have hl := (List.getElem?_eq_some_iff.1 hj).1
  have := hp j hl
  rw [show ps.getD j (0, 0) = c by simp [List.getD_eq_getElem?_getD, hj]] at this
  exact zi2 hP.n.1 this
theorem zhV {G : Pg} (hP : PgP G) {L : List Ent} (hL : ∀ e ∈ L, EntP G.people G.n e) {j : Nat} (hj : j < G.n) : NumP (numA G L j) := znn (hP.line j hj).2.2 L hL
theorem zhM {L : List Ent} {k : Nat} (h : k < L.length) : L.take (k + 1) = L.take k ++ [L[k]'h] := by rw [List.take_add_one, List.getElem?_eq_getElem h]; rfl
set_option maxHeartbeats 600000 in
theorem after_ok (hK : NoK K) {G : Pg} {ps : List (Int × Int)} {q : Option Addr} {kq : Nat} {h : Heap} (hT : PgAt G h) (hP : PgP G) (hq : Rd h q (zaW ps)) (hl : ps.length ≤ 1000) (hp : PairsP G ps) :
  CallW Tryz.prog K 61 #[pgV G, .slice q ps.length kq] h (fun v h1 => ∃ s bn bs r, v = .pointer (some ⟨s, 0, none⟩) ∧ StL G (logP G ps) s bn bs r h1 ∧ bn ≠ bs ∧ (h.n ≤ s ∧ h.n ≤ bn ∧ h.n ≤ bs ∧ h.n ≤ r) ∧ Ext h h1) := by
 have hT' := hT
 have hP' := hP
 have hlog := log_ent hP hp
 have hnn := hP.n
 have hpp := hP.people
 have hcc := hP.c
 obtain ⟨people, pl, kl, n, l, p, kc, c⟩ := G
 obtain ⟨len, rl, rc, each, hbl, hpb⟩ := hT
 dsimp only [pgV] at len rl rc each hbl hpb hnn hpp hcc ⊢
 have hlen : (logP ⟨people, pl, kl, n, l, p, kc, c⟩ ps).length = c.length + ps.length := by simp [logP, logL]
 refine body (N := 46) Tryz.func61 rfl (hK _ _ _ rfl) rfl rfl ?_
 (repeat' (first | apply zaC | apply zac | (apply O_at; rfl) | (apply zaB; rfl) | apply zaD | (apply za3; rfl) | (apply za2; rfl) | apply zar | apply zaw | apply zaR | apply zaU | apply zaS | apply zat | apply zau | apply zan | apply zaE | ((first | apply zas | apply zah); rfl; rfl; rfl; rfl) | (apply P_fa; rfl; rfl; rfl; rfl; exact zaL rfl; (first | exact Nat.zero_add _ | exact Nat.add_zero _ | rfl)) | (apply zbn; rfl; rfl; rfl; rfl; rfl; rfl; exact zap rfl) | (apply za0; rfl; rfl; rfl; rfl; rfl; omega) | (apply zaZ; rfl; rfl; rfl; rfl; rfl; omega) | (apply zbh; rfl; rfl; rfl; rfl; rfl; (unfold fit; omega)) | (apply zb1; rfl; rfl; rfl; rfl; rfl; exact zap rfl; exact zae rfl; (first | assumption | rfl | exact (Int.toNat_of_nonneg (by omega)).symm); omega) | (apply zak; rfl; rfl; rfl; rfl; exact zao rfl; (focus repeat' first | exact zaa | assumption | apply zab | (apply Ext.get; assumption)); (first | rfl | assumption)) | (apply zav; rfl; rfl; rfl; rfl; exact zaA rfl; (focus repeat' first | exact zaa | assumption | apply zab | (apply Ext.get; assumption)); (first | exact Nat.le_of_ble_eq_true rfl | (rw [za1]; omega) | (simp; done) | (simp; omega) | (rw [za4]; omega)); (first | exact zbw (by omega) | exact zaX (by omega) | rfl)) | (apply zaF; rfl; rfl; rfl; rfl; exact zae rfl; rfl; rfl; rfl) | (apply zcB; rfl; rfl; rfl; rfl) | (apply zep; rfl; rfl; rfl; rfl) | (apply zaQ; rfl; rfl; rfl; rfl; exact zae rfl; rfl; rfl) | (apply za5; rfl; rfl; rfl; rfl; exact zae rfl; rfl; rfl) | fail))
 apply zaO; rfl; rfl; rfl; rfl; rfl; rfl; exact zpR (G := ⟨people, pl, kl, n, l, p, kc, c⟩) hK (hT'.ext (by (focus repeat' first | exact Ext.refl _ | assumption | apply Ext.push | (refine Ext.trans ?_ (by assumption))))) ⟨by dsimp only; omega, by dsimp only; omega⟩
 rintro _ h2 ⟨s, bn, bs, r, rfl, S2, hns, ⟨b1, b2, b3, b4⟩, x2⟩
 have hn2 := x2.n
 have b2' : h.n < bn := b2
 have b3' : h.n < bs := b3
 have b4' : h.n < r := b4
 have b1' : h.n < s := b1
 (repeat' (first | apply zaC | apply zac | (apply O_at; rfl) | (apply zaB; rfl) | apply zaD | (apply za3; rfl) | (apply za2; rfl) | apply zar | apply zaw | apply zaR | apply zaU | apply zaS | apply zat | apply zau | apply zan | apply zaE | ((first | apply zas | apply zah); rfl; rfl; rfl; rfl) | (apply P_fa; rfl; rfl; rfl; rfl; exact zaL rfl; (first | exact Nat.zero_add _ | exact Nat.add_zero _ | rfl)) | (apply zbn; rfl; rfl; rfl; rfl; rfl; rfl; exact zap rfl) | (apply za0; rfl; rfl; rfl; rfl; rfl; omega) | (apply zaZ; rfl; rfl; rfl; rfl; rfl; omega) | (apply zbh; rfl; rfl; rfl; rfl; rfl; (unfold fit; omega)) | (apply zb1; rfl; rfl; rfl; rfl; rfl; exact zap rfl; exact zae rfl; (first | assumption | rfl | exact (Int.toNat_of_nonneg (by omega)).symm); omega) | (apply zak; rfl; rfl; rfl; rfl; exact zao rfl; (focus repeat' first | exact zaa | assumption | apply zab | (apply Ext.get; assumption)); (first | rfl | assumption)) | (apply zav; rfl; rfl; rfl; rfl; exact zaA rfl; (focus repeat' first | exact zaa | assumption | apply zab | (apply Ext.get; assumption)); (first | exact Nat.le_of_ble_eq_true rfl | (rw [za1]; omega) | (simp; done) | (simp; omega) | (rw [za4]; omega)); (first | exact zbw (by omega) | exact zaX (by omega) | rfl)) | (apply zaF; rfl; rfl; rfl; rfl; exact zae rfl; rfl; rfl; rfl) | (apply zcB; rfl; rfl; rfl; rfl) | (apply zep; rfl; rfl; rfl; rfl) | (apply zaQ; rfl; rfl; rfl; rfl; exact zae rfl; rfl; rfl) | (apply za5; rfl; rfl; rfl; rfl; exact zae rfl; rfl; rfl) | fail))
 refine zcs (fun k : Nat => [(16, .int .i64 (k : Nat)), (15, .int .i64 (c.length : Nat)), (14, .slice p c.length kc), (5, .pointer (some ⟨s, 0, none⟩)), (2, .pointer (some ⟨h.n, 0, none⟩)), (1, .slice q ps.length kq)])
  (fun k h' => k ≤ c.length ∧ StL ⟨people, pl, kl, n, l, p, kc, c⟩ ((logP ⟨people, pl, kl, n, l, p, kc, c⟩ ps).take k) s bn bs r h' ∧ Ext (h.push (.cells [.int .i64 people, .slice pl n kl, .slice p c.length kc] 25 true)) h') (fun k => c.length - k) ?_ 0 ?_ ?_
 ·rintro k h' ⟨hk, S, hx⟩ ih
  have g0 := hx.get zaa
  by_cases hlt : k < c.length
  ·obtain ⟨b, e, own, rfl, hg⟩ := rc.at (by rw [za1]; omega)
   have hg' := hx.get (zab hg)
   have eR := each k hlt
   have ek : (logP ⟨people, pl, kl, n, l, some ⟨b, 0, none⟩, kc, c⟩ ps)[k]'(by omega) = ent (c.getD k cop0) := by
    simp [logP, logL, List.getElem_append_left, hlt]
   have eP := hP'.ent k hlt
   (repeat' (first | apply zaC | apply zac | (apply O_at; rfl) | (apply zaB; rfl) | apply zaD | (apply za3; rfl) | (apply za2; rfl) | apply zar | apply zaw | apply zaR | apply zaU | apply zaS | apply zat | apply zau | apply zan | apply zaE | ((first | apply zas | apply zah); rfl; rfl; rfl; rfl) | (apply P_fa; rfl; rfl; rfl; rfl; exact zaL rfl; (first | exact Nat.zero_add _ | exact Nat.add_zero _ | rfl)) | (apply zbn; rfl; rfl; rfl; rfl; rfl; rfl; exact zap rfl) | (apply za0; rfl; rfl; rfl; rfl; rfl; omega) | (apply zaZ; rfl; rfl; rfl; rfl; rfl; omega) | (apply zbh; rfl; rfl; rfl; rfl; rfl; (unfold fit; omega)) | (apply zb1; rfl; rfl; rfl; rfl; rfl; exact zap rfl; exact zae rfl; (first | assumption | rfl | exact (Int.toNat_of_nonneg (by omega)).symm); omega) | (apply zak; rfl; rfl; rfl; rfl; exact zao rfl; (focus repeat' first | exact zaa | assumption | apply zab | (apply Ext.get; assumption)); (first | rfl | assumption)) | (apply zav; rfl; rfl; rfl; rfl; exact zaA rfl; (focus repeat' first | exact zaa | assumption | apply zab | (apply Ext.get; assumption)); (first | exact Nat.le_of_ble_eq_true rfl | (rw [za1]; omega) | (simp; done) | (simp; omega) | (rw [za4]; omega)); (first | exact zbw (by omega) | exact zaX (by omega) | rfl)) | (apply zaF; rfl; rfl; rfl; rfl; exact zae rfl; rfl; rfl; rfl) | (apply zcB; rfl; rfl; rfl; rfl) | (apply zep; rfl; rfl; rfl; rfl) | (apply zaQ; rfl; rfl; rfl; rfl; exact zae rfl; rfl; rfl) | (apply za5; rfl; rfl; rfl; rfl; exact zae rfl; rfl; rfl) | fail))
   have y1 : Ext h' (h'.push (.cells [.int .i64 (c.getD k cop0).par, .slice (c.getD k cop0).r.q (c.getD k cop0).r.s.length (c.getD k cop0).r.k] 37 true)) := by (focus repeat' first | exact Ext.refl _ | assumption | apply Ext.push | (refine Ext.trans ?_ (by assumption)))
   apply zaO; rfl; rfl; rfl; rfl; rfl; rfl
   ·refine zms (G := ⟨people, pl, kl, n, l, some ⟨b, 0, none⟩, kc, c⟩) (c := c.getD k cop0) hK (L := (logP ⟨people, pl, kl, n, l, some ⟨b, 0, none⟩, kc, c⟩ ps).take k) (s := s) (bn := bn) (bs := bs) (r := r) ?_ hns hpp (by dsimp only; omega) ?_ eP (fun j hj => zhV hP' (fun e he => hlog e (List.mem_of_mem_take he)) hj)
    ·obtain ⟨f, S, hf⟩ := S
     exact ⟨f, S.ext y1, hf⟩
    ·exact eR.ext (by (focus repeat' first | exact Ext.refl _ | assumption | apply Ext.push | (refine Ext.trans ?_ (by assumption))))
   rintro _ h3 ⟨S3, k3⟩
   (repeat' (first | apply zaC | apply zac | (apply O_at; rfl) | (apply zaB; rfl) | apply zaD | (apply za3; rfl) | (apply za2; rfl) | apply zar | apply zaw | apply zaR | apply zaU | apply zaS | apply zat | apply zau | apply zan | apply zaE | ((first | apply zas | apply zah); rfl; rfl; rfl; rfl) | (apply P_fa; rfl; rfl; rfl; rfl; exact zaL rfl; (first | exact Nat.zero_add _ | exact Nat.add_zero _ | rfl)) | (apply zbn; rfl; rfl; rfl; rfl; rfl; rfl; exact zap rfl) | (apply za0; rfl; rfl; rfl; rfl; rfl; omega) | (apply zaZ; rfl; rfl; rfl; rfl; rfl; omega) | (apply zbh; rfl; rfl; rfl; rfl; rfl; (unfold fit; omega)) | (apply zb1; rfl; rfl; rfl; rfl; rfl; exact zap rfl; exact zae rfl; (first | assumption | rfl | exact (Int.toNat_of_nonneg (by omega)).symm); omega) | (apply zak; rfl; rfl; rfl; rfl; exact zao rfl; (focus repeat' first | exact zaa | assumption | apply zab | (apply Ext.get; assumption)); (first | rfl | assumption)) | (apply zav; rfl; rfl; rfl; rfl; exact zaA rfl; (focus repeat' first | exact zaa | assumption | apply zab | (apply Ext.get; assumption)); (first | exact Nat.le_of_ble_eq_true rfl | (rw [za1]; omega) | (simp; done) | (simp; omega) | (rw [za4]; omega)); (first | exact zbw (by omega) | exact zaX (by omega) | rfl)) | (apply zaF; rfl; rfl; rfl; rfl; exact zae rfl; rfl; rfl; rfl) | (apply zcB; rfl; rfl; rfl; rfl) | (apply zep; rfl; rfl; rfl; rfl) | (apply zaQ; rfl; rfl; rfl; rfl; exact zae rfl; rfl; rfl) | (apply za5; rfl; rfl; rfl; rfl; exact zae rfl; rfl; rfl) | fail))
   have y3 : Ext (h.push (.cells [.int .i64 people, .slice pl n kl, .slice (some ⟨b, 0, none⟩) c.length kc] 25 true)) h3 := k3.ext (hx.trans y1) b2 b3 b4
   refine zb8 (ih (k + 1) _ (by omega) ⟨hlt, ?_, y3⟩) (by (focus repeat' first | rfl | exact trivial | apply And.intro))
   rw [zhM (by omega), ek]
   exact S3
  ·obtain rfl : k = c.length := by omega
   (repeat' (first | apply zaC | apply zac | (apply O_at; rfl) | (apply zaB; rfl) | apply zaD | (apply za3; rfl) | (apply za2; rfl) | apply zar | apply zaw | apply zaR | apply zaU | apply zaS | apply zat | apply zau | apply zan | apply zaE | ((first | apply zas | apply zah); rfl; rfl; rfl; rfl) | (apply P_fa; rfl; rfl; rfl; rfl; exact zaL rfl; (first | exact Nat.zero_add _ | exact Nat.add_zero _ | rfl)) | (apply zbn; rfl; rfl; rfl; rfl; rfl; rfl; exact zap rfl) | (apply za0; rfl; rfl; rfl; rfl; rfl; omega) | (apply zaZ; rfl; rfl; rfl; rfl; rfl; omega) | (apply zbh; rfl; rfl; rfl; rfl; rfl; (unfold fit; omega)) | (apply zb1; rfl; rfl; rfl; rfl; rfl; exact zap rfl; exact zae rfl; (first | assumption | rfl | exact (Int.toNat_of_nonneg (by omega)).symm); omega) | (apply zak; rfl; rfl; rfl; rfl; exact zao rfl; (focus repeat' first | exact zaa | assumption | apply zab | (apply Ext.get; assumption)); (first | rfl | assumption)) | (apply zav; rfl; rfl; rfl; rfl; exact zaA rfl; (focus repeat' first | exact zaa | assumption | apply zab | (apply Ext.get; assumption)); (first | exact Nat.le_of_ble_eq_true rfl | (rw [za1]; omega) | (simp; done) | (simp; omega) | (rw [za4]; omega)); (first | exact zbw (by omega) | exact zaX (by omega) | rfl)) | (apply zaF; rfl; rfl; rfl; rfl; exact zae rfl; rfl; rfl; rfl) | (apply zcB; rfl; rfl; rfl; rfl) | (apply zep; rfl; rfl; rfl; rfl) | (apply zaQ; rfl; rfl; rfl; rfl; exact zae rfl; rfl; rfl) | (apply za5; rfl; rfl; rfl; rfl; exact zae rfl; rfl; rfl) | fail))
   refine zcs (fun k : Nat => [(26, .int .i64 (k : Nat)), (25, .int .i64 (ps.length : Nat)), (24, .slice q ps.length kq), (5, .pointer (some ⟨s, 0, none⟩)), (2, .pointer (some ⟨h.n, 0, none⟩))])
    (fun k h' => k ≤ ps.length ∧ StL ⟨people, pl, kl, n, l, p, kc, c⟩ ((logP ⟨people, pl, kl, n, l, p, kc, c⟩ ps).take (c.length + k)) s bn bs r h' ∧ Ext (h.push (.cells [.int .i64 people, .slice pl n kl, .slice p c.length kc] 25 true)) h') (fun k => ps.length - k) ?_ 0 ?_ ?_
   ·rintro i h5 ⟨hi, S5, hx5⟩ ih5
    have g05 := hx5.get zaa
    by_cases hlt5 : i < ps.length
    ·obtain ⟨b, e, own, rfl, hg⟩ := hq.at (by rw [za4]; omega)
     have hg' := hx5.get (zab hg)
     have ek : (logP ⟨people, pl, kl, n, l, p, kc, c⟩ ps)[c.length + i]'(by omega) = znW ⟨people, pl, kl, n, l, p, kc, c⟩ (ps.getD i (0, 0)) := by
      simp [logP, logL, List.getElem_append_right, hlt5]
     have eP := zi2 (G := ⟨people, pl, kl, n, l, p, kc, c⟩) hnn.1 (hp i hlt5)
     (repeat' (first | apply zaC | apply zac | (apply O_at; rfl) | (apply zaB; rfl) | apply zaD | (apply za3; rfl) | (apply za2; rfl) | apply zar | apply zaw | apply zaR | apply zaU | apply zaS | apply zat | apply zau | apply zan | apply zaE | ((first | apply zas | apply zah); rfl; rfl; rfl; rfl) | (apply P_fa; rfl; rfl; rfl; rfl; exact zaL rfl; (first | exact Nat.zero_add _ | exact Nat.add_zero _ | rfl)) | (apply zbn; rfl; rfl; rfl; rfl; rfl; rfl; exact zap rfl) | (apply za0; rfl; rfl; rfl; rfl; rfl; omega) | (apply zaZ; rfl; rfl; rfl; rfl; rfl; omega) | (apply zbh; rfl; rfl; rfl; rfl; rfl; (unfold fit; omega)) | (apply zb1; rfl; rfl; rfl; rfl; rfl; exact zap rfl; exact zae rfl; (first | assumption | rfl | exact (Int.toNat_of_nonneg (by omega)).symm); omega) | (apply zak; rfl; rfl; rfl; rfl; exact zao rfl; (focus repeat' first | exact zaa | assumption | apply zab | (apply Ext.get; assumption)); (first | rfl | assumption)) | (apply zav; rfl; rfl; rfl; rfl; exact zaA rfl; (focus repeat' first | exact zaa | assumption | apply zab | (apply Ext.get; assumption)); (first | exact Nat.le_of_ble_eq_true rfl | (rw [za1]; omega) | (simp; done) | (simp; omega) | (rw [za4]; omega)); (first | exact zbw (by omega) | exact zaX (by omega) | rfl)) | (apply zaF; rfl; rfl; rfl; rfl; exact zae rfl; rfl; rfl; rfl) | (apply zcB; rfl; rfl; rfl; rfl) | (apply zep; rfl; rfl; rfl; rfl) | (apply zaQ; rfl; rfl; rfl; rfl; exact zae rfl; rfl; rfl) | (apply za5; rfl; rfl; rfl; rfl; exact zae rfl; rfl; rfl) | (apply zaO; rfl; rfl; rfl; rfl; rfl; rfl; exact zhf (G := ⟨people, pl, kl, n, l, p, kc, c⟩) hK (by dsimp only; omega); (rintro _ _ ⟨rfl, _⟩)) | fail))
     rename_i h6 x6
     have y6 : Ext h5 ((h6.push (.cells [.int .i64 0, .int .i64 ((n : Int) - 1)] 140 true)).push (.cells (ints [(ps.getD i (0, 0)).1, (ps.getD i (0, 0)).2, 0, (n : Int) - 1]) 3 true)) := by (focus repeat' first | exact Ext.refl _ | assumption | apply Ext.push | (refine Ext.trans ?_ (by assumption)))
     apply zaO; rfl; rfl; rfl; rfl; rfl; rfl
     ·refine zms (G := ⟨people, pl, kl, n, l, p, kc, c⟩) (c := ⟨1, ⟨some ⟨h6.n + 1, 0, none⟩, 4, [(ps.getD i (0, 0)).1, (ps.getD i (0, 0)).2, 0, (n : Int) - 1]⟩⟩) hK (L := (logP ⟨people, pl, kl, n, l, p, kc, c⟩ ps).take (c.length + i)) (s := s) (bn := bn) (bs := bs) (r := r) ?_ hns hpp (by dsimp only; omega) ?_ eP (fun j hj => zhV hP' (fun e he => hlog e (List.mem_of_mem_take he)) hj)
      ·obtain ⟨f, S, hf⟩ := S5
       exact ⟨f, S.ext y6, hf⟩
      ·exact ⟨.inr ⟨h6.n + 1, _, _, rfl, zaa⟩, fun a q => by cases q; exact Nat.lt_succ_self _, fun _ => Nat.le_refl _⟩
     rintro _ h7 ⟨S7, k7⟩
     (repeat' (first | apply zaC | apply zac | (apply O_at; rfl) | (apply zaB; rfl) | apply zaD | (apply za3; rfl) | (apply za2; rfl) | apply zar | apply zaw | apply zaR | apply zaU | apply zaS | apply zat | apply zau | apply zan | apply zaE | ((first | apply zas | apply zah); rfl; rfl; rfl; rfl) | (apply P_fa; rfl; rfl; rfl; rfl; exact zaL rfl; (first | exact Nat.zero_add _ | exact Nat.add_zero _ | rfl)) | (apply zbn; rfl; rfl; rfl; rfl; rfl; rfl; exact zap rfl) | (apply za0; rfl; rfl; rfl; rfl; rfl; omega) | (apply zaZ; rfl; rfl; rfl; rfl; rfl; omega) | (apply zbh; rfl; rfl; rfl; rfl; rfl; (unfold fit; omega)) | (apply zb1; rfl; rfl; rfl; rfl; rfl; exact zap rfl; exact zae rfl; (first | assumption | rfl | exact (Int.toNat_of_nonneg (by omega)).symm); omega) | (apply zak; rfl; rfl; rfl; rfl; exact zao rfl; (focus repeat' first | exact zaa | assumption | apply zab | (apply Ext.get; assumption)); (first | rfl | assumption)) | (apply zav; rfl; rfl; rfl; rfl; exact zaA rfl; (focus repeat' first | exact zaa | assumption | apply zab | (apply Ext.get; assumption)); (first | exact Nat.le_of_ble_eq_true rfl | (rw [za1]; omega) | (simp; done) | (simp; omega) | (rw [za4]; omega)); (first | exact zbw (by omega) | exact zaX (by omega) | rfl)) | (apply zaF; rfl; rfl; rfl; rfl; exact zae rfl; rfl; rfl; rfl) | (apply zcB; rfl; rfl; rfl; rfl) | (apply zep; rfl; rfl; rfl; rfl) | (apply zaQ; rfl; rfl; rfl; rfl; exact zae rfl; rfl; rfl) | (apply za5; rfl; rfl; rfl; rfl; exact zae rfl; rfl; rfl) | fail))
     have y7 : Ext (h.push (.cells [.int .i64 people, .slice pl n kl, .slice p c.length kc] 25 true)) h7 := k7.ext (hx5.trans y6) b2 b3 b4
     refine zb8 (ih5 (i + 1) _ (by omega) ⟨hlt5, ?_, y7⟩) (by (focus repeat' first | rfl | exact trivial | apply And.intro))
     rw [show c.length + (i + 1) = (c.length + i) + 1 by omega, zhM (by omega), ek]
     exact S7
    ·obtain rfl : i = ps.length := by omega
     rw [List.take_of_length_le (by omega)] at S5
     (repeat' (first | apply zaC | apply zac | (apply O_at; rfl) | (apply zaB; rfl) | apply zaD | (apply za3; rfl) | (apply za2; rfl) | apply zar | apply zaw | apply zaR | apply zaU | apply zaS | apply zat | apply zau | apply zan | apply zaE | ((first | apply zas | apply zah); rfl; rfl; rfl; rfl) | (apply P_fa; rfl; rfl; rfl; rfl; exact zaL rfl; (first | exact Nat.zero_add _ | exact Nat.add_zero _ | rfl)) | (apply zbn; rfl; rfl; rfl; rfl; rfl; rfl; exact zap rfl) | (apply za0; rfl; rfl; rfl; rfl; rfl; omega) | (apply zaZ; rfl; rfl; rfl; rfl; rfl; omega) | (apply zbh; rfl; rfl; rfl; rfl; rfl; (unfold fit; omega)) | (apply zb1; rfl; rfl; rfl; rfl; rfl; exact zap rfl; exact zae rfl; (first | assumption | rfl | exact (Int.toNat_of_nonneg (by omega)).symm); omega) | (apply zak; rfl; rfl; rfl; rfl; exact zao rfl; (focus repeat' first | exact zaa | assumption | apply zab | (apply Ext.get; assumption)); (first | rfl | assumption)) | (apply zav; rfl; rfl; rfl; rfl; exact zaA rfl; (focus repeat' first | exact zaa | assumption | apply zab | (apply Ext.get; assumption)); (first | exact Nat.le_of_ble_eq_true rfl | (rw [za1]; omega) | (simp; done) | (simp; omega) | (rw [za4]; omega)); (first | exact zbw (by omega) | exact zaX (by omega) | rfl)) | (apply zaF; rfl; rfl; rfl; rfl; exact zae rfl; rfl; rfl; rfl) | (apply zcB; rfl; rfl; rfl; rfl) | (apply zep; rfl; rfl; rfl; rfl) | (apply zaQ; rfl; rfl; rfl; rfl; exact zae rfl; rfl; rfl) | (apply za5; rfl; rfl; rfl; rfl; exact zae rfl; rfl; rfl) | fail))
     exact ⟨.inr rfl, _, rfl, s, bn, bs, r, rfl, S5, hns, ⟨by omega, by omega, by omega, by omega⟩, by (focus repeat' first | exact Ext.refl _ | assumption | apply Ext.push | (refine Ext.trans ?_ (by assumption)))⟩
   ·exact ⟨Nat.zero_le _, S, hx⟩
   ·(focus repeat' first | rfl | exact trivial | apply And.intro)
 ·exact ⟨Nat.zero_le _, S2, x2⟩
 ·(focus repeat' first | rfl | exact trivial | apply And.intro)
end Go.AX.Sa

namespace Go.AX.Sa
open Go.Proofs
set_option maxRecDepth 100000
variable {K : Known}
theorem StL.ext {G : Pg} {L : List Ent} {s bn bs r : Nat} {h h1 : Heap} (x : StL G L s bn bs r h) (e : Ext h h1) : StL G L s bn bs r h1 := by
 obtain ⟨f, S, hf⟩ := x
 exact ⟨f, S.ext e, hf⟩
theorem zni (hK : NoK K) {G : Pg} {L : List Ent} {s bn bs r : Nat} {j : Nat} {jj : Int} {h : Heap} (hS : StL G L s bn bs r h) (hp : 2 ≤ G.people ∧ G.people ≤ 6) (hj : j < G.n) (_ : G.n ≤ 1000) (hjj : jj = (j : Nat)) :
  CallW Tryz.prog K 68 #[.pointer (some ⟨s, 0, none⟩), .int .i64 jj] h (IsL (rdA G L j) h) := by
 subst hjj
 obtain ⟨f, ⟨box, nums, sets, hrd, nl, sl⟩, hf⟩ := hS
 unfold rdA
 obtain ⟨m, hm⟩ : ∃ m : Nat, G.people = m := ⟨G.people.toNat, by omega⟩
 have hm' : G.people.toNat = m := by omega
 rw [hm']
 have hset := zgd (G := G) (L := L) hj
 refine body (N := 40) Tryz.func68 rfl (hK _ _ _ rfl) rfl rfl ?_
 unfold stC at box
 rw [hm] at box
 (repeat' (first | apply zaC | apply zac | (apply O_at; rfl) | (apply zaB; rfl) | apply zaD | (apply za3; rfl) | (apply za2; rfl) | apply zar | apply zaw | apply zaR | apply zaU | apply zaS | apply zat | apply zau | apply zan | apply zaE | (apply za9; rfl; rfl; rfl) | ((first | apply zas | apply zah); rfl; rfl; rfl; rfl) | (apply P_fa; rfl; rfl; rfl; rfl; exact zaL rfl; (first | exact Nat.zero_add _ | exact Nat.add_zero _ | rfl)) | (apply zba; rfl; rfl; rfl; rfl; rfl; rfl) | (apply za0; rfl; rfl; rfl; rfl; rfl; omega) | (apply zaZ; rfl; rfl; rfl; rfl; rfl; omega) | (apply zdL; rfl; rfl; rfl; rfl; rfl; all_goals intro _) | (apply zbh; rfl; rfl; rfl; rfl; rfl; (unfold fit; omega)) | (apply zbF; rfl; rfl; rfl; rfl; rfl; exact zap rfl; exact zae rfl; (first | assumption | rfl | exact (Int.toNat_of_nonneg (by omega)).symm); omega) | (apply zak; rfl; rfl; rfl; rfl; exact zao rfl; (focus repeat' first | exact zaa | assumption | (apply Ext.get; assumption)); (first | exact zai (by omega) | rfl | assumption)) | (apply ziX; rfl; rfl; rfl; rfl; rfl; rfl; rfl; exact zeX rfl) | (apply zp2; rfl; rfl; rfl; rfl; rfl; rfl; rfl; rfl; exact zeX rfl; exact zap rfl; (focus repeat' first | exact zaa | assumption | (apply Ext.get; assumption)); (apply OutI.ext; assumption; (focus repeat' first | exact Ext.refl _ | assumption | apply Ext.push)); (focus repeat' first | exact Ext.refl _ | assumption | apply Ext.push); (first | omega | (simp; omega)); (intro _ _ _ _)) | (apply zbM; rfl; rfl; rfl; rfl) | (apply zdK; rfl; rfl; rfl; rfl) | (apply zhh; rfl; rfl; rfl; rfl; rfl; exact zdG; (first | assumption | (apply MapB.ext; assumption; (focus repeat' first | exact Ext.refl _ | assumption | apply Ext.push))); all_goals intro _) | fail))
 refine zcs (fun a : Nat × Value => [(12, .int .i64 (a.1 : Nat)), (11, .int .i64 (m : Nat)), (5, a.2), (0, .pointer (some ⟨s, 0, none⟩)), (1, .int .i64 (j : Nat))])
  (fun a h' => a.1 ≤ m ∧ Ext h h' ∧ OutI 3 h h' a.2 (rdrs a.1 L (j : Nat) (setA G L j))) (fun a => m - a.1) ?_ (0, .slice none 0 0) ?_ ?_
 ·rintro ⟨k, v⟩ h' ⟨hk, hx, ho⟩ ih
  dsimp only at hk hx ho ih ⊢
  have q1 := hx.get box
  have q2 := hx.get sets
  have hl := zio k L (j : Nat) (setA G L j)
  by_cases hlt : k < m
  ·have hfk := hf ((j : Nat), (k : Nat)) (by dsimp only; omega) (by dsimp only; omega)
   have hjs : j < (zeM G L).length := by omega
   (repeat' (first | apply zaC | apply zac | (apply O_at; rfl) | (apply zaB; rfl) | apply zaD | (apply za3; rfl) | (apply za2; rfl) | apply zar | apply zaw | apply zaR | apply zaU | apply zaS | apply zat | apply zau | apply zan | apply zaE | (apply za9; rfl; rfl; rfl) | ((first | apply zas | apply zah); rfl; rfl; rfl; rfl) | (apply P_fa; rfl; rfl; rfl; rfl; exact zaL rfl; (first | exact Nat.zero_add _ | exact Nat.add_zero _ | rfl)) | (apply zba; rfl; rfl; rfl; rfl; rfl; rfl) | (apply za0; rfl; rfl; rfl; rfl; rfl; omega) | (apply zaZ; rfl; rfl; rfl; rfl; rfl; omega) | (apply zdL; rfl; rfl; rfl; rfl; rfl; all_goals intro _) | (apply zbh; rfl; rfl; rfl; rfl; rfl; (unfold fit; omega)) | (apply zbF; rfl; rfl; rfl; rfl; rfl; exact zap rfl; exact zae rfl; (first | assumption | rfl | exact (Int.toNat_of_nonneg (by omega)).symm); omega) | (apply zak; rfl; rfl; rfl; rfl; exact zao rfl; (focus repeat' first | exact zaa | assumption | (apply Ext.get; assumption)); (first | exact zai (by omega) | rfl | assumption)) | (apply ziX; rfl; rfl; rfl; rfl; rfl; rfl; rfl; exact zeX rfl) | (apply zp2; rfl; rfl; rfl; rfl; rfl; rfl; rfl; rfl; exact zeX rfl; exact zap rfl; (focus repeat' first | exact zaa | assumption | (apply Ext.get; assumption)); (apply OutI.ext; assumption; (focus repeat' first | exact Ext.refl _ | assumption | apply Ext.push)); (focus repeat' first | exact Ext.refl _ | assumption | apply Ext.push); (first | omega | (simp; omega)); (intro _ _ _ _)) | (apply zbM; rfl; rfl; rfl; rfl) | (apply zdK; rfl; rfl; rfl; rfl) | (apply zhh; rfl; rfl; rfl; rfl; rfl; exact zdG; (first | assumption | (apply MapB.ext; assumption; (focus repeat' first | exact Ext.refl _ | assumption | apply Ext.push))); all_goals intro _) | fail))
   ·rename_i w1 w2 v2 h2 o2 x2
    refine zb8 (ih (k + 1, v2) _ (by dsimp only; omega) ⟨hlt, x2, ?_⟩) (by (focus repeat' first | rfl | exact trivial | apply And.intro))
    rw [zgE, if_pos ⟨by rw [← hfk]; exact w1, by rw [← hset]; exact w2⟩]
    exact o2
   ·rename_i w1 w2
    refine zb8 (ih (k + 1, v) _ (by dsimp only; omega) ⟨hlt, by (focus repeat' first | exact Ext.refl _ | assumption | apply Ext.push), ?_⟩) (by (focus repeat' first | rfl | exact trivial | apply And.intro))
    rw [zgE, if_neg (fun z => z.2 (by rw [← hset]; omega)), List.append_nil]
    exact ho
   ·rename_i w1
    refine zb8 (ih (k + 1, v) _ (by dsimp only; omega) ⟨hlt, by (focus repeat' first | exact Ext.refl _ | assumption | apply Ext.push), ?_⟩) (by (focus repeat' first | rfl | exact trivial | apply And.intro))
    rw [zgE, if_neg (fun z => by rw [← hfk, w1] at z; exact absurd z.1 (by simp)), List.append_nil]
    exact ho
  ·obtain rfl : k = m := by omega
   (repeat' (first | apply zaC | apply zac | (apply O_at; rfl) | (apply zaB; rfl) | apply zaD | (apply za3; rfl) | (apply za2; rfl) | apply zar | apply zaw | apply zaR | apply zaU | apply zaS | apply zat | apply zau | apply zan | apply zaE | (apply za9; rfl; rfl; rfl) | ((first | apply zas | apply zah); rfl; rfl; rfl; rfl) | (apply P_fa; rfl; rfl; rfl; rfl; exact zaL rfl; (first | exact Nat.zero_add _ | exact Nat.add_zero _ | rfl)) | (apply zba; rfl; rfl; rfl; rfl; rfl; rfl) | (apply za0; rfl; rfl; rfl; rfl; rfl; omega) | (apply zaZ; rfl; rfl; rfl; rfl; rfl; omega) | (apply zdL; rfl; rfl; rfl; rfl; rfl; all_goals intro _) | (apply zbh; rfl; rfl; rfl; rfl; rfl; (unfold fit; omega)) | (apply zbF; rfl; rfl; rfl; rfl; rfl; exact zap rfl; exact zae rfl; (first | assumption | rfl | exact (Int.toNat_of_nonneg (by omega)).symm); omega) | (apply zak; rfl; rfl; rfl; rfl; exact zao rfl; (focus repeat' first | exact zaa | assumption | (apply Ext.get; assumption)); (first | exact zai (by omega) | rfl | assumption)) | (apply ziX; rfl; rfl; rfl; rfl; rfl; rfl; rfl; exact zeX rfl) | (apply zp2; rfl; rfl; rfl; rfl; rfl; rfl; rfl; rfl; exact zeX rfl; exact zap rfl; (focus repeat' first | exact zaa | assumption | (apply Ext.get; assumption)); (apply OutI.ext; assumption; (focus repeat' first | exact Ext.refl _ | assumption | apply Ext.push)); (focus repeat' first | exact Ext.refl _ | assumption | apply Ext.push); (first | omega | (simp; omega)); (intro _ _ _ _)) | (apply zbM; rfl; rfl; rfl; rfl) | (apply zdK; rfl; rfl; rfl; rfl) | (apply zhh; rfl; rfl; rfl; rfl; rfl; exact zdG; (first | assumption | (apply MapB.ext; assumption; (focus repeat' first | exact Ext.refl _ | assumption | apply Ext.push))); all_goals intro _) | fail))
   exact ⟨.inr rfl, _, rfl, ho.isL hx⟩
 ·exact ⟨Nat.zero_le _, Ext.refl _, .inl ⟨rfl, rfl⟩⟩
 ·(focus repeat' first | rfl | exact trivial | apply And.intro)
end Go.AX.Sa

namespace Go.AX.Sa
open Go.Proofs
set_option maxRecDepth 100000
variable {K : Known}
/-! Whether the page passes. -/
def fewV : Value := .iface 149 (.agg #[])
def fewCh : List PanicEntry := [⟨fewV, false, false⟩]
def AllP (G : Pg) (L : List Ent) : Prop := ∀ j, j < G.n → PassP G L j
end Go.AX.Sa

namespace Go.AX.Sa
open Go.Proofs
set_option maxRecDepth 100000
variable {K : Known}
/-! What the layer returns. -/
def IsE (l : List Int) (h : Heap) (v : Value) (h1 : Heap) : Prop := ∃ p cap, v = .tuple #[.slice p l.length cap, .int .i64 0] ∧ Rd h1 p (ints l) ∧ Ext h h1
def errL : Value := .tuple #[.slice none 0 0, .int .i64 2]
theorem zkg (hK : NoK K) {G : Pg} {h : Heap} (hT : PgAt G h) (hP : PgP G) :
  CallW Tryz.prog K 61 #[pgV G, .slice none 0 0] h (fun v h1 => ∃ s bn bs r, v = .pointer (some ⟨s, 0, none⟩) ∧ StL G (logL G) s bn bs r h1 ∧ Ext h h1) := by
 refine (after_ok (ps := []) (q := none) (kq := 0) hK hT hP (.inl rfl) (Nat.zero_le _) (fun k q => by simp at q)).mono ?_
 rintro _ h1 ⟨s, bn, bs, r, rfl, S, _, _, x⟩
 have e : logP G [] = logL G := by simp [logP]
 rw [e] at S
 exact ⟨s, bn, bs, r, rfl, S, x⟩
section
variable {G : Pg} {h : Heap}
theorem zm6 (hK : NoK K) (hT : PgAt G h) (hs : zdV G) (hP : PgP G) : CallW Tryz.prog K 19 #[pgV G] h (IsE (zeM G (logL G)) h) := by
 refine body (N := 12) Tryz.func19 rfl (hK _ _ _ rfl) rfl rfl ?_
 (repeat' (first | apply zaC | apply zac | (apply O_at; rfl) | (apply zaB; rfl) | apply zaD | (apply za2; rfl) | apply zaw | apply zaU | apply zaE | ((first | apply zah | apply zcH); rfl; rfl; rfl; rfl) | (apply P_fa; rfl; rfl; rfl; rfl; exact zaL rfl; (first | exact Nat.zero_add _ | exact Nat.add_zero _ | rfl)) | (apply zak; rfl; rfl; rfl; rfl; exact zao rfl; (focus repeat' first | exact zaa | assumption | (apply Ext.get; assumption)); (first | rfl | assumption)) | (apply zav; rfl; rfl; rfl; rfl; exact zaA rfl; (focus repeat' first | exact zaa | assumption | (apply Ext.get; assumption)); (first | exact Nat.le_of_ble_eq_true rfl | (simp; done) | (simp; omega)); rfl) | (apply zdK; rfl; rfl; rfl; rfl) | (apply zaQ; rfl; rfl; rfl; rfl; exact zae rfl; rfl; rfl) | (apply zaO; rfl; rfl; rfl; rfl; rfl; rfl; exact yes (zjO hK (hT.ext (by (focus repeat' first | exact Ext.refl _ | assumption | apply Ext.push | (refine Ext.trans ?_ (by assumption))))) hs) hP; (rintro _ _ ⟨rfl, _⟩)) | fail))
 apply zaO; rfl; rfl; rfl; rfl; rfl; rfl; exact zkg hK (hT.ext (by (focus repeat' first | exact Ext.refl _ | assumption | apply Ext.push | (refine Ext.trans ?_ (by assumption))))) hP
 rintro _ h2 ⟨s, bn, bs, r, rfl, ⟨f, ⟨box, nums, sets, hrd, nl, sl⟩, hf⟩, x⟩
 unfold stC at box
 (repeat' (first | apply zaC | apply zac | (apply O_at; rfl) | (apply zaB; rfl) | apply zaD | (apply za2; rfl) | apply zaw | apply zaU | apply zaE | ((first | apply zah | apply zcH); rfl; rfl; rfl; rfl) | (apply P_fa; rfl; rfl; rfl; rfl; exact zaL rfl; (first | exact Nat.zero_add _ | exact Nat.add_zero _ | rfl)) | (apply zak; rfl; rfl; rfl; rfl; exact zao rfl; (focus repeat' first | exact zaa | assumption | (apply Ext.get; assumption)); (first | rfl | assumption)) | (apply zav; rfl; rfl; rfl; rfl; exact zaA rfl; (focus repeat' first | exact zaa | assumption | (apply Ext.get; assumption)); (first | exact Nat.le_of_ble_eq_true rfl | (simp; done) | (simp; omega)); rfl) | (apply zdK; rfl; rfl; rfl; rfl) | (apply zaQ; rfl; rfl; rfl; rfl; exact zae rfl; rfl; rfl) | fail))
 exact ⟨.inr rfl, _, rfl, some ⟨bs, 0, none⟩, unk, by rw [zgc]; rfl, .inr ⟨bs, _, _, rfl, sets⟩, by (focus repeat' first | exact Ext.refl _ | assumption | apply Ext.push | (refine Ext.trans ?_ (by assumption)))⟩
theorem zgD (hK : NoK K) (hT : PgAt G h) (hs : zdV G) (hP : PgP G) {j : Nat} {jj : Int} (hjj : jj = (j : Nat)) (hj : j < G.n) : CallW Tryz.prog K 27 #[pgV G, .int .i64 jj] h (IsE (rdA G (logL G) j) h) := by
 refine body (N := 19) Tryz.func27 rfl (hK _ _ _ rfl) rfl rfl ?_
 have hn := hP.n
 (repeat' (first | (apply zaC) | (apply zac) | (apply O_at; rfl) | (apply zaB; rfl) | (apply zaD) | (apply za3; rfl) | (apply za2; rfl) | (apply zaw) | (apply zaU) | (apply za6) | (apply zaE) | (apply za9; rfl; rfl; rfl) | (apply zas; rfl; rfl; rfl; rfl) | (apply zah; rfl; rfl; rfl; rfl) | (apply zba; rfl; rfl; rfl; rfl; rfl; rfl) | (apply zcH; rfl; rfl; rfl; rfl) | (apply P_neg; rfl; rfl; rfl; rfl; (unfold fit; omega)) | (apply zak; rfl; rfl; rfl; rfl; exact zao rfl; (focus repeat' first | exact zaa | assumption | apply zab | (apply Ext.get; assumption) | (apply ExtBut.get; assumption; (first | assumption | omega | (simp only [Heap.push]; omega)))); (first | exact zai (by omega) | exact zlY (by omega) | exact zmy (by omega) | exact zex (by omega) | exact zlQ (by omega) | exact zlR (by omega) | rfl | assumption)) | (apply zav; rfl; rfl; rfl; rfl; exact zaA rfl; (focus repeat' first | exact zaa | assumption | apply zab | (apply Ext.get; assumption) | (apply ExtBut.get; assumption; (first | assumption | omega | (simp only [Heap.push]; omega)))); (first | exact Nat.le_of_ble_eq_true rfl | (rw [zlX]; omega) | (rw [za1]; omega) | (simp; done) | (simp; omega) | (rw [za4]; omega) | (rw [zag]; omega)); (first | exact zbw (by omega) | exact zbk (by omega) | exact zaX (by omega) | rfl)) | (apply zaQ; rfl; rfl; rfl; rfl; exact zae rfl; rfl; rfl) | (apply zaO; rfl; rfl; rfl; rfl; rfl; rfl; exact yes (zjO hK (hT.ext (by (focus repeat' first | exact Ext.refl _ | assumption | apply Ext.push | (refine Ext.trans ?_ (by assumption)) | (refine Ext.set ?_ (Nat.le_succ _) (zab zaa) _) | (refine Ext.ofBut ?_ (by assumption) (by first | exact Nat.le_refl _ | omega))))) hs) hP; (rintro _ _ ⟨rfl, _⟩)) | (apply zaO; rfl; rfl; rfl; rfl; rfl; rfl; exact yes (zpa hK (by omega)) (by unfold LinP; omega); (rintro _ _ ⟨rfl, _⟩)) | fail))
 apply zaO; rfl; rfl; rfl; rfl; rfl; rfl; exact zkg hK (hT.ext (by (focus repeat' first | exact Ext.refl _ | assumption | apply Ext.push | (refine Ext.trans ?_ (by assumption)) | (refine Ext.set ?_ (Nat.le_succ _) (zab zaa) _) | (refine Ext.ofBut ?_ (by assumption) (by first | exact Nat.le_refl _ | omega))))) hP
 rintro _ h2 ⟨s, bn, bs, r, rfl, S, x⟩
 (repeat' (first | (apply zaC) | (apply zac) | (apply O_at; rfl) | (apply zaB; rfl) | (apply zaD) | (apply za3; rfl) | (apply za2; rfl) | (apply zaw) | (apply zaU) | (apply za6) | (apply zaE) | (apply za9; rfl; rfl; rfl) | (apply zas; rfl; rfl; rfl; rfl) | (apply zah; rfl; rfl; rfl; rfl) | (apply zba; rfl; rfl; rfl; rfl; rfl; rfl) | (apply zcH; rfl; rfl; rfl; rfl) | (apply P_neg; rfl; rfl; rfl; rfl; (unfold fit; omega)) | (apply zak; rfl; rfl; rfl; rfl; exact zao rfl; (focus repeat' first | exact zaa | assumption | apply zab | (apply Ext.get; assumption) | (apply ExtBut.get; assumption; (first | assumption | omega | (simp only [Heap.push]; omega)))); (first | exact zai (by omega) | exact zlY (by omega) | exact zmy (by omega) | exact zex (by omega) | exact zlQ (by omega) | exact zlR (by omega) | rfl | assumption)) | (apply zav; rfl; rfl; rfl; rfl; exact zaA rfl; (focus repeat' first | exact zaa | assumption | apply zab | (apply Ext.get; assumption) | (apply ExtBut.get; assumption; (first | assumption | omega | (simp only [Heap.push]; omega)))); (first | exact Nat.le_of_ble_eq_true rfl | (rw [zlX]; omega) | (rw [za1]; omega) | (simp; done) | (simp; omega) | (rw [za4]; omega) | (rw [zag]; omega)); (first | exact zbw (by omega) | exact zbk (by omega) | exact zaX (by omega) | rfl)) | (apply zaQ; rfl; rfl; rfl; rfl; exact zae rfl; rfl; rfl) | (apply zaO; rfl; rfl; rfl; rfl; rfl; rfl; exact zni hK (S.ext (by (focus repeat' first | exact Ext.refl _ | assumption | apply Ext.push | (refine Ext.trans ?_ (by assumption)) | (refine Ext.set ?_ (Nat.le_succ _) (zab zaa) _) | (refine Ext.ofBut ?_ (by assumption) (by first | exact Nat.le_refl _ | omega))))) hP.people hj (by omega) hjj; (rintro _ _ ⟨_, _, rfl, _, _⟩)) | fail))
 exact ⟨.inr rfl, _, rfl, _, _, rfl, by assumption, by (focus repeat' first | exact Ext.refl _ | assumption | apply Ext.push | (refine Ext.trans ?_ (by assumption)) | (refine Ext.set ?_ (Nat.le_succ _) (zab zaa) _) | (refine Ext.ofBut ?_ (by assumption) (by first | exact Nat.le_refl _ | omega)))⟩
end
end Go.AX.Sa

namespace Go.AX.Sa
open Go.Proofs
set_option maxRecDepth 100000
variable {K : Known}
/-! What stands, line by line: the specification. -/
theorem zjK (hK : NoK K) {l : List Int} {n : Int} {p : Option Addr} {cap : Nat} {h : Heap} (hn : l.length ≤ 1000) (hr : Rd h p (ints l)) :
  CallW Tryz.prog K 31 #[.slice p l.length cap, .int .i64 n] h (IfB (n ∈ l) h) := by
 refine body (N := 18) Tryz.func31 rfl (hK _ _ _ rfl) rfl rfl ?_
 (repeat' (first | apply zaC | apply zac | (apply O_at; rfl) | (apply zaB; rfl) | apply zaD | (apply za3; rfl) | (apply za2; rfl) | apply zar | apply zaw | apply zaR | apply zaU | apply za6 | apply zbC | apply zbt | apply zaS | apply zat | apply zau | apply zan | apply zaE | ((first | apply zas | apply zah); rfl; rfl; rfl; rfl) | (apply zbn; rfl; rfl; rfl; rfl; rfl; rfl; exact zap rfl) | (apply za0; rfl; rfl; rfl; rfl; rfl; omega) | (apply zaZ; rfl; rfl; rfl; rfl; rfl; omega) | (apply zeo; rfl; rfl; rfl; rfl; rfl; all_goals intro _) | (apply zbh; rfl; rfl; rfl; rfl; rfl; (unfold fit; omega)) | (apply zbF; rfl; rfl; rfl; rfl; rfl; exact zap rfl; exact zae rfl; (first | assumption | rfl | exact (Int.toNat_of_nonneg (by omega)).symm); omega) | (apply zak; rfl; rfl; rfl; rfl; exact zao rfl; (focus repeat' first | assumption | (apply Ext.get; assumption)); (first | exact zai (by omega) | rfl | assumption)) | fail))
 refine zcs (fun k : Nat => [(0, .slice p l.length cap), (1, .int .i64 n), (5, .int .i64 (k : Nat))])
  (fun k h' => k ≤ l.length ∧ Ext h h' ∧ ∀ j, j < k → l.getD j 0 ≠ n) (fun k => l.length - k) ?_ 0 ?_ ?_
 ·intro k h' ⟨hk, hx, hj⟩ ih
  by_cases hlt : k < l.length
  ·obtain ⟨b, e, own', rfl, hg⟩ := hr.at (by rw [zag]; omega)
   (repeat' (first | apply zaC | apply zac | (apply O_at; rfl) | (apply zaB; rfl) | apply zaD | (apply za3; rfl) | (apply za2; rfl) | apply zar | apply zaw | apply zaR | apply zaU | apply za6 | apply zbC | apply zbt | apply zaS | apply zat | apply zau | apply zan | apply zaE | ((first | apply zas | apply zah); rfl; rfl; rfl; rfl) | (apply zbn; rfl; rfl; rfl; rfl; rfl; rfl; exact zap rfl) | (apply za0; rfl; rfl; rfl; rfl; rfl; omega) | (apply zaZ; rfl; rfl; rfl; rfl; rfl; omega) | (apply zeo; rfl; rfl; rfl; rfl; rfl; all_goals intro _) | (apply zbh; rfl; rfl; rfl; rfl; rfl; (unfold fit; omega)) | (apply zbF; rfl; rfl; rfl; rfl; rfl; exact zap rfl; exact zae rfl; (first | assumption | rfl | exact (Int.toNat_of_nonneg (by omega)).symm); omega) | (apply zak; rfl; rfl; rfl; rfl; exact zao rfl; (focus repeat' first | assumption | (apply Ext.get; assumption)); (first | exact zai (by omega) | rfl | assumption)) | fail))
   ·rename_i q
    refine ⟨.inr rfl, _, rfl, .inl ⟨rfl, ?_, by (focus repeat' first | exact Ext.refl _ | assumption)⟩⟩
    rw [← q]; simp [hlt]
   ·rename_i q
    refine zb8 (ih (k + 1) _ ?_ ⟨hlt, ?_, fun j hj' => ?_⟩) ?_
    ·omega
    ·(focus repeat' first | exact Ext.refl _ | assumption)
    ·by_cases hjk : j = k
     ·subst hjk; exact q
     ·exact hj j (by omega)
    ·(focus repeat' first | rfl | exact trivial | apply And.intro)
  ·(repeat' (first | apply zaC | apply zac | (apply O_at; rfl) | (apply zaB; rfl) | apply zaD | (apply za3; rfl) | (apply za2; rfl) | apply zar | apply zaw | apply zaR | apply zaU | apply za6 | apply zbC | apply zbt | apply zaS | apply zat | apply zau | apply zan | apply zaE | ((first | apply zas | apply zah); rfl; rfl; rfl; rfl) | (apply zbn; rfl; rfl; rfl; rfl; rfl; rfl; exact zap rfl) | (apply za0; rfl; rfl; rfl; rfl; rfl; omega) | (apply zaZ; rfl; rfl; rfl; rfl; rfl; omega) | (apply zeo; rfl; rfl; rfl; rfl; rfl; all_goals intro _) | (apply zbh; rfl; rfl; rfl; rfl; rfl; (unfold fit; omega)) | (apply zbF; rfl; rfl; rfl; rfl; rfl; exact zap rfl; exact zae rfl; (first | assumption | rfl | exact (Int.toNat_of_nonneg (by omega)).symm); omega) | (apply zak; rfl; rfl; rfl; rfl; exact zao rfl; (focus repeat' first | assumption | (apply Ext.get; assumption)); (first | exact zai (by omega) | rfl | assumption)) | fail))
   refine ⟨.inr rfl, _, rfl, .inr ⟨rfl, fun q => ?_, by (focus repeat' first | exact Ext.refl _ | assumption)⟩⟩
   obtain ⟨j, hj1, hj2⟩ := List.getElem_of_mem q
   exact hj j (by omega) (by simpa [hj1] using hj2)
 ·exact ⟨Nat.zero_le _, Ext.refl _, fun j hj => by omega⟩
 ·(focus repeat' first | rfl | exact trivial | apply And.intro)
end Go.AX.Sa

namespace Go.AX.Sa
open Go.Proofs
set_option maxRecDepth 100000
variable {K : Known}
def HeardTo (G : Pg) (j q : Int) (i : Nat) : Prop := ∃ i', i' < i ∧ (reads (ent (G.c.getD i' cop0)) j ∧ zfi (ent (G.c.getD i' cop0)) q) ∧ ¬ ∃ k, i' ≤ k ∧ k < G.c.length ∧ changes (ent (G.c.getD k cop0)) j
end Go.AX.Sa

namespace Go.AX.Sa
open Go.Proofs
set_option maxRecDepth 100000
variable {K : Known}
end Go.AX.Sa

namespace Go.AX.Sa
open Go.Proofs
set_option maxRecDepth 100000
variable {K : Known}
abbrev TrueB : Value → Heap → Prop := fun v _ => v = .bool true
end Go.AX.Sa

namespace Go.AX.Sa
open Go.Proofs
set_option maxRecDepth 100000
variable {K : Known}
theorem lin_nat {n : Nat} {q : Int} (h : LinP n q) : ∃ j : Nat, q = (j : Nat) ∧ j < n := by
  unfold LinP at h
  exact ⟨q.toNat, by omega, by omega⟩
end Go.AX.Sa
