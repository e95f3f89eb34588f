/- The law ProofChanged at the reading: what the functions that it calls answer (3). -/
import Derived.Test.YtmobfcpigadakaaGreatDoorProofChangedTextB
namespace Go.AX.Sa
open Go.Proofs
set_option maxRecDepth 100000
variable {K : Known}
/-- What an entry makes of what stands. -/
structure StL (G : Pg) (L : List Ent) (s bn bs r : Nat) (h : Heap) : Prop where
  st : ∃ f, StB G (numsL G L) (setsL G L) f s bn bs r h ∧ ∀ q : Int × Int, 0 ≤ q.2 → q.2 < G.people → f q = hrdF L q
theorem ziD (hK : NoK K) {G : Pg} {L : List Ent} {s bn bs r : Nat} {c : Cop} {h : Heap} (hS : StL G L s bn bs r h) (hns : bn ≠ bs) (hp : 2 ≤ G.people ∧ G.people ≤ 6) (hn : G.n ≤ 1000) (hc : RowIn c.r h) (hP : EntP G.people G.n (ent c)) (hN : ∀ j, j < G.n → NumP (numA G L j)) :
    CallW Tryz.prog K 105 #[.pointer (some ⟨s, 0, none⟩), enV c] h (fun _ h1 => StL G (L ++ [ent c]) s bn bs r h1 ∧ Keep3 bn bs r h h1) := by
  obtain ⟨f, hS, hf⟩ := hS
  have hcb := hc.b
  have hP' := hP
  obtain ⟨par, ⟨q, k, t⟩⟩ := c
  dsimp only [enV, ent] at hP hcb ⊢
  refine body (N := 14) Tryz.func105 rfl (hK _ _ _ rfl) rfl rfl ?_
  rcases ent0 hP with h1 | h1 | h1
  · dsimp only at h1
    subst h1
    (repeat' (first | apply zau | apply zac | (apply O_at; rfl) | (apply N_at; rfl) | (apply zat; rfl) | apply zav | (apply zaJ; exact zaj (by decide +kernel)) | (apply zap; rfl; exact (.inl (Nat.le_refl 1))) | (apply zap; rfl; refine .inr ?_; (focus repeat' first | exact trivial | apply And.intro | rfl)) | apply zaw | (apply zar; rfl; rfl; rfl; rfl; exact zad rfl; rfl; rfl; rfl) | (apply zca; rfl; rfl; rfl; rfl) | (apply zaG; rfl; rfl; rfl; rfl; exact zad rfl; rfl; rfl) | (apply zaP; rfl; rfl; rfl; rfl; exact zad rfl; rfl; rfl) | (apply zaX; rfl; rfl; rfl; rfl) | (apply M_fa; rfl; rfl; rfl; rfl; exact zaD rfl; (first | exact Nat.zero_add _ | exact Nat.add_zero _ | rfl)) | (apply zjJ; rfl; rfl; rfl; rfl; rfl; (unfold fit; omega)) | ((first | ((apply zax; rfl; rfl; rfl; rfl; exact zak rfl; exact zai (by decide +kernel)); (focus repeat' first | exact zaa | assumption | apply zab); (first | rfl | assumption)) | ((apply zbJ; rfl; rfl; rfl; rfl; exact zay rfl; exact zai (by decide +kernel)); (focus repeat' first | exact zaa | assumption | apply zab); (first | exact Nat.le_of_ble_eq_true rfl | (simp; done) | (simp; omega)); rfl)); (first | assumption | exact zam _ _ | exact zbz _ _ _ _ | rfl | (focus simp [same, same.all2]; done)); (first | rfl | assumption | exact hwv _ | exact zaY (by assumption) (by (focus repeat' first | exact Ext.refl _ | assumption | apply Ext.push)) | (simp [within]; omega))) | (apply zfs; rfl; rfl; rfl; rfl; rfl; exact zjG rfl; exact zad rfl; (first | assumption | exact zq0 | exact zq1 | exact zq2 | rfl | exact (Int.toNat_of_nonneg (by omega)).symm); omega) | fail))
    apply zbe; rfl; rfl; rfl; rfl; rfl; rfl; rfl; exact read_ok hK (c := ⟨1, ⟨q, k, t⟩⟩) (hS.ext (by (focus repeat' first | exact Ext.refl _ | assumption | apply Ext.push))) hns hn (hc.ext (by (focus repeat' first | exact Ext.refl _ | assumption | apply Ext.push))) hP' rfl
    rintro _ h2 ⟨S2, k2⟩
    (repeat' (first | apply zau | apply zac | (apply O_at; rfl) | (apply N_at; rfl) | (apply zat; rfl) | apply zav | (apply zaJ; exact zaj (by decide +kernel)) | (apply zap; rfl; exact (.inl (Nat.le_refl 1))) | (apply zap; rfl; refine .inr ?_; (focus repeat' first | exact trivial | apply And.intro | rfl)) | apply zaw | (apply zar; rfl; rfl; rfl; rfl; exact zad rfl; rfl; rfl; rfl) | (apply zca; rfl; rfl; rfl; rfl) | (apply zaG; rfl; rfl; rfl; rfl; exact zad rfl; rfl; rfl) | (apply zaP; rfl; rfl; rfl; rfl; exact zad rfl; rfl; rfl) | (apply zaX; rfl; rfl; rfl; rfl) | (apply M_fa; rfl; rfl; rfl; rfl; exact zaD rfl; (first | exact Nat.zero_add _ | exact Nat.add_zero _ | rfl)) | (apply zjJ; rfl; rfl; rfl; rfl; rfl; (unfold fit; omega)) | ((first | ((apply zax; rfl; rfl; rfl; rfl; exact zak rfl; exact zai (by decide +kernel)); (focus repeat' first | exact zaa | assumption | apply zab); (first | rfl | assumption)) | ((apply zbJ; rfl; rfl; rfl; rfl; exact zay rfl; exact zai (by decide +kernel)); (focus repeat' first | exact zaa | assumption | apply zab); (first | exact Nat.le_of_ble_eq_true rfl | (simp; done) | (simp; omega)); rfl)); (first | assumption | exact zam _ _ | exact zbz _ _ _ _ | rfl | (focus simp [same, same.all2]; done)); (first | rfl | assumption | exact hwv _ | exact zaY (by assumption) (by (focus repeat' first | exact Ext.refl _ | assumption | apply Ext.push)) | (simp [within]; omega))) | (apply zfs; rfl; rfl; rfl; rfl; rfl; exact zjG rfl; exact zad rfl; (first | assumption | exact zq0 | exact zq1 | exact zq2 | rfl | exact (Int.toNat_of_nonneg (by omega)).symm); omega) | fail))
    refine ⟨.inl rfl, _, rfl, ⟨_, by rw [zkG rfl, zfd (by simp)]; exact S2, fun y y0 y1 => ?_⟩, (Keep3.of (by (focus repeat' first | exact Ext.refl _ | assumption | apply Ext.push))).trans k2⟩
    rw [zey, hrdS, if_neg (fun u => u.elim (fun w => absurd w.1 (by simp)) fun w => absurd w.1 (by simp))]
    unfold readF
    rw [hf y y0 y1]
    simp only [rdL_mem, ent]
  · dsimp only at h1
    subst h1
    have z := ent2.1 hP
    obtain ⟨j, hj⟩ : ∃ j : Nat, t.getD 1 0 = (j : Nat) := ⟨(t.getD 1 0).toNat, by omega⟩
    have hjn : j < G.n := by omega
    (repeat' (first | apply zau | apply zac | (apply O_at; rfl) | (apply N_at; rfl) | (apply zat; rfl) | apply zav | (apply zaJ; exact zaj (by decide +kernel)) | (apply zap; rfl; exact (.inl (Nat.le_refl 1))) | (apply zap; rfl; refine .inr ?_; (focus repeat' first | exact trivial | apply And.intro | rfl)) | apply zaw | (apply zar; rfl; rfl; rfl; rfl; exact zad rfl; rfl; rfl; rfl) | (apply zca; rfl; rfl; rfl; rfl) | (apply zaG; rfl; rfl; rfl; rfl; exact zad rfl; rfl; rfl) | (apply zaP; rfl; rfl; rfl; rfl; exact zad rfl; rfl; rfl) | (apply zaX; rfl; rfl; rfl; rfl) | (apply M_fa; rfl; rfl; rfl; rfl; exact zaD rfl; (first | exact Nat.zero_add _ | exact Nat.add_zero _ | rfl)) | (apply zjJ; rfl; rfl; rfl; rfl; rfl; (unfold fit; omega)) | ((first | ((apply zax; rfl; rfl; rfl; rfl; exact zak rfl; exact zai (by decide +kernel)); (focus repeat' first | exact zaa | assumption | apply zab); (first | rfl | assumption)) | ((apply zbJ; rfl; rfl; rfl; rfl; exact zay rfl; exact zai (by decide +kernel)); (focus repeat' first | exact zaa | assumption | apply zab); (first | exact Nat.le_of_ble_eq_true rfl | (simp; done) | (simp; omega)); rfl)); (first | assumption | exact zam _ _ | exact zbz _ _ _ _ | rfl | (focus simp [same, same.all2]; done)); (first | rfl | assumption | exact hwv _ | exact zaY (by assumption) (by (focus repeat' first | exact Ext.refl _ | assumption | apply Ext.push)) | (simp [within]; omega))) | (apply zfs; rfl; rfl; rfl; rfl; rfl; exact zjG rfl; exact zad rfl; (first | assumption | exact zq0 | exact zq1 | exact zq2 | rfl | exact (Int.toNat_of_nonneg (by omega)).symm); omega) | fail))
    apply zbe; rfl; rfl; rfl; rfl; rfl; rfl; rfl; exact mend_ok hK (c := ⟨2, ⟨q, k, t⟩⟩) (hS.ext (by (focus repeat' first | exact Ext.refl _ | assumption | apply Ext.push))) hns hp hn (hc.ext (by (focus repeat' first | exact Ext.refl _ | assumption | apply Ext.push))) z.1 hj hjn
    rintro _ h2 ⟨S2, k2⟩
    (repeat' (first | apply zau | apply zac | (apply O_at; rfl) | (apply N_at; rfl) | (apply zat; rfl) | apply zav | (apply zaJ; exact zaj (by decide +kernel)) | (apply zap; rfl; exact (.inl (Nat.le_refl 1))) | (apply zap; rfl; refine .inr ?_; (focus repeat' first | exact trivial | apply And.intro | rfl)) | apply zaw | (apply zar; rfl; rfl; rfl; rfl; exact zad rfl; rfl; rfl; rfl) | (apply zca; rfl; rfl; rfl; rfl) | (apply zaG; rfl; rfl; rfl; rfl; exact zad rfl; rfl; rfl) | (apply zaP; rfl; rfl; rfl; rfl; exact zad rfl; rfl; rfl) | (apply zaX; rfl; rfl; rfl; rfl) | (apply M_fa; rfl; rfl; rfl; rfl; exact zaD rfl; (first | exact Nat.zero_add _ | exact Nat.add_zero _ | rfl)) | (apply zjJ; rfl; rfl; rfl; rfl; rfl; (unfold fit; omega)) | ((first | ((apply zax; rfl; rfl; rfl; rfl; exact zak rfl; exact zai (by decide +kernel)); (focus repeat' first | exact zaa | assumption | apply zab); (first | rfl | assumption)) | ((apply zbJ; rfl; rfl; rfl; rfl; exact zay rfl; exact zai (by decide +kernel)); (focus repeat' first | exact zaa | assumption | apply zab); (first | exact Nat.le_of_ble_eq_true rfl | (simp; done) | (simp; omega)); rfl)); (first | assumption | exact zam _ _ | exact zbz _ _ _ _ | rfl | (focus simp [same, same.all2]; done)); (first | rfl | assumption | exact hwv _ | exact zaY (by assumption) (by (focus repeat' first | exact Ext.refl _ | assumption | apply Ext.push)) | (simp [within]; omega))) | (apply zfs; rfl; rfl; rfl; rfl; rfl; exact zjG rfl; exact zad rfl; (first | assumption | exact zq0 | exact zq1 | exact zq2 | rfl | exact (Int.toNat_of_nonneg (by omega)).symm); omega) | fail))
    refine ⟨.inl rfl, _, rfl, ⟨_, by rw [zkH (e := (2, t)) rfl hj hjn, zj8 (e := (2, t)) rfl hj hjn]; exact S2, fun y y0 y1 => ?_⟩, (Keep3.of (by (focus repeat' first | exact Ext.refl _ | assumption | apply Ext.push))).trans k2⟩
    rw [zey, hrdS]
    unfold keepCh
    by_cases hy : y.1 = (j : Nat)
    · rw [if_pos ⟨hy, y0, y1⟩, if_pos (.inl ⟨rfl, hj.trans hy.symm⟩)]
    · rw [if_neg (fun w => hy w.1), if_neg (fun u => u.elim (fun w => hy (w.2.symm.trans hj)) fun w => absurd w.1 (by simp)), if_neg (fun w => absurd w.1.1 (by simp))]
      exact hf y y0 y1
  · dsimp only at h1
    subst h1
    have z := ent3.1 hP
    obtain ⟨j, hj⟩ : ∃ j : Nat, t.getD 0 0 = (j : Nat) := ⟨(t.getD 0 0).toNat, by omega⟩
    have hjn : j < G.n := by omega
    (repeat' (first | apply zau | apply zac | (apply O_at; rfl) | (apply N_at; rfl) | (apply zat; rfl) | apply zav | (apply zaJ; exact zaj (by decide +kernel)) | (apply zap; rfl; exact (.inl (Nat.le_refl 1))) | (apply zap; rfl; refine .inr ?_; (focus repeat' first | exact trivial | apply And.intro | rfl)) | apply zaw | (apply zar; rfl; rfl; rfl; rfl; exact zad rfl; rfl; rfl; rfl) | (apply zca; rfl; rfl; rfl; rfl) | (apply zaG; rfl; rfl; rfl; rfl; exact zad rfl; rfl; rfl) | (apply zaP; rfl; rfl; rfl; rfl; exact zad rfl; rfl; rfl) | (apply zaX; rfl; rfl; rfl; rfl) | (apply M_fa; rfl; rfl; rfl; rfl; exact zaD rfl; (first | exact Nat.zero_add _ | exact Nat.add_zero _ | rfl)) | (apply zjJ; rfl; rfl; rfl; rfl; rfl; (unfold fit; omega)) | ((first | ((apply zax; rfl; rfl; rfl; rfl; exact zak rfl; exact zai (by decide +kernel)); (focus repeat' first | exact zaa | assumption | apply zab); (first | rfl | assumption)) | ((apply zbJ; rfl; rfl; rfl; rfl; exact zay rfl; exact zai (by decide +kernel)); (focus repeat' first | exact zaa | assumption | apply zab); (first | exact Nat.le_of_ble_eq_true rfl | (simp; done) | (simp; omega)); rfl)); (first | assumption | exact zam _ _ | exact zbz _ _ _ _ | rfl | (focus simp [same, same.all2]; done)); (first | rfl | assumption | exact hwv _ | exact zaY (by assumption) (by (focus repeat' first | exact Ext.refl _ | assumption | apply Ext.push)) | (simp [within]; omega))) | (apply zfs; rfl; rfl; rfl; rfl; rfl; exact zjG rfl; exact zad rfl; (first | assumption | exact zq0 | exact zq1 | exact zq2 | rfl | exact (Int.toNat_of_nonneg (by omega)).symm); omega) | fail))
    apply zbe; rfl; rfl; rfl; rfl; rfl; rfl; rfl; exact fall_ok hK (c := ⟨3, ⟨q, k, t⟩⟩) (hS.ext (by (focus repeat' first | exact Ext.refl _ | assumption | apply Ext.push))) hns hp hn (hc.ext (by (focus repeat' first | exact Ext.refl _ | assumption | apply Ext.push))) z.1 hj hjn (by rw [zb5 hjn]; exact hN j hjn)
    rintro _ h2 ⟨S2, k2⟩
    rw [zb5 hjn] at S2
    (repeat' (first | apply zau | apply zac | (apply O_at; rfl) | (apply N_at; rfl) | (apply zat; rfl) | apply zav | (apply zaJ; exact zaj (by decide +kernel)) | (apply zap; rfl; exact (.inl (Nat.le_refl 1))) | (apply zap; rfl; refine .inr ?_; (focus repeat' first | exact trivial | apply And.intro | rfl)) | apply zaw | (apply zar; rfl; rfl; rfl; rfl; exact zad rfl; rfl; rfl; rfl) | (apply zca; rfl; rfl; rfl; rfl) | (apply zaG; rfl; rfl; rfl; rfl; exact zad rfl; rfl; rfl) | (apply zaP; rfl; rfl; rfl; rfl; exact zad rfl; rfl; rfl) | (apply zaX; rfl; rfl; rfl; rfl) | (apply M_fa; rfl; rfl; rfl; rfl; exact zaD rfl; (first | exact Nat.zero_add _ | exact Nat.add_zero _ | rfl)) | (apply zjJ; rfl; rfl; rfl; rfl; rfl; (unfold fit; omega)) | ((first | ((apply zax; rfl; rfl; rfl; rfl; exact zak rfl; exact zai (by decide +kernel)); (focus repeat' first | exact zaa | assumption | apply zab); (first | rfl | assumption)) | ((apply zbJ; rfl; rfl; rfl; rfl; exact zay rfl; exact zai (by decide +kernel)); (focus repeat' first | exact zaa | assumption | apply zab); (first | exact Nat.le_of_ble_eq_true rfl | (simp; done) | (simp; omega)); rfl)); (first | assumption | exact zam _ _ | exact zbz _ _ _ _ | rfl | (focus simp [same, same.all2]; done)); (first | rfl | assumption | exact hwv _ | exact zaY (by assumption) (by (focus repeat' first | exact Ext.refl _ | assumption | apply Ext.push)) | (simp [within]; omega))) | (apply zfs; rfl; rfl; rfl; rfl; rfl; exact zjG rfl; exact zad rfl; (first | assumption | exact zq0 | exact zq1 | exact zq2 | rfl | exact (Int.toNat_of_nonneg (by omega)).symm); omega) | fail))
    refine ⟨.inl rfl, _, rfl, ⟨_, by rw [zkI (e := (3, t)) rfl hj hjn, zfd (by simp)]; exact S2, fun y y0 y1 => ?_⟩, (Keep3.of (by (focus repeat' first | exact Ext.refl _ | assumption | apply Ext.push))).trans k2⟩
    rw [zey, hrdS]
    unfold keepCh
    by_cases hy : y.1 = (j : Nat)
    · rw [if_pos ⟨hy, y0, y1⟩, if_pos (.inr ⟨rfl, hj.trans hy.symm⟩)]
    · rw [if_neg (fun w => hy w.1), if_neg (fun u => u.elim (fun w => absurd w.1 (by simp)) fun w => hy (w.2.symm.trans hj)), if_neg (fun w => absurd w.1.1 (by simp))]
      exact hf y y0 y1
end Go.AX.Sa

namespace Go.AX.Sa
open Go.Proofs
set_option maxRecDepth 100000
/-! Lists that grow beside each other. -/
/-- The value reads as this list and lies in this block alone. -/
def Own (h : Heap) (v : Value) (l : List Int) (b : Nat) : Prop := (v = .slice none 0 0 ∧ l = []) ∨ (l ≠ [] ∧ v = .slice (some ⟨b, 0, none⟩) l.length unk ∧ h.get? b = some (.cells (ints l) 3 true))
theorem Own.ext {h h1 : Heap} {v : Value} {l : List Int} {b : Nat} (o : Own h v l b) (x : Ext h h1) : Own h1 v l b := o.imp id fun q => ⟨q.1, q.2.1, x.get q.2.2⟩
theorem Own.but {h h1 : Heap} {v : Value} {l : List Int} {b c : Nat} (o : Own h v l b) (x : ExtBut c h h1) (hne : b ≠ c) : Own h1 v l b := o.imp id fun q => ⟨q.1, q.2.1, x.get hne q.2.2⟩
/-- What stays when a list in this block grows. -/
structure KeptX (l : List Int) (b : Nat) (h h1 : Heap) : Prop where
  n : h1.n = h.n + 1
  get' : ∀ c y, (l = [] ∨ c ≠ b) → h.get? c = some y → h1.get? c = some y
theorem Own.kept {h h1 : Heap} {v : Value} {l l' : List Int} {b b' : Nat} (o : Own h v l b) (x : KeptX l' b' h h1) (hne : l' = [] ∨ b ≠ b') : Own h1 v l b := by
  rcases o with o | ⟨o0, o1, o2⟩
  · exact .inl o
  · rcases hne with hn | hn
    · exact .inr ⟨o0, o1, x.get' _ _ (.inl hn) o2⟩
    · exact .inr ⟨o0, o1, x.get' _ _ (.inr hn) o2⟩
theorem Own.one {h : Heap} {v : Value} {l : List Int} {b : Nat} (o : Own h v l b) : oneB v = true ∧ v.cells = #[v] := by
  rcases o with ⟨rfl, _⟩ | ⟨_, rfl, _⟩ <;> exact ⟨rfl, rfl⟩
theorem Own.same {h : Heap} {v : Value} {l : List Int} {b : Nat} (o : Own h v l b) : AX.same 20 v v = true := by
  rcases o with ⟨rfl, _⟩ | ⟨_, rfl, _⟩ <;> simp [AX.same]
theorem Own.within {h : Heap} {v : Value} {l : List Int} {b : Nat} (o : Own h v l b) {m : Nat} (hm : h.n ≤ m) : AX.within 20 m v = true := by
  rcases o with ⟨rfl, _⟩ | ⟨_, rfl, g⟩
  · rfl
  · have := Heap.get_lt g
    simp [AX.within]; omega
section
variable {P : Program} {K : Known} {x : Ctx} {N : Nat} {E : Env} {h : Heap} {ops : Array Oper} {F : Ex → Env → Heap → Prop} {i : Nat} {Hs : List Heap} {L : List Heap → Prop} {nw : List (Nat × Nat × Blk)}
variable {d : Nat} {ty : TypeId} {pos : String} {af : Array Edge} {g : Option (Nat × Bool)}
theorem own_app {ts : Array TypeId} {t t' e' : TypeId} {by_ cap bv : Nat} {e0 : TypeId} {own : Bool} {n : Int} {v : Value} {l : List Int} (h0' : ts[0]? = some t) (h1' : ts[1]? = some t') (hc : cell1 P t = some 3) (hc' : P.underlying t' = some (.slice e'))
    (hy : h.get? by_ = some (.cells [.int .i64 n] e0 own)) (ho : Own h v l bv) (hle : l.length ≤ 10000) : ∃ v' h1, appendB P h ts v (.slice (some ⟨by_, 0, none⟩) 1 cap) = some (v', h1) ∧ Own h1 v' (l ++ [n]) h.n ∧ KeptX l bv h h1 := by
  rcases ho with ⟨rfl, rfl⟩ | ⟨hne0, rfl, h2⟩
  · exact ⟨_, _, app_nil h0' h1' hc hc' hy rfl (by omega) (by omega) rfl, .inr ⟨by simp, rfl, zaa⟩, ⟨rfl, fun _ _ _ g => zab g⟩⟩
  · refine ⟨_, _, app_unk h0' h1' hc hc' hy rfl (by omega) (by omega) rfl h2 (zaf _), .inr ⟨by simp, by simp, ?_⟩, ⟨rfl, fun c y hne q => ?_⟩⟩
    · have : (h.set bv .dead).n = h.n := rfl
      rw [← this, show ints (l ++ [n]) = ints l ++ [Value.int .i64 n] from (AX.ints_app l [n]).symm]
      exact zaa
    · by_cases hb : c = bv
      · subst hb
        rcases hne with hn | hn
        · exact absurd hn hne0
        · exact absurd rfl hn
      · exact zab (zaZ h2 hb q)
theorem appOwnM {args : Array Operand} {ts : Array TypeId} {t t' e' : TypeId} {a b : Operand} {by_ cap bv : Nat} {e0 : TypeId} {own : Bool} {n : Int} {v : Value} {l : List Int} (hN : Nat.blt d N = true) (hg : gval ops E g = some true) (hk : opsOK P ⟨some d, .call ⟨.builtin .append, args, ts⟩, ty, pos, af, g⟩ = true) (hargs : args.toList = [a, b])
    (ha : E.ev a = some v) (hb : E.ev b = some (.slice (some ⟨by_, 0, none⟩) 1 cap)) (h0' : ts[0]? = some t) (h1' : ts[1]? = some t') (hc : cell1 P t = some 3) (hc' : P.underlying t' = some (.slice e'))
    (hy : h.get? by_ = some (.cells [.int .i64 n] e0 own)) (ho : Own h v l bv) (hle : l.length ≤ 10000) (hnw : unseen (preds ops.toList) nw i = [])
    (k : ∀ v' h1, Own h1 v' (l ++ [n]) h.n → KeptX l bv h h1 → S1 P K x N ops F (i + 1) ((d, v') :: E) h1 (h1 :: Hs) L nw) : S2 P K x N ops F i ⟨some d, .call ⟨.builtin .append, args, ts⟩, ty, pos, af, g⟩ E h Hs L nw := by
  obtain ⟨v', h1, e, o, q⟩ := own_app (P := P) (e' := e') h0' h1' hc hc' hy ho hle
  exact ziQ hN hg hk hargs ha hb e hnw (k v' h1 o q)
end
variable {K : Known}
def sets0 (G : Pg) (k : Nat) : List Int := (List.range k).map (sett G)
def setr0 (G : Pg) (k : Nat) : List Int := (List.range k).map (setr G)
theorem zi7 (G : Pg) (k : Nat) : sets0 G (k + 1) = sets0 G k ++ [sett G k] := by simp [sets0, List.range_succ]
theorem zi8 (G : Pg) (k : Nat) : setr0 G (k + 1) = setr0 G k ++ [setr G k] := by simp [setr0, List.range_succ]
theorem zec (G : Pg) (k : Nat) : (sets0 G k).length = k := by simp [sets0]
theorem zed (G : Pg) (k : Nat) : (setr0 G k).length = k := by simp [setr0]
theorem zlm (hK : NoK K) {G : Pg} {h : Heap} (hT : PgAt G h) (hn : 0 < G.n ∧ G.n ≤ 1000) :
    CallW Tryz.prog K 104 #[pgV G] h (fun v h1 => ∃ s bn bs r, v = .pointer (some ⟨s, 0, none⟩) ∧ StL G [] s bn bs r h1 ∧ bn ≠ bs ∧ (h.n ≤ s ∧ h.n ≤ bn ∧ h.n ≤ bs ∧ h.n ≤ r) ∧ Ext h h1) := by
  obtain ⟨people, pl, kl, n, l, p, kc, c'⟩ := G
  obtain ⟨len, rl, rc, each, hbl, hpb⟩ := hT
  dsimp only [pgV] at len rl rc each hbl hpb hn ⊢
  obtain ⟨b, e, own, rfl, hg⟩ := rl.at (by rw [zaf]; omega)
  have hbl' := Heap.get_lt hg
  refine body (N := 41) Tryz.func104 rfl (hK _ _ _ rfl) rfl rfl ?_
  (repeat' (first | apply zau | apply zac | (apply O_at; rfl) | (apply N_at; rfl) | (apply zat; rfl) | apply zav | (apply zaR; rfl) | (apply zaQ; rfl) | (apply zaJ; exact zaj (by decide +kernel)) | apply zaA | apply zas | apply zaS | apply zaK | (apply zap; rfl; exact (.inl (Nat.le_refl 1))) | (apply zap; rfl; refine .inr ?_; (focus repeat' first | exact trivial | apply And.intro | rfl | (refine (List.forall_mem_cons (p := fun hk => MapB hk _ _)).2 ?_) | exact List.forall_mem_nil _ | (apply MapB.ext; assumption; (focus repeat' first | exact Ext.refl _ | assumption | apply Ext.push | (refine Ext.trans ?_ (by assumption)))) | (apply MapB.but; assumption; assumption; omega))) | apply zaT | apply zaH | apply zaI | apply zan | apply zaw | ((first | apply zaq | apply zae | apply zaX); rfl; rfl; rfl; rfl) | ((first | apply P_fa | apply M_fa); rfl; rfl; rfl; rfl; exact zaD rfl; (first | exact Nat.zero_add _ | exact Nat.add_zero _ | rfl)) | (apply za8; rfl; rfl; rfl; rfl; rfl; rfl; exact zal rfl) | (apply za1; rfl; rfl; rfl; rfl; rfl; omega) | (apply za0; rfl; rfl; rfl; rfl; rfl; omega) | (apply zbj; rfl; rfl; rfl; rfl; rfl; (unfold fit; omega)) | (apply zbq; rfl; rfl; rfl; rfl; rfl; exact zal rfl; exact zad rfl; (first | assumption | rfl | exact (Int.toNat_of_nonneg (by omega)).symm); omega) | (apply zah; rfl; rfl; rfl; rfl; exact zak rfl; (focus repeat' first | exact zaa | assumption | apply zab | (apply Ext.get; assumption) | (apply ExtBut.get; assumption; (first | assumption | omega | (simp only [Heap.push]; omega)))); (first | rfl | assumption)) | (apply zao; rfl; rfl; rfl; rfl; exact zay rfl; (focus repeat' first | exact zaa | assumption | apply zab | (apply Ext.get; assumption) | (apply ExtBut.get; assumption; (first | assumption | omega | (simp only [Heap.push]; omega)))); (first | exact Nat.le_of_ble_eq_true rfl | (simp; done) | (simp; omega) | (rw [zaf]; omega)); (first | exact za6 (by omega) | rfl)) | (apply zar; rfl; rfl; rfl; rfl; exact zad rfl; rfl; rfl; rfl) | (apply zbQ; rfl; rfl; rfl; rfl) | (apply zaG; rfl; rfl; rfl; rfl; exact zad rfl; rfl; rfl) | (apply zaP; rfl; rfl; rfl; rfl; exact zad rfl; rfl; rfl) | (apply zbP; rfl; rfl; rfl; (intro _ _ _ _)) | (apply zcy; rfl; rfl; rfl; rfl; rfl; rfl; rfl; exact zfZ rfl) | (((apply zax; rfl; rfl; rfl; rfl; exact zak rfl; exact zai (by decide +kernel)); (focus repeat' first | exact zaa | assumption | apply zab | (apply Ext.get; assumption) | (apply ExtBut.get; assumption; (first | assumption | omega | (simp only [Heap.push]; omega)))); (first | rfl | assumption)); (first | assumption | exact zam _ _ | rfl | (focus simp [same, same.all2]; done)); (first | rfl | assumption | exact hwv _ | (simp [within]; omega))) | (apply zh3; rfl; rfl; rfl; rfl) | fail))
  rename_i h1 m1 x1 e1
  have hs1 : h1.n = h.n + 2 := e1
  refine zb3 (fun a : Nat × Value × Nat × Value × Nat => [(13, .int .i64 (a.1 : Nat)), (12, .int .i64 (n : Nat)), (11, .slice (some ⟨b, 0, none⟩) n kl), (3, .pointer (some ⟨h1.n, 0, none⟩)), (1, .pointer (some ⟨h.n, 0, none⟩))])
    (fun a h' => a.1 ≤ n ∧ Ext h h' ∧ h.n + 3 ≤ h'.n ∧ h'.get? h1.n = some (.cells [.int .i64 people, .slice (some ⟨b, 0, none⟩) n kl, .slice p c'.length kc, a.2.1, a.2.2.2.1, .map (some (h.n + 1))] 87 true) ∧
      Own h' a.2.1 (sets0 ⟨people, some ⟨b, 0, none⟩, kl, n, l, p, kc, c'⟩ a.1) a.2.2.1 ∧ Own h' a.2.2.2.1 (setr0 ⟨people, some ⟨b, 0, none⟩, kl, n, l, p, kc, c'⟩ a.1) a.2.2.2.2 ∧ MapB h' (h.n + 1) (fun _ => false) ∧
      (a.1 = 0 ∨ (a.2.2.1 ≠ a.2.2.2.2 ∧ h.n + 3 ≤ a.2.2.1 ∧ h.n + 3 ≤ a.2.2.2.2 ∧ a.2.2.1 < h'.n ∧ a.2.2.2.2 < h'.n))) (fun a => n - a.1) ?_ (0, (.slice none 0 0), 0, (.slice none 0 0), 0) ?_ ?_
  · rintro ⟨k, vN, bN, vS, bS⟩ h' ⟨hk, hx, hn1, g1, oN, oS, m, hd⟩ ih
    dsimp only at hk hx hn1 g1 oN oS m hd ih ⊢
    by_cases hlt : k < n
    · have hg' := hx.get hg
      have sN := oN.same
      have hwv : ∀ q, AX.within 20 (h'.push q).n vN = true := fun q => oN.within (Nat.le_succ _)
      (repeat' (first | apply zau | apply zac | (apply O_at; rfl) | (apply N_at; rfl) | (apply zat; rfl) | apply zav | (apply zaR; rfl) | (apply zaQ; rfl) | (apply zaJ; exact zaj (by decide +kernel)) | apply zaA | apply zas | apply zaS | apply zaK | (apply zap; rfl; exact (.inl (Nat.le_refl 1))) | (apply zap; rfl; refine .inr ?_; (focus repeat' first | exact trivial | apply And.intro | rfl | (refine (List.forall_mem_cons (p := fun hk => MapB hk _ _)).2 ?_) | exact List.forall_mem_nil _ | (apply MapB.ext; assumption; (focus repeat' first | exact Ext.refl _ | assumption | apply Ext.push | (refine Ext.trans ?_ (by assumption)))) | (apply MapB.but; assumption; assumption; omega))) | apply zaT | apply zaH | apply zaI | apply zan | apply zaw | ((first | apply zaq | apply zae | apply zaX); rfl; rfl; rfl; rfl) | ((first | apply P_fa | apply M_fa); rfl; rfl; rfl; rfl; exact zaD rfl; (first | exact Nat.zero_add _ | exact Nat.add_zero _ | rfl)) | (apply za8; rfl; rfl; rfl; rfl; rfl; rfl; exact zal rfl) | (apply za1; rfl; rfl; rfl; rfl; rfl; omega) | (apply za0; rfl; rfl; rfl; rfl; rfl; omega) | (apply zbj; rfl; rfl; rfl; rfl; rfl; (unfold fit; omega)) | (apply zbq; rfl; rfl; rfl; rfl; rfl; exact zal rfl; exact zad rfl; (first | assumption | rfl | exact (Int.toNat_of_nonneg (by omega)).symm); omega) | (apply zah; rfl; rfl; rfl; rfl; exact zak rfl; (focus repeat' first | exact zaa | assumption | apply zab | (apply Ext.get; assumption) | (apply ExtBut.get; assumption; (first | assumption | omega | (simp only [Heap.push]; omega)))); (first | rfl | assumption)) | (apply zao; rfl; rfl; rfl; rfl; exact zay rfl; (focus repeat' first | exact zaa | assumption | apply zab | (apply Ext.get; assumption) | (apply ExtBut.get; assumption; (first | assumption | omega | (simp only [Heap.push]; omega)))); (first | exact Nat.le_of_ble_eq_true rfl | (simp; done) | (simp; omega) | (rw [zaf]; omega)); (first | exact za6 (by omega) | rfl)) | (apply zar; rfl; rfl; rfl; rfl; exact zad rfl; rfl; rfl; rfl) | (apply zbQ; rfl; rfl; rfl; rfl) | (apply zaG; rfl; rfl; rfl; rfl; exact zad rfl; rfl; rfl) | (apply zaP; rfl; rfl; rfl; rfl; exact zad rfl; rfl; rfl) | (apply zbP; rfl; rfl; rfl; (intro _ _ _ _)) | (apply zcy; rfl; rfl; rfl; rfl; rfl; rfl; rfl; exact zfZ rfl) | (((apply zax; rfl; rfl; rfl; rfl; exact zak rfl; exact zai (by decide +kernel)); (focus repeat' first | exact zaa | assumption | apply zab | (apply Ext.get; assumption) | (apply ExtBut.get; assumption; (first | assumption | omega | (simp only [Heap.push]; omega)))); (first | rfl | assumption)); (first | assumption | exact zam _ _ | rfl | (focus simp [same, same.all2]; done)); (first | rfl | assumption | exact hwv _ | (simp [within]; omega))) | (apply zh3; rfl; rfl; rfl; rfl) | fail))
      apply appOwnM; rfl; rfl; rfl; rfl; rfl; rfl; rfl; rfl; exact zfZ rfl; exact zal rfl; exact zaa; exact oN.ext (by (focus repeat' first | exact Ext.refl _ | assumption | apply Ext.push | (refine Ext.trans ?_ (by assumption)))); exact (by rw [zec]; omega); rfl
      intro v2 h2 o2 k2
      have n2 : h2.n = h'.n + 3 := k2.n
      have nk : ∀ {c : Nat}, c < h.n + 3 → (sets0 ⟨people, some ⟨b, 0, none⟩, kl, n, l, p, kc, c'⟩ k = [] ∨ c ≠ bN) := fun hc => by
        rcases hd with rfl | hd
        · exact .inl rfl
        · exact .inr (by omega)
      have nS : sets0 ⟨people, some ⟨b, 0, none⟩, kl, n, l, p, kc, c'⟩ k = [] ∨ bS ≠ bN := by
        rcases hd with rfl | hd
        · exact .inl rfl
        · exact .inr (fun q => hd.1 q.symm)
      have old2 : ∀ {c y}, c < h.n + 3 → h'.get? c = some y → h2.get? c = some y := fun hc g => k2.get' _ _ (nk hc) (zab (zab g))
      have oS2 : Own h2 vS (setr0 ⟨people, some ⟨b, 0, none⟩, kl, n, l, p, kc, c'⟩ k) bS := (oS.ext (((Ext.refl h').push _).push _)).kept k2 nS
      have ln2 := k2.get' h'.n _ (by rcases hd with rfl | hd; exact .inl rfl; exact .inr (by omega)) (zab (zaa (h := h') (b := .cells (Value.agg #[.int .i64 (l.getD (k * 3) 0), .int .i64 (l.getD (k * 3 + 1) 0), .int .i64 (l.getD (k * 3 + 2) 0)]).cells.toList 92 true)))
      (repeat' (first | apply zau | apply zac | (apply O_at; rfl) | (apply N_at; rfl) | (apply zat; rfl) | apply zav | (apply zaR; rfl) | (apply zaQ; rfl) | (apply zaJ; exact zaj (by decide +kernel)) | apply zaA | apply zas | apply zaS | apply zaK | (apply zap; rfl; exact (.inl (Nat.le_refl 1))) | (apply zap; rfl; refine .inr ?_; (focus repeat' first | exact trivial | apply And.intro | rfl | (refine (List.forall_mem_cons (p := fun hk => MapB hk _ _)).2 ?_) | exact List.forall_mem_nil _ | (apply MapB.ext; assumption; (focus repeat' first | exact Ext.refl _ | assumption | apply Ext.push | (refine Ext.trans ?_ (by assumption)))) | (apply MapB.but; assumption; assumption; omega))) | apply zaT | apply zaH | apply zaI | apply zan | apply zaw | ((first | apply zaq | apply zae | apply zaX); rfl; rfl; rfl; rfl) | ((first | apply P_fa | apply M_fa); rfl; rfl; rfl; rfl; exact zaD rfl; (first | exact Nat.zero_add _ | exact Nat.add_zero _ | rfl)) | (apply za8; rfl; rfl; rfl; rfl; rfl; rfl; exact zal rfl) | (apply za1; rfl; rfl; rfl; rfl; rfl; omega) | (apply za0; rfl; rfl; rfl; rfl; rfl; omega) | (apply zbj; rfl; rfl; rfl; rfl; rfl; (unfold fit; omega)) | (apply zbq; rfl; rfl; rfl; rfl; rfl; exact zal rfl; exact zad rfl; (first | assumption | rfl | exact (Int.toNat_of_nonneg (by omega)).symm); omega) | (apply zah; rfl; rfl; rfl; rfl; exact zak rfl; (focus repeat' first | exact zaa | assumption | apply zab | (apply Ext.get; assumption) | (apply ExtBut.get; assumption; (first | assumption | omega | (simp only [Heap.push]; omega)))); (first | rfl | assumption)) | (apply zao; rfl; rfl; rfl; rfl; exact zay rfl; (focus repeat' first | exact zaa | assumption | apply zab | (apply Ext.get; assumption) | (apply ExtBut.get; assumption; (first | assumption | omega | (simp only [Heap.push]; omega)))); (first | exact Nat.le_of_ble_eq_true rfl | (simp; done) | (simp; omega) | (rw [zaf]; omega)); (first | exact za6 (by omega) | rfl)) | (apply zar; rfl; rfl; rfl; rfl; exact zad rfl; rfl; rfl; rfl) | (apply zbQ; rfl; rfl; rfl; rfl) | (apply zaG; rfl; rfl; rfl; rfl; exact zad rfl; rfl; rfl) | (apply zaP; rfl; rfl; rfl; rfl; exact zad rfl; rfl; rfl) | (apply zbP; rfl; rfl; rfl; (intro _ _ _ _)) | (apply zcy; rfl; rfl; rfl; rfl; rfl; rfl; rfl; exact zfZ rfl) | (((apply zax; rfl; rfl; rfl; rfl; exact zak rfl; exact zai (by decide +kernel)); (focus repeat' first | exact zaa | assumption | apply zab | (apply Ext.get; assumption) | (apply ExtBut.get; assumption; (first | assumption | omega | (simp only [Heap.push]; omega)))); (first | rfl | assumption)); (first | assumption | exact zam _ _ | rfl | (focus simp [same, same.all2]; done)); (first | rfl | assumption | exact hwv _ | (simp [within]; omega))) | (apply zh3; rfl; rfl; rfl; rfl) | fail))
      apply ziP (c' := [.int .i64 people, .slice (some ⟨b, 0, none⟩) n kl, .slice p c'.length kc, v2, vS, .map (some (h.n + 1))]); rfl; rfl; rfl; rfl; exact old2 (by omega) g1; exact zad rfl; (rw [o2.one.2]; rfl); exact Nat.le_of_ble_eq_true rfl; (rw [o2.one.2]; simp [o2.one.1]); (rw [o2.one.2]; rfl); rfl
      intro h3 g3 x3
      have n3 := x3.n
      have sS := oS.same
      have wS : AX.within 20 h3.n vS = true := oS2.within n3
      have ln3 := x3.get (show h'.n ≠ h1.n by omega) ln2
      (repeat' (first | apply zau | apply zac | (apply O_at; rfl) | (apply N_at; rfl) | (apply zat; rfl) | apply zav | (apply zaR; rfl) | (apply zaQ; rfl) | (apply zaJ; exact zaj (by decide +kernel)) | apply zaA | apply zas | apply zaS | apply zaK | (apply zap; rfl; exact (.inl (Nat.le_refl 1))) | (apply zap; rfl; refine .inr ?_; (focus repeat' first | exact trivial | apply And.intro | rfl | (refine (List.forall_mem_cons (p := fun hk => MapB hk _ _)).2 ?_) | exact List.forall_mem_nil _ | (apply MapB.ext; assumption; (focus repeat' first | exact Ext.refl _ | assumption | apply Ext.push | (refine Ext.trans ?_ (by assumption)))) | (apply MapB.but; assumption; assumption; omega))) | apply zaT | apply zaH | apply zaI | apply zan | apply zaw | ((first | apply zaq | apply zae | apply zaX); rfl; rfl; rfl; rfl) | ((first | apply P_fa | apply M_fa); rfl; rfl; rfl; rfl; exact zaD rfl; (first | exact Nat.zero_add _ | exact Nat.add_zero _ | rfl)) | (apply za8; rfl; rfl; rfl; rfl; rfl; rfl; exact zal rfl) | (apply za1; rfl; rfl; rfl; rfl; rfl; omega) | (apply za0; rfl; rfl; rfl; rfl; rfl; omega) | (apply zbj; rfl; rfl; rfl; rfl; rfl; (unfold fit; omega)) | (apply zbq; rfl; rfl; rfl; rfl; rfl; exact zal rfl; exact zad rfl; (first | assumption | rfl | exact (Int.toNat_of_nonneg (by omega)).symm); omega) | (apply zah; rfl; rfl; rfl; rfl; exact zak rfl; (focus repeat' first | exact zaa | assumption | apply zab | (apply Ext.get; assumption) | (apply ExtBut.get; assumption; (first | assumption | omega | (simp only [Heap.push]; omega)))); (first | rfl | assumption)) | (apply zao; rfl; rfl; rfl; rfl; exact zay rfl; (focus repeat' first | exact zaa | assumption | apply zab | (apply Ext.get; assumption) | (apply ExtBut.get; assumption; (first | assumption | omega | (simp only [Heap.push]; omega)))); (first | exact Nat.le_of_ble_eq_true rfl | (simp; done) | (simp; omega) | (rw [zaf]; omega)); (first | exact za6 (by omega) | rfl)) | (apply zar; rfl; rfl; rfl; rfl; exact zad rfl; rfl; rfl; rfl) | (apply zbQ; rfl; rfl; rfl; rfl) | (apply zaG; rfl; rfl; rfl; rfl; exact zad rfl; rfl; rfl) | (apply zaP; rfl; rfl; rfl; rfl; exact zad rfl; rfl; rfl) | (apply zbP; rfl; rfl; rfl; (intro _ _ _ _)) | (apply zcy; rfl; rfl; rfl; rfl; rfl; rfl; rfl; exact zfZ rfl) | (((apply zax; rfl; rfl; rfl; rfl; exact zak rfl; exact zai (by decide +kernel)); (focus repeat' first | exact zaa | assumption | apply zab | (apply Ext.get; assumption) | (apply ExtBut.get; assumption; (first | assumption | omega | (simp only [Heap.push]; omega)))); (first | rfl | assumption)); (first | assumption | exact zam _ _ | rfl | (focus simp [same, same.all2]; done)); (first | rfl | assumption | exact hwv _ | (simp [within]; omega))) | (apply zh3; rfl; rfl; rfl; rfl) | fail))
      have oS3 : Own h3 vS (setr0 ⟨people, some ⟨b, 0, none⟩, kl, n, l, p, kc, c'⟩ k) bS := by
        rcases hd with rfl | hd
        · exact oS2.imp id fun q => absurd rfl q.1
        · exact oS2.but x3 (by omega)
      apply appOwnM; rfl; rfl; rfl; rfl; rfl; rfl; rfl; rfl; exact zfZ rfl; exact zal rfl; exact zaa; exact oS3.ext (by (focus repeat' first | exact Ext.refl _ | assumption | apply Ext.push | (refine Ext.trans ?_ (by assumption)))); exact (by rw [zed]; omega); rfl
      intro v4 h4 o4 k4
      have n4 : h4.n = h3.n + 1 + 1 := by have := k4.n; exact this
      have hS : ∀ {c : Nat}, c < h.n + 3 ∨ h'.n ≤ c → (setr0 ⟨people, some ⟨b, 0, none⟩, kl, n, l, p, kc, c'⟩ k = [] ∨ c ≠ bS) := fun hc => by
        rcases hd with rfl | hd
        · exact .inl rfl
        · exact .inr (by omega)
      have g4 := k4.get' _ _ (hS (c := h1.n) (.inl (by omega))) (zab g3)
      (repeat' (first | apply zau | apply zac | (apply O_at; rfl) | (apply N_at; rfl) | (apply zat; rfl) | apply zav | (apply zaR; rfl) | (apply zaQ; rfl) | (apply zaJ; exact zaj (by decide +kernel)) | apply zaA | apply zas | apply zaS | apply zaK | (apply zap; rfl; exact (.inl (Nat.le_refl 1))) | (apply zap; rfl; refine .inr ?_; (focus repeat' first | exact trivial | apply And.intro | rfl | (refine (List.forall_mem_cons (p := fun hk => MapB hk _ _)).2 ?_) | exact List.forall_mem_nil _ | (apply MapB.ext; assumption; (focus repeat' first | exact Ext.refl _ | assumption | apply Ext.push | (refine Ext.trans ?_ (by assumption)))) | (apply MapB.but; assumption; assumption; omega))) | apply zaT | apply zaH | apply zaI | apply zan | apply zaw | ((first | apply zaq | apply zae | apply zaX); rfl; rfl; rfl; rfl) | ((first | apply P_fa | apply M_fa); rfl; rfl; rfl; rfl; exact zaD rfl; (first | exact Nat.zero_add _ | exact Nat.add_zero _ | rfl)) | (apply za8; rfl; rfl; rfl; rfl; rfl; rfl; exact zal rfl) | (apply za1; rfl; rfl; rfl; rfl; rfl; omega) | (apply za0; rfl; rfl; rfl; rfl; rfl; omega) | (apply zbj; rfl; rfl; rfl; rfl; rfl; (unfold fit; omega)) | (apply zbq; rfl; rfl; rfl; rfl; rfl; exact zal rfl; exact zad rfl; (first | assumption | rfl | exact (Int.toNat_of_nonneg (by omega)).symm); omega) | (apply zah; rfl; rfl; rfl; rfl; exact zak rfl; (focus repeat' first | exact zaa | assumption | apply zab | (apply Ext.get; assumption) | (apply ExtBut.get; assumption; (first | assumption | omega | (simp only [Heap.push]; omega)))); (first | rfl | assumption)) | (apply zao; rfl; rfl; rfl; rfl; exact zay rfl; (focus repeat' first | exact zaa | assumption | apply zab | (apply Ext.get; assumption) | (apply ExtBut.get; assumption; (first | assumption | omega | (simp only [Heap.push]; omega)))); (first | exact Nat.le_of_ble_eq_true rfl | (simp; done) | (simp; omega) | (rw [zaf]; omega)); (first | exact za6 (by omega) | rfl)) | (apply zar; rfl; rfl; rfl; rfl; exact zad rfl; rfl; rfl; rfl) | (apply zbQ; rfl; rfl; rfl; rfl) | (apply zaG; rfl; rfl; rfl; rfl; exact zad rfl; rfl; rfl) | (apply zaP; rfl; rfl; rfl; rfl; exact zad rfl; rfl; rfl) | (apply zbP; rfl; rfl; rfl; (intro _ _ _ _)) | (apply zcy; rfl; rfl; rfl; rfl; rfl; rfl; rfl; exact zfZ rfl) | (((apply zax; rfl; rfl; rfl; rfl; exact zak rfl; exact zai (by decide +kernel)); (focus repeat' first | exact zaa | assumption | apply zab | (apply Ext.get; assumption) | (apply ExtBut.get; assumption; (first | assumption | omega | (simp only [Heap.push]; omega)))); (first | rfl | assumption)); (first | assumption | exact zam _ _ | rfl | (focus simp [same, same.all2]; done)); (first | rfl | assumption | exact hwv _ | (simp [within]; omega))) | (apply zh3; rfl; rfl; rfl; rfl) | fail))
      apply ziP (c' := [.int .i64 people, .slice (some ⟨b, 0, none⟩) n kl, .slice p c'.length kc, v2, v4, .map (some (h.n + 1))]); rfl; rfl; rfl; rfl; exact g4; exact zad rfl; (rw [o4.one.2]; rfl); exact Nat.le_of_ble_eq_true rfl; (rw [o4.one.2]; simp [o4.one.1]); (rw [o4.one.2]; rfl); rfl
      intro h5 g5 x5
      have n5 := x5.n
      (repeat' (first | apply zau | apply zac | (apply O_at; rfl) | (apply N_at; rfl) | (apply zat; rfl) | apply zav | (apply zaR; rfl) | (apply zaQ; rfl) | (apply zaJ; exact zaj (by decide +kernel)) | apply zaA | apply zas | apply zaS | apply zaK | (apply zap; rfl; exact (.inl (Nat.le_refl 1))) | (apply zap; rfl; refine .inr ?_; (focus repeat' first | exact trivial | apply And.intro | rfl | (refine (List.forall_mem_cons (p := fun hk => MapB hk _ _)).2 ?_) | exact List.forall_mem_nil _ | (apply MapB.ext; assumption; (focus repeat' first | exact Ext.refl _ | assumption | apply Ext.push | (refine Ext.trans ?_ (by assumption)))) | (apply MapB.but; assumption; assumption; omega))) | apply zaT | apply zaH | apply zaI | apply zan | apply zaw | ((first | apply zaq | apply zae | apply zaX); rfl; rfl; rfl; rfl) | ((first | apply P_fa | apply M_fa); rfl; rfl; rfl; rfl; exact zaD rfl; (first | exact Nat.zero_add _ | exact Nat.add_zero _ | rfl)) | (apply za8; rfl; rfl; rfl; rfl; rfl; rfl; exact zal rfl) | (apply za1; rfl; rfl; rfl; rfl; rfl; omega) | (apply za0; rfl; rfl; rfl; rfl; rfl; omega) | (apply zbj; rfl; rfl; rfl; rfl; rfl; (unfold fit; omega)) | (apply zbq; rfl; rfl; rfl; rfl; rfl; exact zal rfl; exact zad rfl; (first | assumption | rfl | exact (Int.toNat_of_nonneg (by omega)).symm); omega) | (apply zah; rfl; rfl; rfl; rfl; exact zak rfl; (focus repeat' first | exact zaa | assumption | apply zab | (apply Ext.get; assumption) | (apply ExtBut.get; assumption; (first | assumption | omega | (simp only [Heap.push]; omega)))); (first | rfl | assumption)) | (apply zao; rfl; rfl; rfl; rfl; exact zay rfl; (focus repeat' first | exact zaa | assumption | apply zab | (apply Ext.get; assumption) | (apply ExtBut.get; assumption; (first | assumption | omega | (simp only [Heap.push]; omega)))); (first | exact Nat.le_of_ble_eq_true rfl | (simp; done) | (simp; omega) | (rw [zaf]; omega)); (first | exact za6 (by omega) | rfl)) | (apply zar; rfl; rfl; rfl; rfl; exact zad rfl; rfl; rfl; rfl) | (apply zbQ; rfl; rfl; rfl; rfl) | (apply zaG; rfl; rfl; rfl; rfl; exact zad rfl; rfl; rfl) | (apply zaP; rfl; rfl; rfl; rfl; exact zad rfl; rfl; rfl) | (apply zbP; rfl; rfl; rfl; (intro _ _ _ _)) | (apply zcy; rfl; rfl; rfl; rfl; rfl; rfl; rfl; exact zfZ rfl) | (((apply zax; rfl; rfl; rfl; rfl; exact zak rfl; exact zai (by decide +kernel)); (focus repeat' first | exact zaa | assumption | apply zab | (apply Ext.get; assumption) | (apply ExtBut.get; assumption; (first | assumption | omega | (simp only [Heap.push]; omega)))); (first | rfl | assumption)); (first | assumption | exact zam _ _ | rfl | (focus simp [same, same.all2]; done)); (first | rfl | assumption | exact hwv _ | (simp [within]; omega))) | (apply zh3; rfl; rfl; rfl; rfl) | fail))
      have al : ∀ {c : Nat} {y : Blk}, c < h.n + 3 → c ≠ h1.n → h'.get? c = some y → h5.get? c = some y := fun hc hne g =>
        x5.get hne (k4.get' _ _ (hS (.inl hc)) (zab (x3.get hne (old2 hc g))))
      refine zb4 (ih (k + 1, v2, h'.n + 2, v4, h3.n + 1) _ (by dsimp only; omega) ⟨hlt, ⟨?_, fun c y g => ?_⟩, by omega, g5, ?_, ?_, ?_, .inr ⟨by dsimp only; omega, by dsimp only; omega, by dsimp only; omega, by dsimp only; omega, by dsimp only; omega⟩⟩) (by (focus repeat' first | rfl | exact trivial | apply And.intro))
      · have := hx.n; omega
      · have := Heap.get_lt g
        exact al (by omega) (by omega) (hx.get g)
      · rw [zi7]
        have o2' : Own h2 v2 (sets0 ⟨people, some ⟨b, 0, none⟩, kl, n, l, p, kc, c'⟩ k ++ [sett ⟨people, some ⟨b, 0, none⟩, kl, n, l, p, kc, c'⟩ k]) (h'.n + 2) := o2
        have q3 : Own h3 v2 (sets0 ⟨people, some ⟨b, 0, none⟩, kl, n, l, p, kc, c'⟩ k ++ [sett ⟨people, some ⟨b, 0, none⟩, kl, n, l, p, kc, c'⟩ k]) (h'.n + 2) := o2'.but x3 (by omega)
        exact ((q3.ext ((Ext.refl h3).push _)).kept k4 (hS (.inr (by omega)))).but x5 (by omega)
      · rw [zi8]
        exact Own.but o4 x5 (by show h3.n + 1 ≠ h1.n; omega)
      · exact m.keep fun q g => al (by omega) (by omega) g
    · obtain rfl : k = n := by omega
      (repeat' (first | apply zau | apply zac | (apply O_at; rfl) | (apply N_at; rfl) | (apply zat; rfl) | apply zav | (apply zaR; rfl) | (apply zaQ; rfl) | (apply zaJ; exact zaj (by decide +kernel)) | apply zaA | apply zas | apply zaS | apply zaK | (apply zap; rfl; exact (.inl (Nat.le_refl 1))) | (apply zap; rfl; refine .inr ?_; (focus repeat' first | exact trivial | apply And.intro | rfl | (refine (List.forall_mem_cons (p := fun hk => MapB hk _ _)).2 ?_) | exact List.forall_mem_nil _ | (apply MapB.ext; assumption; (focus repeat' first | exact Ext.refl _ | assumption | apply Ext.push | (refine Ext.trans ?_ (by assumption)))) | (apply MapB.but; assumption; assumption; omega))) | apply zaT | apply zaH | apply zaI | apply zan | apply zaw | ((first | apply zaq | apply zae | apply zaX); rfl; rfl; rfl; rfl) | ((first | apply P_fa | apply M_fa); rfl; rfl; rfl; rfl; exact zaD rfl; (first | exact Nat.zero_add _ | exact Nat.add_zero _ | rfl)) | (apply za8; rfl; rfl; rfl; rfl; rfl; rfl; exact zal rfl) | (apply za1; rfl; rfl; rfl; rfl; rfl; omega) | (apply za0; rfl; rfl; rfl; rfl; rfl; omega) | (apply zbj; rfl; rfl; rfl; rfl; rfl; (unfold fit; omega)) | (apply zbq; rfl; rfl; rfl; rfl; rfl; exact zal rfl; exact zad rfl; (first | assumption | rfl | exact (Int.toNat_of_nonneg (by omega)).symm); omega) | (apply zah; rfl; rfl; rfl; rfl; exact zak rfl; (focus repeat' first | exact zaa | assumption | apply zab | (apply Ext.get; assumption) | (apply ExtBut.get; assumption; (first | assumption | omega | (simp only [Heap.push]; omega)))); (first | rfl | assumption)) | (apply zao; rfl; rfl; rfl; rfl; exact zay rfl; (focus repeat' first | exact zaa | assumption | apply zab | (apply Ext.get; assumption) | (apply ExtBut.get; assumption; (first | assumption | omega | (simp only [Heap.push]; omega)))); (first | exact Nat.le_of_ble_eq_true rfl | (simp; done) | (simp; omega) | (rw [zaf]; omega)); (first | exact za6 (by omega) | rfl)) | (apply zar; rfl; rfl; rfl; rfl; exact zad rfl; rfl; rfl; rfl) | (apply zbQ; rfl; rfl; rfl; rfl) | (apply zaG; rfl; rfl; rfl; rfl; exact zad rfl; rfl; rfl) | (apply zaP; rfl; rfl; rfl; rfl; exact zad rfl; rfl; rfl) | (apply zbP; rfl; rfl; rfl; (intro _ _ _ _)) | (apply zcy; rfl; rfl; rfl; rfl; rfl; rfl; rfl; exact zfZ rfl) | (((apply zax; rfl; rfl; rfl; rfl; exact zak rfl; exact zai (by decide +kernel)); (focus repeat' first | exact zaa | assumption | apply zab | (apply Ext.get; assumption) | (apply ExtBut.get; assumption; (first | assumption | omega | (simp only [Heap.push]; omega)))); (first | rfl | assumption)); (first | assumption | exact zam _ _ | rfl | (focus simp [same, same.all2]; done)); (first | rfl | assumption | exact hwv _ | (simp [within]; omega))) | (apply zh3; rfl; rfl; rfl; rfl) | fail))
      rcases oN with ⟨_, q⟩ | ⟨_, rfl, oN⟩
      · have := congrArg List.length q; rw [zec] at this; simp at this; omega
      rcases oS with ⟨_, q⟩ | ⟨_, rfl, oS⟩
      · have := congrArg List.length q; rw [zed] at this; simp at this; omega
      rw [zec] at g1
      rw [zed] at g1
      refine ⟨.inr rfl, _, rfl, h1.n, bN, bS, h.n + 1, rfl, ⟨⟨fun _ => false, ⟨g1, oN, oS, m, by simp [numsL], by simp [setsL]⟩, fun _ _ _ => rfl⟩⟩, by omega, by omega, hx⟩
  · exact ⟨Nat.zero_le _, by (focus repeat' first | exact Ext.refl _ | assumption | apply Ext.push | (refine Ext.trans ?_ (by assumption))), by show h.n + 3 ≤ h1.n + 1; omega, by dsimp only; exact zaa, .inl ⟨rfl, rfl⟩, .inl ⟨rfl, rfl⟩, m1.ext (by (focus repeat' first | exact Ext.refl _ | assumption | apply Ext.push | (refine Ext.trans ?_ (by assumption)))), .inl rfl⟩
  · (focus repeat' first | rfl | exact trivial | apply And.intro)
end Go.AX.Sa

namespace Go.AX.Sa
open Go.Proofs
set_option maxRecDepth 100000
variable {K : Known}
def wholeE (G : Pg) (p : Int × Int) : Ent := (1, [p.1, p.2, 0, (G.n : Int) - 1])
def logP (G : Pg) (ps : List (Int × Int)) : List Ent := logL G ++ ps.map (wholeE G)
def PairsP (G : Pg) (ps : List (Int × Int)) : Prop := ∀ k, k < ps.length → PairP G (ps.getD k (0, 0)).1 (ps.getD k (0, 0)).2
theorem zf4 {G : Pg} (hn : 1 ≤ (G.n : Int)) {p : Int × Int} (h : PairP G p.1 p.2) : EntP G.people G.n (wholeE G p) := by
  obtain ⟨h1, h2, h3⟩ := h
  unfold PersP at h1 h2
  refine ent1.2 ⟨rfl, ?_, ?_, ?_, ?_, ?_, ?_⟩ <;> simp <;> omega
theorem log_ent {G : Pg} (hP : PgP G) {ps : List (Int × Int)} (hp : PairsP G ps) : ∀ e ∈ logP G ps, EntP G.people G.n e := by
  intro e he
  rcases List.mem_append.1 he with q | q
  · obtain ⟨c, hc, rfl⟩ := List.mem_map.1 q
    obtain ⟨j, hj⟩ := List.getElem?_of_mem hc
    have hl := (List.getElem?_eq_some_iff.1 hj).1
    have := hP.ent j hl
    simpa [List.getD_eq_getElem?_getD, hj] using this
  · obtain ⟨c, hc, rfl⟩ := List.mem_map.1 q
    obtain ⟨j, hj⟩ := List.getElem?_of_mem hc
    have hl := (List.getElem?_eq_some_iff.1 hj).1
    have := hp j hl
    rw [show ps.getD j (0, 0) = c by simp [List.getD_eq_getElem?_getD, hj]] at this
    exact zf4 hP.n.1 this
theorem zdy {G : Pg} (hP : PgP G) {L : List Ent} (hL : ∀ e ∈ L, EntP G.people G.n e) {j : Nat} (hj : j < G.n) : NumP (numA G L j) := zjk (hP.line j hj).2.2 L hL
theorem ze9 {L : List Ent} {k : Nat} (h : k < L.length) : L.take (k + 1) = L.take k ++ [L[k]'h] := by rw [List.take_add_one, List.getElem?_eq_getElem h]; rfl
set_option maxHeartbeats 600000 in
theorem after_ok (hK : NoK K) {G : Pg} {ps : List (Int × Int)} {q : Option Addr} {kq : Nat} {h : Heap} (hT : PgAt G h) (hP : PgP G) (hq : Rd h q (spanCells ps)) (hl : ps.length ≤ 1000) (hp : PairsP G ps) :
    CallW Tryz.prog K 61 #[pgV G, .slice q ps.length kq] h (fun v h1 => ∃ s bn bs r, v = .pointer (some ⟨s, 0, none⟩) ∧ StL G (logP G ps) s bn bs r h1 ∧ bn ≠ bs ∧ (h.n ≤ s ∧ h.n ≤ bn ∧ h.n ≤ bs ∧ h.n ≤ r) ∧ Ext h h1) := by
  have hT' := hT
  have hP' := hP
  have hlog := log_ent hP hp
  have hnn := hP.n
  have hpp := hP.people
  have hcc := hP.c
  obtain ⟨people, pl, kl, n, l, p, kc, c⟩ := G
  obtain ⟨len, rl, rc, each, hbl, hpb⟩ := hT
  dsimp only [pgV] at len rl rc each hbl hpb hnn hpp hcc ⊢
  have hlen : (logP ⟨people, pl, kl, n, l, p, kc, c⟩ ps).length = c.length + ps.length := by simp [logP, logL]
  refine body (N := 46) Tryz.func61 rfl (hK _ _ _ rfl) rfl rfl ?_
  (repeat' (first | apply zau | apply zac | (apply O_at; rfl) | (apply zat; rfl) | apply zav | (apply zaR; rfl) | (apply zaQ; rfl) | apply zaA | apply zas | apply zaS | apply zaK | apply zaT | apply zaH | apply zaI | apply zan | apply zaw | ((first | apply zaq | apply zae); rfl; rfl; rfl; rfl) | (apply P_fa; rfl; rfl; rfl; rfl; exact zaD rfl; (first | exact Nat.zero_add _ | exact Nat.add_zero _ | rfl)) | (apply za8; rfl; rfl; rfl; rfl; rfl; rfl; exact zal rfl) | (apply za1; rfl; rfl; rfl; rfl; rfl; omega) | (apply za0; rfl; rfl; rfl; rfl; rfl; omega) | (apply zbj; rfl; rfl; rfl; rfl; rfl; (unfold fit; omega)) | (apply zbq; rfl; rfl; rfl; rfl; rfl; exact zal rfl; exact zad rfl; (first | assumption | rfl | exact (Int.toNat_of_nonneg (by omega)).symm); omega) | (apply zah; rfl; rfl; rfl; rfl; exact zak rfl; (focus repeat' first | exact zaa | assumption | apply zab | (apply Ext.get; assumption)); (first | rfl | assumption)) | (apply zao; rfl; rfl; rfl; rfl; exact zay rfl; (focus repeat' first | exact zaa | assumption | apply zab | (apply Ext.get; assumption)); (first | exact Nat.le_of_ble_eq_true rfl | (rw [zaM]; omega) | (simp; done) | (simp; omega) | (rw [zaV]; omega)); (first | exact zbr (by omega) | exact zaO (by omega) | rfl)) | (apply zar; rfl; rfl; rfl; rfl; exact zad rfl; rfl; rfl; rfl) | (apply zbG; rfl; rfl; rfl; rfl) | (apply zcO; rfl; rfl; rfl; rfl) | (apply zaG; rfl; rfl; rfl; rfl; exact zad rfl; rfl; rfl) | (apply zaP; rfl; rfl; rfl; rfl; exact zad rfl; rfl; rfl) | fail))
  apply zaF; rfl; rfl; rfl; rfl; rfl; rfl; exact zlm (G := ⟨people, pl, kl, n, l, p, kc, c⟩) hK (hT'.ext (by (focus repeat' first | exact Ext.refl _ | assumption | apply Ext.push | (refine Ext.trans ?_ (by assumption))))) ⟨by dsimp only; omega, by dsimp only; omega⟩
  rintro _ h2 ⟨s, bn, bs, r, rfl, S2, hns, ⟨b1, b2, b3, b4⟩, x2⟩
  have hn2 := x2.n
  have b2' : h.n < bn := b2
  have b3' : h.n < bs := b3
  have b4' : h.n < r := b4
  have b1' : h.n < s := b1
  (repeat' (first | apply zau | apply zac | (apply O_at; rfl) | (apply zat; rfl) | apply zav | (apply zaR; rfl) | (apply zaQ; rfl) | apply zaA | apply zas | apply zaS | apply zaK | apply zaT | apply zaH | apply zaI | apply zan | apply zaw | ((first | apply zaq | apply zae); rfl; rfl; rfl; rfl) | (apply P_fa; rfl; rfl; rfl; rfl; exact zaD rfl; (first | exact Nat.zero_add _ | exact Nat.add_zero _ | rfl)) | (apply za8; rfl; rfl; rfl; rfl; rfl; rfl; exact zal rfl) | (apply za1; rfl; rfl; rfl; rfl; rfl; omega) | (apply za0; rfl; rfl; rfl; rfl; rfl; omega) | (apply zbj; rfl; rfl; rfl; rfl; rfl; (unfold fit; omega)) | (apply zbq; rfl; rfl; rfl; rfl; rfl; exact zal rfl; exact zad rfl; (first | assumption | rfl | exact (Int.toNat_of_nonneg (by omega)).symm); omega) | (apply zah; rfl; rfl; rfl; rfl; exact zak rfl; (focus repeat' first | exact zaa | assumption | apply zab | (apply Ext.get; assumption)); (first | rfl | assumption)) | (apply zao; rfl; rfl; rfl; rfl; exact zay rfl; (focus repeat' first | exact zaa | assumption | apply zab | (apply Ext.get; assumption)); (first | exact Nat.le_of_ble_eq_true rfl | (rw [zaM]; omega) | (simp; done) | (simp; omega) | (rw [zaV]; omega)); (first | exact zbr (by omega) | exact zaO (by omega) | rfl)) | (apply zar; rfl; rfl; rfl; rfl; exact zad rfl; rfl; rfl; rfl) | (apply zbG; rfl; rfl; rfl; rfl) | (apply zcO; rfl; rfl; rfl; rfl) | (apply zaG; rfl; rfl; rfl; rfl; exact zad rfl; rfl; rfl) | (apply zaP; rfl; rfl; rfl; rfl; exact zad rfl; rfl; rfl) | fail))
  refine zb3 (fun k : Nat => [(16, .int .i64 (k : Nat)), (15, .int .i64 (c.length : Nat)), (14, .slice p c.length kc), (5, .pointer (some ⟨s, 0, none⟩)), (2, .pointer (some ⟨h.n, 0, none⟩)), (1, .slice q ps.length kq)])
    (fun k h' => k ≤ c.length ∧ StL ⟨people, pl, kl, n, l, p, kc, c⟩ ((logP ⟨people, pl, kl, n, l, p, kc, c⟩ ps).take k) s bn bs r h' ∧ Ext (h.push (.cells [.int .i64 people, .slice pl n kl, .slice p c.length kc] 25 true)) h') (fun k => c.length - k) ?_ 0 ?_ ?_
  · rintro k h' ⟨hk, S, hx⟩ ih
    have g0 := hx.get zaa
    by_cases hlt : k < c.length
    · obtain ⟨b, e, own, rfl, hg⟩ := rc.at (by rw [zaM]; omega)
      have hg' := hx.get (zab hg)
      have eR := each k hlt
      have ek : (logP ⟨people, pl, kl, n, l, some ⟨b, 0, none⟩, kc, c⟩ ps)[k]'(by omega) = ent (c.getD k cop0) := by
        simp [logP, logL, List.getElem_append_left, hlt]
      have eP := hP'.ent k hlt
      (repeat' (first | apply zau | apply zac | (apply O_at; rfl) | (apply zat; rfl) | apply zav | (apply zaR; rfl) | (apply zaQ; rfl) | apply zaA | apply zas | apply zaS | apply zaK | apply zaT | apply zaH | apply zaI | apply zan | apply zaw | ((first | apply zaq | apply zae); rfl; rfl; rfl; rfl) | (apply P_fa; rfl; rfl; rfl; rfl; exact zaD rfl; (first | exact Nat.zero_add _ | exact Nat.add_zero _ | rfl)) | (apply za8; rfl; rfl; rfl; rfl; rfl; rfl; exact zal rfl) | (apply za1; rfl; rfl; rfl; rfl; rfl; omega) | (apply za0; rfl; rfl; rfl; rfl; rfl; omega) | (apply zbj; rfl; rfl; rfl; rfl; rfl; (unfold fit; omega)) | (apply zbq; rfl; rfl; rfl; rfl; rfl; exact zal rfl; exact zad rfl; (first | assumption | rfl | exact (Int.toNat_of_nonneg (by omega)).symm); omega) | (apply zah; rfl; rfl; rfl; rfl; exact zak rfl; (focus repeat' first | exact zaa | assumption | apply zab | (apply Ext.get; assumption)); (first | rfl | assumption)) | (apply zao; rfl; rfl; rfl; rfl; exact zay rfl; (focus repeat' first | exact zaa | assumption | apply zab | (apply Ext.get; assumption)); (first | exact Nat.le_of_ble_eq_true rfl | (rw [zaM]; omega) | (simp; done) | (simp; omega) | (rw [zaV]; omega)); (first | exact zbr (by omega) | exact zaO (by omega) | rfl)) | (apply zar; rfl; rfl; rfl; rfl; exact zad rfl; rfl; rfl; rfl) | (apply zbG; rfl; rfl; rfl; rfl) | (apply zcO; rfl; rfl; rfl; rfl) | (apply zaG; rfl; rfl; rfl; rfl; exact zad rfl; rfl; rfl) | (apply zaP; rfl; rfl; rfl; rfl; exact zad rfl; rfl; rfl) | fail))
      have y1 : Ext h' (h'.push (.cells [.int .i64 (c.getD k cop0).par, .slice (c.getD k cop0).r.q (c.getD k cop0).r.s.length (c.getD k cop0).r.k] 37 true)) := by (focus repeat' first | exact Ext.refl _ | assumption | apply Ext.push | (refine Ext.trans ?_ (by assumption)))
      apply zaF; rfl; rfl; rfl; rfl; rfl; rfl
      · refine ziD (G := ⟨people, pl, kl, n, l, some ⟨b, 0, none⟩, kc, c⟩) (c := c.getD k cop0) hK (L := (logP ⟨people, pl, kl, n, l, some ⟨b, 0, none⟩, kc, c⟩ ps).take k) (s := s) (bn := bn) (bs := bs) (r := r) ?_ hns hpp (by dsimp only; omega) ?_ eP (fun j hj => zdy hP' (fun e he => hlog e (List.mem_of_mem_take he)) hj)
        · obtain ⟨f, S, hf⟩ := S
          exact ⟨f, S.ext y1, hf⟩
        · exact eR.ext (by (focus repeat' first | exact Ext.refl _ | assumption | apply Ext.push | (refine Ext.trans ?_ (by assumption))))
      rintro _ h3 ⟨S3, k3⟩
      (repeat' (first | apply zau | apply zac | (apply O_at; rfl) | (apply zat; rfl) | apply zav | (apply zaR; rfl) | (apply zaQ; rfl) | apply zaA | apply zas | apply zaS | apply zaK | apply zaT | apply zaH | apply zaI | apply zan | apply zaw | ((first | apply zaq | apply zae); rfl; rfl; rfl; rfl) | (apply P_fa; rfl; rfl; rfl; rfl; exact zaD rfl; (first | exact Nat.zero_add _ | exact Nat.add_zero _ | rfl)) | (apply za8; rfl; rfl; rfl; rfl; rfl; rfl; exact zal rfl) | (apply za1; rfl; rfl; rfl; rfl; rfl; omega) | (apply za0; rfl; rfl; rfl; rfl; rfl; omega) | (apply zbj; rfl; rfl; rfl; rfl; rfl; (unfold fit; omega)) | (apply zbq; rfl; rfl; rfl; rfl; rfl; exact zal rfl; exact zad rfl; (first | assumption | rfl | exact (Int.toNat_of_nonneg (by omega)).symm); omega) | (apply zah; rfl; rfl; rfl; rfl; exact zak rfl; (focus repeat' first | exact zaa | assumption | apply zab | (apply Ext.get; assumption)); (first | rfl | assumption)) | (apply zao; rfl; rfl; rfl; rfl; exact zay rfl; (focus repeat' first | exact zaa | assumption | apply zab | (apply Ext.get; assumption)); (first | exact Nat.le_of_ble_eq_true rfl | (rw [zaM]; omega) | (simp; done) | (simp; omega) | (rw [zaV]; omega)); (first | exact zbr (by omega) | exact zaO (by omega) | rfl)) | (apply zar; rfl; rfl; rfl; rfl; exact zad rfl; rfl; rfl; rfl) | (apply zbG; rfl; rfl; rfl; rfl) | (apply zcO; rfl; rfl; rfl; rfl) | (apply zaG; rfl; rfl; rfl; rfl; exact zad rfl; rfl; rfl) | (apply zaP; rfl; rfl; rfl; rfl; exact zad rfl; rfl; rfl) | fail))
      have y3 : Ext (h.push (.cells [.int .i64 people, .slice pl n kl, .slice (some ⟨b, 0, none⟩) c.length kc] 25 true)) h3 := k3.ext (hx.trans y1) b2 b3 b4
      refine zb4 (ih (k + 1) _ (by omega) ⟨hlt, ?_, y3⟩) (by (focus repeat' first | rfl | exact trivial | apply And.intro))
      rw [ze9 (by omega), ek]
      exact S3
    · obtain rfl : k = c.length := by omega
      (repeat' (first | apply zau | apply zac | (apply O_at; rfl) | (apply zat; rfl) | apply zav | (apply zaR; rfl) | (apply zaQ; rfl) | apply zaA | apply zas | apply zaS | apply zaK | apply zaT | apply zaH | apply zaI | apply zan | apply zaw | ((first | apply zaq | apply zae); rfl; rfl; rfl; rfl) | (apply P_fa; rfl; rfl; rfl; rfl; exact zaD rfl; (first | exact Nat.zero_add _ | exact Nat.add_zero _ | rfl)) | (apply za8; rfl; rfl; rfl; rfl; rfl; rfl; exact zal rfl) | (apply za1; rfl; rfl; rfl; rfl; rfl; omega) | (apply za0; rfl; rfl; rfl; rfl; rfl; omega) | (apply zbj; rfl; rfl; rfl; rfl; rfl; (unfold fit; omega)) | (apply zbq; rfl; rfl; rfl; rfl; rfl; exact zal rfl; exact zad rfl; (first | assumption | rfl | exact (Int.toNat_of_nonneg (by omega)).symm); omega) | (apply zah; rfl; rfl; rfl; rfl; exact zak rfl; (focus repeat' first | exact zaa | assumption | apply zab | (apply Ext.get; assumption)); (first | rfl | assumption)) | (apply zao; rfl; rfl; rfl; rfl; exact zay rfl; (focus repeat' first | exact zaa | assumption | apply zab | (apply Ext.get; assumption)); (first | exact Nat.le_of_ble_eq_true rfl | (rw [zaM]; omega) | (simp; done) | (simp; omega) | (rw [zaV]; omega)); (first | exact zbr (by omega) | exact zaO (by omega) | rfl)) | (apply zar; rfl; rfl; rfl; rfl; exact zad rfl; rfl; rfl; rfl) | (apply zbG; rfl; rfl; rfl; rfl) | (apply zcO; rfl; rfl; rfl; rfl) | (apply zaG; rfl; rfl; rfl; rfl; exact zad rfl; rfl; rfl) | (apply zaP; rfl; rfl; rfl; rfl; exact zad rfl; rfl; rfl) | fail))
      refine zb3 (fun k : Nat => [(26, .int .i64 (k : Nat)), (25, .int .i64 (ps.length : Nat)), (24, .slice q ps.length kq), (5, .pointer (some ⟨s, 0, none⟩)), (2, .pointer (some ⟨h.n, 0, none⟩))])
        (fun k h' => k ≤ ps.length ∧ StL ⟨people, pl, kl, n, l, p, kc, c⟩ ((logP ⟨people, pl, kl, n, l, p, kc, c⟩ ps).take (c.length + k)) s bn bs r h' ∧ Ext (h.push (.cells [.int .i64 people, .slice pl n kl, .slice p c.length kc] 25 true)) h') (fun k => ps.length - k) ?_ 0 ?_ ?_
      · rintro i h5 ⟨hi, S5, hx5⟩ ih5
        have g05 := hx5.get zaa
        by_cases hlt5 : i < ps.length
        · obtain ⟨b, e, own, rfl, hg⟩ := hq.at (by rw [zaV]; omega)
          have hg' := hx5.get (zab hg)
          have ek : (logP ⟨people, pl, kl, n, l, p, kc, c⟩ ps)[c.length + i]'(by omega) = wholeE ⟨people, pl, kl, n, l, p, kc, c⟩ (ps.getD i (0, 0)) := by
            simp [logP, logL, List.getElem_append_right, hlt5]
          have eP := zf4 (G := ⟨people, pl, kl, n, l, p, kc, c⟩) hnn.1 (hp i hlt5)
          (repeat' (first | apply zau | apply zac | (apply O_at; rfl) | (apply zat; rfl) | apply zav | (apply zaR; rfl) | (apply zaQ; rfl) | apply zaA | apply zas | apply zaS | apply zaK | apply zaT | apply zaH | apply zaI | apply zan | apply zaw | ((first | apply zaq | apply zae); rfl; rfl; rfl; rfl) | (apply P_fa; rfl; rfl; rfl; rfl; exact zaD rfl; (first | exact Nat.zero_add _ | exact Nat.add_zero _ | rfl)) | (apply za8; rfl; rfl; rfl; rfl; rfl; rfl; exact zal rfl) | (apply za1; rfl; rfl; rfl; rfl; rfl; omega) | (apply za0; rfl; rfl; rfl; rfl; rfl; omega) | (apply zbj; rfl; rfl; rfl; rfl; rfl; (unfold fit; omega)) | (apply zbq; rfl; rfl; rfl; rfl; rfl; exact zal rfl; exact zad rfl; (first | assumption | rfl | exact (Int.toNat_of_nonneg (by omega)).symm); omega) | (apply zah; rfl; rfl; rfl; rfl; exact zak rfl; (focus repeat' first | exact zaa | assumption | apply zab | (apply Ext.get; assumption)); (first | rfl | assumption)) | (apply zao; rfl; rfl; rfl; rfl; exact zay rfl; (focus repeat' first | exact zaa | assumption | apply zab | (apply Ext.get; assumption)); (first | exact Nat.le_of_ble_eq_true rfl | (rw [zaM]; omega) | (simp; done) | (simp; omega) | (rw [zaV]; omega)); (first | exact zbr (by omega) | exact zaO (by omega) | rfl)) | (apply zar; rfl; rfl; rfl; rfl; exact zad rfl; rfl; rfl; rfl) | (apply zbG; rfl; rfl; rfl; rfl) | (apply zcO; rfl; rfl; rfl; rfl) | (apply zaG; rfl; rfl; rfl; rfl; exact zad rfl; rfl; rfl) | (apply zaP; rfl; rfl; rfl; rfl; exact zad rfl; rfl; rfl) | (apply zaF; rfl; rfl; rfl; rfl; rfl; rfl; exact zeP (G := ⟨people, pl, kl, n, l, p, kc, c⟩) hK (by dsimp only; omega); (rintro _ _ ⟨rfl, _⟩)) | fail))
          rename_i h6 x6
          have y6 : Ext h5 ((h6.push (.cells [.int .i64 0, .int .i64 ((n : Int) - 1)] 140 true)).push (.cells (ints [(ps.getD i (0, 0)).1, (ps.getD i (0, 0)).2, 0, (n : Int) - 1]) 3 true)) := by (focus repeat' first | exact Ext.refl _ | assumption | apply Ext.push | (refine Ext.trans ?_ (by assumption)))
          apply zaF; rfl; rfl; rfl; rfl; rfl; rfl
          · refine ziD (G := ⟨people, pl, kl, n, l, p, kc, c⟩) (c := ⟨1, ⟨some ⟨h6.n + 1, 0, none⟩, 4, [(ps.getD i (0, 0)).1, (ps.getD i (0, 0)).2, 0, (n : Int) - 1]⟩⟩) hK (L := (logP ⟨people, pl, kl, n, l, p, kc, c⟩ ps).take (c.length + i)) (s := s) (bn := bn) (bs := bs) (r := r) ?_ hns hpp (by dsimp only; omega) ?_ eP (fun j hj => zdy hP' (fun e he => hlog e (List.mem_of_mem_take he)) hj)
            · obtain ⟨f, S, hf⟩ := S5
              exact ⟨f, S.ext y6, hf⟩
            · exact ⟨.inr ⟨h6.n + 1, _, _, rfl, zaa⟩, fun a q => by cases q; exact Nat.lt_succ_self _, fun _ => Nat.le_refl _⟩
          rintro _ h7 ⟨S7, k7⟩
          (repeat' (first | apply zau | apply zac | (apply O_at; rfl) | (apply zat; rfl) | apply zav | (apply zaR; rfl) | (apply zaQ; rfl) | apply zaA | apply zas | apply zaS | apply zaK | apply zaT | apply zaH | apply zaI | apply zan | apply zaw | ((first | apply zaq | apply zae); rfl; rfl; rfl; rfl) | (apply P_fa; rfl; rfl; rfl; rfl; exact zaD rfl; (first | exact Nat.zero_add _ | exact Nat.add_zero _ | rfl)) | (apply za8; rfl; rfl; rfl; rfl; rfl; rfl; exact zal rfl) | (apply za1; rfl; rfl; rfl; rfl; rfl; omega) | (apply za0; rfl; rfl; rfl; rfl; rfl; omega) | (apply zbj; rfl; rfl; rfl; rfl; rfl; (unfold fit; omega)) | (apply zbq; rfl; rfl; rfl; rfl; rfl; exact zal rfl; exact zad rfl; (first | assumption | rfl | exact (Int.toNat_of_nonneg (by omega)).symm); omega) | (apply zah; rfl; rfl; rfl; rfl; exact zak rfl; (focus repeat' first | exact zaa | assumption | apply zab | (apply Ext.get; assumption)); (first | rfl | assumption)) | (apply zao; rfl; rfl; rfl; rfl; exact zay rfl; (focus repeat' first | exact zaa | assumption | apply zab | (apply Ext.get; assumption)); (first | exact Nat.le_of_ble_eq_true rfl | (rw [zaM]; omega) | (simp; done) | (simp; omega) | (rw [zaV]; omega)); (first | exact zbr (by omega) | exact zaO (by omega) | rfl)) | (apply zar; rfl; rfl; rfl; rfl; exact zad rfl; rfl; rfl; rfl) | (apply zbG; rfl; rfl; rfl; rfl) | (apply zcO; rfl; rfl; rfl; rfl) | (apply zaG; rfl; rfl; rfl; rfl; exact zad rfl; rfl; rfl) | (apply zaP; rfl; rfl; rfl; rfl; exact zad rfl; rfl; rfl) | fail))
          have y7 : Ext (h.push (.cells [.int .i64 people, .slice pl n kl, .slice p c.length kc] 25 true)) h7 := k7.ext (hx5.trans y6) b2 b3 b4
          refine zb4 (ih5 (i + 1) _ (by omega) ⟨hlt5, ?_, y7⟩) (by (focus repeat' first | rfl | exact trivial | apply And.intro))
          rw [show c.length + (i + 1) = (c.length + i) + 1 by omega, ze9 (by omega), ek]
          exact S7
        · obtain rfl : i = ps.length := by omega
          rw [List.take_of_length_le (by omega)] at S5
          (repeat' (first | apply zau | apply zac | (apply O_at; rfl) | (apply zat; rfl) | apply zav | (apply zaR; rfl) | (apply zaQ; rfl) | apply zaA | apply zas | apply zaS | apply zaK | apply zaT | apply zaH | apply zaI | apply zan | apply zaw | ((first | apply zaq | apply zae); rfl; rfl; rfl; rfl) | (apply P_fa; rfl; rfl; rfl; rfl; exact zaD rfl; (first | exact Nat.zero_add _ | exact Nat.add_zero _ | rfl)) | (apply za8; rfl; rfl; rfl; rfl; rfl; rfl; exact zal rfl) | (apply za1; rfl; rfl; rfl; rfl; rfl; omega) | (apply za0; rfl; rfl; rfl; rfl; rfl; omega) | (apply zbj; rfl; rfl; rfl; rfl; rfl; (unfold fit; omega)) | (apply zbq; rfl; rfl; rfl; rfl; rfl; exact zal rfl; exact zad rfl; (first | assumption | rfl | exact (Int.toNat_of_nonneg (by omega)).symm); omega) | (apply zah; rfl; rfl; rfl; rfl; exact zak rfl; (focus repeat' first | exact zaa | assumption | apply zab | (apply Ext.get; assumption)); (first | rfl | assumption)) | (apply zao; rfl; rfl; rfl; rfl; exact zay rfl; (focus repeat' first | exact zaa | assumption | apply zab | (apply Ext.get; assumption)); (first | exact Nat.le_of_ble_eq_true rfl | (rw [zaM]; omega) | (simp; done) | (simp; omega) | (rw [zaV]; omega)); (first | exact zbr (by omega) | exact zaO (by omega) | rfl)) | (apply zar; rfl; rfl; rfl; rfl; exact zad rfl; rfl; rfl; rfl) | (apply zbG; rfl; rfl; rfl; rfl) | (apply zcO; rfl; rfl; rfl; rfl) | (apply zaG; rfl; rfl; rfl; rfl; exact zad rfl; rfl; rfl) | (apply zaP; rfl; rfl; rfl; rfl; exact zad rfl; rfl; rfl) | fail))
          exact ⟨.inr rfl, _, rfl, s, bn, bs, r, rfl, S5, hns, ⟨by omega, by omega, by omega, by omega⟩, by (focus repeat' first | exact Ext.refl _ | assumption | apply Ext.push | (refine Ext.trans ?_ (by assumption)))⟩
      · exact ⟨Nat.zero_le _, S, hx⟩
      · (focus repeat' first | rfl | exact trivial | apply And.intro)
  · exact ⟨Nat.zero_le _, S2, x2⟩
  · (focus repeat' first | rfl | exact trivial | apply And.intro)
end Go.AX.Sa

namespace Go.AX.Sa
open Go.Proofs
set_option maxRecDepth 100000
variable {K : Known}
theorem StL.ext {G : Pg} {L : List Ent} {s bn bs r : Nat} {h h1 : Heap} (x : StL G L s bn bs r h) (e : Ext h h1) : StL G L s bn bs r h1 := by
  obtain ⟨f, S, hf⟩ := x
  exact ⟨f, S.ext e, hf⟩
end Go.AX.Sa

namespace Go.AX.Sa
open Go.Proofs
set_option maxRecDepth 100000
variable {K : Known}
/-! Whether the page passes. -/
def fewV : Value := .iface 149 (.agg #[])
def fewCh : List PanicEntry := [⟨fewV, false, false⟩]
def AllP (G : Pg) (L : List Ent) : Prop := ∀ j, j < G.n → PassP G L j
end Go.AX.Sa

namespace Go.AX.Sa
open Go.Proofs
set_option maxRecDepth 100000
variable {K : Known}
/-! What the layer returns. -/
def IsE (l : List Int) (h : Heap) (v : Value) (h1 : Heap) : Prop := ∃ p cap, v = .tuple #[.slice p l.length cap, .int .i64 0] ∧ Rd h1 p (ints l) ∧ Ext h h1
def errL : Value := .tuple #[.slice none 0 0, .int .i64 2]
theorem zgX (hK : NoK K) {G : Pg} {h : Heap} (hT : PgAt G h) (hP : PgP G) :
    CallW Tryz.prog K 61 #[pgV G, .slice none 0 0] h (fun v h1 => ∃ s bn bs r, v = .pointer (some ⟨s, 0, none⟩) ∧ StL G (logL G) s bn bs r h1 ∧ Ext h h1) := by
  refine (after_ok (ps := []) (q := none) (kq := 0) hK hT hP (.inl rfl) (Nat.zero_le _) (fun k q => by simp at q)).mono ?_
  rintro _ h1 ⟨s, bn, bs, r, rfl, S, _, _, x⟩
  have e : logP G [] = logL G := by simp [logP]
  rw [e] at S
  exact ⟨s, bn, bs, r, rfl, S, x⟩
section
variable {G : Pg} {h : Heap}
theorem now_ok (hK : NoK K) (hT : PgAt G h) (hs : ShortP G) (hP : PgP G) : CallW Tryz.prog K 18 #[pgV G] h (IsE (numsL G (logL G)) h) := by
  refine body (N := 12) Tryz.func18 rfl (hK _ _ _ rfl) rfl rfl ?_
  (repeat' (first | apply zau | apply zac | (apply O_at; rfl) | (apply zat; rfl) | apply zav | (apply zaQ; rfl) | apply zas | apply zaK | apply zaw | ((first | apply zae | apply zb1); rfl; rfl; rfl; rfl) | (apply P_fa; rfl; rfl; rfl; rfl; exact zaD rfl; (first | exact Nat.zero_add _ | exact Nat.add_zero _ | rfl)) | (apply zah; rfl; rfl; rfl; rfl; exact zak rfl; (focus repeat' first | exact zaa | assumption | (apply Ext.get; assumption)); (first | rfl | assumption)) | (apply zao; rfl; rfl; rfl; rfl; exact zay rfl; (focus repeat' first | exact zaa | assumption | (apply Ext.get; assumption)); (first | exact Nat.le_of_ble_eq_true rfl | (simp; done) | (simp; omega)); rfl) | (apply zcx; rfl; rfl; rfl; rfl) | (apply zaG; rfl; rfl; rfl; rfl; exact zad rfl; rfl; rfl) | (apply zaF; rfl; rfl; rfl; rfl; rfl; rfl; exact yes (zgE hK (hT.ext (by (focus repeat' first | exact Ext.refl _ | assumption | apply Ext.push | (refine Ext.trans ?_ (by assumption))))) hs) hP; (rintro _ _ ⟨rfl, _⟩)) | fail))
  apply zaF; rfl; rfl; rfl; rfl; rfl; rfl; exact zgX hK (hT.ext (by (focus repeat' first | exact Ext.refl _ | assumption | apply Ext.push | (refine Ext.trans ?_ (by assumption))))) hP
  rintro _ h2 ⟨s, bn, bs, r, rfl, ⟨f, ⟨box, nums, sets, hrd, nl, sl⟩, hf⟩, x⟩
  unfold stC at box
  (repeat' (first | apply zau | apply zac | (apply O_at; rfl) | (apply zat; rfl) | apply zav | (apply zaQ; rfl) | apply zas | apply zaK | apply zaw | ((first | apply zae | apply zb1); rfl; rfl; rfl; rfl) | (apply P_fa; rfl; rfl; rfl; rfl; exact zaD rfl; (first | exact Nat.zero_add _ | exact Nat.add_zero _ | rfl)) | (apply zah; rfl; rfl; rfl; rfl; exact zak rfl; (focus repeat' first | exact zaa | assumption | (apply Ext.get; assumption)); (first | rfl | assumption)) | (apply zao; rfl; rfl; rfl; rfl; exact zay rfl; (focus repeat' first | exact zaa | assumption | (apply Ext.get; assumption)); (first | exact Nat.le_of_ble_eq_true rfl | (simp; done) | (simp; omega)); rfl) | (apply zcx; rfl; rfl; rfl; rfl) | (apply zaG; rfl; rfl; rfl; rfl; exact zad rfl; rfl; rfl) | fail))
  exact ⟨.inr rfl, _, rfl, some ⟨bn, 0, none⟩, unk, by rw [zcw]; rfl, .inr ⟨bn, _, _, rfl, nums⟩, by (focus repeat' first | exact Ext.refl _ | assumption | apply Ext.push | (refine Ext.trans ?_ (by assumption)))⟩
theorem zfc (hK : NoK K) (hT : PgAt G h) (hs : ShortP G) (hP : PgP G) : CallW Tryz.prog K 19 #[pgV G] h (IsE (setsL G (logL G)) h) := by
  refine body (N := 12) Tryz.func19 rfl (hK _ _ _ rfl) rfl rfl ?_
  (repeat' (first | apply zau | apply zac | (apply O_at; rfl) | (apply zat; rfl) | apply zav | (apply zaQ; rfl) | apply zas | apply zaK | apply zaw | ((first | apply zae | apply zb1); rfl; rfl; rfl; rfl) | (apply P_fa; rfl; rfl; rfl; rfl; exact zaD rfl; (first | exact Nat.zero_add _ | exact Nat.add_zero _ | rfl)) | (apply zah; rfl; rfl; rfl; rfl; exact zak rfl; (focus repeat' first | exact zaa | assumption | (apply Ext.get; assumption)); (first | rfl | assumption)) | (apply zao; rfl; rfl; rfl; rfl; exact zay rfl; (focus repeat' first | exact zaa | assumption | (apply Ext.get; assumption)); (first | exact Nat.le_of_ble_eq_true rfl | (simp; done) | (simp; omega)); rfl) | (apply zcx; rfl; rfl; rfl; rfl) | (apply zaG; rfl; rfl; rfl; rfl; exact zad rfl; rfl; rfl) | (apply zaF; rfl; rfl; rfl; rfl; rfl; rfl; exact yes (zgE hK (hT.ext (by (focus repeat' first | exact Ext.refl _ | assumption | apply Ext.push | (refine Ext.trans ?_ (by assumption))))) hs) hP; (rintro _ _ ⟨rfl, _⟩)) | fail))
  apply zaF; rfl; rfl; rfl; rfl; rfl; rfl; exact zgX hK (hT.ext (by (focus repeat' first | exact Ext.refl _ | assumption | apply Ext.push | (refine Ext.trans ?_ (by assumption))))) hP
  rintro _ h2 ⟨s, bn, bs, r, rfl, ⟨f, ⟨box, nums, sets, hrd, nl, sl⟩, hf⟩, x⟩
  unfold stC at box
  (repeat' (first | apply zau | apply zac | (apply O_at; rfl) | (apply zat; rfl) | apply zav | (apply zaQ; rfl) | apply zas | apply zaK | apply zaw | ((first | apply zae | apply zb1); rfl; rfl; rfl; rfl) | (apply P_fa; rfl; rfl; rfl; rfl; exact zaD rfl; (first | exact Nat.zero_add _ | exact Nat.add_zero _ | rfl)) | (apply zah; rfl; rfl; rfl; rfl; exact zak rfl; (focus repeat' first | exact zaa | assumption | (apply Ext.get; assumption)); (first | rfl | assumption)) | (apply zao; rfl; rfl; rfl; rfl; exact zay rfl; (focus repeat' first | exact zaa | assumption | (apply Ext.get; assumption)); (first | exact Nat.le_of_ble_eq_true rfl | (simp; done) | (simp; omega)); rfl) | (apply zcx; rfl; rfl; rfl; rfl) | (apply zaG; rfl; rfl; rfl; rfl; exact zad rfl; rfl; rfl) | fail))
  exact ⟨.inr rfl, _, rfl, some ⟨bs, 0, none⟩, unk, by rw [zdg]; rfl, .inr ⟨bs, _, _, rfl, sets⟩, by (focus repeat' first | exact Ext.refl _ | assumption | apply Ext.push | (refine Ext.trans ?_ (by assumption)))⟩
end
end Go.AX.Sa

namespace Go.AX.Sa
open Go.Proofs
set_option maxRecDepth 100000
variable {K : Known}
/-! What stands, line by line: the specification. -/
theorem log_ent0 {G : Pg} (hP : PgP G) : ∀ e ∈ logL G, EntP G.people G.n e := by
  intro e he
  obtain ⟨c, hc, rfl⟩ := List.mem_map.1 he
  obtain ⟨j, hj⟩ := List.getElem?_of_mem hc
  have hl := (List.getElem?_eq_some_iff.1 hj).1
  have := hP.ent j hl
  simpa [List.getD_eq_getElem?_getD, hj] using this
end Go.AX.Sa

namespace Go.AX.Sa
open Go.Proofs
set_option maxRecDepth 100000
variable {K : Known}
def HeardTo (G : Pg) (j q : Int) (i : Nat) : Prop := ∃ i', i' < i ∧ (reads (ent (G.c.getD i' cop0)) j ∧ inPair (ent (G.c.getD i' cop0)) q) ∧ ¬ ∃ k, i' ≤ k ∧ k < G.c.length ∧ changes (ent (G.c.getD k cop0)) j
end Go.AX.Sa

namespace Go.AX.Sa
open Go.Proofs
set_option maxRecDepth 100000
variable {K : Known}
end Go.AX.Sa

namespace Go.AX.Sa
open Go.Proofs
set_option maxRecDepth 100000
variable {K : Known}
abbrev TrueB : Value → Heap → Prop := fun v _ => v = .bool true
end Go.AX.Sa

namespace Go.AX.Sa
open Go.Proofs
set_option maxRecDepth 100000
variable {K : Known}
theorem lin_nat {n : Nat} {q : Int} (h : LinP n q) : ∃ j : Nat, q = (j : Nat) ∧ j < n := by
  unfold LinP at h
  exact ⟨q.toNat, by omega, by omega⟩
end Go.AX.Sa

namespace Go.AX.Sa
open Go.Proofs
set_option maxRecDepth 100000
variable {K : Known}
/-! A page with an entry more. -/
theorem bs_e1 (h : Heap) (a : Int) (p : Option Addr) (n k : Nat) : buildSliceB Tryz.prog h 23 1 [(0, .agg #[.int .i64 a, .slice p n k])] = some (.slice (some ⟨h.n, 0, none⟩) 1 1, h.push (.cells [.int .i64 a, .slice p n k] 37 true)) := by kernel_rfl
theorem ziH : ∀ l : List Cop, (copCells l).all oneB = true
  | [] => rfl
  | c :: l => by
    show (true && (true && (copCells l).all oneB)) = true
    rw [ziH l]; rfl
theorem cops_app (l m : List Cop) : copCells (l ++ m) = copCells l ++ copCells m := by
  induction l with
  | nil => rfl
  | cons c l ih => simp only [List.cons_append, copCells, ih]
theorem rdK_cops {h : Heap} {p : Option Addr} {l : List Cop} (r : Rd h p (copCells l)) (hs : ∀ a, p = some a → a.spot = none) : RdK h 2 p (copCells l) l.length := by
  refine ⟨by rw [zaM]; omega, ?_, hs⟩
  rcases r with r | ⟨b, e, own, rfl, r⟩
  · left
    have := congrArg List.length r
    rw [zaM] at this
    simp only [List.length_nil] at this
    omega
  · exact .inr ⟨b, e, own, rfl, r⟩
theorem zez {l : List Cop} {x : Cop} {j : Nat} (h : j < l.length) : (l ++ [x]).getD j cop0 = l.getD j cop0 := by simp only [List.getD_eq_getElem?_getD, List.getElem?_append_left h]
theorem zeA {l : List Cop} {x : Cop} : (l ++ [x]).getD l.length cop0 = x := by simp [List.getD_eq_getElem?_getD]
def SpotN (G : Pg) : Prop := ∀ a, G.pg = some a → a.spot = none
def withG (G : Pg) (b k : Nat) (x : Cop) : Pg := { G with pg := some ⟨b, 0, none⟩, kg := k, c := G.c ++ [x] }
theorem zjN (hK : NoK K) {G : Pg} {x : Cop} {h : Heap} (hT : PgAt G h) (hx : RowIn x.r h) (hl : G.c.length ≤ 1000) (hsp : SpotN G) :
    CallW Tryz.prog K 26 #[pgV G, enV x] h (fun v h1 => ∃ b k, v = pgV (withG G b k x) ∧ PgAt (withG G b k x) h1 ∧ Ext h h1) := by
  have hT' := hT
  obtain ⟨people, pl, kl, n, l, p, kc, c⟩ := G
  obtain ⟨len, rl, rc, each, hbl, hpb⟩ := hT
  have hxb := hx.b
  obtain ⟨par, q, k, t⟩ := x
  dsimp only [pgV, enV, SpotN] at len rl rc each hbl hpb hl hx hsp hxb ⊢
  refine body (N := 13) Tryz.func26 rfl (hK _ _ _ rfl) rfl rfl ?_
  (repeat' (first | apply zau | apply zac | (apply O_at; rfl) | (apply N_at; rfl) | (apply zat; rfl) | apply zav | (apply zaJ; exact zaj (by decide +kernel)) | apply zaK | (apply zap; rfl; exact (.inl (Nat.le_refl 1))) | (apply zap; rfl; refine .inr ?_; (focus repeat' first | exact trivial | exact Keeps.nil _ _ | apply And.intro | rfl | (apply Keeps.cons; iterate 2 (focus repeat' first | exact zaa | assumption | apply zab | (apply Ext.get; assumption) | (apply ExtBut.get; assumption; (first | assumption | omega | (simp only [Heap.push]; omega))))))) | apply zaw | (apply zao; rfl; rfl; rfl; rfl; exact zay rfl; (focus repeat' first | exact zaa | assumption | apply zab | (apply Ext.get; assumption) | (apply ExtBut.get; assumption; (first | assumption | omega | (simp only [Heap.push]; omega)))); (first | exact Nat.le_of_ble_eq_true rfl | (simp; done) | (simp; omega)); rfl) | (apply zaG; rfl; rfl; rfl; rfl; exact zad rfl; rfl; rfl) | (apply zaP; rfl; rfl; rfl; rfl; exact zad rfl; rfl; rfl) | (apply zcV; rfl; rfl; rfl; rfl; (focus repeat' first | exact zaa | assumption | apply zab | (apply Ext.get; assumption) | (apply ExtBut.get; assumption; (first | assumption | omega | (simp only [Heap.push]; omega)))); exact zad rfl; rfl; (first | rfl | exact zaf _); rfl; (intro _ _ _)) | (apply M_fa; rfl; rfl; rfl; rfl; exact zaD rfl; (first | exact Nat.zero_add _ | exact Nat.add_zero _ | rfl)) | ((first | ((apply zax; rfl; rfl; rfl; rfl; exact zak rfl; exact zai (by decide +kernel)); (focus repeat' first | exact zaa | assumption | apply zab | (apply Ext.get; assumption) | (apply ExtBut.get; assumption; (first | assumption | omega | (simp only [Heap.push]; omega)))); (first | rfl | assumption)) | ((apply zcW; rfl; rfl; rfl; rfl; exact zay rfl; exact zb9 (by decide +kernel)); (focus repeat' first | exact zaa | assumption | apply zab | (apply Ext.get; assumption) | (apply ExtBut.get; assumption; (first | assumption | omega | (simp only [Heap.push]; omega)))); (first | exact Nat.le_of_ble_eq_true rfl | (simp; done) | (simp; omega)); rfl)); (first | assumption | exact zaC _ _ _ | exact zbz _ _ _ _ | rfl | (focus simp [same, same.all2]; done)); (first | rfl | assumption | exact hwv _ | exact zaY (by assumption) (by (focus repeat' first | exact Ext.refl _ | assumption | apply Ext.push | (refine Ext.trans ?_ (by assumption)) | (refine Ext.set ?_ (Nat.le_succ _) (zab zaa) _) | (refine Ext.ofBut ?_ (by assumption) (by first | exact Nat.le_refl _ | omega)))) | exact zb6 (by assumption) (by (focus repeat' first | exact Ext.refl _ | assumption | apply Ext.push | (refine Ext.trans ?_ (by assumption)) | (refine Ext.set ?_ (Nat.le_succ _) (zab zaa) _) | (refine Ext.ofBut ?_ (by assumption) (by first | exact Nat.le_refl _ | omega)))) | (simp [within]; omega))) | fail))
  refine M_appC rfl rfl rfl rfl rfl rfl rfl rfl (ck2_ok rfl) (zal rfl) (h0 := ((h.push (.cells [.int .i64 people, .slice pl n kl, .slice p c.length kc] 25 true)).push (.cells [.int .i64 par, .slice q t.length k] 37 true)).push (.cells [.int .i64 0, .slice none 0 0, .slice none 0 0] 25 true)) (rdK_cops (rc.ext (by (focus repeat' first | exact Ext.refl _ | assumption | apply Ext.push | (refine Ext.trans ?_ (by assumption)) | (refine Ext.set ?_ (Nat.le_succ _) (zab zaa) _) | (refine Ext.ofBut ?_ (by assumption) (by first | exact Nat.le_refl _ | omega))))) hsp) (.inl ⟨rfl, rfl, rfl⟩) (Nat.le_refl _) (by omega) (ziH c) rfl ?_
  intro v1 h1 o1 _ z1 z2
  have x1 := z2 rfl
  clear z1 z2
  rw [List.nil_append, Nat.zero_add] at o1
  (repeat' (first | apply zau | apply zac | (apply O_at; rfl) | (apply N_at; rfl) | (apply zat; rfl) | apply zav | (apply zaJ; exact zaj (by decide +kernel)) | apply zaK | (apply zap; rfl; exact (.inl (Nat.le_refl 1))) | (apply zap; rfl; refine .inr ?_; (focus repeat' first | exact trivial | exact Keeps.nil _ _ | apply And.intro | rfl | (apply Keeps.cons; iterate 2 (focus repeat' first | exact zaa | assumption | apply zab | (apply Ext.get; assumption) | (apply ExtBut.get; assumption; (first | assumption | omega | (simp only [Heap.push]; omega))))))) | apply zaw | (apply zao; rfl; rfl; rfl; rfl; exact zay rfl; (focus repeat' first | exact zaa | assumption | apply zab | (apply Ext.get; assumption) | (apply ExtBut.get; assumption; (first | assumption | omega | (simp only [Heap.push]; omega)))); (first | exact Nat.le_of_ble_eq_true rfl | (simp; done) | (simp; omega)); rfl) | (apply zaG; rfl; rfl; rfl; rfl; exact zad rfl; rfl; rfl) | (apply zaP; rfl; rfl; rfl; rfl; exact zad rfl; rfl; rfl) | (apply zcV; rfl; rfl; rfl; rfl; (focus repeat' first | exact zaa | assumption | apply zab | (apply Ext.get; assumption) | (apply ExtBut.get; assumption; (first | assumption | omega | (simp only [Heap.push]; omega)))); exact zad rfl; rfl; (first | rfl | exact zaf _); rfl; (intro _ _ _)) | (apply M_fa; rfl; rfl; rfl; rfl; exact zaD rfl; (first | exact Nat.zero_add _ | exact Nat.add_zero _ | rfl)) | ((first | ((apply zax; rfl; rfl; rfl; rfl; exact zak rfl; exact zai (by decide +kernel)); (focus repeat' first | exact zaa | assumption | apply zab | (apply Ext.get; assumption) | (apply ExtBut.get; assumption; (first | assumption | omega | (simp only [Heap.push]; omega)))); (first | rfl | assumption)) | ((apply zcW; rfl; rfl; rfl; rfl; exact zay rfl; exact zb9 (by decide +kernel)); (focus repeat' first | exact zaa | assumption | apply zab | (apply Ext.get; assumption) | (apply ExtBut.get; assumption; (first | assumption | omega | (simp only [Heap.push]; omega)))); (first | exact Nat.le_of_ble_eq_true rfl | (simp; done) | (simp; omega)); rfl)); (first | assumption | exact zaC _ _ _ | exact zbz _ _ _ _ | rfl | (focus simp [same, same.all2]; done)); (first | rfl | assumption | exact hwv _ | exact zaY (by assumption) (by (focus repeat' first | exact Ext.refl _ | assumption | apply Ext.push | (refine Ext.trans ?_ (by assumption)) | (refine Ext.set ?_ (Nat.le_succ _) (zab zaa) _) | (refine Ext.ofBut ?_ (by assumption) (by first | exact Nat.le_refl _ | omega)))) | exact zb6 (by assumption) (by (focus repeat' first | exact Ext.refl _ | assumption | apply Ext.push | (refine Ext.trans ?_ (by assumption)) | (refine Ext.set ?_ (Nat.le_succ _) (zab zaa) _) | (refine Ext.ofBut ?_ (by assumption) (by first | exact Nat.le_refl _ | omega)))) | (simp [within]; omega))) | fail))
  refine M_bs (vs := [(0, .agg #[.int .i64 par, .slice q t.length k])]) rfl rfl rfl rfl (bs_e1 _ _ _ _ _) ?_
  (repeat' (first | apply zau | apply zac | (apply O_at; rfl) | (apply N_at; rfl) | (apply zat; rfl) | apply zav | (apply zaJ; exact zaj (by decide +kernel)) | apply zaK | (apply zap; rfl; exact (.inl (Nat.le_refl 1))) | (apply zap; rfl; refine .inr ?_; (focus repeat' first | exact trivial | exact Keeps.nil _ _ | apply And.intro | rfl | (apply Keeps.cons; iterate 2 (focus repeat' first | exact zaa | assumption | apply zab | (apply Ext.get; assumption) | (apply ExtBut.get; assumption; (first | assumption | omega | (simp only [Heap.push]; omega))))))) | apply zaw | (apply zao; rfl; rfl; rfl; rfl; exact zay rfl; (focus repeat' first | exact zaa | assumption | apply zab | (apply Ext.get; assumption) | (apply ExtBut.get; assumption; (first | assumption | omega | (simp only [Heap.push]; omega)))); (first | exact Nat.le_of_ble_eq_true rfl | (simp; done) | (simp; omega)); rfl) | (apply zaG; rfl; rfl; rfl; rfl; exact zad rfl; rfl; rfl) | (apply zaP; rfl; rfl; rfl; rfl; exact zad rfl; rfl; rfl) | (apply zcV; rfl; rfl; rfl; rfl; (focus repeat' first | exact zaa | assumption | apply zab | (apply Ext.get; assumption) | (apply ExtBut.get; assumption; (first | assumption | omega | (simp only [Heap.push]; omega)))); exact zad rfl; rfl; (first | rfl | exact zaf _); rfl; (intro _ _ _)) | (apply M_fa; rfl; rfl; rfl; rfl; exact zaD rfl; (first | exact Nat.zero_add _ | exact Nat.add_zero _ | rfl)) | ((first | ((apply zax; rfl; rfl; rfl; rfl; exact zak rfl; exact zai (by decide +kernel)); (focus repeat' first | exact zaa | assumption | apply zab | (apply Ext.get; assumption) | (apply ExtBut.get; assumption; (first | assumption | omega | (simp only [Heap.push]; omega)))); (first | rfl | assumption)) | ((apply zcW; rfl; rfl; rfl; rfl; exact zay rfl; exact zb9 (by decide +kernel)); (focus repeat' first | exact zaa | assumption | apply zab | (apply Ext.get; assumption) | (apply ExtBut.get; assumption; (first | assumption | omega | (simp only [Heap.push]; omega)))); (first | exact Nat.le_of_ble_eq_true rfl | (simp; done) | (simp; omega)); rfl)); (first | assumption | exact zaC _ _ _ | exact zbz _ _ _ _ | rfl | (focus simp [same, same.all2]; done)); (first | rfl | assumption | exact hwv _ | exact zaY (by assumption) (by (focus repeat' first | exact Ext.refl _ | assumption | apply Ext.push | (refine Ext.trans ?_ (by assumption)) | (refine Ext.set ?_ (Nat.le_succ _) (zab zaa) _) | (refine Ext.ofBut ?_ (by assumption) (by first | exact Nat.le_refl _ | omega)))) | exact zb6 (by assumption) (by (focus repeat' first | exact Ext.refl _ | assumption | apply Ext.push | (refine Ext.trans ?_ (by assumption)) | (refine Ext.set ?_ (Nat.le_succ _) (zab zaa) _) | (refine Ext.ofBut ?_ (by assumption) (by first | exact Nat.le_refl _ | omega)))) | (simp [within]; omega))) | fail))
  refine M_appC rfl rfl rfl rfl rfl rfl rfl rfl (ck2_ok rfl) (zal rfl) (s := 2) (m := 1) (h0 := ((h.push (.cells [.int .i64 people, .slice pl n kl, .slice p c.length kc] 25 true)).push (.cells [.int .i64 par, .slice q t.length k] 37 true)).push (.cells [.int .i64 0, .slice none 0 0, .slice none 0 0] 25 true)) (c := [.int .i64 par, .slice q t.length k]) ⟨rfl, .inr ⟨_, _, _, rfl, zaa⟩, fun a q => by cases q; rfl⟩ (o1.ext (by (focus repeat' first | exact Ext.refl _ | assumption | apply Ext.push | (refine Ext.trans ?_ (by assumption)) | (refine Ext.set ?_ (Nat.le_succ _) (zab zaa) _) | (refine Ext.ofBut ?_ (by assumption) (by first | exact Nat.le_refl _ | omega))))) ((x1.push _).n) (by omega) rfl rfl ?_
  intro v2 h2 o2 k2 z1 z2
  have x2 := z1 (x1.push _)
  clear z1 z2
  obtain ⟨b, rfl, g2, hb2⟩ : ∃ b, v2 = .slice (some ⟨b, 0, none⟩) (c.length + 1) unk ∧ h2.get? b = some (.cells (copCells c ++ [.int .i64 par, .slice q t.length k]) 37 true) ∧ h.n + 3 ≤ b := by
    rcases o2 with ⟨z, _⟩ | ⟨_, _, b, z1, z2, z3⟩
    · omega
    · exact ⟨b, z1, z2, z3⟩
  (repeat' (first | apply zau | apply zac | (apply O_at; rfl) | (apply N_at; rfl) | (apply zat; rfl) | apply zav | (apply zaJ; exact zaj (by decide +kernel)) | apply zaK | (apply zap; rfl; exact (.inl (Nat.le_refl 1))) | (apply zap; rfl; refine .inr ?_; (focus repeat' first | exact trivial | exact Keeps.nil _ _ | apply And.intro | rfl | (apply Keeps.cons; iterate 2 (focus repeat' first | exact zaa | assumption | apply zab | (apply Ext.get; assumption) | (apply ExtBut.get; assumption; (first | assumption | omega | (simp only [Heap.push]; omega))))))) | apply zaw | (apply zao; rfl; rfl; rfl; rfl; exact zay rfl; (focus repeat' first | exact zaa | assumption | apply zab | (apply Ext.get; assumption) | (apply ExtBut.get; assumption; (first | assumption | omega | (simp only [Heap.push]; omega)))); (first | exact Nat.le_of_ble_eq_true rfl | (simp; done) | (simp; omega)); rfl) | (apply zaG; rfl; rfl; rfl; rfl; exact zad rfl; rfl; rfl) | (apply zaP; rfl; rfl; rfl; rfl; exact zad rfl; rfl; rfl) | (apply zcV; rfl; rfl; rfl; rfl; (focus repeat' first | exact zaa | assumption | apply zab | (apply Ext.get; assumption) | (apply ExtBut.get; assumption; (first | assumption | omega | (simp only [Heap.push]; omega)))); exact zad rfl; rfl; (first | rfl | exact zaf _); rfl; (intro _ _ _)) | (apply M_fa; rfl; rfl; rfl; rfl; exact zaD rfl; (first | exact Nat.zero_add _ | exact Nat.add_zero _ | rfl)) | ((first | ((apply zax; rfl; rfl; rfl; rfl; exact zak rfl; exact zai (by decide +kernel)); (focus repeat' first | exact zaa | assumption | apply zab | (apply Ext.get; assumption) | (apply ExtBut.get; assumption; (first | assumption | omega | (simp only [Heap.push]; omega)))); (first | rfl | assumption)) | ((apply zcW; rfl; rfl; rfl; rfl; exact zay rfl; exact zb9 (by decide +kernel)); (focus repeat' first | exact zaa | assumption | apply zab | (apply Ext.get; assumption) | (apply ExtBut.get; assumption; (first | assumption | omega | (simp only [Heap.push]; omega)))); (first | exact Nat.le_of_ble_eq_true rfl | (simp; done) | (simp; omega)); rfl)); (first | assumption | exact zaC _ _ _ | exact zbz _ _ _ _ | rfl | (focus simp [same, same.all2]; done)); (first | rfl | assumption | exact hwv _ | exact zaY (by assumption) (by (focus repeat' first | exact Ext.refl _ | assumption | apply Ext.push | (refine Ext.trans ?_ (by assumption)) | (refine Ext.set ?_ (Nat.le_succ _) (zab zaa) _) | (refine Ext.ofBut ?_ (by assumption) (by first | exact Nat.le_refl _ | omega)))) | exact zb6 (by assumption) (by (focus repeat' first | exact Ext.refl _ | assumption | apply Ext.push | (refine Ext.trans ?_ (by assumption)) | (refine Ext.set ?_ (Nat.le_succ _) (zab zaa) _) | (refine Ext.ofBut ?_ (by assumption) (by first | exact Nat.le_refl _ | omega)))) | (simp [within]; omega))) | fail))
  refine zlv rfl rfl rfl rfl (x2.get (zab (zab zaa))) (zad rfl) rfl (Nat.le_of_ble_eq_true rfl) rfl rfl ?_
  (repeat' (first | apply zau | apply zac | (apply O_at; rfl) | (apply N_at; rfl) | (apply zat; rfl) | apply zav | (apply zaJ; exact zaj (by decide +kernel)) | apply zaK | (apply zap; rfl; exact (.inl (Nat.le_refl 1))) | (apply zap; rfl; refine .inr ?_; (focus repeat' first | exact trivial | exact Keeps.nil _ _ | apply And.intro | rfl | (apply Keeps.cons; iterate 2 (focus repeat' first | exact zaa | assumption | apply zab | (apply Ext.get; assumption) | (apply ExtBut.get; assumption; (first | assumption | omega | (simp only [Heap.push]; omega))))))) | apply zaw | (apply zao; rfl; rfl; rfl; rfl; exact zay rfl; (focus repeat' first | exact zaa | assumption | apply zab | (apply Ext.get; assumption) | (apply ExtBut.get; assumption; (first | assumption | omega | (simp only [Heap.push]; omega)))); (first | exact Nat.le_of_ble_eq_true rfl | (simp; done) | (simp; omega)); rfl) | (apply zaG; rfl; rfl; rfl; rfl; exact zad rfl; rfl; rfl) | (apply zaP; rfl; rfl; rfl; rfl; exact zad rfl; rfl; rfl) | (apply zcV; rfl; rfl; rfl; rfl; (focus repeat' first | exact zaa | assumption | apply zab | (apply Ext.get; assumption) | (apply ExtBut.get; assumption; (first | assumption | omega | (simp only [Heap.push]; omega)))); exact zad rfl; rfl; (first | rfl | exact zaf _); rfl; (intro _ _ _)) | (apply M_fa; rfl; rfl; rfl; rfl; exact zaD rfl; (first | exact Nat.zero_add _ | exact Nat.add_zero _ | rfl)) | ((first | ((apply zax; rfl; rfl; rfl; rfl; exact zak rfl; exact zai (by decide +kernel)); (focus repeat' first | exact zaa | assumption | apply zab | (apply Ext.get; assumption) | (apply ExtBut.get; assumption; (first | assumption | omega | (simp only [Heap.push]; omega)))); (first | rfl | assumption)) | ((apply zcW; rfl; rfl; rfl; rfl; exact zay rfl; exact zb9 (by decide +kernel)); (focus repeat' first | exact zaa | assumption | apply zab | (apply Ext.get; assumption) | (apply ExtBut.get; assumption; (first | assumption | omega | (simp only [Heap.push]; omega)))); (first | exact Nat.le_of_ble_eq_true rfl | (simp; done) | (simp; omega)); rfl)); (first | assumption | exact zaC _ _ _ | exact zbz _ _ _ _ | rfl | (focus simp [same, same.all2]; done)); (first | rfl | assumption | exact hwv _ | exact zaY (by assumption) (by (focus repeat' first | exact Ext.refl _ | assumption | apply Ext.push | (refine Ext.trans ?_ (by assumption)) | (refine Ext.set ?_ (Nat.le_succ _) (zab zaa) _) | (refine Ext.ofBut ?_ (by assumption) (by first | exact Nat.le_refl _ | omega)))) | exact zb6 (by assumption) (by (focus repeat' first | exact Ext.refl _ | assumption | apply Ext.push | (refine Ext.trans ?_ (by assumption)) | (refine Ext.set ?_ (Nat.le_succ _) (zab zaa) _) | (refine Ext.ofBut ?_ (by assumption) (by first | exact Nat.le_refl _ | omega)))) | (simp [within]; omega))) | fail))
  have g5 := x2.get (zab (zab zaa))
  have g6 := x2.get zaa
  generalize he : h2.set h.n _ = h3
  have f1 : h3.get? h.n = some (.cells [.int .i64 people, .slice pl n kl, .slice (some ⟨b, 0, none⟩) (c.length + 1) unk] 25 true) := by rw [← he]; exact za7 g5
  have f2 := zaZ (c := .cells [.int .i64 people, .slice pl n kl, .slice (some ⟨b, 0, none⟩) (c.length + 1) unk] 25 true) g5 (fun u => by simp only [Heap.push] at u; omega) g6
  have f3 := zaZ (c := .cells [.int .i64 people, .slice pl n kl, .slice (some ⟨b, 0, none⟩) (c.length + 1) unk] 25 true) g5 (fun u => by omega) g2
  have x3 : Ext h h3 := by rw [← he]; exact Ext.set (by (focus repeat' first | exact Ext.refl _ | assumption | apply Ext.push | (refine Ext.trans ?_ (by assumption)) | (refine Ext.set ?_ (Nat.le_succ _) (zab zaa) _) | (refine Ext.ofBut ?_ (by assumption) (by first | exact Nat.le_refl _ | omega)))) (Nat.le_refl _) g5 _
  have he' : h2.set h.n (.cells [.int .i64 people, .slice pl n kl, .slice (some ⟨b, 0, none⟩) (c.length + 1) unk] 25 true) = h3 := he
  rw [he'] at f2 f3
  clear he he' g5 g6 k2
  (repeat' (first | apply zau | apply zac | (apply O_at; rfl) | (apply N_at; rfl) | (apply zat; rfl) | apply zav | (apply zaJ; exact zaj (by decide +kernel)) | apply zaK | (apply zap; rfl; exact (.inl (Nat.le_refl 1))) | (apply zap; rfl; refine .inr ?_; (focus repeat' first | exact trivial | exact Keeps.nil _ _ | apply And.intro | rfl | (apply Keeps.cons; iterate 2 (focus repeat' first | exact zaa | assumption | apply zab | (apply Ext.get; assumption) | (apply ExtBut.get; assumption; (first | assumption | omega | (simp only [Heap.push]; omega))))))) | apply zaw | (apply zao; rfl; rfl; rfl; rfl; exact zay rfl; (focus repeat' first | exact zaa | assumption | apply zab | (apply Ext.get; assumption) | (apply ExtBut.get; assumption; (first | assumption | omega | (simp only [Heap.push]; omega)))); (first | exact Nat.le_of_ble_eq_true rfl | (simp; done) | (simp; omega)); rfl) | (apply zaG; rfl; rfl; rfl; rfl; exact zad rfl; rfl; rfl) | (apply zaP; rfl; rfl; rfl; rfl; exact zad rfl; rfl; rfl) | (apply zcV; rfl; rfl; rfl; rfl; (focus repeat' first | exact zaa | assumption | apply zab | (apply Ext.get; assumption) | (apply ExtBut.get; assumption; (first | assumption | omega | (simp only [Heap.push]; omega)))); exact zad rfl; rfl; (first | rfl | exact zaf _); rfl; (intro _ _ _)) | (apply M_fa; rfl; rfl; rfl; rfl; exact zaD rfl; (first | exact Nat.zero_add _ | exact Nat.add_zero _ | rfl)) | ((first | ((apply zax; rfl; rfl; rfl; rfl; exact zak rfl; exact zai (by decide +kernel)); (focus repeat' first | exact zaa | assumption | apply zab | (apply Ext.get; assumption) | (apply ExtBut.get; assumption; (first | assumption | omega | (simp only [Heap.push]; omega)))); (first | rfl | assumption)) | ((apply zcW; rfl; rfl; rfl; rfl; exact zay rfl; exact zb9 (by decide +kernel)); (focus repeat' first | exact zaa | assumption | apply zab | (apply Ext.get; assumption) | (apply ExtBut.get; assumption; (first | assumption | omega | (simp only [Heap.push]; omega)))); (first | exact Nat.le_of_ble_eq_true rfl | (simp; done) | (simp; omega)); rfl)); (first | assumption | exact zaC _ _ _ | exact zbz _ _ _ _ | rfl | (focus simp [same, same.all2]; done)); (first | rfl | assumption | exact hwv _ | exact zaY (by assumption) (by (focus repeat' first | exact Ext.refl _ | assumption | apply Ext.push | (refine Ext.trans ?_ (by assumption)) | (refine Ext.set ?_ (Nat.le_succ _) (zab zaa) _) | (refine Ext.ofBut ?_ (by assumption) (by first | exact Nat.le_refl _ | omega)))) | exact zb6 (by assumption) (by (focus repeat' first | exact Ext.refl _ | assumption | apply Ext.push | (refine Ext.trans ?_ (by assumption)) | (refine Ext.set ?_ (Nat.le_succ _) (zab zaa) _) | (refine Ext.ofBut ?_ (by assumption) (by first | exact Nat.le_refl _ | omega)))) | (simp [within]; omega))) | fail))
  rename_i h4 g4 k4
  have hlen : (c ++ [(⟨par, ⟨q, k, t⟩⟩ : Cop)]).length = c.length + 1 := by simp
  have g2' := k4.get (by simp only [Heap.push]; omega) f3
  have x4 : Ext h h4 := Ext.ofBut x3 k4 (by simp only [Heap.push]; omega)
  refine ⟨.inr rfl, _, zii rfl (v := .agg #[.int .i64 people, .slice pl n kl, .slice (some ⟨b, 0, none⟩) (c.length + 1) unk]) ?_ rfl, b, unk, ?_, ⟨len, rl.ext x4, ?_, ?_, fun a e => Nat.lt_of_lt_of_le (hbl a e) x4.n, fun a e => by cases e; exact Heap.get_lt g2'⟩, x4⟩
  · have ht := zay (t := 25) (n := 3) rfl
    simp only [readB, g4, partB, zcT ht, zcr ht]
    rfl
  · simp only [withG, hlen]
    rfl
  · refine .inr ⟨b, 37, true, rfl, ?_⟩
    simp only [withG, cops_app]
    exact g2'
  · intro j hj
    simp only [withG] at hj ⊢
    rw [hlen] at hj
    by_cases hjc : j < c.length
    · rw [zez hjc]
      exact (each j hjc).ext x4
    · obtain rfl : j = c.length := by omega
      rw [zeA]
      exact hx.ext x4
theorem ziq (G : Pg) (b k : Nat) (x : Cop) : logL (withG G b k x) = logL G ++ [ent x] := by simp [logL, withG]
theorem zij {G : Pg} {b k : Nat} {x : Cop} (hP : PgP G) (hx : EntP G.people G.n (ent x)) (hc : G.c.length < 10) : PgP (withG G b k x) := by
  refine ⟨hP.people, hP.n, by simp [withG]; omega, hP.line, fun j hj => ?_⟩
  simp only [withG, List.length_append, List.length_singleton] at hj ⊢
  by_cases hjc : j < G.c.length
  · rw [zez hjc]
    exact hP.ent j hjc
  · obtain rfl : j = G.c.length := by omega
    rw [zeA]
    exact hx
theorem zfb {G : Pg} {b k : Nat} {x : Cop} (hs : ShortP G) (hP : PgP G) (hx : x.r.s.length ≤ 6) (hc : G.c.length < 10) : ShortP (withG G b k x) := by
  refine ⟨hs.1, by simp [withG]; omega, fun j hj => ?_⟩
  simp only [withG, List.length_append, List.length_singleton] at hj ⊢
  by_cases hjc : j < G.c.length
  · rw [zez hjc]
    exact hs.2.2 j hjc
  · obtain rfl : j = G.c.length := by omega
    rw [zeA]
    exact hx
/-- A page that has room for an entry. -/
def RoomP (G : Pg) (x : Cop) : Prop := ShortP G ∧ PgP G ∧ x.r.s.length ≤ 6 ∧ G.c.length < 10 ∧ EntP G.people G.n (ent x)
theorem right_ok (hK : NoK K) {G : Pg} {h : Heap} (hT : PgAt G h) : CallW Tryz.prog K 42 #[pgV G] h (IfB (ShortP G ∧ PgP G) h) := by
  refine body (N := 9) Tryz.func42 rfl (hK _ _ _ rfl) rfl rfl ?_
  by_cases hs : ShortP G
  · (repeat' (first | apply zau | apply zac | (apply O_at; rfl) | (apply zat; rfl) | apply zav | apply zaK | apply zaw | (apply za3; rfl; rfl; rfl) | ((first | apply zaq | apply zae); rfl; rfl; rfl; rfl) | (apply za4; rfl; rfl; rfl; rfl; rfl; rfl) | (apply zao; rfl; rfl; rfl; rfl; exact zay rfl; (focus repeat' first | exact zaa | assumption | (apply Ext.get; assumption)); (first | exact Nat.le_of_ble_eq_true rfl | (simp; done) | (simp; omega)); rfl) | (apply zaG; rfl; rfl; rfl; rfl; exact zad rfl; rfl; rfl) | (apply zaF; rfl; rfl; rfl; rfl; rfl; rfl; exact yes (zid hK (hT.ext (by (focus repeat' first | exact Ext.refl _ | assumption | apply Ext.push | (refine Ext.trans ?_ (by assumption)))))) hs; (rintro _ _ ⟨rfl, _⟩)) | (apply zaF; rfl; rfl; rfl; rfl; rfl; rfl; exact zjh hK (hT.ext (by (focus repeat' first | exact Ext.refl _ | assumption | apply Ext.push | (refine Ext.trans ?_ (by assumption))))) hs; (rintro _ _ (⟨rfl, _, _⟩ | ⟨rfl, _, _⟩))) | fail))
    · rename_i w _
      exact ⟨.inr rfl, _, rfl, .inl ⟨rfl, ⟨hs, w⟩, by (focus repeat' first | exact Ext.refl _ | assumption | apply Ext.push | (refine Ext.trans ?_ (by assumption)))⟩⟩
    · rename_i w _
      exact ⟨.inr rfl, _, rfl, .inr ⟨rfl, fun q => w q.2, by (focus repeat' first | exact Ext.refl _ | assumption | apply Ext.push | (refine Ext.trans ?_ (by assumption)))⟩⟩
  · (repeat' (first | apply zau | apply zac | (apply O_at; rfl) | (apply zat; rfl) | apply zav | apply zaK | apply zaw | (apply za3; rfl; rfl; rfl) | ((first | apply zaq | apply zae); rfl; rfl; rfl; rfl) | (apply za4; rfl; rfl; rfl; rfl; rfl; rfl) | (apply zao; rfl; rfl; rfl; rfl; exact zay rfl; (focus repeat' first | exact zaa | assumption | (apply Ext.get; assumption)); (first | exact Nat.le_of_ble_eq_true rfl | (simp; done) | (simp; omega)); rfl) | (apply zaG; rfl; rfl; rfl; rfl; exact zad rfl; rfl; rfl) | (apply zaF; rfl; rfl; rfl; rfl; rfl; rfl; exact no (zid hK (hT.ext (by (focus repeat' first | exact Ext.refl _ | assumption | apply Ext.push | (refine Ext.trans ?_ (by assumption)))))) hs; (rintro _ _ ⟨rfl, _⟩)) | fail))
    exact ⟨.inr rfl, _, rfl, .inr ⟨rfl, fun q => hs q.1, by (focus repeat' first | exact Ext.refl _ | assumption | apply Ext.push | (refine Ext.trans ?_ (by assumption)))⟩⟩
theorem zhi (hK : NoK K) {G : Pg} {x : Cop} {h : Heap} (hT : PgAt G h) (hx : RowIn x.r h) : CallW Tryz.prog K 24 #[pgV G, enV x] h (IfB (RoomP G x) h) := by
  have hT' := hT
  have hx' := hx
  have hxb := hx.b
  obtain ⟨people, pl, kl, n, l, p, kc, c⟩ := G
  obtain ⟨par, q, k, t⟩ := x
  obtain ⟨len, rl, rc, each, hbl, hpb⟩ := hT
  dsimp only [pgV, enV] at len rl rc each hbl hpb hx hxb ⊢
  have ar : ∀ {h1 : Heap}, Ext h h1 → CallW Tryz.prog K 42 #[.agg #[.int .i64 people, .slice pl n kl, .slice p c.length kc]] h1 (IfB (ShortP ⟨people, pl, kl, n, l, p, kc, c⟩ ∧ PgP ⟨people, pl, kl, n, l, p, kc, c⟩) h1) := fun e => right_ok (G := ⟨people, pl, kl, n, l, p, kc, c⟩) hK (hT'.ext e)
  refine body (N := 24) Tryz.func24 rfl (hK _ _ _ rfl) rfl rfl ?_
  by_cases hr : ShortP ⟨people, pl, kl, n, l, p, kc, c⟩ ∧ PgP ⟨people, pl, kl, n, l, p, kc, c⟩
  · have hp := hr.2.people
    have hn := hr.2.n
    dsimp only at hp hn
    by_cases h1 : t.length ≤ 6
    · by_cases h2 : c.length < 10
      · (repeat' (first | apply zau | apply zac | (apply O_at; rfl) | (apply zat; rfl) | apply zav | apply zaK | apply zaw | (apply za3; rfl; rfl; rfl) | ((first | apply zaq | apply zae); rfl; rfl; rfl; rfl) | (apply P_fa; rfl; rfl; rfl; rfl; exact zaD rfl; (first | exact Nat.zero_add _ | exact Nat.add_zero _ | rfl)) | (apply za8; rfl; rfl; rfl; rfl; rfl; rfl; exact zal rfl) | (apply za4; rfl; rfl; rfl; rfl; rfl; rfl) | (apply za1; rfl; rfl; rfl; rfl; rfl; omega) | (apply za0; rfl; rfl; rfl; rfl; rfl; omega) | (apply zdU; rfl; rfl; rfl; rfl; rfl; omega) | (apply zdT; rfl; rfl; rfl; rfl; rfl; omega) | (apply zah; rfl; rfl; rfl; rfl; exact zak rfl; (focus repeat' first | exact zaa | assumption | apply zab | (apply Ext.get; assumption)); (first | rfl | assumption)) | (apply zao; rfl; rfl; rfl; rfl; exact zay rfl; (focus repeat' first | exact zaa | assumption | apply zab | (apply Ext.get; assumption)); (first | exact Nat.le_of_ble_eq_true rfl | (simp; done) | (simp; omega)); rfl) | (apply zaG; rfl; rfl; rfl; rfl; exact zad rfl; rfl; rfl) | (apply zaF; rfl; rfl; rfl; rfl; rfl; rfl; exact yes (ar (by (focus repeat' first | exact Ext.refl _ | assumption | apply Ext.push | (refine Ext.trans ?_ (by assumption))))) hr; (rintro _ _ ⟨rfl, _⟩)) | (apply zaF; rfl; rfl; rfl; rfl; rfl; rfl; exact zeg (G := ⟨people, pl, kl, n, l, p, kc, c⟩) (c := ⟨par, ⟨q, k, t⟩⟩) hK hp (by dsimp only; omega) (hT'.ext (by (focus repeat' first | exact Ext.refl _ | assumption | apply Ext.push | (refine Ext.trans ?_ (by assumption))))).bl (hT'.ext (by (focus repeat' first | exact Ext.refl _ | assumption | apply Ext.push | (refine Ext.trans ?_ (by assumption))))).bg (hx'.ext (by (focus repeat' first | exact Ext.refl _ | assumption | apply Ext.push | (refine Ext.trans ?_ (by assumption))))) (by dsimp only; omega); (rintro _ _ (⟨rfl, _, _⟩ | ⟨rfl, _, _⟩))) | fail))
        · rename_i w _
          exact ⟨.inr rfl, _, rfl, .inl ⟨rfl, ⟨hr.1, hr.2, h1, h2, w⟩, by (focus repeat' first | exact Ext.refl _ | assumption | apply Ext.push | (refine Ext.trans ?_ (by assumption)))⟩⟩
        · rename_i w _
          exact ⟨.inr rfl, _, rfl, .inr ⟨rfl, fun z => w z.2.2.2.2, by (focus repeat' first | exact Ext.refl _ | assumption | apply Ext.push | (refine Ext.trans ?_ (by assumption)))⟩⟩
      · (repeat' (first | apply zau | apply zac | (apply O_at; rfl) | (apply zat; rfl) | apply zav | apply zaK | apply zaw | (apply za3; rfl; rfl; rfl) | ((first | apply zaq | apply zae); rfl; rfl; rfl; rfl) | (apply P_fa; rfl; rfl; rfl; rfl; exact zaD rfl; (first | exact Nat.zero_add _ | exact Nat.add_zero _ | rfl)) | (apply za8; rfl; rfl; rfl; rfl; rfl; rfl; exact zal rfl) | (apply za4; rfl; rfl; rfl; rfl; rfl; rfl) | (apply za1; rfl; rfl; rfl; rfl; rfl; omega) | (apply za0; rfl; rfl; rfl; rfl; rfl; omega) | (apply zdU; rfl; rfl; rfl; rfl; rfl; omega) | (apply zdT; rfl; rfl; rfl; rfl; rfl; omega) | (apply zah; rfl; rfl; rfl; rfl; exact zak rfl; (focus repeat' first | exact zaa | assumption | apply zab | (apply Ext.get; assumption)); (first | rfl | assumption)) | (apply zao; rfl; rfl; rfl; rfl; exact zay rfl; (focus repeat' first | exact zaa | assumption | apply zab | (apply Ext.get; assumption)); (first | exact Nat.le_of_ble_eq_true rfl | (simp; done) | (simp; omega)); rfl) | (apply zaG; rfl; rfl; rfl; rfl; exact zad rfl; rfl; rfl) | (apply zaF; rfl; rfl; rfl; rfl; rfl; rfl; exact yes (ar (by (focus repeat' first | exact Ext.refl _ | assumption | apply Ext.push | (refine Ext.trans ?_ (by assumption))))) hr; (rintro _ _ ⟨rfl, _⟩)) | fail))
        exact ⟨.inr rfl, _, rfl, .inr ⟨rfl, fun z => h2 z.2.2.2.1, by (focus repeat' first | exact Ext.refl _ | assumption | apply Ext.push | (refine Ext.trans ?_ (by assumption)))⟩⟩
    · (repeat' (first | apply zau | apply zac | (apply O_at; rfl) | (apply zat; rfl) | apply zav | apply zaK | apply zaw | (apply za3; rfl; rfl; rfl) | ((first | apply zaq | apply zae); rfl; rfl; rfl; rfl) | (apply P_fa; rfl; rfl; rfl; rfl; exact zaD rfl; (first | exact Nat.zero_add _ | exact Nat.add_zero _ | rfl)) | (apply za8; rfl; rfl; rfl; rfl; rfl; rfl; exact zal rfl) | (apply za4; rfl; rfl; rfl; rfl; rfl; rfl) | (apply za1; rfl; rfl; rfl; rfl; rfl; omega) | (apply za0; rfl; rfl; rfl; rfl; rfl; omega) | (apply zdU; rfl; rfl; rfl; rfl; rfl; omega) | (apply zdT; rfl; rfl; rfl; rfl; rfl; omega) | (apply zah; rfl; rfl; rfl; rfl; exact zak rfl; (focus repeat' first | exact zaa | assumption | apply zab | (apply Ext.get; assumption)); (first | rfl | assumption)) | (apply zao; rfl; rfl; rfl; rfl; exact zay rfl; (focus repeat' first | exact zaa | assumption | apply zab | (apply Ext.get; assumption)); (first | exact Nat.le_of_ble_eq_true rfl | (simp; done) | (simp; omega)); rfl) | (apply zaG; rfl; rfl; rfl; rfl; exact zad rfl; rfl; rfl) | (apply zaF; rfl; rfl; rfl; rfl; rfl; rfl; exact yes (ar (by (focus repeat' first | exact Ext.refl _ | assumption | apply Ext.push | (refine Ext.trans ?_ (by assumption))))) hr; (rintro _ _ ⟨rfl, _⟩)) | fail))
      exact ⟨.inr rfl, _, rfl, .inr ⟨rfl, fun z => h1 z.2.2.1, by (focus repeat' first | exact Ext.refl _ | assumption | apply Ext.push | (refine Ext.trans ?_ (by assumption)))⟩⟩
  · (repeat' (first | apply zau | apply zac | (apply O_at; rfl) | (apply zat; rfl) | apply zav | apply zaK | apply zaw | (apply za3; rfl; rfl; rfl) | ((first | apply zaq | apply zae); rfl; rfl; rfl; rfl) | (apply P_fa; rfl; rfl; rfl; rfl; exact zaD rfl; (first | exact Nat.zero_add _ | exact Nat.add_zero _ | rfl)) | (apply za8; rfl; rfl; rfl; rfl; rfl; rfl; exact zal rfl) | (apply za4; rfl; rfl; rfl; rfl; rfl; rfl) | (apply za1; rfl; rfl; rfl; rfl; rfl; omega) | (apply za0; rfl; rfl; rfl; rfl; rfl; omega) | (apply zdU; rfl; rfl; rfl; rfl; rfl; omega) | (apply zdT; rfl; rfl; rfl; rfl; rfl; omega) | (apply zah; rfl; rfl; rfl; rfl; exact zak rfl; (focus repeat' first | exact zaa | assumption | apply zab | (apply Ext.get; assumption)); (first | rfl | assumption)) | (apply zao; rfl; rfl; rfl; rfl; exact zay rfl; (focus repeat' first | exact zaa | assumption | apply zab | (apply Ext.get; assumption)); (first | exact Nat.le_of_ble_eq_true rfl | (simp; done) | (simp; omega)); rfl) | (apply zaG; rfl; rfl; rfl; rfl; exact zad rfl; rfl; rfl) | (apply zaF; rfl; rfl; rfl; rfl; rfl; rfl; exact no (ar (by (focus repeat' first | exact Ext.refl _ | assumption | apply Ext.push | (refine Ext.trans ?_ (by assumption))))) hr; (rintro _ _ ⟨rfl, _⟩)) | fail))
    exact ⟨.inr rfl, _, rfl, .inr ⟨rfl, fun z => hr ⟨z.1, z.2.1⟩, by (focus repeat' first | exact Ext.refl _ | assumption | apply Ext.push | (refine Ext.trans ?_ (by assumption)))⟩⟩
end Go.AX.Sa
