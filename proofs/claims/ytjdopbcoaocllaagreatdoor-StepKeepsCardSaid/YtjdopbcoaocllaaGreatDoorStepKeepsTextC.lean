/- The law StepKeeps at the reading: what the functions that it calls answer (3). -/
import Derived.Test.YtjdopbcoaocllaaGreatDoorStepKeepsTextB
namespace Go.AX.Sa
open Go.Proofs
set_option maxRecDepth 100000
variable {K : Known}
/-! The list of a step, and the widest step. -/
section
variable {x : Ctx} {N : Nat} {E : Env} {h : Heap} {ops : Array Oper} {F : Ex → Env → Heap → Prop} {i : Nat} {Hs : List Heap} {L : List Heap → Prop} {nw : List (Nat × Nat × Blk)}
variable {d : Nat} {ty : TypeId} {pos : String} {af : Array Edge} {g : Option (Nat × Bool)} {ps : Array (Nat × Operand)}
theorem zjM {q p : Option Addr} {n k1 m j : Nat} {r o : Int} (hN : Nat.blt d N = true) (hg : gval ops E g = some true) (hk : opsOK Tryz.prog ⟨some d, .build 82 ps, ty, pos, af, g⟩ = true)
    (hps : E.parts ps.toList = some [(0, .agg #[.slice q n k1, .int .i64 r, .int .i64 o]), (1, .slice p m j)]) (k : S1 Tryz.prog K x N ops F (i + 1) ((d, .agg #[.slice q n k1, .int .i64 r, .int .i64 o, .slice p m j]) :: E) h Hs L nw) : S2 Tryz.prog K x N ops F i ⟨some d, .build 82 ps, ty, pos, af, g⟩ E h Hs L nw := M_build hN hg hk hps (fill_st q p n k1 m j r o) k
end
theorem zia (c st : Nat) : (((c + 1) * st : Nat) : Int) = ((c * st : Nat) : Int) + ((st : Nat) : Int) := by rw [Nat.succ_mul]; exact Int.natCast_add _ _
set_option maxHeartbeats 1000000 in
theorem zeJ (hK : NoK K) {T : Tb} {st : Int} {h : Heap} (hn : 2 ≤ T.s.length ∧ T.s.length ≤ 1000) (hst : 1 ≤ st ∧ st ≤ (T.s.length : Int) - 1) :
    CallW Tryz.prog K 48 #[tbV T, .int .i64 st] h (IsL (kls T.s.length st.toNat) h) := by
  obtain ⟨q, kq, s, r, o⟩ := T
  dsimp only [tbV] at hn hst ⊢
  obtain ⟨S, rfl⟩ : ∃ S : Nat, st = (S : Nat) := ⟨st.toNat, by omega⟩
  rw [Int.toNat_natCast]
  have hS : 1 ≤ S := by omega
  refine body (N := 27) Tryz.func48 rfl (hK _ _ _ rfl) rfl rfl ?_
  (repeat' (first | apply zah | apply zad | (apply O_at; rfl) | (apply zag; rfl) | apply zaf | apply zan | ((first | apply zae | apply zac); rfl; rfl; rfl; rfl) | (apply zaY; rfl; rfl; rfl; rfl; exact zam rfl; rfl; rfl) | fail))
  refine zaR (fun a : Nat × Value => [(6, .int .i64 ((a.1 * S : Nat) : Int)), (5, a.2), (2, .pointer (some ⟨h.n, 0, none⟩)), (1, .int .i64 (S : Nat))])
    (fun a h' => (∀ d, a.1 = d + 1 → d * S < s.length - 1) ∧ Ext (h.push (.cells [.slice q s.length kq, .int .i64 r, .int .i64 o] 25 true)) h' ∧ OutI 3 (h.push (.cells [.slice q s.length kq, .int .i64 r, .int .i64 o] 25 true)) h' a.2 (kps S a.1)) (fun a => s.length - a.1) ?_ (0, nilV) ?_ ?_
  · rintro ⟨c, v⟩ h' ⟨hd, hx, ho⟩ ih
    dsimp only at hd hx ho ih ⊢
    have hb : h'.get? h.n = some (.cells [.slice q s.length kq, .int .i64 r, .int .i64 o] 25 true) := hx.get zaa
    have hle := zdf S c
    have hcl : c ≤ s.length - 1 := by
      cases c with
      | zero => exact Nat.zero_le _
      | succ d =>
        have a := hd d rfl
        have b := Nat.le_mul_of_pos_right d hS
        omega
    have hnext := zia c S
    by_cases hlt : c * S < s.length - 1
    · have hcc : c < s.length - 1 := by
        have b := Nat.le_mul_of_pos_right c hS
        omega
      (repeat' (first | apply zah | apply zad | (apply O_at; rfl) | (apply zag; rfl) | apply zaf | (apply zaJ; rfl) | apply zan | apply zau | apply zaq | ((first | apply zae | apply zac); rfl; rfl; rfl; rfl) | (apply P_fa; rfl; rfl; rfl; rfl; exact zaQ rfl; (first | exact Nat.zero_add _ | exact Nat.add_zero _ | rfl)) | (apply zaX; rfl; rfl; rfl; rfl; rfl; rfl; exact zar rfl) | (apply zaL; rfl; rfl; rfl; rfl; rfl; omega) | (apply zba; rfl; rfl; rfl; rfl; rfl; (unfold fit; omega)) | (apply zbP; rfl; rfl; rfl; rfl; rfl; (unfold fit; omega)) | (apply zao; rfl; rfl; rfl; rfl; exact zay rfl; (focus repeat' first | exact zaa | assumption | (apply Ext.get; assumption)); (first | rfl | assumption)) | (apply zcv; rfl; rfl; rfl; rfl; rfl; rfl; rfl; exact zbO rfl) | (apply zeW; rfl; rfl; rfl; rfl; rfl; rfl; rfl; rfl; exact zbO rfl; exact zar rfl; (focus repeat' first | exact zaa | assumption | (apply Ext.get; assumption)); (apply OutI.ext; assumption; (focus repeat' first | exact Ext.refl _ | assumption | apply Ext.push | (refine Ext.trans ?_ (by assumption)))); (focus repeat' first | exact Ext.refl _ | assumption | apply Ext.push | (refine Ext.trans ?_ (by assumption))); (first | omega | (simp; omega)); (intro _ _ _ _)) | fail))
      rename_i v1 h2 ho2 hx2
      exact zaC (ih (c + 1, v1) _ (by dsimp only; omega) ⟨fun d hd' => (by cases hd'; exact hlt), by (focus repeat' first | exact Ext.refl _ | assumption | apply Ext.push | (refine Ext.trans ?_ (by assumption))), by rw [zih]; exact ho2⟩) (by rw [hnext]; (focus repeat' first | rfl | exact trivial | apply And.intro))
    · have hc := cnt_is (last := s.length - 1) hS (by omega) hd
      (repeat' (first | apply zah | apply zad | (apply O_at; rfl) | (apply zag; rfl) | apply zaf | (apply zaK; rfl) | apply za7 | apply zav | apply za8 | apply zaS | apply zaT | apply zas | ((first | apply zae | apply zac); rfl; rfl; rfl; rfl) | (apply P_fa; rfl; rfl; rfl; rfl; exact zaQ rfl; (first | exact Nat.zero_add _ | exact Nat.add_zero _ | rfl)) | (apply zaX; rfl; rfl; rfl; rfl; rfl; rfl; exact zar rfl) | (apply zbb; rfl; rfl; rfl; rfl; rfl; omega) | (apply zbP; rfl; rfl; rfl; rfl; rfl; (unfold fit; omega)) | (apply zao; rfl; rfl; rfl; rfl; exact zay rfl; (focus repeat' first | exact zaa | assumption | (apply Ext.get; assumption)); (first | rfl | assumption)) | (apply zcv; rfl; rfl; rfl; rfl; rfl; rfl; rfl; exact zbO rfl) | (apply zeW; rfl; rfl; rfl; rfl; rfl; rfl; rfl; rfl; exact zbO rfl; exact zar rfl; (focus repeat' first | exact zaa | assumption | (apply Ext.get; assumption)); (apply OutI.ext; assumption; (focus repeat' first | exact Ext.refl _ | assumption | apply Ext.push | (refine Ext.trans ?_ (by assumption)))); (focus repeat' first | exact Ext.refl _ | assumption | apply Ext.push | (refine Ext.trans ?_ (by assumption))); (first | omega | (simp; omega)); (intro _ _ _ _)) | fail))
      rename_i v1 h2 ho2 hx2
      subst hc
      exact ⟨.inr rfl, _, rfl, (OutI.low (e := 3) ho2 (Nat.le_succ _)).isL (by (focus repeat' first | exact Ext.refl _ | assumption | apply Ext.push | (refine Ext.trans ?_ (by assumption))))⟩
  · exact ⟨fun d hd => (by cases hd), Ext.refl _, OutI.nil _ _ _⟩
  · exact (by rw [show (((0 : Nat) * S : Nat) : Int) = 0 by rw [Nat.zero_mul]; rfl]; (focus repeat' first | rfl | exact trivial | apply And.intro))
/-- A table with a kept list, that the program has made. -/
def IsK (T : Tb) (l : List Int) (h : Heap) (v : Value) (h1 : Heap) : Prop := ∃ b, v = ktV T (some ⟨b, 0, none⟩) l.length unk ∧ h1.get? b = some (.cells (ints l) 3 true) ∧ h.n ≤ b ∧ Ext h h1
set_option maxHeartbeats 2000000 in
theorem zkP (hK : NoK K) {T : Tb} {st : Int} {h : Heap} (hn : 2 ≤ T.s.length ∧ T.s.length ≤ 1000) (hst : 1 ≤ st ∧ st ≤ (T.s.length : Int) - 1) (hTb : TbAt T h) :
    CallW Tryz.prog K 85 #[tbV T, .int .i64 st] h (IsK T (kls T.s.length st.toNat) h) := by
  obtain ⟨q, kq, s, r, o⟩ := T
  have hqb : ∀ a, q = some a → a.block < h.n := hTb.b
  dsimp only [tbV, IsK, ktV] at hn hst ⊢
  obtain ⟨S, rfl⟩ : ∃ S : Nat, st = (S : Nat) := ⟨st.toNat, by omega⟩
  rw [Int.toNat_natCast]
  have hS : 1 ≤ S := by omega
  refine body (N := 28) Tryz.func85 rfl (hK _ _ _ rfl) rfl rfl ?_
  (repeat' (first | apply zah | apply zad | (apply O_at; rfl) | (apply zag; rfl) | apply zaf | apply zan | ((first | apply zae | apply zac | apply zat); rfl; rfl; rfl; rfl) | (apply P_fa; rfl; rfl; rfl; rfl; exact zaQ rfl; (first | exact Nat.zero_add _ | exact Nat.add_zero _ | rfl)) | (apply zaX; rfl; rfl; rfl; rfl; rfl; rfl; exact zar rfl) | (apply zbP; rfl; rfl; rfl; rfl; rfl; (unfold fit; omega)) | (apply zao; rfl; rfl; rfl; rfl; exact zay rfl; (focus repeat' first | exact zaa | assumption | apply zab | (apply Ext.get; assumption) | (apply ExtBut.get; assumption; (first | assumption | omega | (simp only [Heap.push]; omega)))); (first | rfl | assumption)) | (apply zaY; rfl; rfl; rfl; rfl; exact zam rfl; rfl; rfl) | (apply zbp; rfl; rfl; rfl; rfl; exact zam rfl; rfl; rfl) | fail))
  refine zaR (fun a : Nat × Value => [(7, .int .i64 ((a.1 * S : Nat) : Int)), (6, a.2), (5, .int .i64 ((s.length : Int) - 1)), (4, .pointer (some ⟨h.n + 1, 0, none⟩)), (2, .pointer (some ⟨h.n, 0, none⟩)), (1, .int .i64 (S : Nat))])
    (fun a h' => (∀ d, a.1 = d + 1 → d * S < s.length - 1) ∧ Ext ((h.push (.cells [.slice q s.length kq, .int .i64 r, .int .i64 o] 25 true)).push (.cells [nilV, .int .i64 0, .int .i64 0, nilV] 82 true)) h' ∧ OutI 3 ((h.push (.cells [.slice q s.length kq, .int .i64 r, .int .i64 o] 25 true)).push (.cells [nilV, .int .i64 0, .int .i64 0, nilV] 82 true)) h' a.2 (kps S a.1)) (fun a => s.length - a.1) ?_ (0, nilV) ?_ ?_
  · rintro ⟨c, v⟩ h' ⟨hd, hx, ho⟩ ih
    dsimp only at hd hx ho ih ⊢
    have hb : h'.get? h.n = some (.cells [.slice q s.length kq, .int .i64 r, .int .i64 o] 25 true) := hx.get (zab zaa)
    have hb2 : h'.get? (h.n + 1) = some (.cells [nilV, .int .i64 0, .int .i64 0, nilV] 82 true) := hx.get zaa
    have hle := zdf S c
    have hcl : c ≤ s.length - 1 := by
      cases c with
      | zero => exact Nat.zero_le _
      | succ d =>
        have a := hd d rfl
        have b := Nat.le_mul_of_pos_right d hS
        omega
    have hnext := zia c S
    by_cases hlt : c * S < s.length - 1
    · have hcc : c < s.length - 1 := by
        have b := Nat.le_mul_of_pos_right c hS
        omega
      (repeat' (first | apply zah | apply zad | (apply O_at; rfl) | (apply zag; rfl) | apply zaf | (apply zaJ; rfl) | apply zan | apply zau | apply zaq | ((first | apply zae | apply zac | apply zat); rfl; rfl; rfl; rfl) | (apply zaL; rfl; rfl; rfl; rfl; rfl; omega) | (apply zba; rfl; rfl; rfl; rfl; rfl; (unfold fit; omega)) | (apply zcv; rfl; rfl; rfl; rfl; rfl; rfl; rfl; exact zbO rfl) | (apply zeW; rfl; rfl; rfl; rfl; rfl; rfl; rfl; rfl; exact zbO rfl; exact zar rfl; (focus repeat' first | exact zaa | assumption | apply zab | (apply Ext.get; assumption) | (apply ExtBut.get; assumption; (first | assumption | omega | (simp only [Heap.push]; omega)))); (apply OutI.ext; assumption; (focus repeat' first | exact Ext.refl _ | assumption | apply Ext.push | (refine Ext.trans ?_ (by assumption)) | (refine Ext.ofBut ?_ (by assumption) (by first | exact Nat.le_refl _ | omega)))); (focus repeat' first | exact Ext.refl _ | assumption | apply Ext.push | (refine Ext.trans ?_ (by assumption)) | (refine Ext.ofBut ?_ (by assumption) (by first | exact Nat.le_refl _ | omega))); (first | omega | (simp; omega)); (intro _ _ _ _)) | fail))
      rename_i v1 h2 ho2 hx2
      exact zaC (ih (c + 1, v1) _ (by dsimp only; omega) ⟨fun d hd' => (by cases hd'; exact hlt), by (focus repeat' first | exact Ext.refl _ | assumption | apply Ext.push | (refine Ext.trans ?_ (by assumption)) | (refine Ext.ofBut ?_ (by assumption) (by first | exact Nat.le_refl _ | omega))), by rw [zih]; exact ho2⟩) (by rw [hnext]; (focus repeat' first | rfl | exact trivial | apply And.intro))
    · have hc := cnt_is (last := s.length - 1) hS (by omega) hd
      (repeat' (first | apply zah | apply zad | (apply O_at; rfl) | (apply N_at; rfl) | (apply zag; rfl) | apply zaf | (apply zaK; rfl) | (apply zbE; exact zaO (by decide +kernel)) | apply za7 | apply za8 | apply zaS | apply zaT | ((first | apply zae | apply zac | apply zat); rfl; rfl; rfl; rfl) | (apply zbb; rfl; rfl; rfl; rfl; rfl; omega) | (apply zfy; rfl; rfl; rfl; rfl; rfl; rfl; rfl; exact zbO rfl) | (apply M_appI; rfl; rfl; rfl; rfl; rfl; rfl; rfl; rfl; exact zbO rfl; exact zar rfl; (focus repeat' first | exact zaa | assumption | apply zab | (apply Ext.get; assumption) | (apply ExtBut.get; assumption; (first | assumption | omega | (simp only [Heap.push]; omega)))); (apply OutI.ext; assumption; (focus repeat' first | exact Ext.refl _ | assumption | apply Ext.push | (refine Ext.trans ?_ (by assumption)) | (refine Ext.ofBut ?_ (by assumption) (by first | exact Nat.le_refl _ | omega)))); (focus repeat' first | exact Ext.refl _ | assumption | apply Ext.push | (refine Ext.trans ?_ (by assumption)) | (refine Ext.ofBut ?_ (by assumption) (by first | exact Nat.le_refl _ | omega))); (first | omega | (simp; omega)); rfl; (intro _ _ _ _)) | (((apply M_loadAH; rfl; rfl; rfl; rfl; exact za0 rfl; exact zdk (by decide +kernel)); (focus repeat' first | exact zaa | assumption | apply zab | (apply Ext.get; assumption) | (apply ExtBut.get; assumption; (first | assumption | omega | (simp only [Heap.push]; omega)))); (first | exact Nat.le_of_ble_eq_true rfl | (simp; done) | (simp; omega)); rfl); (first | assumption | exact zcA _ _ _ _ _ | rfl | (focus simp [same, same.all2]; done)); (first | rfl | assumption | exact hwv _ | exact zbm (by assumption) (by (focus repeat' first | exact Ext.refl _ | assumption | apply Ext.push | (refine Ext.trans ?_ (by assumption)) | (refine Ext.ofBut ?_ (by assumption) (by first | exact Nat.le_refl _ | omega)))) | (simp [within]; omega))) | fail))
      rename_i v1 h2 ho2 hx2
      have hgc : h2.get? (h.n + 1) = some (.cells [nilV, .int .i64 0, .int .i64 0, nilV] 82 true) := hx2.get zaa
      rcases ho2 with ⟨z, _⟩ | ⟨_, b, rfl, gb, hnb⟩
      · exact absurd (congrArg List.length z) (by simp)
      have hnb' : h.n + 2 ≤ b := hnb
      apply zjM (q := q) (n := s.length) (k1 := kq) (r := r) (o := o) (p := some ⟨b, 0, none⟩) (m := (kps S c ++ [(s.length : Int) - 1]).length) (j := unk); rfl; rfl; rfl; rfl
      (repeat' (first | (apply N_at; rfl) | apply zaf | apply zav | (apply zcJ; rfl; refine .inr ?_; (focus repeat' first | exact trivial | exact Keeps.nil _ _ | apply And.intro | rfl | (apply Keeps.cons; iterate 2 (focus repeat' first | exact zaa | assumption | apply zab | (apply Ext.get; assumption) | (apply ExtBut.get; assumption; (first | assumption | omega | (simp only [Heap.push]; omega))))))) | apply zas | (apply M_storeW; rfl; rfl; rfl; rfl; (focus repeat' first | exact zaa | assumption | apply zab | (apply Ext.get; assumption) | (apply ExtBut.get; assumption; (first | assumption | omega | (simp only [Heap.push]; omega)))); exact zam rfl; rfl; (first | rfl | exact zaw _); rfl; rfl; (intro _ _ _)) | fail))
      rename_i h5 q5 x5
      have gb5 := x5.get (by omega) gb
      subst hc
      exact ⟨.inr rfl, _, zh4 rfl (readA (za0 rfl) q5 (Nat.le_of_ble_eq_true rfl) rfl) rfl, b, rfl, gb5, by omega, Ext.ofBut (by (focus repeat' first | exact Ext.refl _ | assumption | apply Ext.push | (refine Ext.trans ?_ (by assumption)) | (refine Ext.ofBut ?_ (by assumption) (by first | exact Nat.le_refl _ | omega)))) x5 (Nat.le_succ _)⟩
  · exact ⟨fun d hd => (by cases hd), Ext.refl _, OutI.nil _ _ _⟩
  · exact (by rw [show (((0 : Nat) * S : Nat) : Int) = 0 by rw [Nat.zero_mul]; rfl]; (focus repeat' first | rfl | exact trivial | apply And.intro))
end Go.AX.Sa

namespace Go.AX.Sa
open Go.Proofs
set_option maxRecDepth 100000
variable {K : Known}
/-! The widest step; the law of steps. -/
section
variable {T : Tb} {h : Heap}
theorem zgJ (hK : NoK K) {st : Int} (hP : TbP T) (hTb : TbAt T h) (hst : 1 ≤ st ∧ st ≤ (T.s.length : Int) - 1) :
    CallW Tryz.prog K 44 #[tbV T, .int .i64 st] h (OkL (kls T.s.length st.toNat) h) := by
  have iT : ∀ {h' : Heap}, Ext h h' → CallW Tryz.prog K 62 #[tbV T] h' (IfB (TbP T) h') := fun x => zcq hK (by have := hP.1; omega) (hTb.ext x)
  have iK : ∀ {h' : Heap}, Ext h h' → CallW Tryz.prog K 85 #[tbV T, .int .i64 st] h' (IsK T (kls T.s.length st.toNat) h') := fun x => zkP hK (by have := hP.1; omega) hst (hTb.ext x)
  have hn := hP.1
  obtain ⟨q, kq, s, r, o⟩ := T
  dsimp only [tbV, IsK, ktV] at iT iK hst hn ⊢
  refine body (N := 22) Tryz.func44 rfl (hK _ _ _ rfl) rfl rfl ?_
  (repeat' (first | apply zah | apply zad | (apply O_at; rfl) | (apply zag; rfl) | apply zaf | (apply zaK; rfl) | apply zau | ((first | apply zae | apply zac | apply zbl); rfl; rfl; rfl; rfl) | (apply P_fa; rfl; rfl; rfl; rfl; exact zaQ rfl; (first | exact Nat.zero_add _ | exact Nat.add_zero _ | rfl)) | (apply zaX; rfl; rfl; rfl; rfl; rfl; rfl; exact zar rfl) | (apply za5; rfl; rfl; rfl; rfl; rfl; rfl) | (apply zbP; rfl; rfl; rfl; rfl; rfl; (unfold fit; omega)) | (apply zao; rfl; rfl; rfl; rfl; exact zay rfl; (focus repeat' first | exact zaa | assumption | (apply Ext.get; assumption)); (first | rfl | assumption)) | (apply zaz; rfl; rfl; rfl; rfl; exact za0 rfl; (focus repeat' first | exact zaa | assumption | (apply Ext.get; assumption)); (first | exact Nat.le_of_ble_eq_true rfl | (simp; done) | (simp; omega)); rfl) | (apply zaY; rfl; rfl; rfl; rfl; exact zam rfl; rfl; rfl) | (apply zaj; rfl; rfl; rfl; rfl; rfl; rfl; exact yes (iT (by (focus repeat' first | exact Ext.refl _ | assumption | apply Ext.push | (refine Ext.trans ?_ (by assumption))))) hP; (rintro _ _ ⟨rfl, _⟩)) | (apply zaj; rfl; rfl; rfl; rfl; rfl; rfl; exact yes (zbs hK) hst; (rintro _ _ ⟨rfl, _⟩)) | fail))
  apply zaj; rfl; rfl; rfl; rfl; rfl; rfl; exact iK (by (focus repeat' first | exact Ext.refl _ | assumption | apply Ext.push | (refine Ext.trans ?_ (by assumption))))
  rintro _ h2 ⟨b, rfl, gb, hb, x2⟩
  (repeat' (first | (apply O_at; rfl) | (apply zag; rfl) | apply zaf | apply zav | apply zas | ((first | apply zae | apply zac | apply zbl); rfl; rfl; rfl; rfl) | (apply P_field1; rfl; rfl; rfl; rfl; rfl; rfl; rfl; rfl) | fail))
  exact ⟨.inr rfl, _, rfl, _, _, rfl, .inr ⟨_, _, _, rfl, gb⟩, by (focus repeat' first | exact Ext.refl _ | assumption | apply Ext.push | (refine Ext.trans ?_ (by assumption)))⟩
theorem zfE (hK : NoK K) {st : Int} (hsl : T.s.length ≤ 1000) (hn : ¬ (TbP T ∧ 1 ≤ st ∧ st ≤ (T.s.length : Int) - 1)) (hTb : TbAt T h) :
    CallW Tryz.prog K 44 #[tbV T, .int .i64 st] h (IsV (.tuple #[.slice none 0 0, .int .i64 2]) h) := by
  have iT : ∀ {h' : Heap}, Ext h h' → CallW Tryz.prog K 62 #[tbV T] h' (IfB (TbP T) h') := fun x => zcq hK hsl (hTb.ext x)
  obtain ⟨q, kq, s, r, o⟩ := T
  dsimp only [tbV] at iT hn hsl ⊢
  refine body (N := 22) Tryz.func44 rfl (hK _ _ _ rfl) rfl rfl ?_
  by_cases hP : TbP ⟨q, kq, s, r, o⟩
  · have hst : ¬ (1 ≤ st ∧ st ≤ (s.length : Int) - 1) := fun w => hn ⟨hP, w⟩
    (repeat' (first | apply zah | apply zad | (apply O_at; rfl) | (apply zag; rfl) | apply zaf | (apply zaJ; rfl) | apply zav | apply zbF | apply zas | ((first | apply zae | apply zac | apply zbl); rfl; rfl; rfl; rfl) | (apply P_fa; rfl; rfl; rfl; rfl; exact zaQ rfl; (first | exact Nat.zero_add _ | exact Nat.add_zero _ | rfl)) | (apply zaX; rfl; rfl; rfl; rfl; rfl; rfl; exact zar rfl) | (apply za5; rfl; rfl; rfl; rfl; rfl; rfl) | (apply zbP; rfl; rfl; rfl; rfl; rfl; (unfold fit; omega)) | (apply zao; rfl; rfl; rfl; rfl; exact zay rfl; (focus repeat' first | exact zaa | assumption | (apply Ext.get; assumption)); (first | rfl | assumption)) | (apply zaz; rfl; rfl; rfl; rfl; exact za0 rfl; (focus repeat' first | exact zaa | assumption | (apply Ext.get; assumption)); (first | exact Nat.le_of_ble_eq_true rfl | (simp; done) | (simp; omega)); rfl) | (apply zaY; rfl; rfl; rfl; rfl; exact zam rfl; rfl; rfl) | (apply zaj; rfl; rfl; rfl; rfl; rfl; rfl; exact yes (iT (by (focus repeat' first | exact Ext.refl _ | assumption | apply Ext.push | (refine Ext.trans ?_ (by assumption))))) hP; (rintro _ _ ⟨rfl, _⟩)) | (apply zaj; rfl; rfl; rfl; rfl; rfl; rfl; exact no (zbs hK) hst; (rintro _ _ ⟨rfl, _⟩)) | fail))
    exact ⟨.inr rfl, _, rfl, rfl, by (focus repeat' first | exact Ext.refl _ | assumption | apply Ext.push | (refine Ext.trans ?_ (by assumption)))⟩
  · (repeat' (first | apply zah | apply zad | (apply O_at; rfl) | (apply zag; rfl) | apply zaf | (apply zaJ; rfl) | apply zav | apply zbF | apply zas | (apply zb2; rfl; rfl; rfl) | ((first | apply zae | apply zac | apply zbl); rfl; rfl; rfl; rfl) | (apply za5; rfl; rfl; rfl; rfl; rfl; rfl) | (apply zaz; rfl; rfl; rfl; rfl; exact za0 rfl; (focus repeat' first | exact zaa | assumption | (apply Ext.get; assumption)); (first | exact Nat.le_of_ble_eq_true rfl | (simp; done) | (simp; omega)); rfl) | (apply zaY; rfl; rfl; rfl; rfl; exact zam rfl; rfl; rfl) | (apply zaj; rfl; rfl; rfl; rfl; rfl; rfl; exact no (iT (by (focus repeat' first | exact Ext.refl _ | assumption | apply Ext.push | (refine Ext.trans ?_ (by assumption))))) hP; (rintro _ _ ⟨rfl, _⟩)) | fail))
    exact ⟨.inr rfl, _, rfl, rfl, by (focus repeat' first | exact Ext.refl _ | assumption | apply Ext.push | (refine Ext.trans ?_ (by assumption)))⟩
theorem zjQ (hK : NoK K) {w : Int} (hP : TbP T) (hTb : TbAt T h) (hW : WidP T.s T.r T.o w) :
    CallW Tryz.prog K 45 #[tbV T] h (IsV (.tuple #[.int .i64 w, .int .i64 0]) h) := by
  have iT : ∀ {h' : Heap}, Ext h h' → CallW Tryz.prog K 62 #[tbV T] h' (IfB (TbP T) h') := fun x => zcq hK (by have := hP.1; omega) (hTb.ext x)
  have iK : ∀ {st : Int} {h' : Heap}, 1 ≤ st ∧ st ≤ (T.s.length : Int) - 1 → Ext h h' → CallW Tryz.prog K 85 #[tbV T, .int .i64 st] h' (IsK T (kls T.s.length st.toNat) h') := fun hst x => zkP hK (by have := hP.1; omega) hst (hTb.ext x)
  have iS : ∀ {st : Int} {b : Nat} {h' : Heap}, 1 ≤ st ∧ st ≤ (T.s.length : Int) - 1 → h'.get? b = some (.cells (ints (kls T.s.length st.toNat)) 3 true) → Ext h h' → CallW Tryz.prog K 75 #[ktV T (some ⟨b, 0, none⟩) (kls T.s.length st.toNat).length unk] h' (IfB (SureP T.s (kls T.s.length st.toNat) T.r T.o) h') := fun {st} _ _ hst g x => by
    have hn := hP.1
    have hl := zcc T.s.length st.toNat
    have hc := cnt_le (last := T.s.length - 1) (st := st.toNat) (by omega)
    exact zkQ hK hP (zii hn.1 (by omega)) (by unfold unk; omega) (by omega) (hTb.ext x) g
  obtain ⟨q, kq, s, r, o⟩ := T
  have hqb : ∀ a, q = some a → a.block < h.n := hTb.b
  have hn := hP.1
  dsimp only [tbV, IsK, ktV] at iT iK iS hn hW ⊢
  obtain ⟨hw, hw1, hw2⟩ := hW
  refine body (N := 20) Tryz.func45 rfl (hK _ _ _ rfl) rfl rfl ?_
  (repeat' (first | apply zah | apply zad | (apply O_at; rfl) | (apply zag; rfl) | apply zaf | (apply zaK; rfl) | apply zan | apply zau | ((first | apply zae | apply zac | apply zbl); rfl; rfl; rfl; rfl) | (apply P_fa; rfl; rfl; rfl; rfl; exact zaQ rfl; (first | exact Nat.zero_add _ | exact Nat.add_zero _ | rfl)) | (apply zaX; rfl; rfl; rfl; rfl; rfl; rfl; exact zar rfl) | (apply zbP; rfl; rfl; rfl; rfl; rfl; (unfold fit; omega)) | (apply zao; rfl; rfl; rfl; rfl; exact zay rfl; (focus repeat' first | exact zaa | assumption | (apply Ext.get; assumption)); (first | rfl | assumption)) | (apply zaz; rfl; rfl; rfl; rfl; exact za0 rfl; (focus repeat' first | exact zaa | assumption | (apply Ext.get; assumption)); (first | exact Nat.le_of_ble_eq_true rfl | (simp; done) | (simp; omega)); rfl) | (apply zaY; rfl; rfl; rfl; rfl; exact zam rfl; rfl; rfl) | (apply zaj; rfl; rfl; rfl; rfl; rfl; rfl; exact yes (iT (by (focus repeat' first | exact Ext.refl _ | assumption | apply Ext.push | (refine Ext.trans ?_ (by assumption))))) hP; (rintro _ _ ⟨rfl, _⟩)) | fail))
  rename_i h1 x1
  have hb1 : h1.get? h.n = some (.cells [.slice q s.length kq, .int .i64 r, .int .i64 o] 25 true) := x1.get zaa
  refine zaR (fun st : Int => [(4, .int .i64 st), (1, .pointer (some ⟨h.n, 0, none⟩))])
    (fun st h' => (w ≤ st ∧ st ≤ (s.length : Int) - 1) ∧ Ext h1 h') (fun st => (st - w).toNat) ?_ ((s.length : Int) - 1) ⟨⟨by omega, Int.le_refl _⟩, Ext.refl _⟩ ?_
  · rintro st h' ⟨hst, hx⟩ ih
    have hb := hx.get hb1
    (repeat' (first | apply zah | apply zad | (apply O_at; rfl) | ((first | apply zae | apply zac | apply zbl); rfl; rfl; rfl; rfl) | (apply zaz; rfl; rfl; rfl; rfl; exact za0 rfl; (focus repeat' first | exact zaa | assumption | (apply Ext.get; assumption)); (first | exact Nat.le_of_ble_eq_true rfl | (simp; done) | (simp; omega)); rfl) | fail))
    apply zaj; rfl; rfl; rfl; rfl; rfl; rfl; exact iK (by omega) (by (focus repeat' first | exact Ext.refl _ | assumption | apply Ext.push | (refine Ext.trans ?_ (by assumption))))
    rintro _ h2 ⟨b, rfl, gb, hb', x2⟩
    by_cases he : st = w
    · subst he
      (repeat' (first | apply zah | apply zad | (apply O_at; rfl) | (apply zag; rfl) | apply zaf | (apply zaK; rfl) | apply za7 | apply zav | apply za8 | apply zaS | apply zaT | apply zas | ((first | apply zae | apply zac | apply zbl); rfl; rfl; rfl; rfl) | (apply zaj; rfl; rfl; rfl; rfl; rfl; rfl; exact yes (iS (by omega) gb (by (focus repeat' first | exact Ext.refl _ | assumption | apply Ext.push | (refine Ext.trans ?_ (by assumption))))) hw1; (rintro _ _ ⟨rfl, _⟩)) | fail))
      exact ⟨.inr rfl, _, rfl, rfl, by (focus repeat' first | exact Ext.refl _ | assumption | apply Ext.push | (refine Ext.trans ?_ (by assumption)))⟩
    · have hno := hw2 st (by omega) hst.2
      (repeat' (first | apply zad | (apply O_at; rfl) | (apply zag; rfl) | apply zaf | (apply zaJ; rfl) | apply zan | apply zau | apply zaq | ((first | apply zae | apply zac | apply zbl); rfl; rfl; rfl; rfl) | (apply zbP; rfl; rfl; rfl; rfl; rfl; (unfold fit; omega)) | (apply zaj; rfl; rfl; rfl; rfl; rfl; rfl; exact no (iS (by omega) gb (by (focus repeat' first | exact Ext.refl _ | assumption | apply Ext.push | (refine Ext.trans ?_ (by assumption))))) hno; (rintro _ _ ⟨rfl, _⟩)) | fail))
      exact zaC (ih (st - 1) _ (by omega) ⟨by omega, by (focus repeat' first | exact Ext.refl _ | assumption | apply Ext.push | (refine Ext.trans ?_ (by assumption)))⟩) (by (focus repeat' first | rfl | exact trivial | apply And.intro))
  · (focus repeat' first | rfl | exact trivial | apply And.intro)
theorem ziQ (hK : NoK K) (hsl : T.s.length ≤ 1000) (hP : ¬ TbP T) (hTb : TbAt T h) :
    CallW Tryz.prog K 45 #[tbV T] h (IsV (.tuple #[.int .i64 0, .int .i64 2]) h) := by
  have iT : ∀ {h' : Heap}, Ext h h' → CallW Tryz.prog K 62 #[tbV T] h' (IfB (TbP T) h') := fun x => zcq hK hsl (hTb.ext x)
  obtain ⟨q, kq, s, r, o⟩ := T
  dsimp only [tbV] at iT ⊢
  refine body (N := 20) Tryz.func45 rfl (hK _ _ _ rfl) rfl rfl ?_
  (repeat' (first | apply zah | apply zad | (apply O_at; rfl) | (apply zag; rfl) | apply zaf | (apply zaJ; rfl) | apply zav | apply zbF | apply zas | ((first | apply zac | apply zbl); rfl; rfl; rfl; rfl) | (apply zaz; rfl; rfl; rfl; rfl; exact za0 rfl; (focus repeat' first | exact zaa | assumption); (first | exact Nat.le_of_ble_eq_true rfl | (simp; done) | (simp; omega)); rfl) | (apply zaY; rfl; rfl; rfl; rfl; exact zam rfl; rfl; rfl) | (apply zaj; rfl; rfl; rfl; rfl; rfl; rfl; exact no (iT (by (focus repeat' first | exact Ext.refl _ | assumption | apply Ext.push | (refine Ext.trans ?_ (by assumption))))) hP; (rintro _ _ ⟨rfl, _⟩)) | fail))
  exact ⟨.inr rfl, _, rfl, rfl, by (focus repeat' first | exact Ext.refl _ | assumption | apply Ext.push | (refine Ext.trans ?_ (by assumption)))⟩
theorem zfQ (hK : NoK K) {w : Int} (hP : TbP T) (hTb : TbAt T h) (hW : WidP T.s T.r T.o w) :
    CallW Tryz.prog K 46 #[tbV T] h (IsV (.int .i64 w) h) := by
  have iK : ∀ {st : Int} {h' : Heap}, 1 ≤ st ∧ st ≤ (T.s.length : Int) - 1 → CallW Tryz.prog K 48 #[tbV T, .int .i64 st] h' (IsL (kls T.s.length st.toNat) h') := fun hst => zeJ hK (by have := hP.1; omega) hst
  have iD : ∀ {st : Int} {p : Option Addr} {cap : Nat} {h' : Heap}, 1 ≤ st ∧ st ≤ (T.s.length : Int) - 1 → Rd h' p (ints (kls T.s.length st.toNat)) → Ext h h' → CallW Tryz.prog K 36 #[tbV T, .slice p (kls T.s.length st.toNat).length cap] h' (IsL (dbts T.s (kls T.s.length st.toNat) T.r T.o T.s.length) h') := fun {st} _ _ _ hst g x => by
    have hn := hP.1
    have hl := zcc T.s.length st.toNat
    have hc := cnt_le (last := T.s.length - 1) (st := st.toNat) (by omega)
    exact zfS hK hP (zii hn.1 (by omega)) (by omega) (hTb.ext x) g
  obtain ⟨q, kq, s, r, o⟩ := T
  have hqb : ∀ a, q = some a → a.block < h.n := hTb.b
  have hn := hP.1
  dsimp only [tbV] at iK iD hn hW ⊢
  obtain ⟨hw, hw1, hw2⟩ := hW
  refine body (N := 18) Tryz.func46 rfl (hK _ _ _ rfl) rfl rfl ?_
  (repeat' (first | apply zah | apply zad | (apply O_at; rfl) | (apply zag; rfl) | apply zaf | apply zan | ((first | apply zae | apply zac | apply zat); rfl; rfl; rfl; rfl) | (apply P_fa; rfl; rfl; rfl; rfl; exact zaQ rfl; (first | exact Nat.zero_add _ | exact Nat.add_zero _ | rfl)) | ((first | apply zaX | apply zgD); rfl; rfl; rfl; rfl; rfl; rfl; exact zar rfl) | (apply zbP; rfl; rfl; rfl; rfl; rfl; (unfold fit; omega)) | (apply zao; rfl; rfl; rfl; rfl; exact zay rfl; (focus repeat' first | exact zaa | assumption | (apply Ext.get; assumption)); (first | rfl | assumption)) | (apply zaY; rfl; rfl; rfl; rfl; exact zam rfl; rfl; rfl) | fail))
  refine zaR (fun st : Int => [(3, .int .i64 st), (1, .pointer (some ⟨h.n, 0, none⟩))])
    (fun st h' => (w ≤ st ∧ st ≤ (s.length : Int) - 1) ∧ Ext (h.push (.cells [.slice q s.length kq, .int .i64 r, .int .i64 o] 25 true)) h') (fun st => (st - w).toNat) ?_ ((s.length : Int) - 1) ⟨⟨by omega, Int.le_refl _⟩, Ext.refl _⟩ ?_
  · rintro st h' ⟨hst, hx⟩ ih
    have hb : h'.get? h.n = some (.cells [.slice q s.length kq, .int .i64 r, .int .i64 o] 25 true) := hx.get zaa
    by_cases he : st = w
    · subst he
      have hz := (ziw (s := s) (l := kls s.length st.toNat) (r := r) (o := o) s.length).2 hw1
      (repeat' (first | apply zah | (apply N_at; rfl) | (apply zbE; exact zaO (by decide +kernel)) | ((first | apply zae | apply zac | apply zat); rfl; rfl; rfl; rfl) | (((apply zcK; rfl; rfl; rfl; rfl; exact za0 rfl); (focus repeat' first | exact zaa | assumption | (apply Ext.get; assumption)); (first | exact Nat.le_of_ble_eq_true rfl | (simp; done) | (simp; omega)); rfl); (first | assumption | exact zcA _ _ _ _ _ | rfl | (focus simp [same, same.all2]; done)); (first | rfl | assumption | exact hwv _ | exact zbm (by assumption) (by (focus repeat' first | exact Ext.refl _ | assumption | apply Ext.push | (refine Ext.trans ?_ (by assumption)))) | (simp [within]; omega))) | (apply zbe; rfl; rfl; rfl; rfl; rfl; rfl; rfl; exact iK (by omega); (rintro _ _ ⟨_, _, rfl, _, _⟩)) | fail))
      rename_i h2 kp kc krd kx
      (repeat' (first | apply zah | apply zad | (apply O_at; rfl) | (apply N_at; rfl) | (apply zag; rfl) | apply zaf | (apply zaK; rfl) | apply za7 | apply zav | (apply zcJ; rfl; refine .inr ?_; (focus repeat' first | exact trivial | exact Keeps.nil _ _ | apply And.intro | rfl | (apply Keeps.cons; iterate 2 (focus repeat' first | exact zaa | assumption | (apply Ext.get; assumption))))) | apply za8 | apply zaS | apply zaT | apply zas | ((first | apply zae | apply zac | apply zat); rfl; rfl; rfl; rfl) | ((first | apply zaX | apply zgD); rfl; rfl; rfl; rfl; rfl; rfl; exact zar rfl) | (apply M_gtrF; rfl; rfl; rfl; rfl; rfl; omega) | (apply zbe; rfl; rfl; rfl; rfl; rfl; rfl; rfl; exact iD (by omega) krd (by (focus repeat' first | exact Ext.refl _ | assumption | apply Ext.push | (refine Ext.trans ?_ (by assumption)))); (rintro _ _ ⟨_, _, rfl, _, _⟩)) | fail))
      exact ⟨.inr rfl, _, rfl, rfl, by (focus repeat' first | exact Ext.refl _ | assumption | apply Ext.push | (refine Ext.trans ?_ (by assumption)))⟩
    · have hno := hw2 st (by omega) hst.2
      have hz : ¬ (dbts s (kls s.length st.toNat) r o s.length).length = 0 := fun z => hno ((ziw s.length).1 z)
      (repeat' (first | apply zah | (apply N_at; rfl) | (apply zbE; exact zaO (by decide +kernel)) | ((first | apply zae | apply zac | apply zat); rfl; rfl; rfl; rfl) | (((apply zcK; rfl; rfl; rfl; rfl; exact za0 rfl); (focus repeat' first | exact zaa | assumption | (apply Ext.get; assumption)); (first | exact Nat.le_of_ble_eq_true rfl | (simp; done) | (simp; omega)); rfl); (first | assumption | exact zcA _ _ _ _ _ | rfl | (focus simp [same, same.all2]; done)); (first | rfl | assumption | exact hwv _ | exact zbm (by assumption) (by (focus repeat' first | exact Ext.refl _ | assumption | apply Ext.push | (refine Ext.trans ?_ (by assumption)))) | (simp [within]; omega))) | (apply zbe; rfl; rfl; rfl; rfl; rfl; rfl; rfl; exact iK (by omega); (rintro _ _ ⟨_, _, rfl, _, _⟩)) | fail))
      rename_i h2 kp kc krd kx
      (repeat' (first | apply zad | (apply O_at; rfl) | (apply N_at; rfl) | (apply zag; rfl) | apply zaf | (apply zaJ; rfl) | apply zan | apply zau | (apply zcJ; rfl; refine .inr ?_; (focus repeat' first | exact trivial | exact Keeps.nil _ _ | apply And.intro | rfl | (apply Keeps.cons; iterate 2 (focus repeat' first | exact zaa | assumption | (apply Ext.get; assumption))))) | apply zaq | ((first | apply zae | apply zac | apply zat); rfl; rfl; rfl; rfl) | ((first | apply zaX | apply zgD); rfl; rfl; rfl; rfl; rfl; rfl; exact zar rfl) | (apply zbP; rfl; rfl; rfl; rfl; rfl; (unfold fit; omega)) | (apply M_gtrT; rfl; rfl; rfl; rfl; rfl; omega) | (apply zbe; rfl; rfl; rfl; rfl; rfl; rfl; rfl; exact iD (by omega) krd (by (focus repeat' first | exact Ext.refl _ | assumption | apply Ext.push | (refine Ext.trans ?_ (by assumption)))); (rintro _ _ ⟨_, _, rfl, _, _⟩)) | fail))
      exact zaC (ih (st - 1) _ (by omega) ⟨by omega, by (focus repeat' first | exact Ext.refl _ | assumption | apply Ext.push | (refine Ext.trans ?_ (by assumption)))⟩) (by (focus repeat' first | rfl | exact trivial | apply And.intro))
  · (focus repeat' first | rfl | exact trivial | apply And.intro)
theorem zfT (hK : NoK K) {n : Int} (hsl : T.s.length ≤ 1000) : CallW Tryz.prog K 47 #[tbV T, .int .i64 n] h (IfB (1 ≤ n ∧ n ≤ (T.s.length : Int) - 1) h) := by
  obtain ⟨q, kq, s, r, o⟩ := T
  dsimp only [tbV] at hsl ⊢
  refine body (N := 11) Tryz.func47 rfl (hK _ _ _ rfl) rfl rfl ?_
  by_cases hc : 1 ≤ n ∧ n ≤ (s.length : Int) - 1
  · (repeat' (first | apply zah | apply zad | (apply O_at; rfl) | (apply zag; rfl) | apply zaf | apply zav | apply zas | ((first | apply zae | apply zac); rfl; rfl; rfl; rfl) | (apply P_fa; rfl; rfl; rfl; rfl; exact zaQ rfl; (first | exact Nat.zero_add _ | exact Nat.add_zero _ | rfl)) | (apply zaX; rfl; rfl; rfl; rfl; rfl; rfl; exact zar rfl) | (apply zbP; rfl; rfl; rfl; rfl; rfl; (unfold fit; omega)) | (apply zao; rfl; rfl; rfl; rfl; exact zay rfl; (focus repeat' first | exact zaa | assumption); (first | rfl | assumption)) | (apply zaY; rfl; rfl; rfl; rfl; exact zam rfl; rfl; rfl) | (apply zaj; rfl; rfl; rfl; rfl; rfl; rfl; exact yes (zcS hK) hc; (rintro _ _ ⟨rfl, _⟩)) | fail))
    exact ⟨.inr rfl, _, rfl, .inl ⟨rfl, hc, by (focus repeat' first | exact Ext.refl _ | assumption | apply Ext.push | (refine Ext.trans ?_ (by assumption)))⟩⟩
  · (repeat' (first | apply zah | apply zad | (apply O_at; rfl) | (apply zag; rfl) | apply zaf | apply zav | apply zas | ((first | apply zae | apply zac); rfl; rfl; rfl; rfl) | (apply P_fa; rfl; rfl; rfl; rfl; exact zaQ rfl; (first | exact Nat.zero_add _ | exact Nat.add_zero _ | rfl)) | (apply zaX; rfl; rfl; rfl; rfl; rfl; rfl; exact zar rfl) | (apply zbP; rfl; rfl; rfl; rfl; rfl; (unfold fit; omega)) | (apply zao; rfl; rfl; rfl; rfl; exact zay rfl; (focus repeat' first | exact zaa | assumption); (first | rfl | assumption)) | (apply zaY; rfl; rfl; rfl; rfl; exact zam rfl; rfl; rfl) | (apply zaj; rfl; rfl; rfl; rfl; rfl; rfl; exact no (zcS hK) hc; (rintro _ _ ⟨rfl, _⟩)) | fail))
    exact ⟨.inr rfl, _, rfl, .inr ⟨rfl, hc, by (focus repeat' first | exact Ext.refl _ | assumption | apply Ext.push | (refine Ext.trans ?_ (by assumption)))⟩⟩
end
set_option maxHeartbeats 2000000 in
/-- P5.5: the list of any step, and the widest one that surely is right, or the errors. -/
theorem zfD (hK : NoK K) (hKn : Kn K) {T : Tb} {st : Int} {h : Heap} (hTb : TbAt T h) :
    CallW Tryz.prog K 11 #[tbV T, .int .i64 st] h (fun v _ => v = .bool true) := by
  have iS : ∀ {h' : Heap}, CallW Tryz.prog K 15 #[tbV T] h' (IfB (T.s.length ≤ 16) h') := short_ok hK
  have iT : ∀ {h' : Heap}, T.s.length ≤ 16 → Ext h h' → CallW Tryz.prog K 20 #[tbV T] h' (IfB (TbP T) h') := fun a x => zg3 hK (by omega) (hTb.ext x)
  have iK : ∀ {h' : Heap}, TbP T → 1 ≤ st ∧ st ≤ (T.s.length : Int) - 1 → Ext h h' → CallW Tryz.prog K 44 #[tbV T, .int .i64 st] h' (OkL (kls T.s.length st.toNat) h') := fun a b x => zgJ hK a (hTb.ext x) b
  have iKb : ∀ {h' : Heap}, T.s.length ≤ 16 → ¬ (TbP T ∧ 1 ≤ st ∧ st ≤ (T.s.length : Int) - 1) → Ext h h' → CallW Tryz.prog K 44 #[tbV T, .int .i64 st] h' (IsV (.tuple #[.slice none 0 0, .int .i64 2]) h') := fun a b x => zfE hK (by omega) b (hTb.ext x)
  have iW : ∀ {w : Int} {h' : Heap}, TbP T → WidP T.s T.r T.o w → Ext h h' → CallW Tryz.prog K 45 #[tbV T] h' (IsV (.tuple #[.int .i64 w, .int .i64 0]) h') := fun a b x => zjQ hK a (hTb.ext x) b
  have iWb : ∀ {h' : Heap}, T.s.length ≤ 16 → ¬ TbP T → Ext h h' → CallW Tryz.prog K 45 #[tbV T] h' (IsV (.tuple #[.int .i64 0, .int .i64 2]) h') := fun a b x => ziQ hK (by omega) b (hTb.ext x)
  have jW : ∀ {w : Int} {h' : Heap}, TbP T → WidP T.s T.r T.o w → Ext h h' → CallW Tryz.prog K 46 #[tbV T] h' (IsV (.int .i64 w) h') := fun a b x => zfQ hK a (hTb.ext x) b
  have jD : ∀ {h' : Heap}, T.s.length ≤ 16 → CallW Tryz.prog K 47 #[tbV T, .int .i64 st] h' (IfB (1 ≤ st ∧ st ≤ (T.s.length : Int) - 1) h') := fun a => zfT hK (by omega)
  have jK : ∀ {h' : Heap}, TbP T → 1 ≤ st ∧ st ≤ (T.s.length : Int) - 1 → CallW Tryz.prog K 48 #[tbV T, .int .i64 st] h' (IsL (kls T.s.length st.toNat) h') := fun a b => zeJ hK (by have := a.1; omega) b
  obtain ⟨q, kq, s, r, o⟩ := T
  dsimp only [tbV] at *
  refine body (N := 79) Tryz.func11 rfl (hK _ _ _ rfl) rfl rfl ?_
  by_cases hs : s.length ≤ 16
  · by_cases hP : TbP ⟨q, kq, s, r, o⟩
    · have hn := hP.1
      dsimp only at hn
      obtain ⟨w, hW⟩ := wid_ex (s := s) (r := r) (o := o) hn.1 hP.2.2.2.1
      by_cases hd : 1 ≤ st ∧ st ≤ (s.length : Int) - 1
      · have hl := zcc s.length st.toNat
        have hc := cnt_le (last := s.length - 1) (st := st.toNat) (by omega)
        (repeat' (first | apply zah | apply zad | (apply O_at; rfl) | (apply zag; rfl) | apply zaf | (apply zaK; rfl) | apply zau | ((first | apply zae | apply zac | apply zbl); rfl; rfl; rfl; rfl) | (apply za5; rfl; rfl; rfl; rfl; rfl; rfl) | (apply za2; rfl; rfl; rfl; rfl; rfl) | (apply zcj; rfl; rfl; rfl; rfl; rfl; omega) | (apply zgB; rfl; rfl; rfl; rfl; rfl; omega) | (apply zaz; rfl; rfl; rfl; rfl; exact za0 rfl; (focus repeat' first | exact zaa | assumption | (apply Ext.get; assumption)); (first | exact Nat.le_of_ble_eq_true rfl | (simp; done) | (simp; omega)); rfl) | (apply zaY; rfl; rfl; rfl; rfl; exact zam rfl; rfl; rfl) | (apply zaj; rfl; rfl; rfl; rfl; rfl; rfl; exact yes iS hs; (rintro _ _ ⟨rfl, _⟩)) | (apply zaj; rfl; rfl; rfl; rfl; rfl; rfl; exact iK hP hd (by (focus repeat' first | exact Ext.refl _ | assumption | apply Ext.push | (refine Ext.trans ?_ (by assumption)))); (rintro _ _ ⟨_, _, rfl, _, _⟩)) | (apply zaj; rfl; rfl; rfl; rfl; rfl; rfl; exact iW hP hW (by (focus repeat' first | exact Ext.refl _ | assumption | apply Ext.push | (refine Ext.trans ?_ (by assumption)))); (rintro _ _ ⟨rfl, _⟩)) | (apply zaj; rfl; rfl; rfl; rfl; rfl; rfl; exact yes (iT hs (by (focus repeat' first | exact Ext.refl _ | assumption | apply Ext.push | (refine Ext.trans ?_ (by assumption))))) hP; (rintro _ _ ⟨rfl, _⟩)) | (apply zaj; rfl; rfl; rfl; rfl; rfl; rfl; exact jW hP hW (by (focus repeat' first | exact Ext.refl _ | assumption | apply Ext.push | (refine Ext.trans ?_ (by assumption)))); (rintro _ _ ⟨rfl, _⟩)) | (apply zaj; rfl; rfl; rfl; rfl; rfl; rfl; exact yes (jD hs) hd; (rintro _ _ ⟨rfl, _⟩)) | (apply zaj; rfl; rfl; rfl; rfl; rfl; rfl; exact jK hP hd; (rintro _ _ ⟨_, _, rfl, _, _⟩)) | fail))
        rename_i g1 f1 c1 rd1 x1 g2 x2 g3 x3 g4 x4 g5 x5 g6 f2 c2 rd2 x6
        (repeat' (first | (apply O_at; rfl) | (apply zag; rfl) | apply zaf | apply zav | apply zas | ((first | apply zae | apply zac | apply zbl); rfl; rfl; rfl; rfl) | (apply za5; rfl; rfl; rfl; rfl; rfl; rfl) | (apply zaj; rfl; rfl; rfl; rfl; rfl; rfl; exact yes (same_ok hK (by omega) (by omega) (rd1.ext (by (focus repeat' first | exact Ext.refl _ | assumption | apply Ext.push | (refine Ext.trans ?_ (by assumption))))) rd2) rfl; (rintro _ _ ⟨rfl, _⟩)) | (apply zaj; rfl; rfl; rfl; rfl; rfl; rfl; exact zcY hKn; (rintro _ _ ⟨rfl, _⟩)) | fail))
        exact ⟨.inr rfl, _, rfl, rfl⟩
      · have hno : ¬ (TbP ⟨q, kq, s, r, o⟩ ∧ 1 ≤ st ∧ st ≤ (s.length : Int) - 1) := fun w => hd w.2
        (repeat' (first | apply zah | apply zad | (apply O_at; rfl) | (apply zag; rfl) | apply zaf | (apply zaJ; rfl) | (apply zaK; rfl) | apply zau | apply zav | apply zbF | apply zas | ((first | apply zae | apply zac | apply zbl); rfl; rfl; rfl; rfl) | (apply zaX; rfl; rfl; rfl; rfl; rfl; rfl; exact zar rfl) | (apply za5; rfl; rfl; rfl; rfl; rfl; rfl) | (apply za2; rfl; rfl; rfl; rfl; rfl) | (apply zcj; rfl; rfl; rfl; rfl; rfl; omega) | (apply zgB; rfl; rfl; rfl; rfl; rfl; omega) | (apply zaz; rfl; rfl; rfl; rfl; exact za0 rfl; (focus repeat' first | exact zaa | assumption | (apply Ext.get; assumption)); (first | exact Nat.le_of_ble_eq_true rfl | (simp; done) | (simp; omega)); rfl) | (apply zaY; rfl; rfl; rfl; rfl; exact zam rfl; rfl; rfl) | (apply zaj; rfl; rfl; rfl; rfl; rfl; rfl; exact yes iS hs; (rintro _ _ ⟨rfl, _⟩)) | (apply zaj; rfl; rfl; rfl; rfl; rfl; rfl; exact iKb hs hno (by (focus repeat' first | exact Ext.refl _ | assumption | apply Ext.push | (refine Ext.trans ?_ (by assumption)))); (rintro _ _ ⟨rfl, _⟩)) | (apply zaj; rfl; rfl; rfl; rfl; rfl; rfl; exact iW hP hW (by (focus repeat' first | exact Ext.refl _ | assumption | apply Ext.push | (refine Ext.trans ?_ (by assumption)))); (rintro _ _ ⟨rfl, _⟩)) | (apply zaj; rfl; rfl; rfl; rfl; rfl; rfl; exact yes (iT hs (by (focus repeat' first | exact Ext.refl _ | assumption | apply Ext.push | (refine Ext.trans ?_ (by assumption))))) hP; (rintro _ _ ⟨rfl, _⟩)) | (apply zaj; rfl; rfl; rfl; rfl; rfl; rfl; exact jW hP hW (by (focus repeat' first | exact Ext.refl _ | assumption | apply Ext.push | (refine Ext.trans ?_ (by assumption)))); (rintro _ _ ⟨rfl, _⟩)) | (apply zaj; rfl; rfl; rfl; rfl; rfl; rfl; exact no (jD hs) hd; (rintro _ _ ⟨rfl, _⟩)) | (apply zaj; rfl; rfl; rfl; rfl; rfl; rfl; exact zcY hKn; (rintro _ _ ⟨rfl, _⟩)) | fail))
        exact ⟨.inr rfl, _, rfl, rfl⟩
    · have hno : ¬ (TbP ⟨q, kq, s, r, o⟩ ∧ 1 ≤ st ∧ st ≤ (s.length : Int) - 1) := fun w => hP w.1
      (repeat' (first | apply zah | apply zad | (apply O_at; rfl) | (apply zag; rfl) | apply zaf | (apply zaJ; rfl) | (apply zaK; rfl) | apply zau | apply zav | apply zbF | apply zas | ((first | apply zae | apply zac | apply zbl); rfl; rfl; rfl; rfl) | (apply zaX; rfl; rfl; rfl; rfl; rfl; rfl; exact zar rfl) | (apply za5; rfl; rfl; rfl; rfl; rfl; rfl) | (apply za2; rfl; rfl; rfl; rfl; rfl) | (apply zcj; rfl; rfl; rfl; rfl; rfl; omega) | (apply zaz; rfl; rfl; rfl; rfl; exact za0 rfl; (focus repeat' first | exact zaa | assumption | (apply Ext.get; assumption)); (first | exact Nat.le_of_ble_eq_true rfl | (simp; done) | (simp; omega)); rfl) | (apply zaY; rfl; rfl; rfl; rfl; exact zam rfl; rfl; rfl) | (apply zaj; rfl; rfl; rfl; rfl; rfl; rfl; exact yes iS hs; (rintro _ _ ⟨rfl, _⟩)) | (apply zaj; rfl; rfl; rfl; rfl; rfl; rfl; exact iKb hs hno (by (focus repeat' first | exact Ext.refl _ | assumption | apply Ext.push | (refine Ext.trans ?_ (by assumption)))); (rintro _ _ ⟨rfl, _⟩)) | (apply zaj; rfl; rfl; rfl; rfl; rfl; rfl; exact iWb hs hP (by (focus repeat' first | exact Ext.refl _ | assumption | apply Ext.push | (refine Ext.trans ?_ (by assumption)))); (rintro _ _ ⟨rfl, _⟩)) | (apply zaj; rfl; rfl; rfl; rfl; rfl; rfl; exact no (iT hs (by (focus repeat' first | exact Ext.refl _ | assumption | apply Ext.push | (refine Ext.trans ?_ (by assumption))))) hP; (rintro _ _ ⟨rfl, _⟩)) | (apply zaj; rfl; rfl; rfl; rfl; rfl; rfl; exact zcY hKn; (rintro _ _ ⟨rfl, _⟩)) | fail))
      exact ⟨.inr rfl, _, rfl, rfl⟩
  · (repeat' (first | apply zah | apply zad | (apply O_at; rfl) | (apply zag; rfl) | apply zaf | (apply zaJ; rfl) | apply zav | apply zbF | apply zas | ((first | apply zae | apply zac | apply zbl); rfl; rfl; rfl; rfl) | (apply zaz; rfl; rfl; rfl; rfl; exact za0 rfl; (focus repeat' first | exact zaa | assumption | (apply Ext.get; assumption)); (first | exact Nat.le_of_ble_eq_true rfl | (simp; done) | (simp; omega)); rfl) | (apply zaY; rfl; rfl; rfl; rfl; exact zam rfl; rfl; rfl) | (apply zaj; rfl; rfl; rfl; rfl; rfl; rfl; exact no iS hs; (rintro _ _ ⟨rfl, _⟩)) | (apply zaj; rfl; rfl; rfl; rfl; rfl; rfl; exact zcY hKn; (rintro _ _ ⟨rfl, _⟩)) | fail))
    exact ⟨.inr rfl, _, rfl, rfl⟩
end Go.AX.Sa
