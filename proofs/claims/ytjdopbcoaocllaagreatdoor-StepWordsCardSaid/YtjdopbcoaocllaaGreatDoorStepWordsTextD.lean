/- The law StepWords at the reading: what the functions that it calls answer (4). -/
import Derived.Test.YtjdopbcoaocllaaGreatDoorStepWordsTextC
namespace Go.AX.Sa
open Go.Proofs
set_option maxRecDepth 100000
variable {K : Known}
def filN (P : Int -> Prop) [DecidablePred P] (a : Int) : Nat -> List Int
 | 0 => []
 | k + 1 => if P (a + (k : Nat)) then filN P a k ++ [a + (k : Nat)] else filN P a k
section
variable {P : Int -> Prop} [DecidablePred P] {a : Int}
theorem zf4 {k : Nat} (h : P (a + (k : Nat))) : filN P a (k + 1) = filN P a k ++ [a + (k : Nat)] := if_pos h
theorem zin {k : Nat} (h : ¬ P (a + (k : Nat))) : filN P a (k + 1) = filN P a k := if_neg h
theorem zio : ∀ k, (filN P a k).length <= k := by
 intro k
 induction k with
 | zero => exact Nat.le_refl _
 | succ k ih =>
  by_cases h : P (a + (k : Nat))
  ·rw [zf4 h, List.length_append]; simp only [List.length_cons, List.length_nil]; omega
  ·rw [zin h]; omega
theorem mem_filN {x : Int} : ∀ k, x ∈ filN P a k ↔ (a <= x /\ x < a + (k : Nat)) /\ P x := by
 intro k
 induction k with
 | zero => exact ⟨fun h => (by cases h), fun h => by omega⟩
 | succ k ih =>
  by_cases h : P (a + (k : Nat))
  ·rw [zf4 h, List.mem_append, ih, List.mem_singleton]
   constructor
   ·rintro (⟨w, p⟩ | rfl)
    ·exact ⟨by omega, p⟩
    ·exact ⟨by omega, h⟩
   ·rintro ⟨w, p⟩
    by_cases q : x = a + (k : Nat)
    ·exact .inr q
    ·exact .inl ⟨by omega, p⟩
  ·rw [zin h, ih]
   refine ⟨fun ⟨w, p⟩ => ⟨by omega, p⟩, fun ⟨w, p⟩ => ⟨?_, p⟩⟩
   have : x ≠ a + (k : Nat) := fun q => h (q ▸ p)
   omega
end
noncomputable instance someDec (s : List (Int × Int)) (r o : Int) (l : List Int) (a c : Int) : DecidablePred (zd3 s r o l a c) := fun _ => Classical.propDecidable _
noncomputable def canL (s : List (Int × Int)) (l : List Int) (r o : Int) : Nat -> List Int
 | 0 => zog (s.getD 0 (0, 0))
 | k + 1 => filN (zd3 s r o (canL s l r o k) (l.getD k 0) (l.getD (k + 1) 0)) (s.getD (l.getD (k + 1) 0).toNat (0, 0)).1 ((s.getD (l.getD (k + 1) 0).toNat (0, 0)).2 - (s.getD (l.getD (k + 1) 0).toNat (0, 0)).1 + 1).toNat
theorem ziC {s : List (Int × Int)} {l : List Int} {r o : Int} (hV : Vals s) (hn : 0 < s.length) (hKp : zb3 s.length l) : ∀ k, k < l.length -> (∀ x, x ∈ canL s l r o k -> -10000 <= x /\ x <= 10000) /\ (canL s l r o k).length <= 100 := by
 intro k hk
 cases k with
 | zero =>
  have hv := hV 0 hn
  unfold ValP at hv
  refine ⟨fun x hx => ?_, ?_⟩
  ·have := mem_rng.1 (show x ∈ rng _ _ from hx)
   omega
  ·show (rng _ _).length <= 100
   rw [zkB]; omega
 | succ k =>
  have a := zex hKp hk
  have hv := hV (l.getD (k + 1) 0).toNat (by omega)
  unfold ValP at hv
  refine ⟨fun x hx => ?_, ?_⟩
  ·have := ((mem_filN _).1 (show x ∈ filN _ _ _ from hx)).1
   omega
  ·refine Nat.le_trans (zio _) ?_
   omega
def CanP (s : List (Int × Int)) (l : List Int) (r o : Int) : Prop := 0 < (canL s l r o (l.length - 1)).length
set_option maxHeartbeats 4000000 in
theorem ziD (hK : NoK K) {T : Tb} {l : List Int} {b cap : Nat} {e : TypeId} {own : Bool} {h : Heap} (hP : TbP T) (hKp : zb3 T.s.length l) (hcap : l.length <= cap) (hll : l.length <= 1000) (hTb : TbAt T h) (hg : h.get? b = some (.cells (ints l) e own)) :
  CallW Tryz.prog K 76 #[ktV T (some ⟨b, 0, none⟩) l.length cap] h (IfB (CanP T.s l T.r T.o) h) := by
 have iPr : ∀ {h' : Heap}, Ext h h' -> CallW Tryz.prog K 104 #[ktV T (some ⟨b, 0, none⟩) l.length cap] h' (IsP (prs l (l.length - 1)) h') := fun x => zl7 hK ⟨hKp.1, hll⟩ hcap (x.get hg)
 have hTb' := hTb
 obtain ⟨q, kq, s, r, o⟩ := T
 have hn := hP.1
 have hV := hP.2.1
 have hG := hKp.2.2.2
 have hl2 := hKp.1
 have hs0 := hTb.rd
 dsimp only [ktV] at iPr hn hV hKp hs0 ⊢
 obtain ⟨bs, es, owns, rfl, hgs⟩ := hs0.at (by rw [zah]; omega)
 have hv0 := hV 0 (by omega)
 unfold ValP at hv0
 have z0 := (ziC (r := r) (o := o) hV (by omega) hKp 0 (by omega)).2
 refine bodyM (N := 43) Tryz.func76 rfl (hK _ _ _ rfl) rfl rfl ?_
 refine zdu (zfz ?_)
 (repeat' (first|apply zac|(apply O_at;rfl)|(apply zai;rfl)|apply zat|((first|apply zaf|apply zad);rfl;rfl;rfl;rfl)|(apply zbb;rfl;rfl;rfl;rfl;exact zam rfl;rfl;rfl)|fail))
 refine Or.inl ⟨rfl, ?_⟩
 refine zdu (zfz ?_)
 (repeat' (first|apply zac|(apply O_at;rfl)|(apply P_fa;rfl;rfl;rfl;rfl;exact za1 rfl;(first|exact Nat.zero_add _|exact Nat.add_zero _|rfl))|(apply zci;rfl;rfl;rfl;rfl;rfl;exact zar rfl;exact zam rfl;(first|assumption|exact zq0|rfl|exact (Int.toNat_of_nonneg (by omega)).symm);omega)|(apply zap;rfl;rfl;rfl;rfl;exact zaF rfl;(focus repeat' first|exact zaa|assumption|apply zab|(apply Ext.get;assumption)|(apply ExtBut.get;assumption;(first|assumption|omega|(simp only [Heap.push];omega))));(first|rfl|assumption))|(apply zaN;rfl;rfl;rfl;rfl;exact za7 rfl;(focus repeat' first|exact zaa|assumption|apply zab|(apply Ext.get;assumption)|(apply ExtBut.get;assumption;(first|assumption|omega|(simp only [Heap.push];omega))));(first|exact Nat.le_of_ble_eq_true rfl|(simp;done)|(simp;omega)|(rw [zah];omega));(first|exact zaM (by omega)|rfl))|fail))
 apply zao; rfl; rfl; rfl; rfl; rfl; rfl; exact zgz hK (a := (s.getD 0 (0, 0)).1) (c := (s.getD 0 (0, 0)).2)
 rintro _ h2 ⟨x2, bz, rfl, hbz, gz⟩
 (repeat' (first|(apply O_at;rfl)|fail))
 apply zao; rfl; rfl; rfl; rfl; rfl; rfl; exact znP hK (p := s.getD 0 (0, 0)) (by omega) gz
 rintro _ h3 ⟨pc, cc, rfl, rdc, x3⟩
 (repeat' (first|(apply O_at;rfl)|(apply zai;rfl)|apply zat|(apply zaW;rfl;rfl;rfl;rfl;exact zam rfl;rfl;rfl;rfl)|(apply zbq;rfl;rfl;rfl;rfl;exact zam rfl;rfl;rfl)|fail))
 refine Or.inl ⟨rfl, ?_⟩
 refine zdu (zfz ?_)
 (repeat' (first|apply zac|(apply O_at;rfl)|(apply zaN;rfl;rfl;rfl;rfl;exact za7 rfl;(focus repeat' first|exact zaa|assumption|apply zab|(apply Ext.get;assumption)|(apply ExtBut.get;assumption;(first|assumption|omega|(simp only [Heap.push];omega))));(first|exact Nat.le_of_ble_eq_true rfl|(simp;done)|(simp;omega)|(rw [zah];omega));(first|exact zaM (by omega)|rfl))|fail))
 apply zao; rfl; rfl; rfl; rfl; rfl; rfl; exact iPr (by (focus repeat' first | exact Ext.refl _ | assumption | apply Ext.push | (refine Ext.trans ?_ (by assumption)) | (refine Ext.ofBut ?_ (by assumption) (by first | exact Nat.le_refl _ | omega))))
 rintro _ h4 ⟨pp, cp, rfl, rp, fp, x4⟩
 have hpl := zh6 l (l.length - 1)
 obtain ⟨bp, ep, ownp, rfl, gp⟩ := rp.at (by rw [zah]; omega)
 have lbp := Heap.get_lt gp
 have fp' := fp _ rfl
 simp only [Heap.push] at fp'
 have n2 := x2.n
 have n3 := x3.n
 have n4 := x4.n
 simp only [Heap.push] at n2 n4
 have w3 : Ext h h3 := by (focus repeat' first | exact Ext.refl _ | assumption | apply Ext.push | (refine Ext.trans ?_ (by assumption)) | (refine Ext.ofBut ?_ (by assumption) (by first | exact Nat.le_refl _ | omega)))
 have w4 : Ext h h4 := w3.trans ((Ext.push (Ext.refl _) _).trans x4)
 have gc4 : h4.get? h3.n = some (.cells [.slice pc (zog (s.getD 0 (0, 0))).length cc] 26 true) := x4.get zaa
 have gk4 : h4.get? h.n = some (.cells [.slice (some ⟨bs, 0, none⟩) s.length kq, .int .i64 r, .int .i64 o, .slice (some ⟨b, 0, none⟩) l.length cap] 82 true) := x4.get (zab (x3.get (x2.get zaa)))
 have gs4 := w4.get hgs
 have lbs := Heap.get_lt hgs
 have rdc4 : Rd h4 pc (ints (zog (s.getD 0 (0, 0)))) := (rdc.ext (Ext.push (Ext.refl _) _)).ext x4
 rw [hpl]
 (repeat' (first|(apply O_at;rfl)|(apply zai;rfl)|apply zat|((first|apply zaf|apply zad);rfl;rfl;rfl;rfl)|(apply zbf;rfl;rfl;rfl;rfl;rfl;rfl;exact zar rfl)|fail))
 refine Or.inl ⟨rfl, ?_⟩
 refine zdu (ziN (KM_loop (fun i : Nat => [(18, .int .i64 (i : Nat)), (17, .int .i64 ((l.length - 1 : Nat) : Int)), (16, .slice (some ⟨bp, 0, none⟩) (l.length - 1) cp), (3, .pointer (some ⟨h3.n, 0, none⟩)), (1, .pointer (some ⟨h.n, 0, none⟩))])
  (fun i h' M => i <= l.length - 1 /\ (∃ v, h'.get? h3.n = some (.cells [v] 26 true) /\ RdV h' v (canL s l r o i)) /\ ExtBut h3.n h4 h' /\ M.Nodup /\ (∀ r ∈ M, h'.get? r = some (.obj (.deferred (some [])))) /\ (∀ r ∈ M, h4.n <= r)) (fun i => l.length - 1 - i) ?_ 0 ?_ ?_))
 ·rintro i h' M ⟨hi, ⟨v, hv, pv, cv, rfl, rdv⟩, hx, hM1, hM2, hM3⟩ ih
  by_cases hlt : i < l.length - 1
  ·have hpi : i < (prs l (l.length - 1)).length := by omega
   have hpg := zoS (l := l) (k := l.length - 1) hlt
   have a1 := zex hKp (i := i) (by omega)
   have a2 := zex hKp (i := i + 1) (by omega)
   have a3 := hG i (by omega)
   have e1 : ((prs l (l.length - 1)).getD i (0, 0)).1 = l.getD i 0 := by rw [hpg]
   have e2 : ((prs l (l.length - 1)).getD i (0, 0)).2 = l.getD (i + 1) 0 := by rw [hpg]
   obtain ⟨A, hA⟩ : ∃ A : Nat, l.getD i 0 = (A : Nat) := ⟨(l.getD i 0).toNat, by omega⟩
   obtain ⟨C, hC⟩ : ∃ C : Nat, l.getD (i + 1) 0 = (C : Nat) := ⟨(l.getD (i + 1) 0).toNat, by omega⟩
   have hn' := hx.n
   have gp' := hx.get (by omega) gp
   have gk' := hx.get (by omega) gk4
   have gs' := hx.get (by omega) gs4
   obtain ⟨ci, cl⟩ := ziC (r := r) (o := o) hV (by omega) hKp i (by omega)
   refine zdu (zfz ?_)
   (repeat' (first|apply zac|(apply O_at;rfl)|(apply zai;rfl)|apply zat|(apply zaX;rfl;rfl;rfl;rfl;rfl;omega)|fail))
   refine Or.inl ⟨rfl, ?_⟩
   refine zdu (zfz ?_)
   (repeat' (first|(apply zaR;rfl)|apply zaD|apply zat|fail))
   refine Or.inl ⟨rfl, ?_⟩
   refine zdu (zqh (Q := fun e E1 h2 M1 => e = .normal /\ E1.get 18 = some (.int .i64 (i : Nat)) /\ E1.get 17 = some (.int .i64 ((l.length - 1 : Nat) : Int)) /\ E1.get 16 = some (.slice (some ⟨bp, 0, none⟩) (l.length - 1) cp) /\ E1.get 3 = some (.pointer (some ⟨h3.n, 0, none⟩)) /\ E1.get 1 = some (.pointer (some ⟨h.n, 0, none⟩)) /\
    (i + 1 <= l.length - 1 /\ (∃ v, h2.get? h3.n = some (.cells [v] 26 true) /\ RdV h2 v (canL s l r o (i + 1))) /\ ExtBut h3.n h4 h2 /\ M1.Nodup /\ (∀ r ∈ M1, h2.get? r = some (.obj (.deferred (some [])))) /\ (∀ r ∈ M1, h4.n <= r))) (ziN ?_) ?_)
   ·refine zdu (zfz ?_)
    (repeat' (first|apply zac|(apply O_at;rfl)|(apply zai;rfl)|apply zat|(apply zci;rfl;rfl;rfl;rfl;rfl;exact zar rfl;exact zam rfl;(first|assumption|exact zq0|rfl|exact (Int.toNat_of_nonneg (by omega)).symm);omega)|(apply zaN;rfl;rfl;rfl;rfl;exact za7 rfl;(focus repeat' first|exact zaa|assumption|apply zab|(apply Ext.get;assumption)|(apply ExtBut.get;assumption;(first|assumption|omega|(simp only [Heap.push];omega))));(first|exact Nat.le_of_ble_eq_true rfl|(simp;done)|(simp;omega)|(rw [zah];omega));(first|exact zaM (by omega)|rfl))|(apply zaW;rfl;rfl;rfl;rfl;exact zam rfl;rfl;rfl;rfl)|(apply zbq;rfl;rfl;rfl;rfl;exact zam rfl;rfl;rfl)|fail))
    simp only [e1, e2, hA, hC]
    refine Or.inl ⟨rfl, ?_⟩
    refine zdu (zfz ?_)
    (repeat' (first|apply zac|(apply O_at;rfl)|(apply zai;rfl)|apply zat|(apply zbq;rfl;rfl;rfl;rfl;exact zam rfl;rfl;rfl)|fail))
    refine Or.inl ⟨rfl, ?_⟩
    refine zdu (zdu (zfz ?_))
    have hCs : C < s.length := by omega
    have hvC := hV C hCs
    unfold ValP at hvC
    (repeat' (first|apply zac|(apply O_at;rfl)|(apply P_fa;rfl;rfl;rfl;rfl;exact za1 rfl;(first|exact Nat.zero_add _|exact Nat.add_zero _|rfl))|(apply zci;rfl;rfl;rfl;rfl;rfl;exact zar rfl;exact zam rfl;(first|assumption|exact zq0|rfl|exact (Int.toNat_of_nonneg (by omega)).symm);omega)|(apply zap;rfl;rfl;rfl;rfl;exact zaF rfl;(focus repeat' first|exact zaa|assumption|apply zab|(apply Ext.get;assumption)|(apply ExtBut.get;assumption;(first|assumption|omega|(simp only [Heap.push];omega))));(first|rfl|assumption))|(apply zaN;rfl;rfl;rfl;rfl;exact za7 rfl;(focus repeat' first|exact zaa|assumption|apply zab|(apply Ext.get;assumption)|(apply ExtBut.get;assumption;(first|assumption|omega|(simp only [Heap.push];omega))));(first|exact Nat.le_of_ble_eq_true rfl|(simp;done)|(simp;omega)|(rw [zah];omega));(first|exact zaM (by omega)|rfl))|fail))
    apply zao; rfl; rfl; rfl; rfl; rfl; rfl; exact zgz hK (a := (s.getD C (0, 0)).1) (c := (s.getD C (0, 0)).2)
    rintro _ h6 ⟨x6, by_, rfl, hby, gy⟩
    (repeat' (first|(apply zai;rfl)|apply zat|fail))
    refine Or.inl ⟨rfl, ?_⟩
    have n6 := x6.n
    simp only [Heap.push] at n6 hby
    have lby := Heap.get_lt gy
    have gk6 := x6.get (zab (zab gk'))
    have gp6 : h6.get? h'.n = some (.cells [.int .i64 (A : Nat), .int .i64 (C : Nat)] 123 true) := x6.get (zab zaa)
    have gn6 : h6.get? (h'.n + 1) = some (.cells [nilV] 26 true) := x6.get zaa
    have gv6 := x6.get (zab (zab hv))
    have w6 : Ext h' h6 := (((Ext.refl h').push _).push _).trans x6
    have hcan : canL s l r o (i + 1) = filN (zd3 s r o (canL s l r o i) (A : Nat) (C : Nat)) (s.getD C (0, 0)).1 ((s.getD C (0, 0)).2 - (s.getD C (0, 0)).1 + 1).toNat := by
     show filN (zd3 s r o (canL s l r o i) (l.getD i 0) (l.getD (i + 1) 0)) _ _ = _
     rw [hA, hC, Int.toNat_natCast]
    refine zqh (Q := fun e E1 h7 M1 => e = .normal /\ E1.get 18 = some (.int .i64 (i : Nat)) /\ E1.get 17 = some (.int .i64 ((l.length - 1 : Nat) : Int)) /\ E1.get 16 = some (.slice (some ⟨bp, 0, none⟩) (l.length - 1) cp) /\ E1.get 3 = some (.pointer (some ⟨h3.n, 0, none⟩)) /\ E1.get 1 = some (.pointer (some ⟨h.n, 0, none⟩)) /\ E1.get 6 = some (.pointer (some ⟨h'.n + 1, 0, none⟩)) /\
     (∃ v', h7.get? (h'.n + 1) = some (.cells [v'] 26 true) /\ OutI 3 h6 h7 v' (canL s l r o (i + 1))) /\ (∀ b x, b ≠ h'.n + 1 -> h6.get? b = some x -> h7.get? b = some x) /\ h6.n <= h7.n /\ M1 = h6.n :: M /\ h7.get? h6.n = some (.obj (.deferred (some []))))
     (ziN (KM_range (g0 := 144) (fi := #[]) (ca := #[.pointer (some ⟨by_, 0, none⟩)]) rfl rfl rfl ?_)) ?_
    ·intro tm lq hb rr hEO hr hlq hxb hbn hlb hdb
     refine (zgy hK (e := 72) (own := true) (bs := by_) (l := lq) (p := s.getD C (0, 0)) (by omega)
      (fun k h8 => h8.get? lq = some (.obj (.loop rr)) /\ (∃ v, OutI 3 hb h8 v (filN (zd3 s r o (canL s l r o i) (A : Nat) (C : Nat)) (s.getD C (0, 0)).1 k) /\ h8.get? (h'.n + 1) = some (.cells [v] 26 true)) /\ (∀ b x, b ≠ lq -> b ≠ h'.n + 1 -> hb.get? b = some x -> h8.get? b = some x) /\ hb.n <= h8.n)
      (fun _ => False) ?_ ?_ ?_).mono ?_
     ·rintro k h8 ⟨_, _, kk, _⟩
      exact kk by_ _ (by omega) (by omega) (hxb.get gy)
     ·exact ⟨hlb, ⟨_, OutI.nil _ _ _, hxb.get gn6⟩, fun b x _ _ g => g, Nat.le_refl _⟩
     ·rintro k h8 hle ⟨gl, ⟨v, ho, hgb⟩, kk, nn⟩
      refine zi6 (N := 43) gl hr rfl (EnvOK.param hEO rfl) ?_
      (repeat' (first|apply zac|(apply O_at;rfl)|(apply zai;rfl)|apply zat|(apply zaW;rfl;rfl;rfl;rfl;exact zam rfl;rfl;rfl;rfl)|(apply zbq;rfl;rfl;rfl;rfl;exact zam rfl;rfl;rfl)|fail))
      refine ⟨rfl, by (focus repeat' first | exact zaa | assumption | apply zab | (apply Ext.get; assumption) | (apply ExtBut.get; assumption; (first | assumption | omega | (simp only [Heap.push]; omega)))), fun Bz hs hsl hsk hsn => ?_⟩
      simp only [Heap.push] at hsn
      have old : ∀ {b : Nat} {x : Blk}, b ≠ h'.n + 1 -> h6.get? b = some x -> hs.get? b = some x := fun {b} {x} q g => hsk b x (by have := Heap.get_lt g; omega) (zab (kk b x (by have := Heap.get_lt g; omega) q (hxb.get g)))
      have x's : Ext h' hs := ⟨by omega, fun b x g => old (by have := Heap.get_lt g; omega) (w6.get g)⟩
      have xhs : Ext h hs := (Ext.ofBut w4 hx (by omega)).trans x's
      have ga : hs.get? h8.n = some (.cells [.int .i64 ((s.getD C (0, 0)).1 + (k : Nat))] 3 true) := hsk _ _ (by omega) zaa
      have gks := x's.get gk'
      have gps := old (by omega) gp6
      have gvs := x's.get hv
      have gbs : hs.get? (h'.n + 1) = some (.cells [v] 26 true) := hsk _ _ (by omega) (zab hgb)
      have hos : OutI 3 hb hs v _ := (ho.ext (Ext.push (Ext.refl _) _)).keepl hsk (by omega)
      have hfl := zio (P := zd3 s r o (canL s l r o i) (A : Nat) (C : Nat)) (a := (s.getD C (0, 0)).1) k
      have iC : CallW Tryz.prog K 116 #[.slice pv (canL s l r o i).length cv, .func (.func 117) #[] #[.pointer (some ⟨h.n, 0, none⟩), .pointer (some ⟨h'.n, 0, none⟩), .pointer (some ⟨h8.n, 0, none⟩)]] hs (IfB (zd3 s r o (canL s l r o i) (A : Nat) (C : Nat) ((s.getD C (0, 0)).1 + (k : Nat))) hs) :=
       zj0 hK hP (hTb'.ext xhs) (by omega) hCs (by omega) ci (by omega) (rdv.ext x's) gks gps ga
      by_cases hc : zd3 s r o (canL s l r o i) (A : Nat) (C : Nat) ((s.getD C (0, 0)).1 + (k : Nat))
      ·(repeat' (first|apply zal|apply zac|(apply O_at;rfl)|(apply zai;rfl)|apply zak|(apply zaR;rfl)|apply zan|(apply zfw;rfl;rfl;rfl;rfl;rfl)|(apply zap;rfl;rfl;rfl;rfl;exact zaF rfl;(focus repeat' first|exact zaa|assumption|apply zab|(apply Ext.get;assumption)|(apply ExtBut.get;assumption;(first|assumption|omega|(simp only [Heap.push];omega))));(first|rfl|assumption))|(apply zdb;rfl;rfl;rfl;rfl;rfl;rfl;rfl;exact zc0 rfl)|(apply zao;rfl;rfl;rfl;rfl;rfl;rfl;exact yes iC hc;(rintro _ _ ⟨rfl,_⟩))|fail))
       rename_i h10 x10
       have n10 := x10.n
       apply zp8; rfl; rfl; rfl; rfl; rfl; rfl; rfl; rfl; exact zc0 rfl; exact zar rfl; exact zaa; exact (hos.ext x10).ext (Ext.push (Ext.refl _) _); exact (by simp only [Heap.push]; omega); omega
       intro v' h11 o11 k11
       have kp : ∀ b y, b < hb.n -> h10.get? b = some y -> h11.get? b = some y := fun b y q g => k11.lo q (zab g)
       have n11 : h10.n + 1 <= h11.n := k11.n
       obtain ⟨cv', ov⟩ := o11.cells
       (repeat' (first|(apply O_at;rfl)|fail))
       refine ziJ (c' := [v']) rfl rfl rfl rfl (kp (h'.n + 1) _ (by omega) (x10.get gbs)) (zam rfl) (by rw [cv']; rfl) (Nat.le_of_ble_eq_true rfl) (by rw [cv']; simp [ov]) (by rw [cv']; rfl) ?_
       intro h12 g12 x12
       replace g12 : h12.get? (h'.n + 1) = some (.cells [v'] 26 true) := g12
       replace x12 : ExtBut (h'.n + 1) h11 h12 := x12
       have n12 := x12.n
       (repeat' (first|(apply zai;rfl)|apply zav|apply zat|fail))
       refine ⟨x12.get (by omega) (kp _ _ (by omega) (x10.get hsl)), none, rfl, fun hf hfl hfk hfn => Or.inl ⟨rfl, by rw [zdQ hr] at hfl; exact hfl, ⟨v', ?_, hfk _ _ (by omega) g12⟩, fun b x q q2 g => hfk b x q (x12.get q2 (kp b x (Heap.get_lt g) (x10.get (hsk b x q (zab (kk b x q q2 g)))))), by omega⟩⟩
       rw [zf4 hc]
       exact (o11.keepl (b0 := h'.n + 1) (fun b y q g => x12.get q g) (by omega)).keepl hfk (by omega)
      ·(repeat' (first|apply zal|apply zac|(apply O_at;rfl)|(apply zai;rfl)|apply zak|(apply zaU;rfl)|apply zan|apply zaD|apply zav|apply zat|(apply zfw;rfl;rfl;rfl;rfl;rfl)|(apply zap;rfl;rfl;rfl;rfl;exact zaF rfl;(focus repeat' first|exact zaa|assumption|apply zab|(apply Ext.get;assumption)|(apply ExtBut.get;assumption;(first|assumption|omega|(simp only [Heap.push];omega))));(first|rfl|assumption))|(apply zao;rfl;rfl;rfl;rfl;rfl;rfl;exact no iC hc;(rintro _ _ ⟨rfl,_⟩))|fail))
       rename_i h10 x10
       have n10 := x10.n
       refine ⟨x10.get hsl, none, rfl, fun hf hfl hfk hfn => Or.inl ⟨rfl, by rw [zdQ hr] at hfl; exact hfl, ⟨v, ?_, hfk _ _ (by omega) (x10.get gbs)⟩, fun b x q q2 g => hfk b x q (x10.get (hsk b x q (zab (kk b x q q2 g)))), by omega⟩⟩
       rw [zin hc]
       exact (hos.ext x10).keepl hfk (by omega)
     ·rintro _ h9 (⟨gl, ⟨v, ho, hgb⟩, kk, nn⟩ | w)
      ·refine ⟨none, by rw [zdQ hr]; exact gl, fun h7 k7 n7 => KM_skip (Or.inr ⟨(by intro q; cases q), rfl, rfl, rfl, rfl, rfl, rfl, rfl, ⟨v, k7 _ _ (by omega) hgb, by rw [hcan]; exact (ho.keepl k7 (by omega)).low (h0' := h6) (by omega)⟩, fun b x q g => k7 b x (by have := Heap.get_lt g; omega) (kk b x (by have := Heap.get_lt g; omega) q (hxb.get g)), by omega, rfl, k7 _ _ (by omega) (kk _ _ (by omega) (by omega) hdb)⟩)⟩
      ·exact w.elim
    ·rintro _ E1 h7 M1 ⟨rfl, g18, g17, g16, g3, g1, g6, ⟨v', gv', ho'⟩, k7, n7, rfl, gm⟩
     have gv7 := k7 _ _ (by omega) gv6
     obtain ⟨cv', ov⟩ := ho'.cells
     refine Or.inl ⟨rfl, ziM (E' := [(18, .int .i64 (i : Nat)), (17, .int .i64 ((l.length - 1 : Nat) : Int)), (16, .slice (some ⟨bp, 0, none⟩) (l.length - 1) cp), (3, .pointer (some ⟨h3.n, 0, none⟩)), (1, .pointer (some ⟨h.n, 0, none⟩)), (6, .pointer (some ⟨h'.n + 1, 0, none⟩))]) (zfz ?_) ⟨g18, g17, g16, g3, g1, g6, trivial⟩⟩
     (repeat' (first|apply zac|(apply O_at;rfl)|(apply zap;rfl;rfl;rfl;rfl;exact zaF rfl;(focus repeat' first|exact zaa|assumption|apply zab|(apply Ext.get;assumption)|(apply ExtBut.get;assumption;(first|assumption|omega|(simp only [Heap.push];omega))));(first|rfl|assumption))|fail))
     refine ziJ (c' := [v']) rfl rfl rfl rfl gv7 (zam rfl) (by rw [cv']; rfl) (Nat.le_of_ble_eq_true rfl) (by rw [cv']; simp [ov]) (by rw [cv']; rfl) ?_
     intro h12 g12 x12
     have n12 := x12.n
     (repeat' (first|(apply zai;rfl)|apply zat|fail))
     have hmr : ∀ r ∈ M, r < h'.n := fun r q => Heap.get_lt (hM2 r q)
     refine Or.inr ⟨(by intro q; cases q), rfl, rfl, rfl, rfl, rfl, rfl, by omega, ⟨v', g12, OutI.rdV (e := 3) (h0 := h6) (OutI.but (e := 3) (h0 := h6) ho' x12 (by omega))⟩, ⟨by omega, fun b x ne g => x12.get ne (k7 b x (by have := Heap.get_lt g; omega) (w6.get (hx.get ne g)))⟩, List.nodup_cons.2 ⟨fun q => by have := hmr _ q; omega, hM1⟩, fun r q => ?_, fun r q => ?_⟩
     ·rcases List.mem_cons.1 q with rfl | q
      ·exact x12.get (by omega) gm
      ·have a := hM3 r q
       have c := hmr r q
       exact x12.get (by omega) (k7 r _ (by omega) (w6.get (hM2 r q)))
     ·rcases List.mem_cons.1 q with rfl | q
      ·omega
      ·exact hM3 r q
   ·rintro _ E1 h2 M1 ⟨rfl, g18, g17, g16, g3, g1, hJ⟩
    refine Or.inl ⟨rfl, ziM (E' := [(18, .int .i64 (i : Nat)), (17, .int .i64 ((l.length - 1 : Nat) : Int)), (16, .slice (some ⟨bp, 0, none⟩) (l.length - 1) cp), (3, .pointer (some ⟨h3.n, 0, none⟩)), (1, .pointer (some ⟨h.n, 0, none⟩))]) (zfz ?_) ⟨g18, g17, g16, g3, g1, trivial⟩⟩
    (repeat' (first|apply zac|(apply O_at;rfl)|(apply zai;rfl)|apply zat|((first|apply zaf|apply zad);rfl;rfl;rfl;rfl)|(apply zbk;rfl;rfl;rfl;rfl;rfl;(unfold fit;omega))|fail))
    exact Or.inl ⟨rfl, ziM (ih (i + 1) _ _ (by omega) hJ) (by (focus repeat' first | rfl | exact trivial | apply And.intro))⟩
  ·obtain rfl : i = l.length - 1 := by omega
   refine zdu (zfz ?_)
   (repeat' (first|apply zac|(apply O_at;rfl)|(apply zai;rfl)|apply zat|(apply zby;rfl;rfl;rfl;rfl;rfl;omega)|fail))
   refine Or.inl ⟨rfl, ?_⟩
   refine zdu (zfz ?_)
   (repeat' (first|(apply zaU;rfl)|apply zbl|apply zat|fail))
   refine Or.inr ⟨(by intro q; cases q), Or.inr ⟨(by intro q; cases q), Or.inl ⟨rfl, Or.inl ⟨rfl, zfz ?_⟩⟩⟩⟩
   have eh : Ext h h' := Ext.ofBut w4 hx (by omega)
   have wh : ∀ h2, (∀ b x, b ∉ M -> h'.get? b = some x -> h2.get? b = some x) -> h2.n = h'.n -> Ext h h2 := fun h2 k2 n2 => ⟨by rw [n2]; exact eh.n, fun q y g => k2 q y (fun w => by have := hM3 _ w; have := Heap.get_lt g; omega) (eh.get g)⟩
   by_cases hc : 0 < (canL s l r o (l.length - 1)).length
   ·(repeat' (first|apply zal|apply zac|(apply O_at;rfl)|(apply zai;rfl)|apply zak|apply zaH|apply zbF|apply zat|((first|apply zaf|apply zad);rfl;rfl;rfl;rfl)|(apply zbf;rfl;rfl;rfl;rfl;rfl;rfl;exact zar rfl)|(apply zg2;rfl;rfl;rfl;rfl;rfl;omega)|(apply zap;rfl;rfl;rfl;rfl;exact zaF rfl;(focus repeat' first|exact zaa|assumption|apply zab|(apply Ext.get;assumption)|(apply ExtBut.get;assumption;(first|assumption|omega|(simp only [Heap.push];omega))));(first|rfl|assumption))|fail))
    refine ⟨.inr rfl, hM1, hM2, fun h2 k2 n2 => ⟨_, rfl, ?_⟩⟩
    exact .inl ⟨rfl, hc, wh h2 k2 n2⟩
   ·(repeat' (first|apply zal|apply zac|(apply O_at;rfl)|(apply zai;rfl)|apply zak|apply zaH|apply zbF|apply zat|((first|apply zaf|apply zad);rfl;rfl;rfl;rfl)|(apply zbf;rfl;rfl;rfl;rfl;rfl;rfl;exact zar rfl)|(apply zeo;rfl;rfl;rfl;rfl;rfl;omega)|(apply zap;rfl;rfl;rfl;rfl;exact zaF rfl;(focus repeat' first|exact zaa|assumption|apply zab|(apply Ext.get;assumption)|(apply ExtBut.get;assumption;(first|assumption|omega|(simp only [Heap.push];omega))));(first|rfl|assumption))|fail))
    refine ⟨.inr rfl, hM1, hM2, fun h2 k2 n2 => ⟨_, rfl, ?_⟩⟩
    exact .inr ⟨rfl, hc, wh h2 k2 n2⟩
 ·exact ⟨Nat.zero_le _, ⟨_, gc4, pc, cc, rfl, rdc4⟩, ExtBut.refl _ _, List.nodup_nil, fun r q => (by cases q), fun r q => (by cases q)⟩
 ·(focus repeat' first | rfl | exact trivial | apply And.intro)
end Go.AX.Sa

namespace Go.AX.Sa
open Go.Proofs
set_option maxRecDepth 100000
variable {K : Known}
def zp2 (s : List (Int × Int)) (l : List Int) (r o w : Int) : Prop := (zfd s l r o /\ w = 3) \/ (¬ zfd s l r o /\ CanP s l r o /\ w = 2) \/ (¬ zfd s l r o /\ ¬ CanP s l r o /\ w = 1)
theorem word_ex (s : List (Int × Int)) (l : List Int) (r o : Int) : ∃ w, zp2 s l r o w := by
 by_cases h1 : zfd s l r o
 ·exact ⟨3, .inl ⟨h1, rfl⟩⟩
 ·by_cases h2 : CanP s l r o
  ·exact ⟨2, .inr (.inl ⟨h1, h2, rfl⟩)⟩
  ·exact ⟨1, .inr (.inr ⟨h1, h2, rfl⟩)⟩
section
variable {T : Tb} {l : List Int} {h : Heap}
theorem word_ok (hK : NoK K) {p : Option Addr} {cap : Nat} {w : Int} (hP : TbP T) (hKp : zb3 T.s.length l) (hcap : l.length <= cap) (hll : l.length <= 1000) (hTb : TbAt T h) (hr : Rd h p (ints l)) (hpb : ∀ a, p = some a -> a.block < h.n) (hW : zp2 T.s l T.r T.o w) :
  CallW Tryz.prog K 33 #[tbV T, .slice p l.length cap] h (IsV (.tuple #[.int .i64 w, .int .i64 0]) h) := by
 have hn := hP.1
 have hl2 := hKp.1
 obtain ⟨b, e, own, rfl, hg⟩ := hr.at (by rw [zas]; omega)
 have iK : ∀ {h' : Heap}, Ext h h' -> CallW Tryz.prog K 63 #[ktV T (some ⟨b, 0, none⟩) l.length cap] h' (IsV (.bool true) h') := fun x => yes (zeX hK (by omega) hll (hTb.ext x) (hr.ext x) (fun a w => Nat.lt_of_lt_of_le (hpb a w) x.n)) ⟨hP, hKp⟩
 have iS : ∀ {h' : Heap}, Ext h h' -> CallW Tryz.prog K 75 #[ktV T (some ⟨b, 0, none⟩) l.length cap] h' (IfB (zfd T.s l T.r T.o) h') := fun x => zpj hK hP hKp hcap hll (hTb.ext x) (x.get hg)
 have iC : ∀ {h' : Heap}, Ext h h' -> CallW Tryz.prog K 76 #[ktV T (some ⟨b, 0, none⟩) l.length cap] h' (IfB (CanP T.s l T.r T.o) h') := fun x => ziD hK hP hKp hcap hll (hTb.ext x) (x.get hg)
 obtain ⟨q, kq, s, r, o⟩ := T
 dsimp only [tbV, ktV] at iK iS iC hW ⊢
 refine body (N := 20) Tryz.func33 rfl (hK _ _ _ rfl) rfl rfl ?_
 rcases hW with ⟨h1, rfl⟩ | ⟨h1, h2, rfl⟩ | ⟨h1, h2, rfl⟩
 ·(repeat' (first|apply zal|apply zac|(apply O_at;rfl)|(apply zai;rfl)|apply zak|(apply zaR;rfl)|(apply zaU;rfl)|apply zan|apply zaH|apply zbF|apply zdD|apply zat|((first|apply zaf|apply zad|apply zcy);rfl;rfl;rfl;rfl)|(apply zaN;rfl;rfl;rfl;rfl;exact za7 rfl;(focus repeat' first|exact zaa|assumption|(apply Ext.get;assumption));(first|exact Nat.le_of_ble_eq_true rfl|(simp;done)|(simp;omega)|(rw [zas];omega));rfl)|(apply zaW;rfl;rfl;rfl;rfl;exact zam rfl;rfl;rfl;rfl)|(apply zcT;rfl;rfl;rfl;rfl)|(apply zbb;rfl;rfl;rfl;rfl;exact zam rfl;rfl;rfl)|(apply zbq;rfl;rfl;rfl;rfl;exact zam rfl;rfl;rfl)|(apply zao;rfl;rfl;rfl;rfl;rfl;rfl;exact iK (by repeat' first|exact Ext.refl _|assumption|apply Ext.push|refine Ext.trans ?_ (by assumption));(rintro _ _ ⟨rfl,_⟩))|(apply zao;rfl;rfl;rfl;rfl;rfl;rfl;exact yes (iS (by repeat' first|exact Ext.refl _|assumption|apply Ext.push|refine Ext.trans ?_ (by assumption))) h1;(rintro _ _ ⟨rfl,_⟩))|fail))
  exact ⟨.inr rfl, _, rfl, rfl, by repeat' first|exact Ext.refl _|assumption|apply Ext.push|refine Ext.trans ?_ (by assumption)⟩
 ·(repeat' (first|apply zal|apply zac|(apply O_at;rfl)|(apply zai;rfl)|apply zak|(apply zaR;rfl)|(apply zaU;rfl)|apply zan|apply zaH|apply zbF|apply zdD|apply zat|((first|apply zaf|apply zad|apply zcy);rfl;rfl;rfl;rfl)|(apply zaN;rfl;rfl;rfl;rfl;exact za7 rfl;(focus repeat' first|exact zaa|assumption|(apply Ext.get;assumption));(first|exact Nat.le_of_ble_eq_true rfl|(simp;done)|(simp;omega)|(rw [zas];omega));rfl)|(apply zaW;rfl;rfl;rfl;rfl;exact zam rfl;rfl;rfl;rfl)|(apply zcT;rfl;rfl;rfl;rfl)|(apply zbb;rfl;rfl;rfl;rfl;exact zam rfl;rfl;rfl)|(apply zbq;rfl;rfl;rfl;rfl;exact zam rfl;rfl;rfl)|(apply zao;rfl;rfl;rfl;rfl;rfl;rfl;exact iK (by repeat' first|exact Ext.refl _|assumption|apply Ext.push|refine Ext.trans ?_ (by assumption));(rintro _ _ ⟨rfl,_⟩))|(apply zao;rfl;rfl;rfl;rfl;rfl;rfl;exact no (iS (by repeat' first|exact Ext.refl _|assumption|apply Ext.push|refine Ext.trans ?_ (by assumption))) h1;(rintro _ _ ⟨rfl,_⟩))|(apply zao;rfl;rfl;rfl;rfl;rfl;rfl;exact yes (iC (by repeat' first|exact Ext.refl _|assumption|apply Ext.push|refine Ext.trans ?_ (by assumption))) h2;(rintro _ _ ⟨rfl,_⟩))|fail))
  exact ⟨.inr rfl, _, rfl, rfl, by repeat' first|exact Ext.refl _|assumption|apply Ext.push|refine Ext.trans ?_ (by assumption)⟩
 ·(repeat' (first|apply zal|apply zac|(apply O_at;rfl)|(apply zai;rfl)|apply zak|(apply zaU;rfl)|apply zan|apply zaD|apply zaH|apply zav|apply zat|((first|apply zaf|apply zad|apply zcy);rfl;rfl;rfl;rfl)|(apply zaN;rfl;rfl;rfl;rfl;exact za7 rfl;(focus repeat' first|exact zaa|assumption|(apply Ext.get;assumption));(first|exact Nat.le_of_ble_eq_true rfl|(simp;done)|(simp;omega)|(rw [zas];omega));rfl)|(apply zaW;rfl;rfl;rfl;rfl;exact zam rfl;rfl;rfl;rfl)|(apply zcT;rfl;rfl;rfl;rfl)|(apply zbb;rfl;rfl;rfl;rfl;exact zam rfl;rfl;rfl)|(apply zbq;rfl;rfl;rfl;rfl;exact zam rfl;rfl;rfl)|(apply zao;rfl;rfl;rfl;rfl;rfl;rfl;exact iK (by repeat' first|exact Ext.refl _|assumption|apply Ext.push|refine Ext.trans ?_ (by assumption));(rintro _ _ ⟨rfl,_⟩))|(apply zao;rfl;rfl;rfl;rfl;rfl;rfl;exact no (iS (by repeat' first|exact Ext.refl _|assumption|apply Ext.push|refine Ext.trans ?_ (by assumption))) h1;(rintro _ _ ⟨rfl,_⟩))|(apply zao;rfl;rfl;rfl;rfl;rfl;rfl;exact no (iC (by repeat' first|exact Ext.refl _|assumption|apply Ext.push|refine Ext.trans ?_ (by assumption))) h2;(rintro _ _ ⟨rfl,_⟩))|fail))
  exact ⟨.inr rfl, _, rfl, rfl, by repeat' first|exact Ext.refl _|assumption|apply Ext.push|refine Ext.trans ?_ (by assumption)⟩
theorem word_bad (hK : NoK K) {p : Option Addr} {cap : Nat} (hsl : T.s.length <= 1000) (hn : ¬ (TbP T /\ zb3 T.s.length l)) (hll : l.length <= 1000) (hTb : TbAt T h) (hr : Rd h p (ints l)) (hpb : ∀ a, p = some a -> a.block < h.n) :
  CallW Tryz.prog K 33 #[tbV T, .slice p l.length cap] h (IsV (.tuple #[.int .i64 0, .int .i64 2]) h) := by
 have iK : ∀ {h' : Heap}, Ext h h' -> CallW Tryz.prog K 63 #[ktV T p l.length cap] h' (IfB (TbP T /\ zb3 T.s.length l) h') := fun x => zeX hK hsl hll (hTb.ext x) (hr.ext x) (fun a w => Nat.lt_of_lt_of_le (hpb a w) x.n)
 obtain ⟨q, kq, s, r, o⟩ := T
 dsimp only [tbV, ktV] at iK hn ⊢
 refine body (N := 20) Tryz.func33 rfl (hK _ _ _ rfl) rfl rfl ?_
 (repeat' (first|apply zal|apply zac|(apply O_at;rfl)|(apply zai;rfl)|apply zak|(apply zaR;rfl)|apply zan|apply zaH|apply zbF|apply zdD|apply zat|((first|apply zaf|apply zad|apply zcy);rfl;rfl;rfl;rfl)|(apply zaN;rfl;rfl;rfl;rfl;exact za7 rfl;(focus repeat' first|exact zaa|assumption);(first|exact Nat.le_of_ble_eq_true rfl|(simp;done)|(simp;omega));rfl)|(apply zaW;rfl;rfl;rfl;rfl;exact zam rfl;rfl;rfl;rfl)|(apply zcT;rfl;rfl;rfl;rfl)|(apply zbb;rfl;rfl;rfl;rfl;exact zam rfl;rfl;rfl)|(apply zbq;rfl;rfl;rfl;rfl;exact zam rfl;rfl;rfl)|(apply zao;rfl;rfl;rfl;rfl;rfl;rfl;exact no (iK (by repeat' first|exact Ext.refl _|assumption|apply Ext.push|refine Ext.trans ?_ (by assumption))) hn;(rintro _ _ ⟨rfl,_⟩))|fail))
 exact ⟨.inr rfl, _, rfl, rfl, by repeat' first|exact Ext.refl _|assumption|apply Ext.push|refine Ext.trans ?_ (by assumption)⟩
theorem zhQ (hK : NoK K) {p : Option Addr} {cap : Nat} (hP : TbP T) (hKp : zb3 T.s.length l) (hcap : l.length <= cap) (hll : l.length <= 1000) (hTb : TbAt T h) (hr : Rd h p (ints l)) (hpb : ∀ a, p = some a -> a.block < h.n) :
  CallW Tryz.prog K 34 #[tbV T, .slice p l.length cap] h (OkL (dbts T.s l T.r T.o T.s.length) h) := by
 have hn := hP.1
 have hl2 := hKp.1
 obtain ⟨b, e, own, rfl, hg⟩ := hr.at (by rw [zas]; omega)
 have iK : ∀ {h' : Heap}, Ext h h' -> CallW Tryz.prog K 63 #[ktV T (some ⟨b, 0, none⟩) l.length cap] h' (IsV (.bool true) h') := fun x => yes (zeX hK (by omega) hll (hTb.ext x) (hr.ext x) (fun a w => Nat.lt_of_lt_of_le (hpb a w) x.n)) ⟨hP, hKp⟩
 have iD : ∀ {h' : Heap}, Ext h h' -> CallW Tryz.prog K 77 #[ktV T (some ⟨b, 0, none⟩) l.length cap] h' (IsL (dbts T.s l T.r T.o T.s.length) h') := fun x => zpE hK hP hKp hcap hll (hTb.ext x) (x.get hg)
 obtain ⟨q, kq, s, r, o⟩ := T
 dsimp only [tbV, ktV] at iK iD ⊢
 refine body (N := 15) Tryz.func34 rfl (hK _ _ _ rfl) rfl rfl ?_
 (repeat' (first|apply zal|apply zac|(apply O_at;rfl)|(apply zai;rfl)|apply zak|(apply zaU;rfl)|apply zaD|apply zaH|apply zat|((first|apply zaf|apply zad|apply zcy);rfl;rfl;rfl;rfl)|(apply zaN;rfl;rfl;rfl;rfl;exact za7 rfl;(focus repeat' first|exact zaa|assumption|(apply Ext.get;assumption));(first|exact Nat.le_of_ble_eq_true rfl|(simp;done)|(simp;omega)|(rw [zas];omega));rfl)|(apply zaW;rfl;rfl;rfl;rfl;exact zam rfl;rfl;rfl;rfl)|(apply zcT;rfl;rfl;rfl;rfl)|(apply zbb;rfl;rfl;rfl;rfl;exact zam rfl;rfl;rfl)|(apply zbq;rfl;rfl;rfl;rfl;exact zam rfl;rfl;rfl)|(apply zao;rfl;rfl;rfl;rfl;rfl;rfl;exact iK (by repeat' first|exact Ext.refl _|assumption|apply Ext.push|refine Ext.trans ?_ (by assumption));(rintro _ _ ⟨rfl,_⟩))|(apply zao;rfl;rfl;rfl;rfl;rfl;rfl;exact iD (by repeat' first|exact Ext.refl _|assumption|apply Ext.push|refine Ext.trans ?_ (by assumption));(rintro _ _ ⟨_,_,rfl,_,_⟩))|fail))
 rename_i rd1 y1
 exact ⟨.inr rfl, _, rfl, _, _, rfl, rd1, by repeat' first|exact Ext.refl _|assumption|apply Ext.push|refine Ext.trans ?_ (by assumption)⟩
theorem zg7 (hK : NoK K) {p : Option Addr} {cap : Nat} (hsl : T.s.length <= 1000) (hn : ¬ (TbP T /\ zb3 T.s.length l)) (hll : l.length <= 1000) (hTb : TbAt T h) (hr : Rd h p (ints l)) (hpb : ∀ a, p = some a -> a.block < h.n) :
  CallW Tryz.prog K 34 #[tbV T, .slice p l.length cap] h (IsV (.tuple #[.slice none 0 0, .int .i64 2]) h) := by
 have iK : ∀ {h' : Heap}, Ext h h' -> CallW Tryz.prog K 63 #[ktV T p l.length cap] h' (IfB (TbP T /\ zb3 T.s.length l) h') := fun x => zeX hK hsl hll (hTb.ext x) (hr.ext x) (fun a w => Nat.lt_of_lt_of_le (hpb a w) x.n)
 obtain ⟨q, kq, s, r, o⟩ := T
 dsimp only [tbV, ktV] at iK hn ⊢
 refine body (N := 15) Tryz.func34 rfl (hK _ _ _ rfl) rfl rfl ?_
 (repeat' (first|apply zal|apply zac|(apply O_at;rfl)|(apply zai;rfl)|apply zak|(apply zaR;rfl)|apply zaH|apply zbF|apply zat|((first|apply zaf|apply zad|apply zcy);rfl;rfl;rfl;rfl)|(apply zaN;rfl;rfl;rfl;rfl;exact za7 rfl;(focus repeat' first|exact zaa|assumption);(first|exact Nat.le_of_ble_eq_true rfl|(simp;done)|(simp;omega));rfl)|(apply zaW;rfl;rfl;rfl;rfl;exact zam rfl;rfl;rfl;rfl)|(apply zcT;rfl;rfl;rfl;rfl)|(apply zbb;rfl;rfl;rfl;rfl;exact zam rfl;rfl;rfl)|(apply zbq;rfl;rfl;rfl;rfl;exact zam rfl;rfl;rfl)|(apply zao;rfl;rfl;rfl;rfl;rfl;rfl;exact no (iK (by repeat' first|exact Ext.refl _|assumption|apply Ext.push|refine Ext.trans ?_ (by assumption))) hn;(rintro _ _ ⟨rfl,_⟩))|fail))
 exact ⟨.inr rfl, _, rfl, rfl, by repeat' first|exact Ext.refl _|assumption|apply Ext.push|refine Ext.trans ?_ (by assumption)⟩
set_option maxHeartbeats 2000000 in
theorem znr (hK : NoK K) {A C : Nat} {m : List Int} {pm : Option Addr} {cm : Nat} (hP : TbP T) (hTb : TbAt T h) (hAC : A < C) (hC : C < T.s.length) (hm : m.length <= 1000) (hx : ∀ x, x ∈ m -> -10000 <= x /\ x <= 10000) (hr : Rd h pm (ints m)) :
  CallW Tryz.prog K 78 #[tbV T, .int .i64 (A : Nat), .int .i64 (C : Nat), .slice pm m.length cm] h (IsL (filN (zd3 T.s T.r T.o m (A : Nat) (C : Nat)) (T.s.getD C (0, 0)).1 ((T.s.getD C (0, 0)).2 - (T.s.getD C (0, 0)).1 + 1).toNat) h) := by
 have iG : ∀ {k : Nat} {y : Int} {h' : Heap}, k < m.length -> -10000 <= y /\ y <= 10000 -> Ext h h' -> CallW Tryz.prog K 119 #[tbV T, .int .i64 (A : Nat), .int .i64 (C : Nat), .int .i64 (m.getD k 0), .int .i64 y] h' (IfB (zfU T.s T.r T.o (A : Nat) (C : Nat) (m.getD k 0) y) h') := fun {k} _ _ hk hy z => znq hK hP (hTb.ext z) hAC hC (hx _ (mem_at.2 ⟨k, hk, rfl⟩)) hy
 obtain ⟨q, kq, s, r, o⟩ := T
 have hqb : ∀ a, q = some a -> a.block < h.n := hTb.b
 have hn := hP.1
 have hV := hP.2.1
 have hs0 := hTb.rd
 dsimp only [tbV] at iG hn hV hs0 hC ⊢
 have hv := hV C hC
 unfold ValP at hv
 obtain ⟨bs, es, owns, rfl, hgs⟩ := hs0.at (by rw [zah]; omega)
 refine body (N := 53) Tryz.func78 rfl (hK _ _ _ rfl) rfl rfl ?_
 (repeat' (first|apply zal|apply zac|(apply O_at;rfl)|(apply zai;rfl)|apply zak|apply zan|((first|apply zaf|apply zad|apply zay|apply zaP);rfl;rfl;rfl;rfl)|(apply P_fa;rfl;rfl;rfl;rfl;exact za1 rfl;(first|exact Nat.zero_add _|exact Nat.add_zero _|rfl))|(apply zci;rfl;rfl;rfl;rfl;rfl;exact zar rfl;exact zam rfl;(first|assumption|rfl|exact (Int.toNat_of_nonneg (by omega)).symm);omega)|(apply zap;rfl;rfl;rfl;rfl;exact zaF rfl;(focus repeat' first|exact zaa|assumption|apply zab|(apply Ext.get;assumption));(first|exact zau (by omega)|exact zbM (by omega)|exact zbN (by omega)|rfl|assumption))|(apply zbb;rfl;rfl;rfl;rfl;exact zam rfl;rfl;rfl)|fail))
 refine zba (fun a : Nat × Value => [(10, .int .i64 ((s.getD C (0, 0)).1 + (a.1 : Nat))), (9, a.2), (4, .pointer (some ⟨h.n, 0, none⟩)), (3, .slice pm m.length cm), (2, .int .i64 (C : Nat)), (1, .int .i64 (A : Nat))])
  (fun a h' => a.1 <= ((s.getD C (0, 0)).2 - (s.getD C (0, 0)).1 + 1).toNat /\ Ext (h.push (.cells [.slice (some ⟨bs, 0, none⟩) s.length kq, .int .i64 r, .int .i64 o] 25 true)) h' /\ OutI 3 (h.push (.cells [.slice (some ⟨bs, 0, none⟩) s.length kq, .int .i64 r, .int .i64 o] 25 true)) h' a.2 (filN (zd3 s r o m (A : Nat) (C : Nat)) (s.getD C (0, 0)).1 a.1)) (fun a => ((s.getD C (0, 0)).2 - (s.getD C (0, 0)).1 + 1).toNat - a.1) ?_ (0, nilV) ?_ ?_
 ·rintro ⟨k, v⟩ h' ⟨hk, hx', ho⟩ ih
  dsimp only at hk hx' ho ih ⊢
  have hb' : h'.get? h.n = some (.cells [.slice (some ⟨bs, 0, none⟩) s.length kq, .int .i64 r, .int .i64 o] 25 true) := hx'.get zaa
  have hgs' := hx'.get (zab hgs)
  have hnext : (s.getD C (0, 0)).1 + ((k + 1 : Nat) : Int) = (s.getD C (0, 0)).1 + (k : Nat) + 1 := by omega
  have hfl := zio (P := zd3 s r o m (A : Nat) (C : Nat)) (a := (s.getD C (0, 0)).1) k
  by_cases hlt : (s.getD C (0, 0)).1 + (k : Nat) <= (s.getD C (0, 0)).2
  ·(repeat' (first|apply zal|apply zac|(apply O_at;rfl)|(apply zai;rfl)|apply zak|(apply zaR;rfl)|apply zan|apply zaD|((first|apply zaf|apply zad|apply zay|apply zaP);rfl;rfl;rfl;rfl)|(apply P_fa;rfl;rfl;rfl;rfl;exact za1 rfl;(first|exact Nat.zero_add _|exact Nat.add_zero _|rfl))|(apply zhL;rfl;rfl;rfl;rfl;rfl;omega)|(apply zci;rfl;rfl;rfl;rfl;rfl;exact zar rfl;exact zam rfl;(first|assumption|rfl|exact (Int.toNat_of_nonneg (by omega)).symm);omega)|(apply zap;rfl;rfl;rfl;rfl;exact zaF rfl;(focus repeat' first|exact zaa|assumption|apply zab|(apply Ext.get;assumption));(first|exact zau (by omega)|exact zbM (by omega)|exact zbN (by omega)|rfl|assumption))|fail))
   refine zba (fun a : Nat × Bool => [(12, .int .i64 (a.1 : Nat)), (11, .bool a.2), (10, .int .i64 ((s.getD C (0, 0)).1 + (k : Nat))), (9, v), (4, .pointer (some ⟨h.n, 0, none⟩)), (3, .slice pm m.length cm), (2, .int .i64 (C : Nat)), (1, .int .i64 (A : Nat))])
    (fun a h2 => a.1 <= m.length /\ Ext h' h2 /\ (a.2 = true ↔ ∃ j, j < a.1 /\ zfU s r o (A : Nat) (C : Nat) (m.getD j 0) ((s.getD C (0, 0)).1 + (k : Nat)))) (fun a => m.length - a.1) ?_ (0, false) ?_ ?_
   ·rintro ⟨i, f⟩ h2 ⟨hi, hx2, hf⟩ ih2
    dsimp only at hi hf ih2 ⊢
    have hb2 := hx2.get hb'
    by_cases him : i < m.length
    ·obtain ⟨bm, em, ownm, rfl, hgm⟩ := hr.at (by rw [zas]; omega)
     have hgm2 := hx2.get (hx'.get (zab hgm))
     cases f with
     | true =>
      (repeat' (first|apply zal|apply zac|(apply O_at;rfl)|(apply N_at;rfl)|(apply zai;rfl)|apply zak|(apply zaR;rfl)|(apply zbs;exact zaK (by decide +kernel))|apply zan|apply zaD|(apply zcc;rfl;refine .inr ?_;(focus repeat' first|exact trivial|exact Keeps.nil _ _|apply And.intro|rfl|(apply Keeps.cons;iterate 2 (focus repeat' first|exact zaa|assumption|apply zab|(apply Ext.get;assumption)))))|apply zav|((first|apply zaf|apply zad|apply zay|apply zaP);rfl;rfl;rfl;rfl)|(apply zbf;rfl;rfl;rfl;rfl;rfl;rfl;exact zar rfl)|(apply zaX;rfl;rfl;rfl;rfl;rfl;omega)|(apply zbk;rfl;rfl;rfl;rfl;rfl;(unfold fit;omega))|(apply zg5;rfl;rfl;rfl;rfl)|(apply zqd;rfl;rfl;rfl;rfl)|(apply zdt;rfl;rfl;rfl;rfl;rfl;rfl)|fail))
      refine zaO (ih2 (i + 1, true) _ (by dsimp only; omega) ⟨him, by repeat' first|exact Ext.refl _|assumption|apply Ext.push|refine Ext.trans ?_ (by assumption), ⟨fun _ => ?_, fun _ => rfl⟩⟩) (by (focus repeat' first | rfl | exact trivial | apply And.intro))
      obtain ⟨j, h1, h2⟩ := hf.1 rfl
      exact ⟨j, by dsimp only; omega, h2⟩
     | false =>
      by_cases hc : zfU s r o (A : Nat) (C : Nat) (m.getD i 0) ((s.getD C (0, 0)).1 + (k : Nat))
      ·(repeat' (first|apply zal|apply zac|(apply O_at;rfl)|(apply N_at;rfl)|(apply zai;rfl)|apply zak|(apply zaR;rfl)|(apply zbs;exact zaK (by decide +kernel))|apply zan|apply zaD|(apply zcc;rfl;refine .inr ?_;(focus repeat' first|exact trivial|exact Keeps.nil _ _|apply And.intro|rfl|(apply Keeps.cons;iterate 2 (focus repeat' first|exact zaa|assumption|apply zab|(apply Ext.get;assumption)))))|apply zav|((first|apply zaf|apply zad|apply zay|apply zaP);rfl;rfl;rfl;rfl)|(apply zbf;rfl;rfl;rfl;rfl;rfl;rfl;exact zar rfl)|(apply zaX;rfl;rfl;rfl;rfl;rfl;omega)|(apply zbk;rfl;rfl;rfl;rfl;rfl;(unfold fit;omega))|(apply zdt;rfl;rfl;rfl;rfl;rfl;rfl)|(apply zcj;rfl;rfl;rfl;rfl;rfl;exact zar rfl;exact zam rfl;(first|assumption|rfl|exact (Int.toNat_of_nonneg (by omega)).symm);omega)|((first|((apply zbL;rfl;rfl;rfl;rfl;exact zaF rfl);(focus repeat' first|exact zaa|assumption|apply zab|(apply Ext.get;assumption));(first|exact zau (by omega)|exact zbM (by omega)|exact zbN (by omega)|rfl|assumption))|((apply zb8;rfl;rfl;rfl;rfl;exact za7 rfl);(focus repeat' first|exact zaa|assumption|apply zab|(apply Ext.get;assumption));(first|exact Nat.le_of_ble_eq_true rfl|(simp;done)|(simp;omega)|(rw [zah];omega)|(rw [zas];omega));rfl));(first|assumption|exact zaS _ _|exact zcr _ _ _ _ _|rfl|(focus simp [same,same.all2];done));(first|rfl|assumption|exact hwv _|exact zbt (by assumption) (by repeat' first|exact Ext.refl _|assumption|apply Ext.push|refine Ext.trans ?_ (by assumption))|(simp [within];omega)))|(apply za8;rfl;rfl;rfl;rfl;rfl;rfl;rfl;exact yes (iG him (by omega) (by repeat' first|exact Ext.refl _|assumption|apply Ext.push|refine Ext.trans ?_ (by assumption))) hc;(rintro _ _ ⟨rfl,_⟩))|fail))
       exact zaO (ih2 (i + 1, true) _ (by dsimp only; omega) ⟨him, by repeat' first|exact Ext.refl _|assumption|apply Ext.push|refine Ext.trans ?_ (by assumption), ⟨fun _ => ⟨i, Nat.lt_succ_self i, hc⟩, fun _ => rfl⟩⟩) (by (focus repeat' first | rfl | exact trivial | apply And.intro))
      ·(repeat' (first|apply zal|apply zac|(apply O_at;rfl)|(apply N_at;rfl)|(apply zai;rfl)|apply zak|(apply zaR;rfl)|(apply zbs;exact zaK (by decide +kernel))|apply zan|apply zaD|(apply zcc;rfl;refine .inr ?_;(focus repeat' first|exact trivial|exact Keeps.nil _ _|apply And.intro|rfl|(apply Keeps.cons;iterate 2 (focus repeat' first|exact zaa|assumption|apply zab|(apply Ext.get;assumption)))))|apply zav|((first|apply zaf|apply zad|apply zay|apply zaP);rfl;rfl;rfl;rfl)|(apply zbf;rfl;rfl;rfl;rfl;rfl;rfl;exact zar rfl)|(apply zaX;rfl;rfl;rfl;rfl;rfl;omega)|(apply zbk;rfl;rfl;rfl;rfl;rfl;(unfold fit;omega))|(apply zdt;rfl;rfl;rfl;rfl;rfl;rfl)|(apply zcj;rfl;rfl;rfl;rfl;rfl;exact zar rfl;exact zam rfl;(first|assumption|rfl|exact (Int.toNat_of_nonneg (by omega)).symm);omega)|((first|((apply zbL;rfl;rfl;rfl;rfl;exact zaF rfl);(focus repeat' first|exact zaa|assumption|apply zab|(apply Ext.get;assumption));(first|exact zau (by omega)|exact zbM (by omega)|exact zbN (by omega)|rfl|assumption))|((apply zb8;rfl;rfl;rfl;rfl;exact za7 rfl);(focus repeat' first|exact zaa|assumption|apply zab|(apply Ext.get;assumption));(first|exact Nat.le_of_ble_eq_true rfl|(simp;done)|(simp;omega)|(rw [zah];omega)|(rw [zas];omega));rfl));(first|assumption|exact zaS _ _|exact zcr _ _ _ _ _|rfl|(focus simp [same,same.all2];done));(first|rfl|assumption|exact hwv _|exact zbt (by assumption) (by repeat' first|exact Ext.refl _|assumption|apply Ext.push|refine Ext.trans ?_ (by assumption))|(simp [within];omega)))|(apply za8;rfl;rfl;rfl;rfl;rfl;rfl;rfl;exact no (iG him (by omega) (by repeat' first|exact Ext.refl _|assumption|apply Ext.push|refine Ext.trans ?_ (by assumption))) hc;(rintro _ _ ⟨rfl,_⟩))|fail))
       refine zaO (ih2 (i + 1, false) _ (by dsimp only; omega) ⟨him, by repeat' first|exact Ext.refl _|assumption|apply Ext.push|refine Ext.trans ?_ (by assumption), ⟨fun w => (by cases w), fun ⟨j, h1, h2⟩ => ?_⟩⟩) (by (focus repeat' first | rfl | exact trivial | apply And.intro))
       dsimp only at h1
       by_cases hji : j = i
       ·subst hji; exact absurd h2 hc
       ·exact hf.2 ⟨j, by omega, h2⟩
    ·obtain rfl : i = m.length := by omega
     have hsome : zd3 s r o m (A : Nat) (C : Nat) ((s.getD C (0, 0)).1 + (k : Nat)) ↔ f = true := by
      rw [hf]
      constructor
      ·rintro ⟨x, h1, h2⟩
       obtain ⟨j, h3, rfl⟩ := mem_at.1 h1
       exact ⟨j, h3, h2⟩
      ·rintro ⟨j, h1, h2⟩
       exact ⟨_, mem_at.2 ⟨j, h1, rfl⟩, h2⟩
     cases f with
     | true =>
      have hc := hsome.2 rfl
      (repeat' (first|apply zal|apply zac|(apply O_at;rfl)|(apply zai;rfl)|apply zak|(apply zaR;rfl)|(apply zaU;rfl)|apply zbl|apply zbo|apply zaY|apply zaZ|apply zav|((first|apply zaf|apply zad|apply zay|apply zaP);rfl;rfl;rfl;rfl)|(apply zbf;rfl;rfl;rfl;rfl;rfl;rfl;exact zar rfl)|(apply zby;rfl;rfl;rfl;rfl;rfl;omega)|(apply zbk;rfl;rfl;rfl;rfl;rfl;(unfold fit;omega))|(apply zdb;rfl;rfl;rfl;rfl;rfl;rfl;rfl;exact zc0 rfl)|(apply zhM;rfl;rfl;rfl;rfl;rfl;rfl;rfl;rfl;exact zc0 rfl;exact zar rfl;(focus repeat' first|exact zaa|assumption|apply zab|(apply Ext.get;assumption));(apply OutI.ext;assumption;(focus repeat' first|exact Ext.refl _|assumption|apply Ext.push|(refine Ext.trans ?_ (by assumption))));(focus repeat' first|exact Ext.refl _|assumption|apply Ext.push|(refine Ext.trans ?_ (by assumption)));(first|omega|(simp;omega));(intro _ _ _ _))|fail))
      rename_i v1 h3 ho3 hx3
      exact zaO (ih (k + 1, v1) _ (by dsimp only; omega) ⟨by dsimp only; omega, by repeat' first|exact Ext.refl _|assumption|apply Ext.push|refine Ext.trans ?_ (by assumption), by rw [zf4 hc]; exact ho3⟩) (by dsimp only; rw [hnext]; (focus repeat' first | rfl | exact trivial | apply And.intro))
     | false =>
      have hc : ¬ zd3 s r o m (A : Nat) (C : Nat) ((s.getD C (0, 0)).1 + (k : Nat)) := fun w => by cases hsome.1 w
      (repeat' (first|apply zal|apply zac|(apply O_at;rfl)|(apply zai;rfl)|apply zak|(apply zaU;rfl)|apply zaD|apply zbl|apply zbo|apply zaY|apply zaZ|apply zav|((first|apply zaf|apply zad|apply zay|apply zaP);rfl;rfl;rfl;rfl)|(apply zbf;rfl;rfl;rfl;rfl;rfl;rfl;exact zar rfl)|(apply zby;rfl;rfl;rfl;rfl;rfl;omega)|(apply zbk;rfl;rfl;rfl;rfl;rfl;(unfold fit;omega))|fail))
      exact zaO (ih (k + 1, v) _ (by dsimp only; omega) ⟨by dsimp only; omega, by repeat' first|exact Ext.refl _|assumption|apply Ext.push|refine Ext.trans ?_ (by assumption), by rw [zin hc]; exact OutI.ext (e := 3) ho hx2⟩) (by dsimp only; rw [hnext]; (focus repeat' first | rfl | exact trivial | apply And.intro))
   ·exact ⟨Nat.zero_le _, Ext.refl _, ⟨fun w => (by cases w), fun ⟨j, h1, _⟩ => absurd h1 (Nat.not_lt_zero _)⟩⟩
   ·(focus repeat' first | rfl | exact trivial | apply And.intro)
  ·obtain rfl : k = ((s.getD C (0, 0)).2 - (s.getD C (0, 0)).1 + 1).toNat := by omega
   (repeat' (first|apply zal|apply zac|(apply O_at;rfl)|(apply zai;rfl)|apply zak|(apply zaU;rfl)|apply zbl|apply zaH|apply zbo|apply zaY|apply zaZ|apply zat|((first|apply zaf|apply zad|apply zay|apply zaP);rfl;rfl;rfl;rfl)|(apply P_fa;rfl;rfl;rfl;rfl;exact za1 rfl;(first|exact Nat.zero_add _|exact Nat.add_zero _|rfl))|(apply zj9;rfl;rfl;rfl;rfl;rfl;omega)|(apply zci;rfl;rfl;rfl;rfl;rfl;exact zar rfl;exact zam rfl;(first|assumption|rfl|exact (Int.toNat_of_nonneg (by omega)).symm);omega)|(apply zap;rfl;rfl;rfl;rfl;exact zaF rfl;(focus repeat' first|exact zaa|assumption|apply zab|(apply Ext.get;assumption));(first|exact zau (by omega)|exact zbM (by omega)|exact zbN (by omega)|rfl|assumption))|fail))
   exact ⟨.inr rfl, _, rfl, (OutI.low (e := 3) ho (Nat.le_succ _)).isL (by repeat' first|exact Ext.refl _|assumption|apply Ext.push|refine Ext.trans ?_ (by assumption))⟩
 ·exact ⟨Nat.zero_le _, Ext.refl _, OutI.nil _ _ _⟩
 ·exact (by dsimp only; rw [show (s.getD C (0, 0)).1 + ((0 : Nat) : Int) = (s.getD C (0, 0)).1 by omega]; (focus repeat' first | rfl | exact trivial | apply And.intro))
end
end Go.AX.Sa

namespace Go.AX.Sa
open Go.Proofs
set_option maxRecDepth 100000
variable {K : Known}
set_option maxHeartbeats 2000000 in
theorem znm (hK : NoK K) {T : Tb} {l : List Int} {h : Heap} {p : Option Addr} {cap : Nat} {w : Int} (hP : TbP T) (hKp : zb3 T.s.length l) (hll : l.length <= 1000) (hTb : TbAt T h) (hr : Rd h p (ints l)) (hpb : ∀ a, p = some a -> a.block < h.n) (hW : zp2 T.s l T.r T.o w) :
  CallW Tryz.prog K 35 #[tbV T, .slice p l.length cap] h (IsV (.int .i64 w) h) := by
 have iD : ∀ {h' : Heap}, Ext h h' -> CallW Tryz.prog K 36 #[tbV T, .slice p l.length cap] h' (IsL (dbts T.s l T.r T.o T.s.length) h') := fun x => zfF hK hP hKp hll (hTb.ext x) (hr.ext x)
 have iE : ∀ {i : Nat} {pm : Option Addr} {cm : Nat} {h' : Heap}, i + 1 < l.length -> Rd h' pm (ints (canL T.s l T.r T.o i)) -> Ext h h' -> CallW Tryz.prog K 78 #[tbV T, .int .i64 (l.getD i 0), .int .i64 (l.getD (i + 1) 0), .slice pm (canL T.s l T.r T.o i).length cm] h' (IsL (canL T.s l T.r T.o (i + 1)) h') := by
  intro i pm cm h' hi g x
  have hn := hP.1
  have a1 := zex hKp (i := i) (by omega)
  have a2 := zex hKp hi
  have a3 := hKp.2.2.2 i hi
  obtain ⟨ci, cl⟩ := ziC (r := T.r) (o := T.o) hP.2.1 (by omega) hKp i (by omega)
  obtain ⟨A, hA⟩ : ∃ A : Nat, l.getD i 0 = (A : Nat) := ⟨(l.getD i 0).toNat, by omega⟩
  obtain ⟨C, hC⟩ : ∃ C : Nat, l.getD (i + 1) 0 = (C : Nat) := ⟨(l.getD (i + 1) 0).toNat, by omega⟩
  have e := znr (A := A) (C := C) (cm := cm) hK hP (hTb.ext x) (by omega) (by omega) (by omega) ci g
  have hcan : canL T.s l T.r T.o (i + 1) = filN (zd3 T.s T.r T.o (canL T.s l T.r T.o i) (A : Nat) (C : Nat)) (T.s.getD C (0, 0)).1 ((T.s.getD C (0, 0)).2 - (T.s.getD C (0, 0)).1 + 1).toNat := by
   show filN (zd3 T.s T.r T.o (canL T.s l T.r T.o i) (l.getD i 0) (l.getD (i + 1) 0)) _ _ = _
   rw [hA, hC, Int.toNat_natCast]
  rw [hcan, hA, hC]
  exact e
 obtain ⟨q, kq, s, r, o⟩ := T
 have hqb : ∀ a, q = some a -> a.block < h.n := hTb.b
 have hn := hP.1
 have hV := hP.2.1
 have hs0 := hTb.rd
 have hl2 := hKp.1
 dsimp only [tbV] at iD iE hn hV hs0 hKp hW ⊢
 have hv := hV 0 (by omega)
 unfold ValP at hv
 obtain ⟨bs, es, owns, rfl, hgs⟩ := hs0.at (by rw [zah]; omega)
 obtain ⟨b, e, own, rfl, hg⟩ := hr.at (by rw [zas]; omega)
 have hs00 : (zaw s)[0]? = some (.int .i64 (s.getD 0 (0, 0)).1) := zbM (k := 0) (by omega)
 have hs01 : (zaw s)[1]? = some (.int .i64 (s.getD 0 (0, 0)).2) := zbN (k := 0) (by omega)
 have hdn := dbts_nil (s := s) (l := l) (r := r) (o := o) s.length
 have hdl := zf9 s l r o s.length
 refine body (N := 52) Tryz.func35 rfl (hK _ _ _ rfl) rfl rfl ?_
 by_cases hS : zfd s l r o
 ·obtain rfl : w = 3 := by
   rcases hW with ⟨_, e⟩ | ⟨n, _⟩ | ⟨n, _⟩
   ·exact e
   ·exact absurd hS n
   ·exact absurd hS n
  have hz := hdn.2 hS
  (repeat' (first|apply zal|apply zac|(apply O_at;rfl)|(apply zai;rfl)|apply zak|(apply zaR;rfl)|apply zaH|apply zbF|apply zat|((first|apply zaf|apply zad|apply zay|apply zaP);rfl;rfl;rfl;rfl)|(apply zbf;rfl;rfl;rfl;rfl;rfl;rfl;exact zar rfl)|(apply zds;rfl;rfl;rfl;rfl;rfl;omega)|(apply zaN;rfl;rfl;rfl;rfl;exact za7 rfl;(focus repeat' first|exact zaa|assumption|apply zab|(apply Ext.get;assumption));(first|exact Nat.le_of_ble_eq_true rfl|(simp;done)|(simp;omega)|(rw [zah];omega)|(rw [zas];omega));rfl)|(apply zbb;rfl;rfl;rfl;rfl;exact zam rfl;rfl;rfl)|((first|(apply zao;rfl;rfl;rfl;rfl;rfl;rfl)|(apply za8;rfl;rfl;rfl;rfl;rfl;rfl;rfl));exact iD (by repeat' first|exact Ext.refl _|assumption|apply Ext.push|refine Ext.trans ?_ (by assumption));(rintro _ _ ⟨_,_,rfl,_,_⟩))|fail))
  exact ⟨.inr rfl, _, rfl, rfl, by repeat' first|exact Ext.refl _|assumption|apply Ext.push|refine Ext.trans ?_ (by assumption)⟩
 have hz : ¬ (dbts s l r o s.length).length = 0 := fun z => hS (hdn.1 z)
 (repeat' (first|apply zal|apply zac|(apply O_at;rfl)|(apply zai;rfl)|apply zak|(apply zaU;rfl)|apply zan|apply zaD|((first|apply zaf|apply zad|apply zay|apply zaP);rfl;rfl;rfl;rfl)|(apply P_fa;rfl;rfl;rfl;rfl;exact za1 rfl;(first|exact Nat.zero_add _|exact Nat.add_zero _|rfl))|(apply zbf;rfl;rfl;rfl;rfl;rfl;rfl;exact zar rfl)|(apply zfe;rfl;rfl;rfl;rfl;rfl;omega)|(apply zci;rfl;rfl;rfl;rfl;rfl;exact zar rfl;exact zam rfl;(first|assumption|exact zq0|exact zqs _|rfl|exact (Int.toNat_of_nonneg (by omega)).symm);omega)|(apply zap;rfl;rfl;rfl;rfl;exact zaF rfl;(focus repeat' first|exact zaa|assumption|apply zab|(apply Ext.get;assumption));(first|exact zau (by omega)|exact zbM (by omega)|exact zbN (by omega)|rfl|assumption))|(apply zaN;rfl;rfl;rfl;rfl;exact za7 rfl;(focus repeat' first|exact zaa|assumption|apply zab|(apply Ext.get;assumption));(first|exact Nat.le_of_ble_eq_true rfl|(simp;done)|(simp;omega)|(rw [zah];omega)|(rw [zas];omega));rfl)|(apply zbb;rfl;rfl;rfl;rfl;exact zam rfl;rfl;rfl)|((first|(apply zao;rfl;rfl;rfl;rfl;rfl;rfl)|(apply za8;rfl;rfl;rfl;rfl;rfl;rfl;rfl));exact iD (by repeat' first|exact Ext.refl _|assumption|apply Ext.push|refine Ext.trans ?_ (by assumption));(rintro _ _ ⟨_,_,rfl,_,_⟩))|fail))
 rename_i h1 pd cd rdd xd
 have hb1 : h1.get? h.n = some (.cells [.slice (some ⟨bs, 0, none⟩) s.length kq, .int .i64 r, .int .i64 o] 25 true) := xd.get zaa
 have hg1 := xd.get (zab hg)
 have hgs1 := xd.get (zab hgs)
 refine zba (fun a : Nat × Value => [(6, .int .i64 ((s.getD 0 (0, 0)).1 + (a.1 : Nat))), (5, a.2), (2, .pointer (some ⟨h.n, 0, none⟩)), (1, .slice (some ⟨b, 0, none⟩) l.length cap)])
  (fun a h' => a.1 <= ((s.getD 0 (0, 0)).2 - (s.getD 0 (0, 0)).1 + 1).toNat /\ Ext h1 h' /\ OutI 3 h1 h' a.2 (rng (s.getD 0 (0, 0)).1 a.1)) (fun a => ((s.getD 0 (0, 0)).2 - (s.getD 0 (0, 0)).1 + 1).toNat - a.1) ?_ (0, nilV) ?_ ?_
 ·rintro ⟨k, v⟩ h' ⟨hk, hx', ho⟩ ih
  dsimp only at hk hx' ho ih ⊢
  have hb' := hx'.get hb1
  have hg' := hx'.get hg1
  have hgs' := hx'.get hgs1
  have hrl := zkB (s.getD 0 (0, 0)).1 k
  have hnext : (s.getD 0 (0, 0)).1 + ((k + 1 : Nat) : Int) = (s.getD 0 (0, 0)).1 + (k : Nat) + 1 := by omega
  by_cases hlt : (s.getD 0 (0, 0)).1 + (k : Nat) <= (s.getD 0 (0, 0)).2
  ·(repeat' (first|apply zal|apply zac|(apply O_at;rfl)|(apply zai;rfl)|apply zak|(apply zaR;rfl)|apply zan|apply zaD|apply zav|((first|apply zaf|apply zad|apply zay|apply zaP);rfl;rfl;rfl;rfl)|(apply P_fa;rfl;rfl;rfl;rfl;exact za1 rfl;(first|exact Nat.zero_add _|exact Nat.add_zero _|rfl))|(apply zhL;rfl;rfl;rfl;rfl;rfl;omega)|(apply zbk;rfl;rfl;rfl;rfl;rfl;(unfold fit;omega))|(apply zci;rfl;rfl;rfl;rfl;rfl;exact zar rfl;exact zam rfl;(first|assumption|exact zq0|exact zqs _|rfl|exact (Int.toNat_of_nonneg (by omega)).symm);omega)|(apply zap;rfl;rfl;rfl;rfl;exact zaF rfl;(focus repeat' first|exact zaa|assumption|apply zab|(apply Ext.get;assumption));(first|exact zau (by omega)|exact zbM (by omega)|exact zbN (by omega)|rfl|assumption))|(apply zdb;rfl;rfl;rfl;rfl;rfl;rfl;rfl;exact zc0 rfl)|(apply zhM;rfl;rfl;rfl;rfl;rfl;rfl;rfl;rfl;exact zc0 rfl;exact zar rfl;(focus repeat' first|exact zaa|assumption|apply zab|(apply Ext.get;assumption));(apply OutI.ext;assumption;(focus repeat' first|exact Ext.refl _|assumption|apply Ext.push|(refine Ext.trans ?_ (by assumption))));(focus repeat' first|exact Ext.refl _|assumption|apply Ext.push|(refine Ext.trans ?_ (by assumption)));(first|omega|(simp;omega));(intro _ _ _ _))|fail))
   rename_i v1 h2 ho2 hx2
   exact zaO (ih (k + 1, v1) _ (by dsimp only; omega) ⟨by dsimp only; omega, by repeat' first|exact Ext.refl _|assumption|apply Ext.push|refine Ext.trans ?_ (by assumption), by rw [zl0]; exact ho2⟩) (by dsimp only; rw [hnext]; (focus repeat' first | rfl | exact trivial | apply And.intro))
  ·obtain rfl : k = ((s.getD 0 (0, 0)).2 - (s.getD 0 (0, 0)).1 + 1).toNat := by omega
   (repeat' (first|apply zal|apply zac|(apply O_at;rfl)|(apply zai;rfl)|apply zak|(apply zaU;rfl)|apply zan|apply zbl|apply zbo|apply zaY|apply zaZ|((first|apply zaf|apply zad|apply zay|apply zaP);rfl;rfl;rfl;rfl)|(apply P_fa;rfl;rfl;rfl;rfl;exact za1 rfl;(first|exact Nat.zero_add _|exact Nat.add_zero _|rfl))|(apply zj9;rfl;rfl;rfl;rfl;rfl;omega)|(apply zci;rfl;rfl;rfl;rfl;rfl;exact zar rfl;exact zam rfl;(first|assumption|exact zq0|exact zqs _|rfl|exact (Int.toNat_of_nonneg (by omega)).symm);omega)|(apply zap;rfl;rfl;rfl;rfl;exact zaF rfl;(focus repeat' first|exact zaa|assumption|apply zab|(apply Ext.get;assumption));(first|exact zau (by omega)|exact zbM (by omega)|exact zbN (by omega)|rfl|assumption))|fail))
   refine zba (fun a : Nat × Value => [(7, .int .i64 ((a.1 + 1 : Nat) : Int)), (5, a.2), (2, .pointer (some ⟨h.n, 0, none⟩)), (1, .slice (some ⟨b, 0, none⟩) l.length cap)])
    (fun a h2 => a.1 <= l.length - 1 /\ Ext h' h2 /\ RdV h2 a.2 (canL s l r o a.1)) (fun a => l.length - 1 - a.1) ?_ (0, v) ?_ ?_
   ·rintro ⟨i, u⟩ h2 ⟨hi, hx2, pu, cu, hu, rdu⟩ ih2
    dsimp only at hi hu rdu ih2 ⊢
    subst hu
    have hb2 := hx2.get hb'
    have hg2 := hx2.get hg'
    have hz' : (((i + 1 : Nat) : Int)) - 1 = (i : Nat) := by omega
    obtain ⟨ci, cl⟩ := ziC (r := r) (o := o) hV (by omega) hKp i (by omega)
    by_cases hil : i + 1 < l.length
    ·(repeat' (first|apply zal|apply zac|(apply O_at;rfl)|(apply N_at;rfl)|(apply zai;rfl)|apply zak|(apply zaR;rfl)|(apply zbs;exact zaK (by decide +kernel))|apply zan|apply zaD|(apply zcc;rfl;refine .inr ?_;(focus repeat' first|exact trivial|exact Keeps.nil _ _|apply And.intro|rfl|(apply Keeps.cons;iterate 2 (focus repeat' first|exact zaa|assumption|apply zab|(apply Ext.get;assumption)))))|apply zav|((first|apply zaf|apply zad|apply zay|apply zaP);rfl;rfl;rfl;rfl)|(apply zbf;rfl;rfl;rfl;rfl;rfl;rfl;exact zar rfl)|(apply zaX;rfl;rfl;rfl;rfl;rfl;omega)|(apply zbk;rfl;rfl;rfl;rfl;rfl;(unfold fit;omega))|(apply zei;rfl;rfl;rfl;rfl;rfl;(unfold fit;omega))|(apply zcj;rfl;rfl;rfl;rfl;rfl;exact zar rfl;exact zam rfl;(first|assumption|exact zq0|exact zqs _|rfl|exact (Int.toNat_of_nonneg (by omega)).symm);omega)|((first|((apply zbL;rfl;rfl;rfl;rfl;exact zaF rfl);(focus repeat' first|exact zaa|assumption|apply zab|(apply Ext.get;assumption));(first|exact zau (by omega)|exact zbM (by omega)|exact zbN (by omega)|rfl|assumption))|((apply zb8;rfl;rfl;rfl;rfl;exact za7 rfl);(focus repeat' first|exact zaa|assumption|apply zab|(apply Ext.get;assumption));(first|exact Nat.le_of_ble_eq_true rfl|(simp;done)|(simp;omega)|(rw [zah];omega)|(rw [zas];omega));rfl));(first|assumption|exact zaS _ _|exact zcr _ _ _ _ _|rfl|(focus simp [same,same.all2];done));(first|rfl|assumption|exact hwv _|exact zbt (by assumption) (by repeat' first|exact Ext.refl _|assumption|apply Ext.push|refine Ext.trans ?_ (by assumption))|(simp [within];omega)))|((first|(apply zao;rfl;rfl;rfl;rfl;rfl;rfl)|(apply za8;rfl;rfl;rfl;rfl;rfl;rfl;rfl));exact iE hil rdu (by repeat' first|exact Ext.refl _|assumption|apply Ext.push|refine Ext.trans ?_ (by assumption));(rintro _ _ ⟨_,_,rfl,_,_⟩))|fail))
     rename_i h3 p3 c3 rd3 x3
     exact zaO (ih2 (i + 1, .slice p3 (canL s l r o (i + 1)).length c3) _ (by dsimp only; omega) ⟨by dsimp only; omega, by repeat' first|exact Ext.refl _|assumption|apply Ext.push|refine Ext.trans ?_ (by assumption), p3, c3, rfl, rd3⟩) (by (focus repeat' first | rfl | exact trivial | apply And.intro))
    ·obtain rfl : i = l.length - 1 := by omega
     rcases hW with ⟨n, _⟩ | ⟨_, hc, rfl⟩ | ⟨_, hc, rfl⟩
     ·exact absurd n hS
     ·unfold CanP at hc
      (repeat' (first|apply zal|apply zac|(apply O_at;rfl)|(apply zai;rfl)|apply zak|(apply zaU;rfl)|apply zaD|apply zbl|apply zaH|apply zbo|apply zaY|apply zaZ|apply zat|((first|apply zaf|apply zad|apply zay|apply zaP);rfl;rfl;rfl;rfl)|(apply zbf;rfl;rfl;rfl;rfl;rfl;rfl;exact zar rfl)|(apply zby;rfl;rfl;rfl;rfl;rfl;omega)|(apply zfe;rfl;rfl;rfl;rfl;rfl;omega)|fail))
      exact ⟨.inr rfl, _, rfl, rfl, by repeat' first|exact Ext.refl _|assumption|apply Ext.push|refine Ext.trans ?_ (by assumption)⟩
     ·unfold CanP at hc
      (repeat' (first|apply zal|apply zac|(apply O_at;rfl)|(apply zai;rfl)|apply zak|(apply zaR;rfl)|(apply zaU;rfl)|apply zbl|apply zaH|apply zbF|apply zbo|apply zaY|apply zaZ|apply zat|((first|apply zaf|apply zad|apply zay|apply zaP);rfl;rfl;rfl;rfl)|(apply zbf;rfl;rfl;rfl;rfl;rfl;rfl;exact zar rfl)|(apply zby;rfl;rfl;rfl;rfl;rfl;omega)|(apply zds;rfl;rfl;rfl;rfl;rfl;omega)|fail))
      exact ⟨.inr rfl, _, rfl, rfl, by repeat' first|exact Ext.refl _|assumption|apply Ext.push|refine Ext.trans ?_ (by assumption)⟩
   ·exact ⟨Nat.zero_le _, Ext.refl _, OutI.rdV (e := 3) (h0 := h1) ho⟩
   ·(focus repeat' first | rfl | exact trivial | apply And.intro)
 ·exact ⟨Nat.zero_le _, Ext.refl _, OutI.nil _ _ _⟩
 ·exact (by dsimp only; rw [show (s.getD 0 (0, 0)).1 + ((0 : Nat) : Int) = (s.getD 0 (0, 0)).1 by omega]; (focus repeat' first | rfl | exact trivial | apply And.intro))
set_option maxHeartbeats 2000000 in
theorem ziU (hK : NoK K) (hKn : Kn K) {T : Tb} {l : List Int} {p : Option Addr} {cap : Nat} {h : Heap} (hTb : TbAt T h) (hl : RowAt p l cap h) :
  CallW Tryz.prog K 7 #[tbV T, .slice p l.length cap] h (fun v _ => v = .bool true) := by
 have iS : ∀ {h' : Heap}, CallW Tryz.prog K 15 #[tbV T] h' (IfB (T.s.length <= 16) h') := short_ok hK
 have iT : ∀ {h' : Heap}, T.s.length <= 16 -> Ext h h' -> CallW Tryz.prog K 20 #[tbV T] h' (IfB (TbP T) h') := fun a x => zkF hK (by omega) (hTb.ext x)
 have iK : ∀ {h' : Heap}, T.s.length <= 16 -> l.length <= 16 -> Ext h h' -> CallW Tryz.prog K 21 #[tbV T, .slice p l.length cap] h' (IfB (zb3 T.s.length l) h') := fun a b x => znp hK (by omega) (by omega) (hTb.ext x) (hl.ext x).rd (hl.ext x).b
 have iW : ∀ {w : Int} {h' : Heap}, TbP T -> zb3 T.s.length l -> l.length <= 16 -> zp2 T.s l T.r T.o w -> Ext h h' -> CallW Tryz.prog K 33 #[tbV T, .slice p l.length cap] h' (IsV (.tuple #[.int .i64 w, .int .i64 0]) h') := fun a b d c x => word_ok hK a b (hl.cap (by omega)) (by omega) (hTb.ext x) (hl.ext x).rd (hl.ext x).b c
 have iWb : ∀ {h' : Heap}, T.s.length <= 16 -> l.length <= 16 -> ¬ (TbP T /\ zb3 T.s.length l) -> Ext h h' -> CallW Tryz.prog K 33 #[tbV T, .slice p l.length cap] h' (IsV (.tuple #[.int .i64 0, .int .i64 2]) h') := fun a b n x => word_bad hK (by omega) n (by omega) (hTb.ext x) (hl.ext x).rd (hl.ext x).b
 have iD : ∀ {h' : Heap}, TbP T -> zb3 T.s.length l -> l.length <= 16 -> Ext h h' -> CallW Tryz.prog K 34 #[tbV T, .slice p l.length cap] h' (OkL (dbts T.s l T.r T.o T.s.length) h') := fun a b d x => zhQ hK a b (hl.cap (by omega)) (by omega) (hTb.ext x) (hl.ext x).rd (hl.ext x).b
 have iDb : ∀ {h' : Heap}, T.s.length <= 16 -> l.length <= 16 -> ¬ (TbP T /\ zb3 T.s.length l) -> Ext h h' -> CallW Tryz.prog K 34 #[tbV T, .slice p l.length cap] h' (IsV (.tuple #[.slice none 0 0, .int .i64 2]) h') := fun a b n x => zg7 hK (by omega) n (by omega) (hTb.ext x) (hl.ext x).rd (hl.ext x).b
 have jW : ∀ {w : Int} {h' : Heap}, TbP T -> zb3 T.s.length l -> l.length <= 16 -> zp2 T.s l T.r T.o w -> Ext h h' -> CallW Tryz.prog K 35 #[tbV T, .slice p l.length cap] h' (IsV (.int .i64 w) h') := fun a b d c x => znm hK a b (by omega) (hTb.ext x) (hl.ext x).rd (hl.ext x).b c
 have jD : ∀ {h' : Heap}, TbP T -> zb3 T.s.length l -> l.length <= 16 -> Ext h h' -> CallW Tryz.prog K 36 #[tbV T, .slice p l.length cap] h' (IsL (dbts T.s l T.r T.o T.s.length) h') := fun a b d x => zfF hK a b (by omega) (hTb.ext x) (hl.ext x).rd
 obtain ⟨q, kq, s, r, o⟩ := T
 dsimp only [tbV] at *
 refine body (N := 80) Tryz.func7 rfl (hK _ _ _ rfl) rfl rfl ?_
 by_cases hs : s.length <= 16
 ·by_cases hl16 : l.length <= 16
  ·by_cases hP : TbP ⟨q, kq, s, r, o⟩
   ·by_cases hKp : zb3 s.length l
    ·obtain ⟨w, hW⟩ := word_ex s l r o
     have hdl := zf9 s l r o s.length
     (repeat' (first|apply zal|apply zac|(apply O_at;rfl)|(apply zai;rfl)|apply zak|(apply zaU;rfl)|apply zaD|((first|apply zaf|apply zad|apply zcy);rfl;rfl;rfl;rfl)|(apply zbf;rfl;rfl;rfl;rfl;rfl;rfl;exact zar rfl)|(apply zbE;rfl;rfl;rfl;rfl;rfl;rfl)|(apply zbX;rfl;rfl;rfl;rfl;rfl)|(apply zeo;rfl;rfl;rfl;rfl;rfl;omega)|(apply zds;rfl;rfl;rfl;rfl;rfl;omega)|(apply zaN;rfl;rfl;rfl;rfl;exact za7 rfl;(focus repeat' first|exact zaa|assumption|(apply Ext.get;assumption));(first|exact Nat.le_of_ble_eq_true rfl|(simp;done)|(simp;omega));rfl)|(apply zbb;rfl;rfl;rfl;rfl;exact zam rfl;rfl;rfl)|(apply zao;rfl;rfl;rfl;rfl;rfl;rfl;exact yes iS hs;(rintro _ _ ⟨rfl,_⟩))|(apply zao;rfl;rfl;rfl;rfl;rfl;rfl;exact iW hP hKp hl16 hW (by repeat' first|exact Ext.refl _|assumption|apply Ext.push|refine Ext.trans ?_ (by assumption));(rintro _ _ ⟨rfl,_⟩))|(apply zao;rfl;rfl;rfl;rfl;rfl;rfl;exact iD hP hKp hl16 (by repeat' first|exact Ext.refl _|assumption|apply Ext.push|refine Ext.trans ?_ (by assumption));(rintro _ _ ⟨_,_,rfl,_,_⟩))|(apply zao;rfl;rfl;rfl;rfl;rfl;rfl;exact yes (iT hs (by repeat' first|exact Ext.refl _|assumption|apply Ext.push|refine Ext.trans ?_ (by assumption))) hP;(rintro _ _ ⟨rfl,_⟩))|(apply zao;rfl;rfl;rfl;rfl;rfl;rfl;exact yes (iK hs hl16 (by repeat' first|exact Ext.refl _|assumption|apply Ext.push|refine Ext.trans ?_ (by assumption))) hKp;(rintro _ _ ⟨rfl,_⟩))|(apply zao;rfl;rfl;rfl;rfl;rfl;rfl;exact jW hP hKp hl16 hW (by repeat' first|exact Ext.refl _|assumption|apply Ext.push|refine Ext.trans ?_ (by assumption));(rintro _ _ ⟨rfl,_⟩))|(apply zao;rfl;rfl;rfl;rfl;rfl;rfl;exact jD hP hKp hl16 (by repeat' first|exact Ext.refl _|assumption|apply Ext.push|refine Ext.trans ?_ (by assumption));(rintro _ _ ⟨_,_,rfl,_,_⟩))|fail))
     rename_i g1 x1 g2 x2 g3 f1 c1 rd1 x3 g4 x4 g5 x5 g6 x6 g7 f2 c2 rd2 x7
     (repeat' (first|(apply O_at;rfl)|(apply zai;rfl)|apply zak|apply zaH|apply zat|((first|apply zaf|apply zad|apply zcy);rfl;rfl;rfl;rfl)|(apply zbE;rfl;rfl;rfl;rfl;rfl;rfl)|(apply zao;rfl;rfl;rfl;rfl;rfl;rfl;exact yes (same_ok hK (by omega) (by omega) (rd1.ext (by repeat' first|exact Ext.refl _|assumption|apply Ext.push|refine Ext.trans ?_ (by assumption))) rd2) rfl;(rintro _ _ ⟨rfl,_⟩))|(apply zao;rfl;rfl;rfl;rfl;rfl;rfl;exact zdR hKn;(rintro _ _ ⟨rfl,_⟩))|fail))
     exact ⟨.inr rfl, _, rfl, rfl⟩
    ·have hno : ¬ (TbP ⟨q, kq, s, r, o⟩ /\ zb3 s.length l) := fun w => hKp w.2
     (repeat' (first|apply zal|apply zac|(apply O_at;rfl)|(apply zai;rfl)|apply zak|(apply zaR;rfl)|(apply zaU;rfl)|apply zaD|apply zaH|apply zbF|apply zat|((first|apply zaf|apply zad|apply zcy);rfl;rfl;rfl;rfl)|(apply zbf;rfl;rfl;rfl;rfl;rfl;rfl;exact zar rfl)|(apply zbE;rfl;rfl;rfl;rfl;rfl;rfl)|(apply zbX;rfl;rfl;rfl;rfl;rfl)|(apply zeo;rfl;rfl;rfl;rfl;rfl;omega)|(apply zds;rfl;rfl;rfl;rfl;rfl;omega)|(apply zaN;rfl;rfl;rfl;rfl;exact za7 rfl;(focus repeat' first|exact zaa|assumption|(apply Ext.get;assumption));(first|exact Nat.le_of_ble_eq_true rfl|(simp;done)|(simp;omega));rfl)|(apply zbb;rfl;rfl;rfl;rfl;exact zam rfl;rfl;rfl)|(apply zao;rfl;rfl;rfl;rfl;rfl;rfl;exact yes iS hs;(rintro _ _ ⟨rfl,_⟩))|(apply zao;rfl;rfl;rfl;rfl;rfl;rfl;exact iWb hs hl16 hno (by repeat' first|exact Ext.refl _|assumption|apply Ext.push|refine Ext.trans ?_ (by assumption));(rintro _ _ ⟨rfl,_⟩))|(apply zao;rfl;rfl;rfl;rfl;rfl;rfl;exact iDb hs hl16 hno (by repeat' first|exact Ext.refl _|assumption|apply Ext.push|refine Ext.trans ?_ (by assumption));(rintro _ _ ⟨rfl,_⟩))|(apply zao;rfl;rfl;rfl;rfl;rfl;rfl;exact yes (iT hs (by repeat' first|exact Ext.refl _|assumption|apply Ext.push|refine Ext.trans ?_ (by assumption))) hP;(rintro _ _ ⟨rfl,_⟩))|(apply zao;rfl;rfl;rfl;rfl;rfl;rfl;exact no (iK hs hl16 (by repeat' first|exact Ext.refl _|assumption|apply Ext.push|refine Ext.trans ?_ (by assumption))) hKp;(rintro _ _ ⟨rfl,_⟩))|(apply zao;rfl;rfl;rfl;rfl;rfl;rfl;exact zdR hKn;(rintro _ _ ⟨rfl,_⟩))|fail))
     exact ⟨.inr rfl, _, rfl, rfl⟩
   ·have hno : ¬ (TbP ⟨q, kq, s, r, o⟩ /\ zb3 s.length l) := fun w => hP w.1
    (repeat' (first|apply zal|apply zac|(apply O_at;rfl)|(apply zai;rfl)|apply zak|(apply zaR;rfl)|(apply zaU;rfl)|apply zaD|apply zaH|apply zbF|apply zat|(apply zcM;rfl;rfl;rfl)|((first|apply zaf|apply zad|apply zcy);rfl;rfl;rfl;rfl)|(apply zbf;rfl;rfl;rfl;rfl;rfl;rfl;exact zar rfl)|(apply zbE;rfl;rfl;rfl;rfl;rfl;rfl)|(apply zbX;rfl;rfl;rfl;rfl;rfl)|(apply zeo;rfl;rfl;rfl;rfl;rfl;omega)|(apply zds;rfl;rfl;rfl;rfl;rfl;omega)|(apply zaN;rfl;rfl;rfl;rfl;exact za7 rfl;(focus repeat' first|exact zaa|assumption|(apply Ext.get;assumption));(first|exact Nat.le_of_ble_eq_true rfl|(simp;done)|(simp;omega));rfl)|(apply zbb;rfl;rfl;rfl;rfl;exact zam rfl;rfl;rfl)|(apply zao;rfl;rfl;rfl;rfl;rfl;rfl;exact yes iS hs;(rintro _ _ ⟨rfl,_⟩))|(apply zao;rfl;rfl;rfl;rfl;rfl;rfl;exact iWb hs hl16 hno (by repeat' first|exact Ext.refl _|assumption|apply Ext.push|refine Ext.trans ?_ (by assumption));(rintro _ _ ⟨rfl,_⟩))|(apply zao;rfl;rfl;rfl;rfl;rfl;rfl;exact iDb hs hl16 hno (by repeat' first|exact Ext.refl _|assumption|apply Ext.push|refine Ext.trans ?_ (by assumption));(rintro _ _ ⟨rfl,_⟩))|(apply zao;rfl;rfl;rfl;rfl;rfl;rfl;exact no (iT hs (by repeat' first|exact Ext.refl _|assumption|apply Ext.push|refine Ext.trans ?_ (by assumption))) hP;(rintro _ _ ⟨rfl,_⟩))|(apply zao;rfl;rfl;rfl;rfl;rfl;rfl;exact zdR hKn;(rintro _ _ ⟨rfl,_⟩))|fail))
    exact ⟨.inr rfl, _, rfl, rfl⟩
  ·(repeat' (first|apply zal|apply zac|(apply O_at;rfl)|(apply zai;rfl)|apply zak|(apply zaR;rfl)|apply zaH|apply zbF|apply zat|((first|apply zaf|apply zad|apply zcy);rfl;rfl;rfl;rfl)|(apply zbf;rfl;rfl;rfl;rfl;rfl;rfl;exact zar rfl)|(apply zbE;rfl;rfl;rfl;rfl;rfl;rfl)|(apply zg2;rfl;rfl;rfl;rfl;rfl;omega)|(apply zaN;rfl;rfl;rfl;rfl;exact za7 rfl;(focus repeat' first|exact zaa|assumption|(apply Ext.get;assumption));(first|exact Nat.le_of_ble_eq_true rfl|(simp;done)|(simp;omega));rfl)|(apply zbb;rfl;rfl;rfl;rfl;exact zam rfl;rfl;rfl)|(apply zao;rfl;rfl;rfl;rfl;rfl;rfl;exact yes iS hs;(rintro _ _ ⟨rfl,_⟩))|(apply zao;rfl;rfl;rfl;rfl;rfl;rfl;exact zdR hKn;(rintro _ _ ⟨rfl,_⟩))|fail))
   exact ⟨.inr rfl, _, rfl, rfl⟩
 ·(repeat' (first|apply zal|apply zac|(apply O_at;rfl)|(apply zai;rfl)|apply zak|(apply zaR;rfl)|apply zaH|apply zbF|apply zat|(apply zcM;rfl;rfl;rfl)|((first|apply zaf|apply zad|apply zcy);rfl;rfl;rfl;rfl)|(apply zbE;rfl;rfl;rfl;rfl;rfl;rfl)|(apply zaN;rfl;rfl;rfl;rfl;exact za7 rfl;(focus repeat' first|exact zaa|assumption|(apply Ext.get;assumption));(first|exact Nat.le_of_ble_eq_true rfl|(simp;done)|(simp;omega));rfl)|(apply zbb;rfl;rfl;rfl;rfl;exact zam rfl;rfl;rfl)|(apply zao;rfl;rfl;rfl;rfl;rfl;rfl;exact no iS hs;(rintro _ _ ⟨rfl,_⟩))|(apply zao;rfl;rfl;rfl;rfl;rfl;rfl;exact zdR hKn;(rintro _ _ ⟨rfl,_⟩))|fail))
  exact ⟨.inr rfl, _, rfl, rfl⟩
end Go.AX.Sa
