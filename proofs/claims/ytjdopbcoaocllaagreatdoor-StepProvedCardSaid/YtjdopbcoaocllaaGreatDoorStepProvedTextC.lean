/- The law StepProved at the reading: what the functions that it calls answer (3). -/
import Derived.Test.YtjdopbcoaocllaaGreatDoorStepProvedTextB
namespace Go.AX.Sa
open Go.Proofs
set_option maxRecDepth 100000
variable {K : Known}
def rng (a : Int) (k : Nat) : List Int := (List.range k).map fun i => a + (i : Nat)
theorem zoS (a : Int) (k : Nat) : (rng a k).length = k := by simp [rng]
theorem rng_succ (a : Int) (k : Nat) : rng a (k + 1) = rng a k ++ [a + (k : Nat)] := by simp [rng, List.range_succ]
def zos (p : Int × Int) : List Int := rng p.1 (p.2 - p.1 + 1).toNat
theorem mem_rng {a x : Int} {k : Nat} : x ∈ rng a k ↔ a <= x /\ x < a + (k : Nat) := by
 simp only [rng, List.mem_map, List.mem_range]
 constructor
 ·rintro ⟨i, hi, rfl⟩
  omega
 ·intro h
  exact ⟨(x - a).toNat, by omega, by omega⟩
theorem zes (hK : NoK K) {bs l : Nat} {p : Int × Int} {e : TypeId} {own : Bool} {h : Heap} (hp : -1000000 <= p.1 /\ p.2 <= 1000000 /\ p.1 <= p.2 + 1) (I : Nat -> Heap -> Prop) (R : Heap -> Prop)
  (hb : ∀ k h', I k h' -> h'.get? bs = some (.cells [.int .i64 p.1, .int .i64 p.2] e own)) (h0 : I 0 h)
  (round : ∀ (k : Nat) h', p.1 + (k : Nat) <= p.2 -> I k h' -> RoundW Tryz.prog K l #[.int .i64 (p.1 + (k : Nat))] h' (fun r h1 => (r = .bool true /\ I (k + 1) h1) \/ (r = .bool false /\ R h1))) :
  CallW Tryz.prog K 144 #[.func (.yield l) #[] #[], .pointer (some ⟨bs, 0, none⟩)] h (fun _ h1 => I (p.2 - p.1 + 1).toNat h1 \/ R h1) := by
 have hb0 := hb 0 h h0
 refine body (N := 17) Tryz.func144 rfl (hK _ _ _ rfl) rfl rfl ?_
 (repeat' (first|apply zao|apply zac|(apply O_at;rfl)|(apply zaj;rfl)|apply zam|apply zaq|((first|apply zag|apply zad);rfl;rfl;rfl;rfl)|(apply P_fa;rfl;rfl;rfl;rfl;exact zbd rfl;(first|exact Nat.zero_add _|exact Nat.add_zero _|rfl))|(apply zat;rfl;rfl;rfl;rfl;exact zaK rfl;(focus repeat' first|assumption);(first|rfl|assumption))|fail))
 refine zbl (fun k : Nat => [(3, .int .i64 (p.1 + (k : Nat))), (0, .func (.yield l) #[] #[]), (1, .pointer (some ⟨bs, 0, none⟩))])
  (fun k h' => k <= (p.2 - p.1 + 1).toNat /\ I k h') (fun k => (p.2 - p.1 + 1).toNat - k) ?_ 0 ?_ ?_
 ·intro k h' ⟨hk1, hi⟩ ih
  have hb' := hb k h' hi
  by_cases hlt : p.1 + (k : Nat) <= p.2
  ·(repeat' (first|apply zao|apply zac|(apply O_at;rfl)|(apply zaj;rfl)|apply zam|(apply zaT;rfl)|apply zbr|apply zbF|apply za7|apply za8|apply zas|(apply zb9;rfl;rfl;rfl)|((first|apply zag|apply zad);rfl;rfl;rfl;rfl)|(apply P_fa;rfl;rfl;rfl;rfl;exact zbd rfl;(first|exact Nat.zero_add _|exact Nat.add_zero _|rfl))|(apply za4;rfl;rfl;rfl;rfl;rfl;rfl)|(apply zkg;rfl;rfl;rfl;rfl;rfl;all_goals intro _)|(apply zat;rfl;rfl;rfl;rfl;exact zaK rfl;(focus repeat' first|assumption);(first|rfl|assumption))|fail))
   ·apply P_yield; rfl; rfl; rfl; rfl; rfl
    ·exact round k h' hlt hi
    rintro _ h2 (⟨rfl, ha⟩ | ⟨rfl, ha⟩)
    ·(repeat' (first|apply zao|apply zac|(apply O_at;rfl)|(apply zaj;rfl)|apply zam|(apply zaY;rfl)|apply zaq|apply zaF|apply zaL|((first|apply zag|apply zad);rfl;rfl;rfl;rfl)|(apply za4;rfl;rfl;rfl;rfl;rfl;rfl)|(apply zbS;rfl;rfl;rfl;rfl;rfl;(unfold fit;omega))|fail))
     refine za5 (ih (k + 1) _ ?_ ⟨by omega, ha⟩) ?_
     ·omega
     ·refine ⟨?_, rfl, rfl, trivial⟩
      show some (Value.int .i64 (p.1 + (k : Nat) + 1)) = _
      congr 2
      omega
    ·(repeat' (first|(apply O_at;rfl)|(apply zaj;rfl)|apply zam|(apply zaT;rfl)|apply zbr|apply zbF|apply za7|apply za8|apply zas|(apply za4;rfl;rfl;rfl;rfl;rfl;rfl)|fail))
     exact ⟨.inl rfl, _, rfl, .inr ha⟩
   ·omega
  ·(repeat' (first|apply zao|apply zac|(apply O_at;rfl)|(apply zaj;rfl)|apply zam|(apply zaT;rfl)|apply zbr|apply zbF|apply za7|apply za8|apply zas|(apply zb9;rfl;rfl;rfl)|((first|apply zag|apply zad);rfl;rfl;rfl;rfl)|(apply P_fa;rfl;rfl;rfl;rfl;exact zbd rfl;(first|exact Nat.zero_add _|exact Nat.add_zero _|rfl))|(apply za4;rfl;rfl;rfl;rfl;rfl;rfl)|(apply zkg;rfl;rfl;rfl;rfl;rfl;all_goals intro _)|(apply zat;rfl;rfl;rfl;rfl;exact zaK rfl;(focus repeat' first|assumption);(first|rfl|assumption))|fail))
   ·omega
   ·refine ⟨.inl rfl, _, rfl, .inl ?_⟩
    have e : k = (p.2 - p.1 + 1).toNat := by omega
    subst e
    exact hi
 ·exact ⟨Nat.zero_le _, h0⟩
 ·refine ⟨?_, rfl, rfl, trivial⟩
  show some (Value.int .i64 p.1) = _
  congr 2
  omega
theorem zet (hK : NoK K) {a c : Int} {h : Heap} :
  CallW Tryz.prog K 115 #[.agg #[.int .i64 a, .int .i64 c]] h fun v h1 => Ext h h1 /\ ∃ bs, v = .func (.func 144) #[] #[.pointer (some ⟨bs, 0, none⟩)] /\ h.n <= bs /\ h1.get? bs = some (.cells [.int .i64 a, .int .i64 c] 72 true) := by
 refine body (N := 4) Tryz.func115 rfl (hK _ _ _ rfl) rfl rfl ?_
 (repeat' (first|apply zao|apply zac|(apply O_at;rfl)|(apply zaj;rfl)|apply zam|apply zaJ|apply zas|(apply zad;rfl;rfl;rfl;rfl)|(apply zfw;rfl;rfl;rfl;rfl;rfl)|(apply zbf;rfl;rfl;rfl;rfl;exact zan rfl;rfl;rfl)|fail))
 exact ⟨.inr rfl, _, rfl, by (focus repeat' first | exact Ext.refl _ | assumption | apply Ext.push), h.n, rfl, Nat.le_refl _, zaa⟩
theorem zkb (hK : NoK K) {p : Int × Int} {bs : Nat} {e : TypeId} {own : Bool} {h : Heap} (hp : -10000 <= p.1 /\ p.2 <= 10000 /\ p.1 <= p.2 + 1 /\ p.2 <= p.1 + 100) (hg : h.get? bs = some (.cells [.int .i64 p.1, .int .i64 p.2] e own)) :
  CallW Tryz.prog K 143 #[.slice none 0 0, .func (.func 144) #[] #[.pointer (some ⟨bs, 0, none⟩)]] h (IsL (zos p) h) := by
 have l1 := Heap.get_lt hg
 refine zlE (N := 13) 2 Tryz.func143 rfl (hK _ _ _ rfl) rfl rfl (by rfl) (by rfl) ?_
 (repeat' (first|apply zao|apply zac|(apply O_at;rfl)|(apply zaj;rfl)|apply zam|apply zaF|apply zas|((first|apply zag|apply zad);rfl;rfl;rfl;rfl)|(apply zbf;rfl;rfl;rfl;rfl;exact zan rfl;rfl;rfl)|fail))
 refine .inr ⟨rfl, _, #[], _, rfl, rfl, fun tm l hb r hE hrd hle hxb hbn hlb hdb => ?_⟩
 have hx0 : Ext h hb := by repeat' first|exact Ext.refl _|assumption|apply Ext.push|refine Ext.trans ?_ (by assumption)
 have hnn : h.n + 3 = hb.n := by simp only [Heap.push] at hbn; omega
 have hll : l = h.n + 2 := by simp only [Heap.push] at hle; omega
 have hgv := hxb.get zaa
 have key := zes (K := K) hK (bs := bs) (l := l) (p := p) (h := hb) (e := e) (own := own) (by omega)
  (fun k h' => (∃ v, OutI 3 hb h' v (rng p.1 k) /\ h'.get? h.n = some (.cells [v] 26 true)) /\ Ext h h' /\ hb.n <= h'.n /\ h'.get? l = some (.obj (.loop r)) /\ h'.get? (h.n + 1) = some (.obj (.deferred (some []))))
  (fun _ => False) ?_ ?_ ?_
 ·refine key.mono ?_
  rintro _ h2 (⟨⟨v, ho, hg⟩, hx2, hn2, hl2, hd2⟩ | w)
  ·refine ⟨none, by rw [zdr hrd]; exact hl2, fun h2' hk2 hn2' => ?_⟩
   have hx2' : Ext h h2' := hx2.keep1 (l := l) hk2 (by omega) (by omega)
   have hd2' := hk2 _ _ (by omega) hd2
   have hg' := hk2 _ _ (by omega) hg
   have ho' := ho.keepl hk2 (by omega)
   (repeat' (first|apply zao|apply zac|(apply O_at;rfl)|(apply zaj;rfl)|apply zam|apply zaq|apply zaF|apply zaJ|apply zbx|apply zaL|apply zas|((first|apply zag|apply zad);rfl;rfl;rfl;rfl)|(apply zat;rfl;rfl;rfl;rfl;exact zaK rfl;(focus repeat' first|exact zaa|assumption|apply zab|(apply Ext.get;assumption)|(apply ExtBut.get;assumption;(first|assumption|omega|(simp only [Heap.push];omega))));(first|rfl|assumption))|fail))
   refine ⟨.inr rfl, hd2', fun h4 hk4 hn4 => ⟨_, rfl, ?_⟩⟩
   have ho4 := ho'.keepl hk4 (by (first | omega | (simp only [Heap.push]; omega)))
   exact (ho4.low (h0' := h) (by omega)).isL (hx2'.keep1 (l := h.n + 1) hk4 (by omega) (by omega))
  ·exact w.elim
 ·rintro k h' ⟨_, hx, _⟩
  exact hx.get hg
 ·exact ⟨⟨_, OutI.nil _ _ _, hgv⟩, hx0, Nat.le_refl _, hlb, hdb⟩
 ·rintro k h' hkle ⟨⟨v, ho, hgb⟩, hx, hn, ql, qd⟩
  have hpl := zoS p.1 k
  refine zgj (N := 13) ql hrd rfl (EnvOK.param hE rfl) ?_
  (repeat' (first|apply zac|(apply O_at;rfl)|(apply zaj;rfl)|apply zas|((first|apply zag|apply zad);rfl;rfl;rfl;rfl)|fail))
  refine ⟨rfl, ql, fun B hs hsl hsk hsn => ?_⟩
  have hxs : Ext h hs := hx.keep1 (l := l) hsk (by omega) (by omega)
  have hgs := hsk _ _ (by omega) hgb
  have hos := ho.keepl hsk (by omega)
  (repeat' (first|apply zac|(apply O_at;rfl)|apply zaq|((first|apply zag|apply zad);rfl;rfl;rfl;rfl)|(apply zat;rfl;rfl;rfl;rfl;exact zaK rfl;(focus repeat' first|exact zaa|assumption|apply zab|(apply Ext.get;assumption)|(apply ExtBut.get;assumption;(first|assumption|omega|(simp only [Heap.push];omega))));(first|rfl|assumption))|(apply ziL;rfl;rfl;rfl;rfl;rfl;rfl;rfl;exact zft rfl)|fail))
  apply zql; rfl; rfl; rfl; rfl; rfl; rfl; rfl; rfl; exact zft rfl; exact zaB rfl; exact zaa; exact hos.ext (by repeat' first|exact Ext.refl _|assumption|apply Ext.push|refine Ext.trans ?_ (by assumption)); exact (by (first | omega | (simp only [Heap.push]; omega))); omega
  intro v' h3 o3 k3
  have kp : ∀ b y, b < hb.n -> hs.get? b = some y -> h3.get? b = some y := fun b y q g => k3.lo q (zab g)
  have n3 : hs.n + 1 <= h3.n := k3.n
  obtain ⟨cv, ov⟩ := o3.cells
  (repeat' (first|(apply O_at;rfl)|fail))
  refine zdB (c' := [v']) rfl rfl rfl rfl (kp _ _ (by omega) hgs) (zan rfl) (by rw [cv]; rfl) (Nat.le_of_ble_eq_true rfl) (by rw [cv]; simp [ov]) (by rw [cv]; rfl) ?_
  intro h4 g4 x4
  have n4 := x4.n
  (repeat' (first|(apply zaj;rfl)|apply zaL|apply zas|fail))
  refine ⟨x4.get (by omega) (kp _ _ (by omega) hsl), none, rfl, fun hf hfl hfk hfn => ?_⟩
  rw [zdr hrd] at hfl
  have o4 : OutI 3 hb hf v' (rng p.1 k ++ [p.1 + (k : Nat)]) := (o3.keepl (b0 := h.n) (fun b y q g => x4.get q g) (by omega)).keepl hfk (by omega)
  have xf : Ext h hf := ⟨by have := hx.n; omega, fun b y g => by
   have hbl := Heap.get_lt g
   exact hfk _ _ (by omega) (x4.get (by omega) (kp _ _ (by omega) (hxs.get g)))⟩
  have gf := hfk _ _ (by omega) g4
  have df := hfk _ _ (by omega) (x4.get (by omega) (kp _ _ (by omega) (hsk _ _ (by omega) qd)))
  rw [<- rng_succ] at o4
  exact .inl ⟨rfl, ⟨v', o4, gf⟩, xf, by omega, hfl, df⟩
theorem zn1 (hK : NoK K) {p : Int × Int} {bs : Nat} {e : TypeId} {own : Bool} {h : Heap} (hp : -10000 <= p.1 /\ p.2 <= 10000 /\ p.1 <= p.2 + 1 /\ p.2 <= p.1 + 100) (hg : h.get? bs = some (.cells [.int .i64 p.1, .int .i64 p.2] e own)) :
  CallW Tryz.prog K 114 #[.func (.func 144) #[] #[.pointer (some ⟨bs, 0, none⟩)]] h (IsL (zos p) h) := by
 refine body (N := 5) Tryz.func114 rfl (hK _ _ _ rfl) rfl rfl ?_
 (repeat' (first|apply zao|apply zac|(apply O_at;rfl)|(apply zaj;rfl)|apply zam|apply zaJ|apply zas|((first|apply zag|apply zad);rfl;rfl;rfl;rfl)|(apply zal;rfl;rfl;rfl;rfl;rfl;rfl;exact zkb hK hp hg;(rintro _ _ ⟨_,_,rfl,_,_⟩))|fail))
 rename_i hr hx
 exact ⟨.inr rfl, _, rfl, _, _, rfl, hr, hx⟩
end Go.AX.Sa

namespace Go.AX.Sa
open Go.Proofs
set_option maxRecDepth 100000
variable {K : Known}
def zkm (s : List (Int × Int)) (r o a c x y : Int) : Prop := ∀ j : Nat, a < (j : Nat) -> ((j : Nat) : Int) < c -> (s.getD j (0, 0)).1 - o <= rnd r (mixv a c j x y) (c - a) /\ rnd r (mixv a c j x y) (c - a) <= (s.getD j (0, 0)).2 + o
section
variable {T : Tb} {h : Heap} {A C : Nat} {x y : Int}
set_option maxHeartbeats 1000000 in
theorem zgV (hK : NoK K) {p : Option Addr} {n cap : Nat} (hP : TbP T) (hTb : TbAt T h) (hAC : A < C) (hC : C < T.s.length) (hx : -10000 <= x /\ x <= 10000) (hy : -10000 <= y /\ y <= 10000) :
  CallW Tryz.prog K 118 #[ktV T p n cap, .agg #[.int .i64 (A : Nat), .int .i64 (C : Nat)], .int .i64 x, .int .i64 y] h (IfB (zkm T.s T.r T.o (A : Nat) (C : Nat) x y) h) := by
 obtain ⟨q, kq, s, r, o⟩ := T
 have hn := hP.1
 have hV := hP.2.1
 have hru := hP.2.2.1
 have hOff := hP.2.2.2
 have hs0 := hTb.rd
 dsimp only [ktV, OffP] at hn hV hru hOff hs0 hC ⊢
 obtain ⟨bs, es, owns, rfl, hgs⟩ := hs0.at (by rw [zai]; omega)
 refine body (N := 48) Tryz.func118 rfl (hK _ _ _ rfl) rfl rfl ?_
 (repeat' (first|apply zao|apply zac|(apply O_at;rfl)|(apply zaj;rfl)|apply zam|apply zaq|((first|apply zag|apply zad|apply zaO|apply zfd);rfl;rfl;rfl;rfl)|((first|apply P_fa|apply M_fa);rfl;rfl;rfl;rfl;exact zbd rfl;(first|exact Nat.zero_add _|exact Nat.add_zero _|rfl))|((first|apply zbS|apply zqu);rfl;rfl;rfl;rfl;rfl;(unfold fit;omega))|(apply zat;rfl;rfl;rfl;rfl;exact zaK rfl;(focus repeat' first|exact zaa|assumption|apply zab|(apply Ext.get;assumption));(first|rfl|assumption))|(apply zbf;rfl;rfl;rfl;rfl;exact zan rfl;rfl;rfl)|fail))
 refine zbl (fun k : Nat => [(9, .int .i64 (k : Nat)), (5, .pointer (some ⟨h.n + 1, 0, none⟩)), (4, .pointer (some ⟨h.n, 0, none⟩)), (3, .int .i64 y), (2, .int .i64 x)])
  (fun k h' => (A + 1 <= k /\ k <= C) /\ Ext ((h.push (.cells [.slice (some ⟨bs, 0, none⟩) s.length kq, .int .i64 r, .int .i64 o, .slice p n cap] 82 true)).push (.cells [.int .i64 (A : Nat), .int .i64 (C : Nat)] 123 true)) h' /\ ∀ j : Nat, ((A : Nat) : Int) < (j : Nat) -> j < k -> (s.getD j (0, 0)).1 - o <= rnd r (mixv (A : Nat) (C : Nat) j x y) ((C : Int) - (A : Nat)) /\ rnd r (mixv (A : Nat) (C : Nat) j x y) ((C : Int) - (A : Nat)) <= (s.getD j (0, 0)).2 + o) (fun k => C - k) ?_ (A + 1) ?_ ?_
 ·rintro k h' ⟨hk, hx', hj⟩ ih
  have q1 : h'.get? h.n = some (.cells [.slice (some ⟨bs, 0, none⟩) s.length kq, .int .i64 r, .int .i64 o, .slice p n cap] 82 true) := hx'.get (zab zaa)
  have q2 : h'.get? (h.n + 1) = some (.cells [.int .i64 (A : Nat), .int .i64 (C : Nat)] 123 true) := hx'.get zaa
  have q3 := hx'.get (zab (zab hgs))
  by_cases hlt : k < C
  ·have hks : k < s.length := by omega
   have hv := hV k hks
   unfold ValP at hv
   by_cases hc : (s.getD k (0, 0)).1 - o <= rnd r (mixv (A : Nat) (C : Nat) k x y) ((C : Int) - (A : Nat)) /\ rnd r (mixv (A : Nat) (C : Nat) k x y) ((C : Int) - (A : Nat)) <= (s.getD k (0, 0)).2 + o
   ·(repeat' (first|apply zao|apply zac|(apply O_at;rfl)|(apply N_at;rfl)|(apply zaj;rfl)|apply zam|(apply zaY;rfl)|(apply zaT;rfl)|(apply zb5;exact za2 (by decide +kernel))|apply zaq|apply zaF|(apply zdk;rfl;refine .inr ?_;(focus repeat' first|exact trivial|exact Keeps.nil _ _|apply And.intro|rfl|(apply Keeps.cons;iterate 2 (focus repeat' first|exact zaa|assumption|apply zab|(apply Ext.get;assumption)))))|apply zaL|((first|apply zag|apply zad|apply zaO|apply zfd);rfl;rfl;rfl;rfl)|((first|apply P_fa|apply M_fa);rfl;rfl;rfl;rfl;exact zbd rfl;(first|exact Nat.zero_add _|exact Nat.add_zero _|rfl))|(apply zba;rfl;rfl;rfl;rfl;rfl;omega)|((first|apply zbS|apply zqu);rfl;rfl;rfl;rfl;rfl;(unfold fit;omega))|(apply zc2;rfl;rfl;rfl;rfl;rfl;exact zaB rfl;exact zan rfl;(first|assumption|rfl|exact (Int.toNat_of_nonneg (by omega)).symm);omega)|(apply zat;rfl;rfl;rfl;rfl;exact zaK rfl;(focus repeat' first|exact zaa|assumption|apply zab|(apply Ext.get;assumption));(first|rfl|assumption))|(apply zaA;rfl;rfl;rfl;rfl;exact zaX rfl;(focus repeat' first|exact zaa|assumption|apply zab|(apply Ext.get;assumption));(first|exact Nat.le_of_ble_eq_true rfl|(simp;done)|(simp;omega)|(rw [zai];omega));(first|exact zaD (by omega)|rfl))|(apply zaM;rfl;rfl;rfl;rfl;exact zan rfl;rfl;rfl;rfl)|(apply za0;rfl;rfl;rfl;rfl;exact zan rfl;rfl;rfl)|(apply zg8;rfl;rfl;rfl;rfl;rfl;(unfold fit;omega))|((first|((apply zeF;rfl;rfl;rfl;rfl;exact zaK rfl);(focus repeat' first|exact zaa|assumption|apply zab|(apply Ext.get;assumption));(first|rfl|assumption))|((apply ziN;rfl;rfl;rfl;rfl;exact zaX rfl);(focus repeat' first|exact zaa|assumption|apply zab|(apply Ext.get;assumption));(first|exact Nat.le_of_ble_eq_true rfl|(simp;done)|(simp;omega)|(rw [zai];omega));(first|exact zaD (by omega)|rfl)));(first|assumption|exact zbs _ _|exact zdL _ _|rfl|(focus simp [same,same.all2];done));(first|rfl|assumption|exact hwv _|(simp [within];omega)))|(apply zcn;rfl;rfl;rfl;rfl;rfl;rfl;rfl;exact zfu hK hx hy (by omega) (by omega) (by omega) (by omega) (by omega) hru;(rintro _ _ ⟨rfl,_⟩))|(apply zcn;rfl;rfl;rfl;rfl;rfl;rfl;rfl;exact yes (zbV hK) hc;(rintro _ _ ⟨rfl,_⟩))|fail))
    refine za5 (ih (k + 1) _ (by omega) ⟨by omega, by repeat' first|exact Ext.refl _|assumption|apply Ext.push|refine Ext.trans ?_ (by assumption), fun j h1 h2 => ?_⟩) (by (focus repeat' first | rfl | exact trivial | apply And.intro))
    by_cases hjk : j = k
    ·subst hjk; exact hc
    ·exact hj j h1 (by omega)
   ·(repeat' (first|apply zao|apply zac|(apply O_at;rfl)|(apply N_at;rfl)|(apply zaj;rfl)|apply zam|(apply zaY;rfl)|(apply zb5;exact za2 (by decide +kernel))|apply zaq|apply zaF|apply zaJ|(apply zdk;rfl;refine .inr ?_;(focus repeat' first|exact trivial|exact Keeps.nil _ _|apply And.intro|rfl|(apply Keeps.cons;iterate 2 (focus repeat' first|exact zaa|assumption|apply zab|(apply Ext.get;assumption)))))|apply zbx|apply zdF|apply zc4|apply zas|((first|apply zag|apply zad|apply zaO|apply zfd);rfl;rfl;rfl;rfl)|((first|apply P_fa|apply M_fa);rfl;rfl;rfl;rfl;exact zbd rfl;(first|exact Nat.zero_add _|exact Nat.add_zero _|rfl))|(apply zba;rfl;rfl;rfl;rfl;rfl;omega)|((first|apply zbS|apply zqu);rfl;rfl;rfl;rfl;rfl;(unfold fit;omega))|(apply zc2;rfl;rfl;rfl;rfl;rfl;exact zaB rfl;exact zan rfl;(first|assumption|rfl|exact (Int.toNat_of_nonneg (by omega)).symm);omega)|(apply zat;rfl;rfl;rfl;rfl;exact zaK rfl;(focus repeat' first|exact zaa|assumption|apply zab|(apply Ext.get;assumption));(first|rfl|assumption))|(apply zaA;rfl;rfl;rfl;rfl;exact zaX rfl;(focus repeat' first|exact zaa|assumption|apply zab|(apply Ext.get;assumption));(first|exact Nat.le_of_ble_eq_true rfl|(simp;done)|(simp;omega)|(rw [zai];omega));(first|exact zaD (by omega)|rfl))|(apply zaM;rfl;rfl;rfl;rfl;exact zan rfl;rfl;rfl;rfl)|(apply za0;rfl;rfl;rfl;rfl;exact zan rfl;rfl;rfl)|(apply zg8;rfl;rfl;rfl;rfl;rfl;(unfold fit;omega))|((first|((apply zeF;rfl;rfl;rfl;rfl;exact zaK rfl);(focus repeat' first|exact zaa|assumption|apply zab|(apply Ext.get;assumption));(first|rfl|assumption))|((apply ziN;rfl;rfl;rfl;rfl;exact zaX rfl);(focus repeat' first|exact zaa|assumption|apply zab|(apply Ext.get;assumption));(first|exact Nat.le_of_ble_eq_true rfl|(simp;done)|(simp;omega)|(rw [zai];omega));(first|exact zaD (by omega)|rfl)));(first|assumption|exact zbs _ _|exact zdL _ _|rfl|(focus simp [same,same.all2];done));(first|rfl|assumption|exact hwv _|(simp [within];omega)))|(apply zcn;rfl;rfl;rfl;rfl;rfl;rfl;rfl;exact zfu hK hx hy (by omega) (by omega) (by omega) (by omega) (by omega) hru;(rintro _ _ ⟨rfl,_⟩))|(apply zcn;rfl;rfl;rfl;rfl;rfl;rfl;rfl;exact no (zbV hK) hc;(rintro _ _ ⟨rfl,_⟩))|fail))
    exact ⟨.inr rfl, _, rfl, .inr ⟨rfl, fun z => hc (z k (by omega) (by omega)), by repeat' first|exact Ext.refl _|assumption|apply Ext.push|refine Ext.trans ?_ (by assumption)⟩⟩
  ·(repeat' (first|apply zao|apply zac|(apply O_at;rfl)|(apply zaj;rfl)|apply zam|(apply zaT;rfl)|apply zbr|apply zaJ|apply zbF|apply za7|apply za8|apply zas|((first|apply zag|apply zad|apply zaO|apply zfd);rfl;rfl;rfl;rfl)|((first|apply P_fa|apply M_fa);rfl;rfl;rfl;rfl;exact zbd rfl;(first|exact Nat.zero_add _|exact Nat.add_zero _|rfl))|(apply zbP;rfl;rfl;rfl;rfl;rfl;omega)|(apply zat;rfl;rfl;rfl;rfl;exact zaK rfl;(focus repeat' first|exact zaa|assumption|apply zab|(apply Ext.get;assumption));(first|rfl|assumption))|fail))
   exact ⟨.inr rfl, _, rfl, .inl ⟨rfl, fun j h1 h2 => hj j h1 (by omega), by repeat' first|exact Ext.refl _|assumption|apply Ext.push|refine Ext.trans ?_ (by assumption)⟩⟩
 ·exact ⟨⟨Nat.le_refl _, hAC⟩, Ext.refl _, fun j h1 h2 => by omega⟩
 ·(focus repeat' first | rfl | exact trivial | apply And.intro)
theorem zlH (hK : NoK K) {p : Option Addr} {n cap bk bp ba : Nat} {ok op oa : Bool} (hP : TbP T) (hTb : TbAt T h) (hAC : A < C) (hC : C < T.s.length) (hx : -10000 <= x /\ x <= 10000) (hy : -10000 <= y /\ y <= 10000)
  (gk : h.get? bk = some (.cells [.slice T.q T.s.length T.k, .int .i64 T.r, .int .i64 T.o, .slice p n cap] 82 ok)) (gp : h.get? bp = some (.cells [.int .i64 (A : Nat), .int .i64 (C : Nat)] 123 op)) (ga : h.get? ba = some (.cells [.int .i64 y] 3 oa)) :
  CallW Tryz.prog K 117 #[.int .i64 x, .pointer (some ⟨bk, 0, none⟩), .pointer (some ⟨bp, 0, none⟩), .pointer (some ⟨ba, 0, none⟩)] h (IfB (zkm T.s T.r T.o (A : Nat) (C : Nat) x y) h) := by
 have iB : ∀ {h' : Heap}, Ext h h' -> CallW Tryz.prog K 118 #[ktV T p n cap, .agg #[.int .i64 (A : Nat), .int .i64 (C : Nat)], .int .i64 x, .int .i64 y] h' (IfB (zkm T.s T.r T.o (A : Nat) (C : Nat) x y) h') := fun z => zgV hK hP (hTb.ext z) hAC hC hx hy
 obtain ⟨q, kq, s, r, o⟩ := T
 dsimp only [ktV] at iB gk ⊢
 refine body (N := 11) Tryz.func117 rfl (hK _ _ _ rfl) rfl rfl ?_
 by_cases hc : zkm s r o (A : Nat) (C : Nat) x y
 ·(repeat' (first|apply zao|apply zac|(apply O_at;rfl)|(apply zaj;rfl)|apply zam|apply zaJ|apply zas|((first|apply zag|apply zad);rfl;rfl;rfl;rfl)|(apply zat;rfl;rfl;rfl;rfl;exact zaK rfl;(focus repeat' first|assumption);(first|rfl|assumption))|(apply zaA;rfl;rfl;rfl;rfl;exact zaX rfl;(focus repeat' first|assumption);(first|exact Nat.le_of_ble_eq_true rfl|(simp;done)|(simp;omega));rfl)|(apply zal;rfl;rfl;rfl;rfl;rfl;rfl;exact yes (iB (by (focus repeat' first|exact Ext.refl _|assumption))) hc;(rintro _ _ ⟨rfl,_⟩))|fail))
  exact ⟨.inr rfl, _, rfl, .inl ⟨rfl, hc, by (focus repeat' first | exact Ext.refl _ | assumption)⟩⟩
 ·(repeat' (first|apply zao|apply zac|(apply O_at;rfl)|(apply zaj;rfl)|apply zam|apply zaJ|apply zas|((first|apply zag|apply zad);rfl;rfl;rfl;rfl)|(apply zat;rfl;rfl;rfl;rfl;exact zaK rfl;(focus repeat' first|assumption);(first|rfl|assumption))|(apply zaA;rfl;rfl;rfl;rfl;exact zaX rfl;(focus repeat' first|assumption);(first|exact Nat.le_of_ble_eq_true rfl|(simp;done)|(simp;omega));rfl)|(apply zal;rfl;rfl;rfl;rfl;rfl;rfl;exact no (iB (by (focus repeat' first|exact Ext.refl _|assumption))) hc;(rintro _ _ ⟨rfl,_⟩))|fail))
  exact ⟨.inr rfl, _, rfl, .inr ⟨rfl, hc, by (focus repeat' first | exact Ext.refl _ | assumption)⟩⟩
def zhr (s : List (Int × Int)) (r o : Int) (l : List Int) (a c y : Int) : Prop := ∃ x, x ∈ l /\ zkm s r o a c x y
theorem zpA (hK : NoK K) {l : List Int} {pl p : Option Addr} {cl n cap bk bp ba : Nat} {ok op oa : Bool} (hP : TbP T) (hTb : TbAt T h) (hAC : A < C) (hC : C < T.s.length) (hl : l.length <= 1000) (hx : ∀ x, x ∈ l -> -10000 <= x /\ x <= 10000) (hy : -10000 <= y /\ y <= 10000) (hr : Rd h pl (ints l))
  (gk : h.get? bk = some (.cells [.slice T.q T.s.length T.k, .int .i64 T.r, .int .i64 T.o, .slice p n cap] 82 ok)) (gp : h.get? bp = some (.cells [.int .i64 (A : Nat), .int .i64 (C : Nat)] 123 op)) (ga : h.get? ba = some (.cells [.int .i64 y] 3 oa)) :
  CallW Tryz.prog K 133 #[.slice pl l.length cl, .func (.func 117) #[] #[.pointer (some ⟨bk, 0, none⟩), .pointer (some ⟨bp, 0, none⟩), .pointer (some ⟨ba, 0, none⟩)]] h fun v h1 => ∃ n : Int, v = .int .i64 n /\ (0 <= n ↔ zhr T.s T.r T.o l (A : Nat) (C : Nat) y) /\ Ext h h1 := by
 have iB : ∀ {k : Nat} {h' : Heap}, k < l.length -> Ext h h' -> CallW Tryz.prog K 117 #[.int .i64 (l.getD k 0), .pointer (some ⟨bk, 0, none⟩), .pointer (some ⟨bp, 0, none⟩), .pointer (some ⟨ba, 0, none⟩)] h' (IfB (zkm T.s T.r T.o (A : Nat) (C : Nat) (l.getD k 0) y) h') := fun {k} _ hk z => zlH hK hP (hTb.ext z) hAC hC (hx _ (mem_at.2 ⟨k, hk, rfl⟩)) hy (z.get gk) (z.get gp) (z.get ga)
 refine body (N := 19) Tryz.func133 rfl (hK _ _ _ rfl) rfl rfl ?_
 (repeat' (first|apply zao|apply zac|(apply O_at;rfl)|(apply zaj;rfl)|apply zam|apply zaq|((first|apply zag|apply zad);rfl;rfl;rfl;rfl)|(apply zbk;rfl;rfl;rfl;rfl;rfl;rfl;exact zaB rfl)|fail))
 refine zbl (fun k : Nat => [(8, .int .i64 (k : Nat)), (7, .int .i64 (l.length : Nat)), (1, .func (.func 117) #[] #[.pointer (some ⟨bk, 0, none⟩), .pointer (some ⟨bp, 0, none⟩), .pointer (some ⟨ba, 0, none⟩)]), (0, .slice pl l.length cl)])
  (fun k h' => k <= l.length /\ Ext h h' /\ ∀ j, j < k -> ¬ zkm T.s T.r T.o (A : Nat) (C : Nat) (l.getD j 0) y) (fun k => l.length - k) ?_ 0 ⟨Nat.zero_le _, Ext.refl _, fun j hj => by omega⟩ ?_
 ·intro k h' ⟨hk, hx', hj⟩ ih
  by_cases hlt : k < l.length
  ·obtain ⟨b, e, own, rfl, hg⟩ := hr.at (by rw [zap]; omega)
   by_cases hc : zkm T.s T.r T.o (A : Nat) (C : Nat) (l.getD k 0) y
   ·(repeat' (first|apply zao|apply zac|(apply O_at;rfl)|(apply zaj;rfl)|apply zam|(apply zaY;rfl)|apply zaq|apply zaF|apply zaJ|apply zbx|apply zdF|apply zc4|apply zas|((first|apply zag|apply zad);rfl;rfl;rfl;rfl)|(apply zba;rfl;rfl;rfl;rfl;rfl;omega)|(apply zcF;rfl;rfl;rfl;rfl;rfl;exact zaB rfl;exact zan rfl;(first|assumption|rfl|exact (Int.toNat_of_nonneg (by omega)).symm);omega)|(apply zat;rfl;rfl;rfl;rfl;exact zaK rfl;(focus repeat' first|assumption|(apply Ext.get;assumption));(first|exact zaH (by omega)|rfl|assumption))|(apply zal;rfl;rfl;rfl;rfl;rfl;rfl;exact yes (iB hlt (by (focus repeat' first|exact Ext.refl _|assumption|(refine Ext.trans ?_ (by assumption))))) hc;(rintro _ _ ⟨rfl,_⟩))|fail))
    exact ⟨.inr rfl, _, rfl, (k : Int), rfl, ⟨fun _ => ⟨_, mem_at.2 ⟨k, hlt, rfl⟩, hc⟩, fun _ => by omega⟩, by (focus repeat' first | exact Ext.refl _ | assumption | (refine Ext.trans ?_ (by assumption)))⟩
   ·(repeat' (first|apply zao|apply zac|(apply O_at;rfl)|(apply zaj;rfl)|apply zam|(apply zaY;rfl)|(apply zaT;rfl)|apply zaq|apply zaF|apply zaL|((first|apply zag|apply zad);rfl;rfl;rfl;rfl)|(apply zba;rfl;rfl;rfl;rfl;rfl;omega)|(apply zbS;rfl;rfl;rfl;rfl;rfl;(unfold fit;omega))|(apply zcF;rfl;rfl;rfl;rfl;rfl;exact zaB rfl;exact zan rfl;(first|assumption|rfl|exact (Int.toNat_of_nonneg (by omega)).symm);omega)|(apply zat;rfl;rfl;rfl;rfl;exact zaK rfl;(focus repeat' first|assumption|(apply Ext.get;assumption));(first|exact zaH (by omega)|rfl|assumption))|(apply zal;rfl;rfl;rfl;rfl;rfl;rfl;exact no (iB hlt (by (focus repeat' first|exact Ext.refl _|assumption|(refine Ext.trans ?_ (by assumption))))) hc;(rintro _ _ ⟨rfl,_⟩))|fail))
    refine za5 (ih (k + 1) _ (by omega) ⟨hlt, by (focus repeat' first | exact Ext.refl _ | assumption | (refine Ext.trans ?_ (by assumption))), fun j hj' => ?_⟩) (by (focus repeat' first | rfl | exact trivial | apply And.intro))
    by_cases hjk : j = k
    ·subst hjk; exact hc
    ·exact hj j (by omega)
  ·(repeat' (first|apply zao|apply zac|(apply O_at;rfl)|(apply zaj;rfl)|apply zam|(apply zaT;rfl)|apply zbr|apply zaJ|apply zbF|apply za7|apply za8|apply zas|((first|apply zag|apply zad);rfl;rfl;rfl;rfl)|(apply zbP;rfl;rfl;rfl;rfl;rfl;omega)|fail))
   refine ⟨.inr rfl, _, rfl, -1, rfl, ⟨fun q => by omega, fun ⟨x, q1, q2⟩ => ?_⟩, by (focus repeat' first | exact Ext.refl _ | assumption | (refine Ext.trans ?_ (by assumption)))⟩
   obtain ⟨j, hj1, rfl⟩ := mem_at.1 q1
   exact absurd q2 (hj j (by omega))
 ·(focus repeat' first | rfl | exact trivial | apply And.intro)
theorem zj2 (hK : NoK K) {l : List Int} {pl p : Option Addr} {cl n cap bk bp ba : Nat} {ok op oa : Bool} (hP : TbP T) (hTb : TbAt T h) (hAC : A < C) (hC : C < T.s.length) (hl : l.length <= 1000) (hx : ∀ x, x ∈ l -> -10000 <= x /\ x <= 10000) (hy : -10000 <= y /\ y <= 10000) (hr : Rd h pl (ints l))
  (gk : h.get? bk = some (.cells [.slice T.q T.s.length T.k, .int .i64 T.r, .int .i64 T.o, .slice p n cap] 82 ok)) (gp : h.get? bp = some (.cells [.int .i64 (A : Nat), .int .i64 (C : Nat)] 123 op)) (ga : h.get? ba = some (.cells [.int .i64 y] 3 oa)) :
  CallW Tryz.prog K 116 #[.slice pl l.length cl, .func (.func 117) #[] #[.pointer (some ⟨bk, 0, none⟩), .pointer (some ⟨bp, 0, none⟩), .pointer (some ⟨ba, 0, none⟩)]] h (IfB (zhr T.s T.r T.o l (A : Nat) (C : Nat) y) h) := by
 refine body (N := 9) Tryz.func116 rfl (hK _ _ _ rfl) rfl rfl ?_
 (repeat' (first|apply zao|apply zac|(apply O_at;rfl)|(apply zaj;rfl)|apply zam|((first|apply zag|apply zad);rfl;rfl;rfl;rfl)|fail))
 apply zal; rfl; rfl; rfl; rfl; rfl; rfl; exact zpA hK hP hTb hAC hC hl hx hy hr gk gp ga
 rintro _ _ ⟨n, rfl, hn, hx⟩
 by_cases hc : 0 <= n
 ·(repeat' (first|(apply O_at;rfl)|(apply zaj;rfl)|apply zam|apply zaJ|apply zas|((first|apply zag|apply zad);rfl;rfl;rfl;rfl)|(apply zmX;rfl;rfl;rfl;rfl;rfl;omega)|fail))
  exact ⟨.inr rfl, _, rfl, .inl ⟨rfl, hn.1 hc, by (focus repeat' first | assumption)⟩⟩
 ·(repeat' (first|(apply O_at;rfl)|(apply zaj;rfl)|apply zam|apply zaJ|apply zas|((first|apply zag|apply zad);rfl;rfl;rfl;rfl)|(apply zmY;rfl;rfl;rfl;rfl;rfl;omega)|fail))
  exact ⟨.inr rfl, _, rfl, .inr ⟨rfl, fun q => hc (hn.2 q), by (focus repeat' first | assumption)⟩⟩
end
end Go.AX.Sa

namespace Go.AX.Sa
open Go.Proofs
set_option maxRecDepth 100000
variable {K : Known}
def filN (P : Int -> Prop) [DecidablePred P] (a : Int) : Nat -> List Int
 | 0 => []
 | k + 1 => if P (a + (k : Nat)) then filN P a k ++ [a + (k : Nat)] else filN P a k
section
variable {P : Int -> Prop} [DecidablePred P] {a : Int}
theorem zit {k : Nat} (h : P (a + (k : Nat))) : filN P a (k + 1) = filN P a k ++ [a + (k : Nat)] := if_pos h
theorem zlq {k : Nat} (h : ¬ P (a + (k : Nat))) : filN P a (k + 1) = filN P a k := if_neg h
theorem zmC : ∀ k, (filN P a k).length <= k := by
 intro k
 induction k with
 | zero => exact Nat.le_refl _
 | succ k ih =>
  by_cases h : P (a + (k : Nat))
  ·rw [zit h, List.length_append]; simp only [List.length_cons, List.length_nil]; omega
  ·rw [zlq h]; omega
theorem mem_filN {x : Int} : ∀ k, x ∈ filN P a k ↔ (a <= x /\ x < a + (k : Nat)) /\ P x := by
 intro k
 induction k with
 | zero => exact ⟨fun h => (by cases h), fun h => by omega⟩
 | succ k ih =>
  by_cases h : P (a + (k : Nat))
  ·rw [zit h, List.mem_append, ih, List.mem_singleton]
   constructor
   ·rintro (⟨w, p⟩ | rfl)
    ·exact ⟨by omega, p⟩
    ·exact ⟨by omega, h⟩
   ·rintro ⟨w, p⟩
    by_cases q : x = a + (k : Nat)
    ·exact .inr q
    ·exact .inl ⟨by omega, p⟩
  ·rw [zlq h, ih]
   refine ⟨fun ⟨w, p⟩ => ⟨by omega, p⟩, fun ⟨w, p⟩ => ⟨?_, p⟩⟩
   have : x ≠ a + (k : Nat) := fun q => h (q ▸ p)
   omega
end
noncomputable instance someDec (s : List (Int × Int)) (r o : Int) (l : List Int) (a c : Int) : DecidablePred (zhr s r o l a c) := fun _ => Classical.propDecidable _
noncomputable def canL (s : List (Int × Int)) (l : List Int) (r o : Int) : Nat -> List Int
 | 0 => zos (s.getD 0 (0, 0))
 | k + 1 => filN (zhr s r o (canL s l r o k) (l.getD k 0) (l.getD (k + 1) 0)) (s.getD (l.getD (k + 1) 0).toNat (0, 0)).1 ((s.getD (l.getD (k + 1) 0).toNat (0, 0)).2 - (s.getD (l.getD (k + 1) 0).toNat (0, 0)).1 + 1).toNat
theorem zp1 {s : List (Int × Int)} {l : List Int} {r o : Int} (hV : Vals s) (hn : 0 < s.length) (hKp : zbK s.length l) : ∀ k, k < l.length -> (∀ x, x ∈ canL s l r o k -> -10000 <= x /\ x <= 10000) /\ (canL s l r o k).length <= 100 := by
 intro k hk
 cases k with
 | zero =>
  have hv := hV 0 hn
  unfold ValP at hv
  refine ⟨fun x hx => ?_, ?_⟩
  ·have := mem_rng.1 (show x ∈ rng _ _ from hx)
   omega
  ·show (rng _ _).length <= 100
   rw [zoS]; omega
 | succ k =>
  have a := zct hKp hk
  have hv := hV (l.getD (k + 1) 0).toNat (by omega)
  unfold ValP at hv
  refine ⟨fun x hx => ?_, ?_⟩
  ·have := ((mem_filN _).1 (show x ∈ filN _ _ _ from hx)).1
   omega
  ·refine Nat.le_trans (zmC _) ?_
   omega
def CanP (s : List (Int × Int)) (l : List Int) (r o : Int) : Prop := 0 < (canL s l r o (l.length - 1)).length
set_option maxHeartbeats 4000000 in
theorem ziE (hK : NoK K) {T : Tb} {l : List Int} {b cap : Nat} {e : TypeId} {own : Bool} {h : Heap} (hP : TbP T) (hKp : zbK T.s.length l) (hcap : l.length <= cap) (hll : l.length <= 1000) (hTb : TbAt T h) (hg : h.get? b = some (.cells (ints l) e own)) :
  CallW Tryz.prog K 76 #[ktV T (some ⟨b, 0, none⟩) l.length cap] h (IfB (CanP T.s l T.r T.o) h) := by
 have iPr : ∀ {h' : Heap}, Ext h h' -> CallW Tryz.prog K 104 #[ktV T (some ⟨b, 0, none⟩) l.length cap] h' (IsP (prs l (l.length - 1)) h') := fun x => zmi hK ⟨hKp.1, hll⟩ hcap (x.get hg)
 have hTb' := hTb
 obtain ⟨q, kq, s, r, o⟩ := T
 have hn := hP.1
 have hV := hP.2.1
 have hG := hKp.2.2.2
 have hl2 := hKp.1
 have hs0 := hTb.rd
 dsimp only [ktV] at iPr hn hV hKp hs0 ⊢
 obtain ⟨bs, es, owns, rfl, hgs⟩ := hs0.at (by rw [zai]; omega)
 have hv0 := hV 0 (by omega)
 unfold ValP at hv0
 have z0 := (zp1 (r := r) (o := o) hV (by omega) hKp 0 (by omega)).2
 refine bodyM (N := 43) Tryz.func76 rfl (hK _ _ _ rfl) rfl rfl ?_
 refine zbE (zcx ?_)
 (repeat' (first|apply zac|(apply O_at;rfl)|(apply zaj;rfl)|apply zas|((first|apply zag|apply zad);rfl;rfl;rfl;rfl)|(apply zbf;rfl;rfl;rfl;rfl;exact zan rfl;rfl;rfl)|fail))
 refine Or.inl ⟨rfl, ?_⟩
 refine zbE (zcx ?_)
 (repeat' (first|apply zac|(apply O_at;rfl)|(apply P_fa;rfl;rfl;rfl;rfl;exact zbd rfl;(first|exact Nat.zero_add _|exact Nat.add_zero _|rfl))|(apply zc2;rfl;rfl;rfl;rfl;rfl;exact zaB rfl;exact zan rfl;(first|assumption|exact zq0|rfl|exact (Int.toNat_of_nonneg (by omega)).symm);omega)|(apply zat;rfl;rfl;rfl;rfl;exact zaK rfl;(focus repeat' first|exact zaa|assumption|apply zab|(apply Ext.get;assumption)|(apply ExtBut.get;assumption;(first|assumption|omega|(simp only [Heap.push];omega))));(first|rfl|assumption))|(apply zaA;rfl;rfl;rfl;rfl;exact zaX rfl;(focus repeat' first|exact zaa|assumption|apply zab|(apply Ext.get;assumption)|(apply ExtBut.get;assumption;(first|assumption|omega|(simp only [Heap.push];omega))));(first|exact Nat.le_of_ble_eq_true rfl|(simp;done)|(simp;omega)|(rw [zai];omega));(first|exact zaD (by omega)|rfl))|fail))
 apply zal; rfl; rfl; rfl; rfl; rfl; rfl; exact zet hK (a := (s.getD 0 (0, 0)).1) (c := (s.getD 0 (0, 0)).2)
 rintro _ h2 ⟨x2, bz, rfl, hbz, gz⟩
 (repeat' (first|(apply O_at;rfl)|fail))
 apply zal; rfl; rfl; rfl; rfl; rfl; rfl; exact zn1 hK (p := s.getD 0 (0, 0)) (by omega) gz
 rintro _ h3 ⟨pc, cc, rfl, rdc, x3⟩
 (repeat' (first|(apply O_at;rfl)|(apply zaj;rfl)|apply zas|(apply zaM;rfl;rfl;rfl;rfl;exact zan rfl;rfl;rfl;rfl)|(apply za0;rfl;rfl;rfl;rfl;exact zan rfl;rfl;rfl)|fail))
 refine Or.inl ⟨rfl, ?_⟩
 refine zbE (zcx ?_)
 (repeat' (first|apply zac|(apply O_at;rfl)|(apply zaA;rfl;rfl;rfl;rfl;exact zaX rfl;(focus repeat' first|exact zaa|assumption|apply zab|(apply Ext.get;assumption)|(apply ExtBut.get;assumption;(first|assumption|omega|(simp only [Heap.push];omega))));(first|exact Nat.le_of_ble_eq_true rfl|(simp;done)|(simp;omega)|(rw [zai];omega));(first|exact zaD (by omega)|rfl))|fail))
 apply zal; rfl; rfl; rfl; rfl; rfl; rfl; exact iPr (by (focus repeat' first | exact Ext.refl _ | assumption | apply Ext.push | (refine Ext.trans ?_ (by assumption)) | (refine Ext.ofBut ?_ (by assumption) (by first | exact Nat.le_refl _ | omega))))
 rintro _ h4 ⟨pp, cp, rfl, rp, fp, x4⟩
 have hpl := zh8 l (l.length - 1)
 obtain ⟨bp, ep, ownp, rfl, gp⟩ := rp.at (by rw [zai]; omega)
 have lbp := Heap.get_lt gp
 have fp' := fp _ rfl
 simp only [Heap.push] at fp'
 have n2 := x2.n
 have n3 := x3.n
 have n4 := x4.n
 simp only [Heap.push] at n2 n4
 have w3 : Ext h h3 := by (focus repeat' first | exact Ext.refl _ | assumption | apply Ext.push | (refine Ext.trans ?_ (by assumption)) | (refine Ext.ofBut ?_ (by assumption) (by first | exact Nat.le_refl _ | omega)))
 have w4 : Ext h h4 := w3.trans ((Ext.push (Ext.refl _) _).trans x4)
 have gc4 : h4.get? h3.n = some (.cells [.slice pc (zos (s.getD 0 (0, 0))).length cc] 26 true) := x4.get zaa
 have gk4 : h4.get? h.n = some (.cells [.slice (some ⟨bs, 0, none⟩) s.length kq, .int .i64 r, .int .i64 o, .slice (some ⟨b, 0, none⟩) l.length cap] 82 true) := x4.get (zab (x3.get (x2.get zaa)))
 have gs4 := w4.get hgs
 have lbs := Heap.get_lt hgs
 have rdc4 : Rd h4 pc (ints (zos (s.getD 0 (0, 0)))) := (rdc.ext (Ext.push (Ext.refl _) _)).ext x4
 rw [hpl]
 (repeat' (first|(apply O_at;rfl)|(apply zaj;rfl)|apply zas|((first|apply zag|apply zad);rfl;rfl;rfl;rfl)|(apply zbk;rfl;rfl;rfl;rfl;rfl;rfl;exact zaB rfl)|fail))
 refine Or.inl ⟨rfl, ?_⟩
 refine zbE (zeh (zqv (fun i : Nat => [(18, .int .i64 (i : Nat)), (17, .int .i64 ((l.length - 1 : Nat) : Int)), (16, .slice (some ⟨bp, 0, none⟩) (l.length - 1) cp), (3, .pointer (some ⟨h3.n, 0, none⟩)), (1, .pointer (some ⟨h.n, 0, none⟩))])
  (fun i h' M => i <= l.length - 1 /\ (∃ v, h'.get? h3.n = some (.cells [v] 26 true) /\ RdV h' v (canL s l r o i)) /\ ExtBut h3.n h4 h' /\ M.Nodup /\ (∀ r ∈ M, h'.get? r = some (.obj (.deferred (some [])))) /\ (∀ r ∈ M, h4.n <= r)) (fun i => l.length - 1 - i) ?_ 0 ?_ ?_))
 ·rintro i h' M ⟨hi, ⟨v, hv, pv, cv, rfl, rdv⟩, hx, hM1, hM2, hM3⟩ ih
  by_cases hlt : i < l.length - 1
  ·have hpi : i < (prs l (l.length - 1)).length := by omega
   have hpg := zo3 (l := l) (k := l.length - 1) hlt
   have a1 := zct hKp (i := i) (by omega)
   have a2 := zct hKp (i := i + 1) (by omega)
   have a3 := hG i (by omega)
   have e1 : ((prs l (l.length - 1)).getD i (0, 0)).1 = l.getD i 0 := by rw [hpg]
   have e2 : ((prs l (l.length - 1)).getD i (0, 0)).2 = l.getD (i + 1) 0 := by rw [hpg]
   obtain ⟨A, hA⟩ : ∃ A : Nat, l.getD i 0 = (A : Nat) := ⟨(l.getD i 0).toNat, by omega⟩
   obtain ⟨C, hC⟩ : ∃ C : Nat, l.getD (i + 1) 0 = (C : Nat) := ⟨(l.getD (i + 1) 0).toNat, by omega⟩
   have hn' := hx.n
   have gp' := hx.get (by omega) gp
   have gk' := hx.get (by omega) gk4
   have gs' := hx.get (by omega) gs4
   obtain ⟨ci, cl⟩ := zp1 (r := r) (o := o) hV (by omega) hKp i (by omega)
   refine zbE (zcx ?_)
   (repeat' (first|apply zac|(apply O_at;rfl)|(apply zaj;rfl)|apply zas|(apply zba;rfl;rfl;rfl;rfl;rfl;omega)|fail))
   refine Or.inl ⟨rfl, ?_⟩
   refine zbE (zcx ?_)
   (repeat' (first|(apply zaY;rfl)|apply zaF|apply zas|fail))
   refine Or.inl ⟨rfl, ?_⟩
   refine zbE (ziO (Q := fun e E1 h2 M1 => e = .normal /\ E1.get 18 = some (.int .i64 (i : Nat)) /\ E1.get 17 = some (.int .i64 ((l.length - 1 : Nat) : Int)) /\ E1.get 16 = some (.slice (some ⟨bp, 0, none⟩) (l.length - 1) cp) /\ E1.get 3 = some (.pointer (some ⟨h3.n, 0, none⟩)) /\ E1.get 1 = some (.pointer (some ⟨h.n, 0, none⟩)) /\
    (i + 1 <= l.length - 1 /\ (∃ v, h2.get? h3.n = some (.cells [v] 26 true) /\ RdV h2 v (canL s l r o (i + 1))) /\ ExtBut h3.n h4 h2 /\ M1.Nodup /\ (∀ r ∈ M1, h2.get? r = some (.obj (.deferred (some [])))) /\ (∀ r ∈ M1, h4.n <= r))) (zeh ?_) ?_)
   ·refine zbE (zcx ?_)
    (repeat' (first|apply zac|(apply O_at;rfl)|(apply zaj;rfl)|apply zas|(apply zc2;rfl;rfl;rfl;rfl;rfl;exact zaB rfl;exact zan rfl;(first|assumption|exact zq0|rfl|exact (Int.toNat_of_nonneg (by omega)).symm);omega)|(apply zaA;rfl;rfl;rfl;rfl;exact zaX rfl;(focus repeat' first|exact zaa|assumption|apply zab|(apply Ext.get;assumption)|(apply ExtBut.get;assumption;(first|assumption|omega|(simp only [Heap.push];omega))));(first|exact Nat.le_of_ble_eq_true rfl|(simp;done)|(simp;omega)|(rw [zai];omega));(first|exact zaD (by omega)|rfl))|(apply zaM;rfl;rfl;rfl;rfl;exact zan rfl;rfl;rfl;rfl)|(apply za0;rfl;rfl;rfl;rfl;exact zan rfl;rfl;rfl)|fail))
    simp only [e1, e2, hA, hC]
    refine Or.inl ⟨rfl, ?_⟩
    refine zbE (zcx ?_)
    (repeat' (first|apply zac|(apply O_at;rfl)|(apply zaj;rfl)|apply zas|(apply za0;rfl;rfl;rfl;rfl;exact zan rfl;rfl;rfl)|fail))
    refine Or.inl ⟨rfl, ?_⟩
    refine zbE (zbE (zcx ?_))
    have hCs : C < s.length := by omega
    have hvC := hV C hCs
    unfold ValP at hvC
    (repeat' (first|apply zac|(apply O_at;rfl)|(apply P_fa;rfl;rfl;rfl;rfl;exact zbd rfl;(first|exact Nat.zero_add _|exact Nat.add_zero _|rfl))|(apply zc2;rfl;rfl;rfl;rfl;rfl;exact zaB rfl;exact zan rfl;(first|assumption|exact zq0|rfl|exact (Int.toNat_of_nonneg (by omega)).symm);omega)|(apply zat;rfl;rfl;rfl;rfl;exact zaK rfl;(focus repeat' first|exact zaa|assumption|apply zab|(apply Ext.get;assumption)|(apply ExtBut.get;assumption;(first|assumption|omega|(simp only [Heap.push];omega))));(first|rfl|assumption))|(apply zaA;rfl;rfl;rfl;rfl;exact zaX rfl;(focus repeat' first|exact zaa|assumption|apply zab|(apply Ext.get;assumption)|(apply ExtBut.get;assumption;(first|assumption|omega|(simp only [Heap.push];omega))));(first|exact Nat.le_of_ble_eq_true rfl|(simp;done)|(simp;omega)|(rw [zai];omega));(first|exact zaD (by omega)|rfl))|fail))
    apply zal; rfl; rfl; rfl; rfl; rfl; rfl; exact zet hK (a := (s.getD C (0, 0)).1) (c := (s.getD C (0, 0)).2)
    rintro _ h6 ⟨x6, by_, rfl, hby, gy⟩
    (repeat' (first|(apply zaj;rfl)|apply zas|fail))
    refine Or.inl ⟨rfl, ?_⟩
    have n6 := x6.n
    simp only [Heap.push] at n6 hby
    have lby := Heap.get_lt gy
    have gk6 := x6.get (zab (zab gk'))
    have gp6 : h6.get? h'.n = some (.cells [.int .i64 (A : Nat), .int .i64 (C : Nat)] 123 true) := x6.get (zab zaa)
    have gn6 : h6.get? (h'.n + 1) = some (.cells [nilV] 26 true) := x6.get zaa
    have gv6 := x6.get (zab (zab hv))
    have w6 : Ext h' h6 := (((Ext.refl h').push _).push _).trans x6
    have hcan : canL s l r o (i + 1) = filN (zhr s r o (canL s l r o i) (A : Nat) (C : Nat)) (s.getD C (0, 0)).1 ((s.getD C (0, 0)).2 - (s.getD C (0, 0)).1 + 1).toNat := by
     show filN (zhr s r o (canL s l r o i) (l.getD i 0) (l.getD (i + 1) 0)) _ _ = _
     rw [hA, hC, Int.toNat_natCast]
    refine ziO (Q := fun e E1 h7 M1 => e = .normal /\ E1.get 18 = some (.int .i64 (i : Nat)) /\ E1.get 17 = some (.int .i64 ((l.length - 1 : Nat) : Int)) /\ E1.get 16 = some (.slice (some ⟨bp, 0, none⟩) (l.length - 1) cp) /\ E1.get 3 = some (.pointer (some ⟨h3.n, 0, none⟩)) /\ E1.get 1 = some (.pointer (some ⟨h.n, 0, none⟩)) /\ E1.get 6 = some (.pointer (some ⟨h'.n + 1, 0, none⟩)) /\
     (∃ v', h7.get? (h'.n + 1) = some (.cells [v'] 26 true) /\ OutI 3 h6 h7 v' (canL s l r o (i + 1))) /\ (∀ b x, b ≠ h'.n + 1 -> h6.get? b = some x -> h7.get? b = some x) /\ h6.n <= h7.n /\ M1 = h6.n :: M /\ h7.get? h6.n = some (.obj (.deferred (some []))))
     (zeh (zm8 (g0 := 144) (fi := #[]) (ca := #[.pointer (some ⟨by_, 0, none⟩)]) rfl rfl rfl ?_)) ?_
    ·intro tm lq hb rr hEO hr hlq hxb hbn hlb hdb
     refine (zes hK (e := 72) (own := true) (bs := by_) (l := lq) (p := s.getD C (0, 0)) (by omega)
      (fun k h8 => h8.get? lq = some (.obj (.loop rr)) /\ (∃ v, OutI 3 hb h8 v (filN (zhr s r o (canL s l r o i) (A : Nat) (C : Nat)) (s.getD C (0, 0)).1 k) /\ h8.get? (h'.n + 1) = some (.cells [v] 26 true)) /\ (∀ b x, b ≠ lq -> b ≠ h'.n + 1 -> hb.get? b = some x -> h8.get? b = some x) /\ hb.n <= h8.n)
      (fun _ => False) ?_ ?_ ?_).mono ?_
     ·rintro k h8 ⟨_, _, kk, _⟩
      exact kk by_ _ (by omega) (by omega) (hxb.get gy)
     ·exact ⟨hlb, ⟨_, OutI.nil _ _ _, hxb.get gn6⟩, fun b x _ _ g => g, Nat.le_refl _⟩
     ·rintro k h8 hle ⟨gl, ⟨v, ho, hgb⟩, kk, nn⟩
      refine zgj (N := 43) gl hr rfl (EnvOK.param hEO rfl) ?_
      (repeat' (first|apply zac|(apply O_at;rfl)|(apply zaj;rfl)|apply zas|(apply zaM;rfl;rfl;rfl;rfl;exact zan rfl;rfl;rfl;rfl)|(apply za0;rfl;rfl;rfl;rfl;exact zan rfl;rfl;rfl)|fail))
      refine ⟨rfl, by (focus repeat' first | exact zaa | assumption | apply zab | (apply Ext.get; assumption) | (apply ExtBut.get; assumption; (first | assumption | omega | (simp only [Heap.push]; omega)))), fun Bz hs hsl hsk hsn => ?_⟩
      simp only [Heap.push] at hsn
      have old : ∀ {b : Nat} {x : Blk}, b ≠ h'.n + 1 -> h6.get? b = some x -> hs.get? b = some x := fun {b} {x} q g => hsk b x (by have := Heap.get_lt g; omega) (zab (kk b x (by have := Heap.get_lt g; omega) q (hxb.get g)))
      have x's : Ext h' hs := ⟨by omega, fun b x g => old (by have := Heap.get_lt g; omega) (w6.get g)⟩
      have xhs : Ext h hs := (Ext.ofBut w4 hx (by omega)).trans x's
      have ga : hs.get? h8.n = some (.cells [.int .i64 ((s.getD C (0, 0)).1 + (k : Nat))] 3 true) := hsk _ _ (by omega) zaa
      have gks := x's.get gk'
      have gps := old (by omega) gp6
      have gvs := x's.get hv
      have gbs : hs.get? (h'.n + 1) = some (.cells [v] 26 true) := hsk _ _ (by omega) (zab hgb)
      have hos : OutI 3 hb hs v _ := (ho.ext (Ext.push (Ext.refl _) _)).keepl hsk (by omega)
      have hfl := zmC (P := zhr s r o (canL s l r o i) (A : Nat) (C : Nat)) (a := (s.getD C (0, 0)).1) k
      have iC : CallW Tryz.prog K 116 #[.slice pv (canL s l r o i).length cv, .func (.func 117) #[] #[.pointer (some ⟨h.n, 0, none⟩), .pointer (some ⟨h'.n, 0, none⟩), .pointer (some ⟨h8.n, 0, none⟩)]] hs (IfB (zhr s r o (canL s l r o i) (A : Nat) (C : Nat) ((s.getD C (0, 0)).1 + (k : Nat))) hs) :=
       zj2 hK hP (hTb'.ext xhs) (by omega) hCs (by omega) ci (by omega) (rdv.ext x's) gks gps ga
      by_cases hc : zhr s r o (canL s l r o i) (A : Nat) (C : Nat) ((s.getD C (0, 0)).1 + (k : Nat))
      ·(repeat' (first|apply zao|apply zac|(apply O_at;rfl)|(apply zaj;rfl)|apply zam|(apply zaY;rfl)|apply zaq|(apply zfw;rfl;rfl;rfl;rfl;rfl)|(apply zat;rfl;rfl;rfl;rfl;exact zaK rfl;(focus repeat' first|exact zaa|assumption|apply zab|(apply Ext.get;assumption)|(apply ExtBut.get;assumption;(first|assumption|omega|(simp only [Heap.push];omega))));(first|rfl|assumption))|(apply ziL;rfl;rfl;rfl;rfl;rfl;rfl;rfl;exact zft rfl)|(apply zal;rfl;rfl;rfl;rfl;rfl;rfl;exact yes iC hc;(rintro _ _ ⟨rfl,_⟩))|fail))
       rename_i h10 x10
       have n10 := x10.n
       apply zql; rfl; rfl; rfl; rfl; rfl; rfl; rfl; rfl; exact zft rfl; exact zaB rfl; exact zaa; exact (hos.ext x10).ext (Ext.push (Ext.refl _) _); exact (by simp only [Heap.push]; omega); omega
       intro v' h11 o11 k11
       have kp : ∀ b y, b < hb.n -> h10.get? b = some y -> h11.get? b = some y := fun b y q g => k11.lo q (zab g)
       have n11 : h10.n + 1 <= h11.n := k11.n
       obtain ⟨cv', ov⟩ := o11.cells
       (repeat' (first|(apply O_at;rfl)|fail))
       refine zdB (c' := [v']) rfl rfl rfl rfl (kp (h'.n + 1) _ (by omega) (x10.get gbs)) (zan rfl) (by rw [cv']; rfl) (Nat.le_of_ble_eq_true rfl) (by rw [cv']; simp [ov]) (by rw [cv']; rfl) ?_
       intro h12 g12 x12
       replace g12 : h12.get? (h'.n + 1) = some (.cells [v'] 26 true) := g12
       replace x12 : ExtBut (h'.n + 1) h11 h12 := x12
       have n12 := x12.n
       (repeat' (first|(apply zaj;rfl)|apply zaL|apply zas|fail))
       refine ⟨x12.get (by omega) (kp _ _ (by omega) (x10.get hsl)), none, rfl, fun hf hfl hfk hfn => Or.inl ⟨rfl, by rw [zdr hr] at hfl; exact hfl, ⟨v', ?_, hfk _ _ (by omega) g12⟩, fun b x q q2 g => hfk b x q (x12.get q2 (kp b x (Heap.get_lt g) (x10.get (hsk b x q (zab (kk b x q q2 g)))))), by omega⟩⟩
       rw [zit hc]
       exact (o11.keepl (b0 := h'.n + 1) (fun b y q g => x12.get q g) (by omega)).keepl hfk (by omega)
      ·(repeat' (first|apply zao|apply zac|(apply O_at;rfl)|(apply zaj;rfl)|apply zam|(apply zaT;rfl)|apply zaq|apply zaF|apply zaL|apply zas|(apply zfw;rfl;rfl;rfl;rfl;rfl)|(apply zat;rfl;rfl;rfl;rfl;exact zaK rfl;(focus repeat' first|exact zaa|assumption|apply zab|(apply Ext.get;assumption)|(apply ExtBut.get;assumption;(first|assumption|omega|(simp only [Heap.push];omega))));(first|rfl|assumption))|(apply zal;rfl;rfl;rfl;rfl;rfl;rfl;exact no iC hc;(rintro _ _ ⟨rfl,_⟩))|fail))
       rename_i h10 x10
       have n10 := x10.n
       refine ⟨x10.get hsl, none, rfl, fun hf hfl hfk hfn => Or.inl ⟨rfl, by rw [zdr hr] at hfl; exact hfl, ⟨v, ?_, hfk _ _ (by omega) (x10.get gbs)⟩, fun b x q q2 g => hfk b x q (x10.get (hsk b x q (zab (kk b x q q2 g)))), by omega⟩⟩
       rw [zlq hc]
       exact (hos.ext x10).keepl hfk (by omega)
     ·rintro _ h9 (⟨gl, ⟨v, ho, hgb⟩, kk, nn⟩ | w)
      ·refine ⟨none, by rw [zdr hr]; exact gl, fun h7 k7 n7 => KM_skip (Or.inr ⟨(by intro q; cases q), rfl, rfl, rfl, rfl, rfl, rfl, rfl, ⟨v, k7 _ _ (by omega) hgb, by rw [hcan]; exact (ho.keepl k7 (by omega)).low (h0' := h6) (by omega)⟩, fun b x q g => k7 b x (by have := Heap.get_lt g; omega) (kk b x (by have := Heap.get_lt g; omega) q (hxb.get g)), by omega, rfl, k7 _ _ (by omega) (kk _ _ (by omega) (by omega) hdb)⟩)⟩
      ·exact w.elim
    ·rintro _ E1 h7 M1 ⟨rfl, g18, g17, g16, g3, g1, g6, ⟨v', gv', ho'⟩, k7, n7, rfl, gm⟩
     have gv7 := k7 _ _ (by omega) gv6
     obtain ⟨cv', ov⟩ := ho'.cells
     refine Or.inl ⟨rfl, zfy (E' := [(18, .int .i64 (i : Nat)), (17, .int .i64 ((l.length - 1 : Nat) : Int)), (16, .slice (some ⟨bp, 0, none⟩) (l.length - 1) cp), (3, .pointer (some ⟨h3.n, 0, none⟩)), (1, .pointer (some ⟨h.n, 0, none⟩)), (6, .pointer (some ⟨h'.n + 1, 0, none⟩))]) (zcx ?_) ⟨g18, g17, g16, g3, g1, g6, trivial⟩⟩
     (repeat' (first|apply zac|(apply O_at;rfl)|(apply zat;rfl;rfl;rfl;rfl;exact zaK rfl;(focus repeat' first|exact zaa|assumption|apply zab|(apply Ext.get;assumption)|(apply ExtBut.get;assumption;(first|assumption|omega|(simp only [Heap.push];omega))));(first|rfl|assumption))|fail))
     refine zdB (c' := [v']) rfl rfl rfl rfl gv7 (zan rfl) (by rw [cv']; rfl) (Nat.le_of_ble_eq_true rfl) (by rw [cv']; simp [ov]) (by rw [cv']; rfl) ?_
     intro h12 g12 x12
     have n12 := x12.n
     (repeat' (first|(apply zaj;rfl)|apply zas|fail))
     have hmr : ∀ r ∈ M, r < h'.n := fun r q => Heap.get_lt (hM2 r q)
     refine Or.inr ⟨(by intro q; cases q), rfl, rfl, rfl, rfl, rfl, rfl, by omega, ⟨v', g12, OutI.rdV (e := 3) (h0 := h6) (OutI.but (e := 3) (h0 := h6) ho' x12 (by omega))⟩, ⟨by omega, fun b x ne g => x12.get ne (k7 b x (by have := Heap.get_lt g; omega) (w6.get (hx.get ne g)))⟩, List.nodup_cons.2 ⟨fun q => by have := hmr _ q; omega, hM1⟩, fun r q => ?_, fun r q => ?_⟩
     ·rcases List.mem_cons.1 q with rfl | q
      ·exact x12.get (by omega) gm
      ·have a := hM3 r q
       have c := hmr r q
       exact x12.get (by omega) (k7 r _ (by omega) (w6.get (hM2 r q)))
     ·rcases List.mem_cons.1 q with rfl | q
      ·omega
      ·exact hM3 r q
   ·rintro _ E1 h2 M1 ⟨rfl, g18, g17, g16, g3, g1, hJ⟩
    refine Or.inl ⟨rfl, zfy (E' := [(18, .int .i64 (i : Nat)), (17, .int .i64 ((l.length - 1 : Nat) : Int)), (16, .slice (some ⟨bp, 0, none⟩) (l.length - 1) cp), (3, .pointer (some ⟨h3.n, 0, none⟩)), (1, .pointer (some ⟨h.n, 0, none⟩))]) (zcx ?_) ⟨g18, g17, g16, g3, g1, trivial⟩⟩
    (repeat' (first|apply zac|(apply O_at;rfl)|(apply zaj;rfl)|apply zas|((first|apply zag|apply zad);rfl;rfl;rfl;rfl)|(apply zbS;rfl;rfl;rfl;rfl;rfl;(unfold fit;omega))|fail))
    exact Or.inl ⟨rfl, zfy (ih (i + 1) _ _ (by omega) hJ) (by (focus repeat' first | rfl | exact trivial | apply And.intro))⟩
  ·obtain rfl : i = l.length - 1 := by omega
   refine zbE (zcx ?_)
   (repeat' (first|apply zac|(apply O_at;rfl)|(apply zaj;rfl)|apply zas|(apply zbP;rfl;rfl;rfl;rfl;rfl;omega)|fail))
   refine Or.inl ⟨rfl, ?_⟩
   refine zbE (zcx ?_)
   (repeat' (first|(apply zaT;rfl)|apply zbr|apply zas|fail))
   refine Or.inr ⟨(by intro q; cases q), Or.inr ⟨(by intro q; cases q), Or.inl ⟨rfl, Or.inl ⟨rfl, zcx ?_⟩⟩⟩⟩
   have eh : Ext h h' := Ext.ofBut w4 hx (by omega)
   have wh : ∀ h2, (∀ b x, b ∉ M -> h'.get? b = some x -> h2.get? b = some x) -> h2.n = h'.n -> Ext h h2 := fun h2 k2 n2 => ⟨by rw [n2]; exact eh.n, fun q y g => k2 q y (fun w => by have := hM3 _ w; have := Heap.get_lt g; omega) (eh.get g)⟩
   by_cases hc : 0 < (canL s l r o (l.length - 1)).length
   ·(repeat' (first|apply zao|apply zac|(apply O_at;rfl)|(apply zaj;rfl)|apply zam|apply zaJ|apply zbx|apply zas|((first|apply zag|apply zad);rfl;rfl;rfl;rfl)|(apply zbk;rfl;rfl;rfl;rfl;rfl;rfl;exact zaB rfl)|(apply zkh;rfl;rfl;rfl;rfl;rfl;omega)|(apply zat;rfl;rfl;rfl;rfl;exact zaK rfl;(focus repeat' first|exact zaa|assumption|apply zab|(apply Ext.get;assumption)|(apply ExtBut.get;assumption;(first|assumption|omega|(simp only [Heap.push];omega))));(first|rfl|assumption))|fail))
    refine ⟨.inr rfl, hM1, hM2, fun h2 k2 n2 => ⟨_, rfl, ?_⟩⟩
    exact .inl ⟨rfl, hc, wh h2 k2 n2⟩
   ·(repeat' (first|apply zao|apply zac|(apply O_at;rfl)|(apply zaj;rfl)|apply zam|apply zaJ|apply zbx|apply zas|((first|apply zag|apply zad);rfl;rfl;rfl;rfl)|(apply zbk;rfl;rfl;rfl;rfl;rfl;rfl;exact zaB rfl)|(apply zfO;rfl;rfl;rfl;rfl;rfl;omega)|(apply zat;rfl;rfl;rfl;rfl;exact zaK rfl;(focus repeat' first|exact zaa|assumption|apply zab|(apply Ext.get;assumption)|(apply ExtBut.get;assumption;(first|assumption|omega|(simp only [Heap.push];omega))));(first|rfl|assumption))|fail))
    refine ⟨.inr rfl, hM1, hM2, fun h2 k2 n2 => ⟨_, rfl, ?_⟩⟩
    exact .inr ⟨rfl, hc, wh h2 k2 n2⟩
 ·exact ⟨Nat.zero_le _, ⟨_, gc4, pc, cc, rfl, rdc4⟩, ExtBut.refl _ _, List.nodup_nil, fun r q => (by cases q), fun r q => (by cases q)⟩
 ·(focus repeat' first | rfl | exact trivial | apply And.intro)
end Go.AX.Sa

namespace Go.AX.Sa
open Go.Proofs
set_option maxRecDepth 100000
variable {K : Known}
def WordP (s : List (Int × Int)) (l : List Int) (r o w : Int) : Prop := (zbU s l r o /\ w = 3) \/ (¬ zbU s l r o /\ CanP s l r o /\ w = 2) \/ (¬ zbU s l r o /\ ¬ CanP s l r o /\ w = 1)
theorem word_ex (s : List (Int × Int)) (l : List Int) (r o : Int) : ∃ w, WordP s l r o w := by
 by_cases h1 : zbU s l r o
 ·exact ⟨3, .inl ⟨h1, rfl⟩⟩
 ·by_cases h2 : CanP s l r o
  ·exact ⟨2, .inr (.inl ⟨h1, h2, rfl⟩)⟩
  ·exact ⟨1, .inr (.inr ⟨h1, h2, rfl⟩)⟩
section
variable {T : Tb} {l : List Int} {h : Heap}
theorem word_ok (hK : NoK K) {p : Option Addr} {cap : Nat} {w : Int} (hP : TbP T) (hKp : zbK T.s.length l) (hcap : l.length <= cap) (hll : l.length <= 1000) (hTb : TbAt T h) (hr : Rd h p (ints l)) (hpb : ∀ a, p = some a -> a.block < h.n) (hW : WordP T.s l T.r T.o w) :
  CallW Tryz.prog K 33 #[tbV T, .slice p l.length cap] h (IsV (.tuple #[.int .i64 w, .int .i64 0]) h) := by
 have hn := hP.1
 have hl2 := hKp.1
 obtain ⟨b, e, own, rfl, hg⟩ := hr.at (by rw [zap]; omega)
 have iK : ∀ {h' : Heap}, Ext h h' -> CallW Tryz.prog K 63 #[ktV T (some ⟨b, 0, none⟩) l.length cap] h' (IsV (.bool true) h') := fun x => yes (zdQ hK (by omega) hll (hTb.ext x) (hr.ext x) (fun a w => Nat.lt_of_lt_of_le (hpb a w) x.n)) ⟨hP, hKp⟩
 have iS : ∀ {h' : Heap}, Ext h h' -> CallW Tryz.prog K 75 #[ktV T (some ⟨b, 0, none⟩) l.length cap] h' (IfB (zbU T.s l T.r T.o) h') := fun x => zeZ hK hP hKp hcap hll (hTb.ext x) (x.get hg)
 have iC : ∀ {h' : Heap}, Ext h h' -> CallW Tryz.prog K 76 #[ktV T (some ⟨b, 0, none⟩) l.length cap] h' (IfB (CanP T.s l T.r T.o) h') := fun x => ziE hK hP hKp hcap hll (hTb.ext x) (x.get hg)
 obtain ⟨q, kq, s, r, o⟩ := T
 dsimp only [tbV, ktV] at iK iS iC hW ⊢
 refine body (N := 20) Tryz.func33 rfl (hK _ _ _ rfl) rfl rfl ?_
 rcases hW with ⟨h1, rfl⟩ | ⟨h1, h2, rfl⟩ | ⟨h1, h2, rfl⟩
 ·(repeat' (first|apply zao|apply zac|(apply O_at;rfl)|(apply zaj;rfl)|apply zam|(apply zaY;rfl)|(apply zaT;rfl)|apply zaq|apply zaJ|apply zbx|apply zc4|apply zas|((first|apply zag|apply zad|apply zbD);rfl;rfl;rfl;rfl)|(apply zaA;rfl;rfl;rfl;rfl;exact zaX rfl;(focus repeat' first|exact zaa|assumption|(apply Ext.get;assumption));(first|exact Nat.le_of_ble_eq_true rfl|(simp;done)|(simp;omega)|(rw [zap];omega));rfl)|(apply zaM;rfl;rfl;rfl;rfl;exact zan rfl;rfl;rfl;rfl)|(apply zcw;rfl;rfl;rfl;rfl)|(apply zbf;rfl;rfl;rfl;rfl;exact zan rfl;rfl;rfl)|(apply za0;rfl;rfl;rfl;rfl;exact zan rfl;rfl;rfl)|(apply zal;rfl;rfl;rfl;rfl;rfl;rfl;exact iK (by repeat' first|exact Ext.refl _|assumption|apply Ext.push|refine Ext.trans ?_ (by assumption));(rintro _ _ ⟨rfl,_⟩))|(apply zal;rfl;rfl;rfl;rfl;rfl;rfl;exact yes (iS (by repeat' first|exact Ext.refl _|assumption|apply Ext.push|refine Ext.trans ?_ (by assumption))) h1;(rintro _ _ ⟨rfl,_⟩))|fail))
  exact ⟨.inr rfl, _, rfl, rfl, by repeat' first|exact Ext.refl _|assumption|apply Ext.push|refine Ext.trans ?_ (by assumption)⟩
 ·(repeat' (first|apply zao|apply zac|(apply O_at;rfl)|(apply zaj;rfl)|apply zam|(apply zaY;rfl)|(apply zaT;rfl)|apply zaq|apply zaJ|apply zbx|apply zc4|apply zas|((first|apply zag|apply zad|apply zbD);rfl;rfl;rfl;rfl)|(apply zaA;rfl;rfl;rfl;rfl;exact zaX rfl;(focus repeat' first|exact zaa|assumption|(apply Ext.get;assumption));(first|exact Nat.le_of_ble_eq_true rfl|(simp;done)|(simp;omega)|(rw [zap];omega));rfl)|(apply zaM;rfl;rfl;rfl;rfl;exact zan rfl;rfl;rfl;rfl)|(apply zcw;rfl;rfl;rfl;rfl)|(apply zbf;rfl;rfl;rfl;rfl;exact zan rfl;rfl;rfl)|(apply za0;rfl;rfl;rfl;rfl;exact zan rfl;rfl;rfl)|(apply zal;rfl;rfl;rfl;rfl;rfl;rfl;exact iK (by repeat' first|exact Ext.refl _|assumption|apply Ext.push|refine Ext.trans ?_ (by assumption));(rintro _ _ ⟨rfl,_⟩))|(apply zal;rfl;rfl;rfl;rfl;rfl;rfl;exact no (iS (by repeat' first|exact Ext.refl _|assumption|apply Ext.push|refine Ext.trans ?_ (by assumption))) h1;(rintro _ _ ⟨rfl,_⟩))|(apply zal;rfl;rfl;rfl;rfl;rfl;rfl;exact yes (iC (by repeat' first|exact Ext.refl _|assumption|apply Ext.push|refine Ext.trans ?_ (by assumption))) h2;(rintro _ _ ⟨rfl,_⟩))|fail))
  exact ⟨.inr rfl, _, rfl, rfl, by repeat' first|exact Ext.refl _|assumption|apply Ext.push|refine Ext.trans ?_ (by assumption)⟩
 ·(repeat' (first|apply zao|apply zac|(apply O_at;rfl)|(apply zaj;rfl)|apply zam|(apply zaT;rfl)|apply zaq|apply zaF|apply zaJ|apply zaL|apply zas|((first|apply zag|apply zad|apply zbD);rfl;rfl;rfl;rfl)|(apply zaA;rfl;rfl;rfl;rfl;exact zaX rfl;(focus repeat' first|exact zaa|assumption|(apply Ext.get;assumption));(first|exact Nat.le_of_ble_eq_true rfl|(simp;done)|(simp;omega)|(rw [zap];omega));rfl)|(apply zaM;rfl;rfl;rfl;rfl;exact zan rfl;rfl;rfl;rfl)|(apply zcw;rfl;rfl;rfl;rfl)|(apply zbf;rfl;rfl;rfl;rfl;exact zan rfl;rfl;rfl)|(apply za0;rfl;rfl;rfl;rfl;exact zan rfl;rfl;rfl)|(apply zal;rfl;rfl;rfl;rfl;rfl;rfl;exact iK (by repeat' first|exact Ext.refl _|assumption|apply Ext.push|refine Ext.trans ?_ (by assumption));(rintro _ _ ⟨rfl,_⟩))|(apply zal;rfl;rfl;rfl;rfl;rfl;rfl;exact no (iS (by repeat' first|exact Ext.refl _|assumption|apply Ext.push|refine Ext.trans ?_ (by assumption))) h1;(rintro _ _ ⟨rfl,_⟩))|(apply zal;rfl;rfl;rfl;rfl;rfl;rfl;exact no (iC (by repeat' first|exact Ext.refl _|assumption|apply Ext.push|refine Ext.trans ?_ (by assumption))) h2;(rintro _ _ ⟨rfl,_⟩))|fail))
  exact ⟨.inr rfl, _, rfl, rfl, by repeat' first|exact Ext.refl _|assumption|apply Ext.push|refine Ext.trans ?_ (by assumption)⟩
end
end Go.AX.Sa

namespace Go.AX.Sa
open Go.Proofs
set_option maxRecDepth 100000
variable {K : Known}
end Go.AX.Sa

namespace Go.AX.Sa
open Go.Proofs
set_option maxRecDepth 100000
variable {K : Known}
section
variable {s : List (Int × Int)} {l t : List Int} {r o : Int}
theorem far_le (_hV : Vals s) (hKp : zbK s.length l) (hT : zb8 s t) {j : Nat} (hj : j < s.length) : figv l t r j - t.getD j 0 <= offv s l r j /\ t.getD j 0 - figv l t r j <= offv s l r j := by
 have hb : ∀ k : Nat, k < s.length -> (lows s).getD k 0 <= t.getD k 0 /\ t.getD k 0 <= (highs s).getD k 0 := fun k hk => by
  have := hT.2 k (by rw [hT.1]; exact hk)
  rw [zc9 hk, zcD hk]; exact this
 have b := hb j hj
 rw [zc9 hj, zcD hj] at b
 rcases zgi hKp hj with ⟨i, hi, hij⟩ | ⟨i, hi, h1, h2⟩
 ·have e : offv s l r j = 0 := if_pos (mem_at.2 ⟨i, hi, hij⟩)
  rw [zcj hKp.2.2.2 hi hij, e]; omega
 ·have a1 := zct hKp (i := i) (by omega)
  have a2 := zct hKp hi
  have hno : ¬ ((j : Nat) : Int) ∈ l := fun w => by
   have := (zlJ hKp hj).2 w
   rw [zj8 hKp.2.2.2 (j := (j : Nat)) (i := i) (by omega) (by omega) (fun _ => h2), zkd hKp.2.2.2 (j := (j : Nat)) (i := i + 1) hi (by omega) (fun m w => by rw [show m = i by omega]; exact h1)] at this
   omega
  have e : offv s l r j = max ((s.getD j (0, 0)).2 - figv l (lows s) r j) (figv l (highs s) r j - (s.getD j (0, 0)).1) := if_neg hno
  have b1 := hb (l.getD i 0).toNat (by omega)
  have b2 := hb (l.getD (i + 1) 0).toNat (by omega)
  have m1 : figv l (lows s) r j <= figv l t r j := by
   rw [zb2 hKp.2.2.2 hi h1 h2, zb2 hKp.2.2.2 hi h1 h2, zeu, zeu]
   exact zeO (by omega) (zeY (by omega) (by omega) b1.1 b2.1)
  have m2 : figv l t r j <= figv l (highs s) r j := by
   rw [zb2 hKp.2.2.2 hi h1 h2, zb2 hKp.2.2.2 hi h1 h2, zeu, zeu]
   exact zeO (by omega) (zeY (by omega) (by omega) b1.2 b2.2)
  rw [e]; omega
theorem zhw (hV : Vals s) (hKp : zbK s.length l) (hT : zb8 s t) (hS : zbU s l r o) : zfN s l t r o := fun j hj => by
 have := far_le (r := r) hV hKp hT hj
 have := hS j hj
 omega
end
end Go.AX.Sa

namespace Go.AX.Sa
open Go.Proofs
set_option maxRecDepth 100000
variable {K : Known}
def mxK (l : List Int) : Nat -> Int
 | 0 => l.getD 0 0
 | k + 1 => max (mxK l k) (l.getD (k + 1) 0)
theorem zkw (hK : NoK K) {t : List Int} {q : Option Addr} {cap : Nat} {h : Heap} (hp : 0 < t.length) (hl : t.length <= 100000) (hr : Rd h q (ints t)) :
  CallW Tryz.prog K 81 #[.slice q t.length cap] h (IsV (.int .i64 (mxK t (t.length - 1))) h) := by
 obtain ⟨b, e, own, rfl, hg⟩ := hr.at (by rw [zap]; omega)
 refine body (N := 25) Tryz.func81 rfl (hK _ _ _ rfl) rfl rfl ?_
 (repeat' (first|apply zao|apply zac|(apply O_at;rfl)|(apply zaj;rfl)|apply zam|(apply zaT;rfl)|apply zaq|apply zaF|((first|apply zag|apply zad);rfl;rfl;rfl;rfl)|(apply zbk;rfl;rfl;rfl;rfl;rfl;rfl;exact zaB rfl)|(apply zbP;rfl;rfl;rfl;rfl;rfl;omega)|(apply zcF;rfl;rfl;rfl;rfl;rfl;exact zaB rfl;exact zan rfl;(first|assumption|exact zq0|exact zqs _|rfl|exact (Int.toNat_of_nonneg (by omega)).symm);omega)|(apply zat;rfl;rfl;rfl;rfl;exact zaK rfl;(focus repeat' first|assumption|(apply Ext.get;assumption));(first|exact zaH (by omega)|rfl|assumption))|fail))
 refine zbl (fun k : Nat => [(4, .int .i64 ((k : Nat) + 1)), (3, .int .i64 (mxK t k)), (0, .slice (some ⟨b, 0, none⟩) t.length cap)])
  (fun k h' => k <= t.length - 1 /\ Ext h h') (fun k => t.length - k) ?_ 0 ?_ ?_
 ·intro k h' ⟨hk, hx⟩ ih
  have hg' := hx.get hg
  by_cases hlt : k + 1 < t.length
  ·have hlt' : (k : Int) + 1 < t.length := by omega
   (repeat' (first|apply zao|apply zac|(apply O_at;rfl)|(apply zaj;rfl)|apply zam|(apply zaY;rfl)|apply zaq|apply zaF|apply zaL|((first|apply zag|apply zad);rfl;rfl;rfl;rfl)|(apply zbk;rfl;rfl;rfl;rfl;rfl;rfl;exact zaB rfl)|(apply zba;rfl;rfl;rfl;rfl;rfl;omega)|(apply zbS;rfl;rfl;rfl;rfl;rfl;(unfold fit;omega))|(apply zcF;rfl;rfl;rfl;rfl;rfl;exact zaB rfl;exact zan rfl;(first|assumption|exact zq0|exact zqs _|rfl|exact (Int.toNat_of_nonneg (by omega)).symm);omega)|(apply zat;rfl;rfl;rfl;rfl;exact zaK rfl;(focus repeat' first|assumption|(apply Ext.get;assumption));(first|exact zaH (by omega)|rfl|assumption))|(apply P_max;rfl;rfl;rfl;rfl;rfl;rfl)|fail))
   exact za5 (ih (k + 1) _ (by omega) ⟨by omega, by (focus repeat' first | exact Ext.refl _ | assumption)⟩) ⟨rfl, (by
    show _ = some (Value.int .i64 (max (mxK t k) (t.getD (k + 1) 0)))
    rfl), rfl, trivial⟩
  ·have hlt' : ¬ ((k : Int) + 1 < t.length) := by omega
   have : k = t.length - 1 := by omega
   subst this
   (repeat' (first|apply zao|apply zac|(apply O_at;rfl)|(apply zaj;rfl)|apply zam|(apply zaT;rfl)|apply zbr|apply zaJ|apply zbF|apply za7|apply za8|apply zas|((first|apply zag|apply zad);rfl;rfl;rfl;rfl)|(apply zbk;rfl;rfl;rfl;rfl;rfl;rfl;exact zaB rfl)|(apply zbP;rfl;rfl;rfl;rfl;rfl;omega)|fail))
   exact ⟨.inr rfl, _, rfl, rfl, by (focus repeat' first | exact Ext.refl _ | assumption)⟩
 ·exact ⟨Nat.zero_le _, by (focus repeat' first | exact Ext.refl _ | assumption)⟩
 ·(focus repeat' first | rfl | exact trivial | apply And.intro)
def lst (s : List (Int × Int)) (l : List Int) (r : Int) : Nat -> Int
 | 0 => 0
 | k + 1 => max (lst s l r k) (offv s l r k)
theorem lst_le {s : List (Int × Int)} {l : List Int} {r o : Int} (ho : 0 <= o) : ∀ k, lst s l r k <= o ↔ ∀ j, j < k -> offv s l r j <= o := by
 intro k
 induction k with
 | zero => exact ⟨fun _ j hj => absurd hj (Nat.not_lt_zero _), fun _ => ho⟩
 | succ k ih =>
  have e : lst s l r (k + 1) = max (lst s l r k) (offv s l r k) := rfl
  constructor
  ·intro h j hj
   by_cases q : j = k
   ·subst q; omega
   ·exact ih.1 (by omega) j (by omega)
  ·intro h
   have a := ih.2 fun j hj => h j (by omega)
   have b := h k (Nat.lt_succ_self k)
   omega
theorem lst_lo (s : List (Int × Int)) (l : List Int) (r : Int) : ∀ k, 0 <= lst s l r k := by
 intro k
 induction k with
 | zero => exact Int.le_refl _
 | succ k ih => have e : lst s l r (k + 1) = max (lst s l r k) (offv s l r k) := rfl; omega
theorem mx_lst {s : List (Int × Int)} {l : List Int} {r : Int} {n : Nat} (h0 : offv s l r 0 = 0) : ∀ k, k < n -> mxK (offs s l r n) k = lst s l r (k + 1) := by
 intro k
 induction k with
 | zero =>
  intro hk
  show (offs s l r n).getD 0 0 = max 0 (offv s l r 0)
  rw [zf2 hk, h0]; rfl
 | succ k ih =>
  intro hk
  show max (mxK (offs s l r n) k) ((offs s l r n).getD (k + 1) 0) = max (lst s l r (k + 1)) (offv s l r (k + 1))
  rw [ih (by omega), zf2 hk]
section
variable {T : Tb} {l : List Int} {h : Heap}
theorem ziW (hK : NoK K) {p : Option Addr} {cap : Nat} (hP : TbP T) (hKp : zbK T.s.length l) (hcap : l.length <= cap) (hll : l.length <= 1000) (hTb : TbAt T h) (hr : Rd h p (ints l)) (hpb : ∀ a, p = some a -> a.block < h.n) :
  CallW Tryz.prog K 39 #[tbV T, .slice p l.length cap] h (IsV (.tuple #[.int .i64 (lst T.s l T.r T.s.length), .int .i64 0]) h) := by
 have hn := hP.1
 have hl2 := hKp.1
 obtain ⟨b, e, own, rfl, hg⟩ := hr.at (by rw [zap]; omega)
 have iK : ∀ {h' : Heap}, Ext h h' -> CallW Tryz.prog K 63 #[ktV T (some ⟨b, 0, none⟩) l.length cap] h' (IsV (.bool true) h') := fun x => yes (zdQ hK (by omega) hll (hTb.ext x) (hr.ext x) (fun a w => Nat.lt_of_lt_of_le (hpb a w) x.n)) ⟨hP, hKp⟩
 have iO : ∀ {h' : Heap}, Ext h h' -> CallW Tryz.prog K 82 #[ktV T (some ⟨b, 0, none⟩) l.length cap] h' (IsL (offs T.s l T.r T.s.length) h') := fun x => zk4 hK hP hKp hcap hll (hTb.ext x) (x.get hg)
 have h0 : offv T.s l T.r 0 = 0 := if_pos (mem_at.2 ⟨0, by omega, hKp.2.1⟩)
 have hmx := mx_lst (n := T.s.length) h0 (T.s.length - 1) (by omega)
 rw [show T.s.length - 1 + 1 = T.s.length by omega] at hmx
 have iM : ∀ {pm : Option Addr} {cm : Nat} {h' : Heap}, Rd h' pm (ints (offs T.s l T.r T.s.length)) -> CallW Tryz.prog K 81 #[.slice pm (offs T.s l T.r T.s.length).length cm] h' (IsV (.int .i64 (lst T.s l T.r T.s.length)) h') := by
  intro pm cm h' g
  have hol := zd9 T.s l T.r T.s.length
  have := zkw (cap := cm) hK (by omega) (by omega) g
  rw [hol, hmx] at this
  rw [hol]
  exact this
 obtain ⟨q, kq, s, r, o⟩ := T
 dsimp only [tbV, ktV] at iK iO iM ⊢
 refine body (N := 16) Tryz.func39 rfl (hK _ _ _ rfl) rfl rfl ?_
 (repeat' (first|apply zao|apply zac|(apply O_at;rfl)|(apply zaj;rfl)|apply zam|(apply zaT;rfl)|apply zaF|((first|apply zag|apply zad|apply zbD);rfl;rfl;rfl;rfl)|(apply zaA;rfl;rfl;rfl;rfl;exact zaX rfl;(focus repeat' first|exact zaa|assumption|(apply Ext.get;assumption));(first|exact Nat.le_of_ble_eq_true rfl|(simp;done)|(simp;omega)|(rw [zap];omega));rfl)|(apply zaM;rfl;rfl;rfl;rfl;exact zan rfl;rfl;rfl;rfl)|(apply zcw;rfl;rfl;rfl;rfl)|(apply zbf;rfl;rfl;rfl;rfl;exact zan rfl;rfl;rfl)|(apply za0;rfl;rfl;rfl;rfl;exact zan rfl;rfl;rfl)|(apply zal;rfl;rfl;rfl;rfl;rfl;rfl;exact iK (by repeat' first|exact Ext.refl _|assumption|apply Ext.push|refine Ext.trans ?_ (by assumption));(rintro _ _ ⟨rfl,_⟩))|(apply zal;rfl;rfl;rfl;rfl;rfl;rfl;exact iO (by repeat' first|exact Ext.refl _|assumption|apply Ext.push|refine Ext.trans ?_ (by assumption));(rintro _ _ ⟨_,_,rfl,_,_⟩))|fail))
 rename_i h1 x1 h2 fq fc frd fx
 (repeat' (first|(apply O_at;rfl)|(apply zaj;rfl)|apply zam|apply zaJ|apply zas|((first|apply zag|apply zad|apply zbD);rfl;rfl;rfl;rfl)|(apply zal;rfl;rfl;rfl;rfl;rfl;rfl;exact iM frd;(rintro _ _ ⟨rfl,_⟩))|fail))
 exact ⟨.inr rfl, _, rfl, rfl, by repeat' first|exact Ext.refl _|assumption|apply Ext.push|refine Ext.trans ?_ (by assumption)⟩
end
end Go.AX.Sa

namespace Go.AX.Sa
open Go.Proofs
set_option maxRecDepth 100000
variable {K : Known}
def nar (s : List (Int × Int)) (j : Nat) (n : Int) : List (Int × Int) := s.set j (n, n)
theorem zcr (s : List (Int × Int)) (j : Nat) (n : Int) : (nar s j n).length = s.length := by simp [nar]
theorem zdi {s : List (Int × Int)} {j k : Nat} {n : Int} (hj : j < s.length) : (nar s j n).getD k (0, 0) = if k = j then (n, n) else s.getD k (0, 0) := by
 simp only [nar, List.getD_eq_getElem?_getD, List.getElem?_set]
 by_cases h : j = k
 ·subst h; simp [hj]
 ·rw [if_neg h, if_neg (fun q => h q.symm)]
theorem zik {s : List (Int × Int)} {j k : Nat} {n : Int} (hj : j < s.length) (hk : k < s.length) : (lows (nar s j n)).getD k 0 = if k = j then n else (lows s).getD k 0 := by
 rw [zc9 (by rw [zcr]; exact hk), zdi hj, zc9 hk]
 split <;> rfl
theorem zgy {s : List (Int × Int)} {j k : Nat} {n : Int} (hj : j < s.length) (hk : k < s.length) : (highs (nar s j n)).getD k 0 = if k = j then n else (highs s).getD k 0 := by
 rw [zcD (by rw [zcr]; exact hk), zdi hj, zcD hk]
 split <;> rfl
theorem zij {s : List (Int × Int)} {j : Nat} {n : Int} (hV : Vals s) (hj : j < s.length) (hn : (s.getD j (0, 0)).1 <= n /\ n <= (s.getD j (0, 0)).2) : Vals (nar s j n) := by
 intro k hk
 rw [zcr] at hk
 rw [zdi hj]
 have a := hV k hk
 have b := hV j hj
 unfold ValP at *
 split <;> (try dsimp only) <;> omega
section
variable {s : List (Int × Int)} {l : List Int} {r o : Int}
theorem zpK {t u : List Int} (hKp : zbK s.length l) {j : Nat} (hj : j < s.length) (h : ∀ k : Nat, k < s.length -> ((k : Nat) : Int) ∈ l -> t.getD k 0 <= u.getD k 0) (hjj : t.getD j 0 <= u.getD j 0) : figv l t r j <= figv l u r j := by
 rcases zgi hKp hj with ⟨i, hi, hij⟩ | ⟨i, hi, h1, h2⟩
 ·rw [zcj hKp.2.2.2 hi hij, zcj hKp.2.2.2 hi hij]; exact hjj
 ·have a1 := zct hKp (i := i) (by omega)
  have a2 := zct hKp hi
  have b1 := h (l.getD i 0).toNat (by omega) (mem_at.2 ⟨i, by omega, by omega⟩)
  have b2 := h (l.getD (i + 1) 0).toNat (by omega) (mem_at.2 ⟨i + 1, hi, by omega⟩)
  rw [zb2 hKp.2.2.2 hi h1 h2, zb2 hKp.2.2.2 hi h1 h2, zeu, zeu]
  exact zeO (by omega) (zeY (by omega) (by omega) b1 b2)
theorem fail_ex (hV : Vals s) (hKp : zbK s.length l) (ho : 0 <= o) (hS : ¬ zbU s l r o) {m : Nat} (hm : m < s.length) : ∃ n, ((s.getD m (0, 0)).1 <= n /\ n <= (s.getD m (0, 0)).2) /\ ¬ zbU (nar s m n) l r o := by
 have hv := hV m hm
 unfold ValP at hv
 obtain ⟨j, hj, hjo⟩ : ∃ j, j < s.length /\ o < offv s l r j := by
  apply Classical.byContradiction
  intro h
  exact hS fun j hj => by
   have : ¬ o < offv s l r j := fun w => h ⟨j, hj, w⟩
   omega
 have hno : ¬ ((j : Nat) : Int) ∈ l := fun w => by unfold offv at hjo; rw [if_pos w] at hjo; omega
 have e : ∀ s' : List (Int × Int), offv s' l r j = max ((s'.getD j (0, 0)).2 - figv l (lows s') r j) (figv l (highs s') r j - (s'.getD j (0, 0)).1) := fun s' => if_neg hno
 have lo := zc9 (s := s) hm
 have hi := zcD (s := s) hm
 have ljj := zc9 (s := s) hj
 have hjj := zcD (s := s) hj
 have vj := hV j hj
 unfold ValP at vj
 rw [e] at hjo
 by_cases hc : o < (s.getD j (0, 0)).2 - figv l (lows s) r j
 ·-- high alone, the rows around it low
  by_cases hmj : m = j
  ·subst hmj
   refine ⟨(s.getD m (0, 0)).2, by omega, fun w => ?_⟩
   have := w m (by rw [zcr]; exact hm)
   rw [e, zdi hm, if_pos rfl] at this
   have f : figv l (lows (nar s m (s.getD m (0, 0)).2)) r m = figv l (lows s) r m := by
    have g : ∀ k : Nat, k < s.length -> ((k : Nat) : Int) ∈ l -> (lows (nar s m (s.getD m (0, 0)).2)).getD k 0 = (lows s).getD k 0 := fun k hk hkl => by
     rw [zik hm hk, if_neg (show ¬ k = m from fun q => hno (q ▸ hkl))]
    rcases zgi hKp hm with ⟨i, hi', hij⟩ | ⟨i, hi', h1, h2⟩
    ·exact absurd (mem_at.2 ⟨i, hi', hij⟩) hno
    ·have a1 := zct hKp (i := i) (by omega)
     have a2 := zct hKp hi'
     rw [zb2 hKp.2.2.2 hi' h1 h2, zb2 hKp.2.2.2 hi' h1 h2, g _ (by omega) (mem_at.2 ⟨i, by omega, by omega⟩), g _ (by omega) (mem_at.2 ⟨i + 1, hi', by omega⟩)]
   dsimp only at this
   omega
  ·refine ⟨(s.getD m (0, 0)).1, by omega, fun w => ?_⟩
   have := w j (by rw [zcr]; exact hj)
   rw [e, zdi hm, if_neg (fun q => hmj q.symm)] at this
   have f := zpK (t := lows (nar s m (s.getD m (0, 0)).1)) (u := lows s) (r := r) hKp hj (fun k hk _ => by
    rw [zik hm hk]
    split
    ·rename_i q; subst q; omega
    ·exact Int.le_refl _) (by rw [zik hm hj, if_neg (fun q => hmj q.symm)]; exact Int.le_refl _)
   omega
 ·have hc' : o < figv l (highs s) r j - (s.getD j (0, 0)).1 := by omega
  by_cases hmj : m = j
  ·subst hmj
   refine ⟨(s.getD m (0, 0)).1, by omega, fun w => ?_⟩
   have := w m (by rw [zcr]; exact hm)
   rw [e, zdi hm, if_pos rfl] at this
   have f : figv l (highs (nar s m (s.getD m (0, 0)).1)) r m = figv l (highs s) r m := by
    have g : ∀ k : Nat, k < s.length -> ((k : Nat) : Int) ∈ l -> (highs (nar s m (s.getD m (0, 0)).1)).getD k 0 = (highs s).getD k 0 := fun k hk hkl => by
     rw [zgy hm hk, if_neg (show ¬ k = m from fun q => hno (q ▸ hkl))]
    rcases zgi hKp hm with ⟨i, hi', hij⟩ | ⟨i, hi', h1, h2⟩
    ·exact absurd (mem_at.2 ⟨i, hi', hij⟩) hno
    ·have a1 := zct hKp (i := i) (by omega)
     have a2 := zct hKp hi'
     rw [zb2 hKp.2.2.2 hi' h1 h2, zb2 hKp.2.2.2 hi' h1 h2, g _ (by omega) (mem_at.2 ⟨i, by omega, by omega⟩), g _ (by omega) (mem_at.2 ⟨i + 1, hi', by omega⟩)]
   dsimp only at this
   omega
  ·refine ⟨(s.getD m (0, 0)).2, by omega, fun w => ?_⟩
   have := w j (by rw [zcr]; exact hj)
   rw [e, zdi hm, if_neg (fun q => hmj q.symm)] at this
   have f := zpK (t := highs s) (u := highs (nar s m (s.getD m (0, 0)).2)) (r := r) hKp hj (fun k hk _ => by
    rw [zgy hm hk]
    split
    ·rename_i q; subst q; omega
    ·exact Int.le_refl _) (by rw [zgy hm hj, if_neg (fun q => hmj q.symm)]; exact Int.le_refl _)
   omega
def FstP (s : List (Int × Int)) (l : List Int) (r o : Int) (m : Nat) (n : Int) : Prop := ((s.getD m (0, 0)).1 <= n /\ n <= (s.getD m (0, 0)).2) /\ ¬ zbU (nar s m n) l r o /\ ∀ k, (s.getD m (0, 0)).1 <= k -> k < n -> zbU (nar s m k) l r o
theorem fst_ex (hV : Vals s) (hKp : zbK s.length l) (ho : 0 <= o) (hS : ¬ zbU s l r o) {m : Nat} (hm : m < s.length) : ∃ n, FstP s l r o m n := by
 obtain ⟨n, hn, hN⟩ := fail_ex hV hKp ho hS hm
 have key : ∀ d : Nat, ∀ a : Int, a + (d : Nat) = n -> (s.getD m (0, 0)).1 <= a -> (∀ k, (s.getD m (0, 0)).1 <= k -> k < a -> zbU (nar s m k) l r o) -> ∃ n, FstP s l r o m n := by
  intro d
  induction d with
  | zero => intro a ha h1 h2; exact ⟨a, by omega, by rw [show a = n by omega]; exact hN, h2⟩
  | succ d ih =>
   intro a ha h1 h2
   by_cases hs : zbU (nar s m a) l r o
   ·refine ih (a + 1) (by omega) (by omega) fun k hk1 hk2 => ?_
    by_cases q : k = a
    ·subst q; exact hs
    ·exact h2 k hk1 (by omega)
   ·exact ⟨a, by omega, hs, h2⟩
 exact key (n - (s.getD m (0, 0)).1).toNat _ (by omega) (Int.le_refl _) fun k h1 h2 => by omega
end
noncomputable instance fstDec (s : List (Int × Int)) (l : List Int) (r o : Int) (m : Nat) : Decidable (∃ n, FstP s l r o m n) := Classical.propDecidable _
noncomputable def pfn (s : List (Int × Int)) (l : List Int) (r o : Int) (m : Nat) : Int :=
 if h : ∃ n, FstP s l r o m n then Classical.choose h else 0
theorem pfn_is {s : List (Int × Int)} {l : List Int} {r o : Int} {m : Nat} (h : ∃ n, FstP s l r o m n) : FstP s l r o m (pfn s l r o m) := by
 unfold pfn
 rw [dif_pos h]
 exact Classical.choose_spec h
noncomputable def pfs (s : List (Int × Int)) (l : List Int) (r o : Int) : Nat -> List (Int × Int)
 | 0 => s
 | m + 1 => nar (pfs s l r o m) m (pfn (pfs s l r o m) l r o m)
section
variable {s : List (Int × Int)} {l : List Int} {r o : Int}
theorem zcG : ∀ m, (pfs s l r o m).length = s.length := by
 intro m
 induction m with
 | zero => rfl
 | succ m ih => show (nar _ _ _).length = _; rw [zcr, ih]
theorem zmd (hV : Vals s) (hKp : zbK s.length l) (ho : 0 <= o) (hS : ¬ zbU s l r o) : ∀ m, m <= s.length -> Vals (pfs s l r o m) /\ ¬ zbU (pfs s l r o m) l r o := by
 intro m
 induction m with
 | zero => intro _; exact ⟨hV, hS⟩
 | succ m ih =>
  intro hm
  obtain ⟨a, b⟩ := ih (by omega)
  have hl := zcG (s := s) (l := l) (r := r) (o := o) m
  have f := pfn_is (fst_ex a (by rw [hl]; exact hKp) ho b (m := m) (by rw [hl]; omega))
  exact ⟨zij a (by rw [hl]; omega) f.1, f.2.1⟩
theorem zkS (hV : Vals s) (hKp : zbK s.length l) (ho : 0 <= o) (hS : ¬ zbU s l r o) {m : Nat} (hm : m < s.length) : FstP (pfs s l r o m) l r o m (pfn (pfs s l r o m) l r o m) := by
 obtain ⟨a, b⟩ := zmd hV hKp ho hS m (by omega)
 have hl := zcG (s := s) (l := l) (r := r) (o := o) m
 exact pfn_is (fst_ex a (by rw [hl]; exact hKp) ho b (by rw [hl]; omega))
theorem zh9 {j : Nat} : ∀ m, m <= j -> j < s.length -> (pfs s l r o m).getD j (0, 0) = s.getD j (0, 0) := by
 intro m
 induction m with
 | zero => intro _ _; rfl
 | succ m ih =>
  intro hm hj
  show (nar _ _ _).getD j (0, 0) = _
  rw [zdi (by rw [zcG]; omega), if_neg (by omega), ih (by omega) hj]
theorem zme {j : Nat} : ∀ m, j < m -> m <= s.length -> (pfs s l r o m).getD j (0, 0) = (pfn (pfs s l r o j) l r o j, pfn (pfs s l r o j) l r o j) := by
 intro m
 induction m with
 | zero => intro h _; omega
 | succ m ih =>
  intro hm hj
  show (nar _ _ _).getD j (0, 0) = _
  rw [zdi (by rw [zcG]; omega)]
  by_cases q : j = m
  ·subst q; rw [if_pos rfl]
  ·rw [if_neg q, ih (by omega) (by omega)]
noncomputable def prf (s : List (Int × Int)) (l : List Int) (r o : Int) : List Int := lows (pfs s l r o s.length)
theorem zfj : (prf s l r o).length = s.length := by unfold prf; rw [zf3, zcG]
theorem zfk {j : Nat} (hj : j < s.length) : (prf s l r o).getD j 0 = pfn (pfs s l r o j) l r o j := by
 unfold prf
 rw [zc9 (by rw [zcG]; exact hj), zme _ hj (Nat.le_refl _)]
end
end Go.AX.Sa

namespace Go.AX.Sa
open Go.Proofs
set_option maxRecDepth 100000
variable {K : Known}
theorem OutI.keepc {e : TypeId} {h0 h h1 : Heap} {v : Value} {l : List Int} (o : OutI e h0 h v l) (k : ∀ b c t w, h0.n <= b -> h.get? b = some (.cells c t w) -> h1.get? b = some (.cells c t w)) : OutI e h0 h1 v l := by
 rcases o with o | ⟨hl, b, h1', h2, h3⟩
 ·exact .inl o
 ·exact .inr ⟨hl, b, h1', k b _ _ _ h3 h2, h3⟩
theorem OutI.own {e : TypeId} {h0 h : Heap} {v : Value} {l : List Int} (o : OutI e h0 h v l) {b n c : Nat} (hv : v = .slice (some ⟨b, 0, none⟩) n c) : h.get? b = some (.cells (ints l) e true) /\ h0.n <= b := by
 rcases o with ⟨_, rfl⟩ | ⟨_, b', rfl, h2, h3⟩
 ·cases hv
 ·cases hv; exact ⟨h2, h3⟩
section
variable {P : Program} {x : Ctx} {N : Nat} {E : Env} {h : Heap} {ops : Array Oper} {F : Ex -> Env -> Heap -> Prop} {i : Nat}
variable {d : Nat} {ty : TypeId} {pos : String} {af : Array Edge} {g : Option (Nat × Bool)}
theorem P_appIV {args : Array Operand} {ts : Array TypeId} {t t' e e' : TypeId} {a b : Operand} {by_ cap : Nat} {e0 : TypeId} {own : Bool} {n : Int} {v : Value} {l : List Int} {h0 : Heap} (hN : Nat.blt d N = true) (hg : gval ops E g = some true) (hk : zah P ⟨some d, .call ⟨.builtin .append, args, ts⟩, ty, pos, af, g⟩ = true) (hargs : args.toList = [a, b])
  (ha : E.ev a = some v) (hb : E.ev b = some (.slice (some ⟨by_, 0, none⟩) 1 cap)) (h0' : ts[0]? = some t) (h1' : ts[1]? = some t') (hc : cell1 P t = some e) (hc' : P.underlying t' = some (.slice e'))
  (hy : h.get? by_ = some (.cells [.int .i64 n] e0 own)) (ho : OutI e h0 h v l) (hle : l.length <= 10000)
  (k : ∀ v' h1, OutI e h h1 v' (l ++ [n]) -> h.n <= h1.n -> (∀ c y, h.get? c = some y -> (∀ b' m q, v = .slice (some ⟨b', 0, none⟩) m q -> c ≠ b') -> h1.get? c = some y) -> R1 P K x N ops F (i + 1) ((d, v') :: E) h1) : R2 P K x N ops F i ⟨some d, .call ⟨.builtin .append, args, ts⟩, ty, pos, af, g⟩ E h := by
 rcases ho with ⟨rfl, rfl⟩ | ⟨hl, b', rfl, h2, h3⟩
 ·exact zdd hN hg hk hargs ha hb (zlL h0' h1' hc hc' hy rfl (by omega) (by omega) rfl) (k _ _ (.inr ⟨by simp, h.n, rfl, zaa, Nat.le_refl _⟩) (Nat.le_succ _) fun _ _ g _ => zab g)
 ·refine zdd hN hg hk hargs ha hb (zlK h0' h1' hc hc' hy rfl (by omega) (by omega) rfl h2 (zap _)) (k _ _ (.inr ⟨by simp, h.n, ?_, ?_, Nat.le_refl _⟩) (Nat.le_succ _) fun c y q r => zab (zaS h2 (r _ _ _ rfl) q))
  ·simp
  ·have : (h.set b' .dead).n = h.n := rfl
   rw [<- this, show ints (l ++ [n]) = ints l ++ [Value.int .i64 n] from (ints_app l [n]).symm]
   exact zaa
end
theorem zpW (hK : NoK K) {s : List (Int × Int)} {b cap : Nat} {e : TypeId} {own : Bool} {h : Heap} (hp : 0 < s.length) (hl : s.length <= 1000) (hg : h.get? b = some (.cells (zak s) e own)) :
  CallW Tryz.prog K 121 #[.slice (some ⟨b, 0, none⟩) s.length cap] h fun v h1 => Ext h h1 /\ ∃ b, v = .slice (some ⟨b, 0, none⟩) s.length unk /\ h1.get? b = some (.cells (zak s) 72 true) /\ h.n <= b := by
 refine body (N := 8) Tryz.func121 rfl (hK _ _ _ rfl) rfl rfl ?_
 (repeat' (first|apply zao|apply zac|(apply O_at;rfl)|(apply zaj;rfl)|apply zam|(apply zaT;rfl)|apply zaF|((first|apply zag|apply zad);rfl;rfl;rfl;rfl)|(apply P_nilF;rfl;rfl;rfl;rfl;rfl;exact zaB rfl)|fail))
 apply zqk; rfl; rfl; rfl; rfl; exact c2_ok rfl
 (repeat' (first|(apply O_at;rfl)|((first|apply zag|apply zad);rfl;rfl;rfl;rfl)|fail))
 apply zdd; rfl; rfl; rfl; rfl; rfl; rfl; exact zqc rfl rfl (c2_ok rfl) (zaB rfl) (zab hg) hp (by omega)
 (repeat' (first|(apply O_at;rfl)|(apply zaj;rfl)|apply zam|apply zaJ|apply zas|((first|apply zag|apply zad);rfl;rfl;rfl;rfl)|fail))
 refine ⟨.inr rfl, _, rfl, ?_, (h.push (.cells [] 72 true)).n, rfl, zaa, Nat.le_succ _⟩
 (focus repeat' first | exact Ext.refl _ | assumption | apply Ext.push)
set_option maxHeartbeats 4000000 in
theorem zgK (hK : NoK K) {T : Tb} {l : List Int} {b cap : Nat} {e : TypeId} {own : Bool} {h : Heap} (hP : TbP T) (hKp : zbK T.s.length l) (hcap : l.length <= cap) (hll : l.length <= 1000) (hTb : TbAt T h) (hg : h.get? b = some (.cells (ints l) e own)) (hS : ¬ zbU T.s l T.r T.o) :
  CallW Tryz.prog K 80 #[ktV T (some ⟨b, 0, none⟩) l.length cap] h (IsL (prf T.s l T.r T.o) h) := by
 obtain ⟨q, kq, s, r, o⟩ := T
 have hn := hP.1
 have hV := hP.2.1
 have hru := hP.2.2.1
 have hOff := hP.2.2.2
 have hs0 := hTb.rd
 dsimp only [ktV] at hn hV hru hOff hKp hs0 hS ⊢
 obtain ⟨bs, es, owns, rfl, hgs⟩ := hs0.at (by rw [zai]; omega)
 have lb := Heap.get_lt hg
 have lbs := Heap.get_lt hgs
 -- a table that is narrowed
 have iS : ∀ {u : List (Int × Int)} {bu : Nat} {h' : Heap}, u.length = s.length -> Vals u -> h'.get? bu = some (.cells (zak u) 72 true) -> h'.get? b = some (.cells (ints l) e own) -> CallW Tryz.prog K 75 #[.agg #[.slice (some ⟨bu, 0, none⟩) s.length unk, .int .i64 r, .int .i64 o, .slice (some ⟨b, 0, none⟩) l.length cap]] h' (IfB (zbU u l r o) h') := by
  intro u bu h' hu hVu gu gb
  have a := zeZ (T := ⟨some ⟨bu, 0, none⟩, unk, u, r, o⟩) (cap := cap) hK ⟨by dsimp only; omega, hVu, hru, hOff⟩ (by dsimp only; rw [hu]; exact hKp) hcap hll ⟨.inr ⟨_, _, _, rfl, gu⟩, fun a w => by cases w; exact Heap.get_lt gu⟩ gb
  dsimp only [ktV] at a
  rw [hu] at a
  exact a
 refine bodyM (N := 42) Tryz.func80 rfl (hK _ _ _ rfl) rfl rfl ?_
 refine zbE (zcx ?_)
 (repeat' (first|apply zac|(apply O_at;rfl)|(apply zaj;rfl)|apply zas|((first|apply zag|apply zad|apply zbD);rfl;rfl;rfl;rfl)|(apply zbf;rfl;rfl;rfl;rfl;exact zan rfl;rfl;rfl)|fail))
 refine Or.inl ⟨rfl, ?_⟩
 refine zbE (KM_scope ?_)
 refine zbE (zcx ?_)
 (repeat' (first|apply zac|(apply O_at;rfl)|(apply zaj;rfl)|apply zas|((first|apply zag|apply zad|apply zbD);rfl;rfl;rfl;rfl)|(apply P_fa;rfl;rfl;rfl;rfl;exact zbd rfl;(first|exact Nat.zero_add _|exact Nat.add_zero _|rfl))|(apply zat;rfl;rfl;rfl;rfl;exact zaK rfl;(focus repeat' first|exact zaa|assumption|apply zab|(apply Ext.get;assumption)|(apply ExtBut.get;assumption;(first|assumption|omega|(simp only [Heap.push];omega))));(first|rfl|assumption))|fail))
 refine Or.inl ⟨rfl, ?_⟩
 refine zbE (zcx ?_)
 (repeat' (first|apply zac|(apply O_at;rfl)|((first|apply zag|apply zad|apply zbD);rfl;rfl;rfl;rfl)|fail))
 apply zal; rfl; rfl; rfl; rfl; rfl; rfl; exact zpW hK (by omega) (by omega) (zab hgs)
 rintro _ h2 ⟨x2, bc, rfl, gc, hbc⟩
 have gk2 : h2.get? h.n = some (.cells [.slice (some ⟨bs, 0, none⟩) s.length kq, .int .i64 r, .int .i64 o, .slice (some ⟨b, 0, none⟩) l.length cap] 82 true) := x2.get zaa
 (repeat' (first|(apply O_at;rfl)|(apply P_fa;rfl;rfl;rfl;rfl;exact zbd rfl;(first|exact Nat.zero_add _|exact Nat.add_zero _|rfl))|fail))
 refine zdB (c' := [.slice (some ⟨bc, 0, none⟩) s.length unk, .int .i64 r, .int .i64 o, .slice (some ⟨b, 0, none⟩) l.length cap]) rfl rfl rfl rfl gk2 (zan rfl) rfl (Nat.le_of_ble_eq_true rfl) rfl rfl ?_
 intro h3 gk3 x3
 (repeat' (first|(apply zaj;rfl)|apply zas|fail))
 refine Or.inl ⟨rfl, ?_⟩
 refine zbE (zcx ?_)
 (repeat' (first|apply zac|(apply O_at;rfl)|(apply zaj;rfl)|apply zas|(apply za0;rfl;rfl;rfl;rfl;exact zan rfl;rfl;rfl)|fail))
 refine Or.inl ⟨rfl, ?_⟩
 refine zbE (zcx ?_)
 (repeat' (first|apply K_label|apply zas|fail))
 refine Or.inl ⟨rfl, ?_⟩
 refine zbE (zbE (zcx ?_))
 (repeat' (first|apply zac|(apply O_at;rfl)|(apply zaj;rfl)|apply zas|((first|apply zag|apply zad|apply zbD);rfl;rfl;rfl;rfl)|(apply zbk;rfl;rfl;rfl;rfl;rfl;rfl;exact zaB rfl)|fail))
 refine Or.inl ⟨rfl, ?_⟩
 have n2 := x2.n
 have n3 := x3.n
 simp only [Heap.push] at n2 hbc
 have lbc := Heap.get_lt gc
 have gcL : (h3.push (.cells (Value.slice none 0 0).cells.toList 26 true)).get? bc = some (.cells (zak s) 72 true) := zab (x3.get (by omega) gc)
 have gkL : (h3.push (.cells (Value.slice none 0 0).cells.toList 26 true)).get? h.n = some (.cells [.slice (some ⟨bc, 0, none⟩) s.length unk, .int .i64 r, .int .i64 o, .slice (some ⟨b, 0, none⟩) l.length cap] 82 true) := zab gk3
 have gbL : (h3.push (.cells (Value.slice none 0 0).cells.toList 26 true)).get? b = some (.cells (ints l) e own) := zab (x3.get (by omega) (x2.get (zab hg)))
 have gsL : (h3.push (.cells (Value.slice none 0 0).cells.toList 26 true)).get? bs = some (.cells (zak s) es owns) := zab (x3.get (by omega) (x2.get (zab hgs)))
 have gvL : (h3.push (.cells (Value.slice none 0 0).cells.toList 26 true)).get? h3.n = some (.cells [nilV] 26 true) := zaa
 have nL : (h3.push (.cells (Value.slice none 0 0).cells.toList 26 true)).n = h3.n + 1 := rfl
 have xL : ∀ {g : Heap}, (∀ b x, b ≠ bc -> b ≠ h3.n -> (h3.push (.cells (Value.slice none 0 0).cells.toList 26 true)).get? b = some x -> g.get? b = some x) -> (h3.push (.cells (Value.slice none 0 0).cells.toList 26 true)).n <= g.n -> Ext h g := fun k n => ⟨by omega, fun b x gg => by
  have := Heap.get_lt gg
  exact k b x (by omega) (by omega) (zab (x3.get (by omega) (x2.get (zab gg))))⟩
 generalize h3.push (.cells (Value.slice none 0 0).cells.toList 26 true) = hL at *
 refine zeh (zqv (fun k : Nat => [(17, .int .i64 (k : Nat)), (16, .int .i64 (s.length : Nat)), (15, .slice (some ⟨bs, 0, none⟩) s.length kq), (4, .pointer (some ⟨h3.n, 0, none⟩)), (1, .pointer (some ⟨h.n, 0, none⟩))])
  (fun k h' M => k <= s.length /\ h'.get? bc = some (.cells (zak (pfs s l r o k)) 72 true) /\ (∃ v, h'.get? h3.n = some (.cells [v] 26 true) /\ OutI 3 hL h' v ((prf s l r o).take k)) /\ (∀ b x, b ≠ bc -> b ≠ h3.n -> hL.get? b = some x -> h'.get? b = some x) /\ hL.n <= h'.n /\ M.Nodup /\ (∀ r ∈ M, h'.get? r = some (.obj (.deferred (some [])))) /\ (∀ r ∈ M, hL.n <= r)) (fun k => s.length - k) ?_ 0 ?_ ?_)
 ·rintro k h' M ⟨hk, hc', ⟨v, hv, ho⟩, kk', hn', hM1, hM2, hM3⟩ ih
  have gk' := kk' _ _ (by omega) (by omega) gkL
  have gb' := kk' _ _ (by omega) (by omega) gbL
  have gs' := kk' _ _ (by omega) (by omega) gsL
  by_cases hlt : k < s.length
  ·have hvk := hV k hlt
   unfold ValP at hvk
   refine zbE (zcx ?_)
   (repeat' (first|apply zac|(apply O_at;rfl)|(apply zaj;rfl)|apply zas|(apply zba;rfl;rfl;rfl;rfl;rfl;omega)|fail))
   refine Or.inl ⟨rfl, ?_⟩
   refine zbE (zcx ?_)
   (repeat' (first|(apply zaY;rfl)|apply zaF|apply zas|fail))
   refine Or.inl ⟨rfl, ?_⟩
   refine zbE (ziO (Q := fun e E1 h2 M1 => e = .normal /\ E1.get 17 = some (.int .i64 (k : Nat)) /\ E1.get 16 = some (.int .i64 (s.length : Nat)) /\ E1.get 15 = some (.slice (some ⟨bs, 0, none⟩) s.length kq) /\ E1.get 4 = some (.pointer (some ⟨h3.n, 0, none⟩)) /\ E1.get 1 = some (.pointer (some ⟨h.n, 0, none⟩)) /\
    (k + 1 <= s.length /\ h2.get? bc = some (.cells (zak (pfs s l r o (k + 1))) 72 true) /\ (∃ v, h2.get? h3.n = some (.cells [v] 26 true) /\ OutI 3 hL h2 v ((prf s l r o).take (k + 1))) /\ (∀ b x, b ≠ bc -> b ≠ h3.n -> hL.get? b = some x -> h2.get? b = some x) /\ hL.n <= h2.n /\ M1.Nodup /\ (∀ r ∈ M1, h2.get? r = some (.obj (.deferred (some [])))) /\ (∀ r ∈ M1, hL.n <= r))) (zeh ?_) ?_)
   ·refine zbE (zcx ?_)
    (repeat' (first|apply zac|(apply O_at;rfl)|(apply zaj;rfl)|apply zas|((first|apply zag|apply zad|apply zbD);rfl;rfl;rfl;rfl)|(apply zc2;rfl;rfl;rfl;rfl;rfl;exact zaB rfl;exact zan rfl;(first|assumption|rfl|exact (Int.toNat_of_nonneg (by omega)).symm);omega)|(apply zaA;rfl;rfl;rfl;rfl;exact zaX rfl;(focus repeat' first|exact zaa|assumption|apply zab|(apply Ext.get;assumption)|(apply ExtBut.get;assumption;(first|assumption|omega|(simp only [Heap.push];omega))));(first|exact Nat.le_of_ble_eq_true rfl|(simp;done)|(simp;omega)|(rw [zai];omega));(first|exact zaD (by omega)|rfl))|(apply za0;rfl;rfl;rfl;rfl;exact zan rfl;rfl;rfl)|(apply zf8;rfl;rfl;rfl;rfl;(focus repeat' first|exact zaa|assumption|apply zab|(apply Ext.get;assumption)|(apply ExtBut.get;assumption;(first|assumption|omega|(simp only [Heap.push];omega))));exact zan rfl;rfl;(first|rfl|exact zap _);rfl;(intro _ _ _))|fail))
    rename_i h4 ga y4 h5 ge y5
    replace ge : h5.get? (h'.n + 1) = some (.cells [.int .i64 (s.getD k (0, 0)).1, .int .i64 (s.getD k (0, 0)).2] 72 true) := ge
    replace y5 : ExtBut (h'.n + 1) h4 h5 := y5
    have z5 : Ext h' h5 := Ext.ofBut (Ext.ofBut (((Ext.refl h').push _).push _) y4 (Nat.le_refl _)) y5 (Nat.le_succ _)
    have ga5 : h5.get? h'.n = some (.cells [.int .i64 (k : Nat)] 3 true) := y5.get (by omega) ga
    have n4 := y4.n
    have n5 := y5.n
    simp only [Heap.push] at n4
    refine Or.inl ⟨rfl, ?_⟩
    refine zbE (zcx ?_)
    (repeat' (first|apply zac|(apply O_at;rfl)|(apply zaA;rfl;rfl;rfl;rfl;exact zaX rfl;(focus repeat' first|exact zaa|assumption|apply zab|(apply Ext.get;assumption)|(apply ExtBut.get;assumption;(first|assumption|omega|(simp only [Heap.push];omega))));(first|exact Nat.le_of_ble_eq_true rfl|(simp;done)|(simp;omega)|(rw [zai];omega));(first|exact zaD (by omega)|rfl))|fail))
    apply zal; rfl; rfl; rfl; rfl; rfl; rfl; exact zet hK (a := (s.getD k (0, 0)).1) (c := (s.getD k (0, 0)).2)
    rintro _ h6 ⟨x6, by_, rfl, hby, gy⟩
    (repeat' (first|(apply zaj;rfl)|apply zas|fail))
    refine Or.inl ⟨rfl, ?_⟩
    have n6 := x6.n
    have w6 : Ext h' h6 := z5.trans x6
    have ga6 := x6.get ga5
    have lby := Heap.get_lt gy
    have hpf := zkS (r := r) hV hKp hOff.1 hS hlt
    obtain ⟨vP, _⟩ := zmd (r := r) hV hKp hOff.1 hS k (by omega)
    have lP := zcG (s := s) (l := l) (r := r) (o := o) k
    have eP := zh9 (s := s) (l := l) (r := r) (o := o) (j := k) k (Nat.le_refl _) hlt
    obtain ⟨f1, f2, f3⟩ := hpf
    rw [eP] at f1 f3
    have hpk := zfk (s := s) (l := l) (r := r) (o := o) hlt
    have hpl := zfj (s := s) (l := l) (r := r) (o := o)
    have htk : (prf s l r o).take (k + 1) = (prf s l r o).take k ++ [pfn (pfs s l r o k) l r o k] := by
     rw [List.take_succ_eq_append_getElem (by omega), <- hpk]
     congr 2
     simp [List.getD_eq_getElem?_getD, hpl, hlt]
    have htl : ((prf s l r o).take k).length <= 1000 := by rw [List.length_take]; omega
    refine ziO (Q := fun e E1 h7 M1 => e = .exit 1 /\ E1.get 17 = some (.int .i64 (k : Nat)) /\ E1.get 16 = some (.int .i64 (s.length : Nat)) /\ E1.get 15 = some (.slice (some ⟨bs, 0, none⟩) s.length kq) /\ E1.get 4 = some (.pointer (some ⟨h3.n, 0, none⟩)) /\ E1.get 1 = some (.pointer (some ⟨h.n, 0, none⟩)) /\
     h7.get? bc = some (.cells (zak (pfs s l r o (k + 1))) 72 true) /\ (∃ v, h7.get? h3.n = some (.cells [v] 26 true) /\ OutI 3 hL h7 v ((prf s l r o).take (k + 1))) /\ (∀ b x, b ≠ bc -> b ≠ h3.n -> (b < hL.n \/ ∃ ob, x = .obj ob) -> h6.get? b = some x -> h7.get? b = some x) /\ h6.n <= h7.n /\ M1 = h6.n :: M /\ h7.get? h6.n = some (.obj (.deferred (some []))))
     (zeh (zm8 (g0 := 144) (fi := #[]) (ca := #[.pointer (some ⟨by_, 0, none⟩)]) rfl rfl rfl ?_)) ?_
    ·intro tm lq hb rr hEO hr hlq hxb hbn hlb hdb
     refine (zes hK (e := 72) (own := true) (bs := by_) (l := lq) (p := s.getD k (0, 0)) (by omega)
      (fun i h8 => h8.get? lq = some (.obj (.loop rr)) /\ (∃ u : List (Int × Int), h8.get? bc = some (.cells (zak u) 72 true) /\ u.length = s.length /\ ∀ x, nar u k x = nar (pfs s l r o k) k x) /\ (∀ b x, b ≠ lq -> b ≠ bc -> hb.get? b = some x -> h8.get? b = some x) /\ hb.n <= h8.n /\ ∀ m : Int, (s.getD k (0, 0)).1 <= m -> m < (s.getD k (0, 0)).1 + (i : Nat) -> zbU (nar (pfs s l r o k) k m) l r o)
      (fun h8 => h8.get? lq = some (.obj (.loop (left rr (some (.exit 1))))) /\ h8.get? bc = some (.cells (zak (pfs s l r o (k + 1))) 72 true) /\ (∃ v, h8.get? h3.n = some (.cells [v] 26 true) /\ OutI 3 hL h8 v ((prf s l r o).take (k + 1))) /\ (∀ b x, b ≠ lq -> b ≠ bc -> b ≠ h3.n -> (b < hL.n \/ ∃ ob, x = .obj ob) -> hb.get? b = some x -> h8.get? b = some x) /\ hb.n <= h8.n) ?_ ?_ ?_).mono ?_
     ·rintro i h8 ⟨_, _, kk, _⟩
      exact kk by_ _ (by omega) (by omega) (hxb.get gy)
     ·exact ⟨hlb, ⟨_, hxb.get (w6.get hc'), lP, fun x => rfl⟩, fun b x _ _ g => g, Nat.le_refl _, fun m h1 h2 => by omega⟩
     ·rintro i h8 hle ⟨gl, ⟨u, gu, hul, hux⟩, kk, nn, hall⟩
      refine zgj (N := 42) gl hr rfl (EnvOK.param hEO rfl) ?_
      (repeat' (first|apply zac|(apply O_at;rfl)|(apply zaj;rfl)|apply zas|((first|apply zag|apply zad|apply zbD);rfl;rfl;rfl;rfl)|fail))
      refine ⟨rfl, gl, fun Bz hs hsl hsk hsn => ?_⟩
      have old : ∀ {b : Nat} {x : Blk}, b ≠ bc -> h6.get? b = some x -> hs.get? b = some x := fun {b} {x} q g => hsk b x (by have := Heap.get_lt g; omega) (kk b x (by have := Heap.get_lt g; omega) q (hxb.get g))
      have gas := old (by omega) ga6
      have gks := old (by omega) (w6.get gk')
      have gbs := old (by omega) (w6.get gb')
      have gus := hsk _ _ (by omega) gu
      have gvs := old (by omega) (w6.get hv)
      have ho8 : OutI 3 hL h8 v ((prf s l r o).take k) := OutI.keepc ((ho.ext w6).ext hxb) fun b c t w q g => kk b _ (fun z => by subst z; rw [hlb] at g; cases g) (by omega) g
      have hos : OutI 3 hL hs v ((prf s l r o).take k) := OutI.keepc ho8 fun b c t w q g => hsk b _ (fun z => by subst z; rw [gl] at g; cases g) g
      have hku : k < u.length := by omega
      (repeat' (first|apply zao|apply zac|(apply O_at;rfl)|(apply zaj;rfl)|apply zam|apply zaq|((first|apply zag|apply zad|apply zbD);rfl;rfl;rfl;rfl)|(apply P_fa;rfl;rfl;rfl;rfl;exact zbd rfl;(first|exact Nat.zero_add _|exact Nat.add_zero _|rfl))|(apply zc2;rfl;rfl;rfl;rfl;rfl;exact zaB rfl;exact zan rfl;(first|assumption|rfl|exact (Int.toNat_of_nonneg (by omega)).symm);omega)|(apply zat;rfl;rfl;rfl;rfl;exact zaK rfl;(focus repeat' first|exact zaa|assumption|apply zab|(apply Ext.get;assumption)|(apply ExtBut.get;assumption;(first|assumption|omega|(simp only [Heap.push];omega))));(first|rfl|assumption))|(apply zaA;rfl;rfl;rfl;rfl;exact zaX rfl;(focus repeat' first|exact zaa|assumption|apply zab|(apply Ext.get;assumption)|(apply ExtBut.get;assumption;(first|assumption|omega|(simp only [Heap.push];omega))));(first|exact Nat.le_of_ble_eq_true rfl|(simp;done)|(simp;omega)|(rw [zai];omega));(first|exact zaD (by omega)|rfl))|(apply zob;rfl;rfl;rfl;rfl)|(apply P_storeS;rfl;rfl;rfl;rfl;rfl;(focus repeat' first|exact zaa|assumption|apply zab|(apply Ext.get;assumption)|(apply ExtBut.get;assumption;(first|assumption|omega|(simp only [Heap.push];omega))));exact zan rfl;omega;(intro _ _ _))|fail))
      rename_i h9 g9 x9
      replace g9 : h9.get? bc = some (.cells (zak (nar u k ((s.getD k (0, 0)).1 + (i : Nat)))) 72 true) := g9
      rw [hux] at g9
      have n9 := x9.n
      have gb9 := x9.get (by omega) gbs
      have gk9 := x9.get (by omega) gks
      have iS9 := iS (u := nar (pfs s l r o k) k ((s.getD k (0, 0)).1 + (i : Nat))) (by rw [zcr, lP]) (zij vP (by rw [lP]; exact hlt) (by rw [eP]; omega)) g9 gb9
      by_cases hc : zbU (nar (pfs s l r o k) k ((s.getD k (0, 0)).1 + (i : Nat))) l r o
      ·(repeat' (first|(apply O_at;rfl)|(apply zaj;rfl)|apply zam|(apply zaT;rfl)|apply zaF|apply zaL|apply zas|((first|apply zag|apply zad|apply zbD);rfl;rfl;rfl;rfl)|(apply zal;rfl;rfl;rfl;rfl;rfl;rfl;exact yes iS9 hc;(rintro _ _ ⟨rfl,_⟩))|fail))
       rename_i h10 x10
       have n10 := x10.n
       refine ⟨x10.get (x9.get (by omega) hsl), none, rfl, fun hf hfl hfk hfn => Or.inl ⟨rfl, by rw [zdr hr] at hfl; exact hfl, ⟨_, hfk _ _ (by omega) (x10.get g9), by rw [zcr, lP], fun x => by simp [nar]⟩, fun b x q q2 g => hfk b x q (x10.get (x9.get q2 (hsk b x q (kk b x q q2 g)))), by omega, fun m h1 h2 => ?_⟩⟩
       by_cases hm : m = (s.getD k (0, 0)).1 + (i : Nat)
       ·subst hm; exact hc
       ·exact hall m h1 (by omega)
      ·have hmeq : (s.getD k (0, 0)).1 + (i : Nat) = pfn (pfs s l r o k) l r o k := by
        rcases Int.lt_trichotomy ((s.getD k (0, 0)).1 + (i : Nat)) (pfn (pfs s l r o k) l r o k) with q | q | q
        ·exact absurd (f3 _ (by omega) q) hc
        ·exact q
        ·exact absurd (hall _ f1.1 q) f2
       (repeat' (first|apply zao|apply zac|(apply O_at;rfl)|(apply zaj;rfl)|apply zam|(apply zaY;rfl)|((first|apply zag|apply zad|apply zbD);rfl;rfl;rfl;rfl)|(apply zat;rfl;rfl;rfl;rfl;exact zaK rfl;(focus repeat' first|exact zaa|assumption|apply zab|(apply Ext.get;assumption)|(apply ExtBut.get;assumption;(first|assumption|omega|(simp only [Heap.push];omega))));(first|rfl|assumption))|(apply ziL;rfl;rfl;rfl;rfl;rfl;rfl;rfl;exact zft rfl)|(apply zal;rfl;rfl;rfl;rfl;rfl;rfl;exact no iS9 hc;(rintro _ _ ⟨rfl,_⟩))|fail))
       rename_i h10 x10
       have n10 := x10.n
       have gv10 := x10.get (x9.get (by omega) gvs)
       have ho10 : OutI 3 hL h10 v ((prf s l r o).take k) := (OutI.but (e := 3) (h0 := hL) hos x9 (by omega)).ext x10
       apply P_appIV (h0 := hL); rfl; rfl; rfl; rfl; rfl; rfl; rfl; rfl; exact zft rfl; exact zaB rfl; exact zaa; exact ho10.ext (Ext.push (Ext.refl _) _); omega
       intro v' h11 o11 n11 k11
       simp only [Heap.push] at n11
       have kp : ∀ c y, h10.get? c = some y -> (∀ b' m q, v = .slice (some ⟨b', 0, none⟩) m q -> c ≠ b') -> h11.get? c = some y := fun c y g rr => k11 c y (zab g) rr
       have low : ∀ {c : Nat}, c < hL.n -> ∀ b' m q, v = .slice (some ⟨b', 0, none⟩) m q -> c ≠ b' := fun hcl b' m q hv' => by have := (OutI.own (e := 3) (h0 := hL) ho8 hv').2; omega
       have objs : ∀ {c : Nat} {ob : Obj}, h8.get? c = some (.obj ob) -> ∀ b' m q, v = .slice (some ⟨b', 0, none⟩) m q -> c ≠ b' := fun gob b' m q hv' z => by
        subst z
        have := (OutI.own (e := 3) (h0 := hL) ho8 hv').1
        rw [gob] at this
        cases this
       obtain ⟨cv', ov⟩ := o11.cells
       (repeat' (first|(apply O_at;rfl)|fail))
       refine zdB (c' := [v']) rfl rfl rfl rfl (kp _ _ gv10 (low (by omega))) (zan rfl) (by rw [cv']; rfl) (Nat.le_of_ble_eq_true rfl) (by rw [cv']; simp [ov]) (by rw [cv']; rfl) ?_
       intro h12 g12 x12
       have n12 := x12.n
       (repeat' (first|(apply zaj;rfl)|apply zam|apply zbr|(apply C_exitO;rfl)|apply zas|fail))
       refine ⟨x12.get (by omega) (kp _ _ (x10.get (x9.get (by omega) hsl)) (objs gl)), some (.exit 1), rfl, fun hf hfl hfk hfn => Or.inr ⟨rfl, hfl, ?_, ⟨v', hfk _ _ (by omega) g12, ?_⟩, fun b x q1 q2 q3 qq g => hfk b x q1 (x12.get q3 (kp b x (x10.get (x9.get q2 (hsk b x q1 (kk b x q1 q2 g)))) ?_)), by omega⟩⟩
       ·have := hfk _ _ (by omega) (x12.get (by omega) (kp _ _ (x10.get g9) (low (by omega))))
        rw [hmeq] at this
        exact this
       ·rw [htk, <- hmeq]
        exact ((OutI.but (e := 3) o11 x12 (by simp only [Heap.push]; omega)).keepl hfk (by simp only [Heap.push]; omega)).low (h0' := hL) (by simp only [Heap.push]; omega)
       ·rcases qq with qq | ⟨ob, rfl⟩
        ·exact low qq
        ·exact objs (kk b _ q1 q2 g)
     ·rintro _ h9 (⟨gl, _, kk, nn, hall⟩ | ⟨gl, gc9, hv9, kk, nn⟩)
      ·exact absurd (hall _ f1.1 (by omega)) f2
      ·refine ⟨some (.exit 1), gl, fun h7 k7 n7 => KM_exit (Or.inr ⟨(by intro q; cases q), rfl, rfl, rfl, rfl, rfl, rfl, k7 _ _ (by omega) gc9, ?_, fun b x q1 q2 q3 g => k7 b x (by have := Heap.get_lt g; omega) (kk b x (by have := Heap.get_lt g; omega) q1 q2 q3 (hxb.get g)), by omega, rfl, k7 _ _ (by omega) (kk _ _ (by omega) (by omega) (by omega) (.inr ⟨_, rfl⟩) hdb)⟩)⟩
       obtain ⟨v9, gv9, o9⟩ := hv9
       exact ⟨v9, k7 _ _ (by omega) gv9, OutI.keepc o9 fun b c t w q g => k7 b _ (fun u => by subst u; rw [gl] at g; cases g) g⟩
    ·rintro _ E1 h7 M1 ⟨rfl, g17, g16, g15, g4, g1, gc7, hv7, k7, n7, rfl, gm⟩
     have hmr : ∀ r ∈ M, r < h'.n := fun r q => Heap.get_lt (hM2 r q)
     refine Or.inl ⟨rfl, rfl, g17, g16, g15, g4, g1, hlt, gc7, hv7, fun b x q1 q2 g => k7 b x q1 q2 (.inl (Heap.get_lt g)) (w6.get (kk' b x q1 q2 g)), by have := w6.n; omega, List.nodup_cons.2 ⟨fun q => by have := hmr _ q; have := w6.n; omega, hM1⟩, fun r q => ?_, fun r q => ?_⟩
     ·rcases List.mem_cons.1 q with rfl | q
      ·exact gm
      ·have a := hM3 r q
       exact k7 r _ (by omega) (by omega) (.inr ⟨_, rfl⟩) (w6.get (hM2 r q))
     ·rcases List.mem_cons.1 q with rfl | q
      ·have := w6.n; omega
      ·exact hM3 r q
   ·rintro _ E1 h2 M1 ⟨rfl, g17, g16, g15, g4, g1, hJ⟩
    refine Or.inl ⟨rfl, zfy (E' := [(17, .int .i64 (k : Nat)), (16, .int .i64 (s.length : Nat)), (15, .slice (some ⟨bs, 0, none⟩) s.length kq), (4, .pointer (some ⟨h3.n, 0, none⟩)), (1, .pointer (some ⟨h.n, 0, none⟩))]) (zcx ?_) ⟨g17, g16, g15, g4, g1, trivial⟩⟩
    (repeat' (first|apply zac|(apply O_at;rfl)|(apply zaj;rfl)|apply zas|((first|apply zag|apply zad|apply zbD);rfl;rfl;rfl;rfl)|(apply zbS;rfl;rfl;rfl;rfl;rfl;(unfold fit;omega))|fail))
    exact Or.inl ⟨rfl, zfy (ih (k + 1) _ _ (by omega) hJ) (by (focus repeat' first | rfl | exact trivial | apply And.intro))⟩
  ·obtain rfl : k = s.length := by omega
   rw [List.take_of_length_le (by rw [zfj]; exact Nat.le_refl _)] at ho
   refine zbE (zcx ?_)
   (repeat' (first|apply zac|(apply O_at;rfl)|(apply zaj;rfl)|apply zas|(apply zbP;rfl;rfl;rfl;rfl;rfl;omega)|fail))
   refine Or.inl ⟨rfl, ?_⟩
   refine zbE (zcx ?_)
   (repeat' (first|(apply zaT;rfl)|apply zbr|apply zas|fail))
   refine Or.inr ⟨(by intro q; cases q), Or.inr ⟨(by intro q; cases q), Or.inl ⟨rfl, Or.inl ⟨rfl, zcx ?_⟩⟩⟩⟩
   (repeat' (first|apply zao|apply zac|(apply O_at;rfl)|(apply zaj;rfl)|apply zam|apply zaJ|apply zas|((first|apply zag|apply zad|apply zbD);rfl;rfl;rfl;rfl)|(apply zat;rfl;rfl;rfl;rfl;exact zaK rfl;(focus repeat' first|exact zaa|assumption|apply zab|(apply Ext.get;assumption)|(apply ExtBut.get;assumption;(first|assumption|omega|(simp only [Heap.push];omega))));(first|rfl|assumption))|fail))
   refine Or.inr ⟨(by intro q; cases q), .inr rfl, hM1, hM2, fun h2 k2 n2 => ⟨_, rfl, ?_⟩⟩
   have eh := xL kk' hn'
   have wh : Ext h h2 := ⟨by rw [n2]; exact eh.n, fun q y g => k2 q y (fun w => by have := hM3 _ w; have := Heap.get_lt g; omega) (eh.get g)⟩
   rcases ho with ⟨e1, rfl⟩ | ⟨_, b', rfl, g, _⟩
   ·refine ⟨none, 0, ?_, .inl (by rw [e1]; rfl), wh⟩
    rw [e1]
    rfl
   ·exact ⟨some ⟨b', 0, none⟩, unk, rfl, .inr ⟨b', _, _, rfl, k2 b' _ (fun q => by rw [hM2 b' q] at g; cases g) g⟩, wh⟩
 ·exact ⟨Nat.zero_le _, gcL, ⟨nilV, gvL, OutI.nil _ _ _⟩, fun b x _ _ g => g, Nat.le_refl _, List.nodup_nil, fun r q => (by cases q), fun r q => (by cases q)⟩
 ·(focus repeat' first | rfl | exact trivial | apply And.intro)
end Go.AX.Sa
